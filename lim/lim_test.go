package lim

import (
	"math"
	"math/big"
	"reflect"
	"slices"
	"testing"

	"giro/api"
)

const (
	most  = math.MaxInt64
	least = math.MinInt64
	// high is the greatest balance, and less it the least one; set is the greatest credit, reserve and limit.
	high = 1<<62 - 1
	set  = 1 << 61
	// far is the greatest position, and less it the least one.
	far = 1<<56 - 1
	// spare is what lies behind the end of a list that is handed in.
	spare = 4711
)

// numbers is a source of numbers that are the same in each run.
type numbers uint64

func (s *numbers) next() uint64 {
	*s ^= *s << 13
	*s ^= *s >> 7
	*s ^= *s << 17
	return uint64(*s)
}

// below is 0 to n-1.
func (s *numbers) below(n int64) int64 {
	return int64(s.next() % uint64(n))
}

// limit is one that may be.
func (s *numbers) limit() int64 {
	return []int64{api.None, 0, 1, set, set - 1, s.below(set), s.below(100)}[s.below(7)]
}

// position is one that may be.
func (s *numbers) position() int64 {
	return []int64{-far, 1 - far, -1, 0, 1, far - 1, far, s.below(2*far+1) - far, s.below(200) - 100}[s.below(9)]
}

// account is one that may be.
func (s *numbers) account() api.Acct {
	return api.Acct{Balance: s.below(2*high+1) - high, Credit: s.below(set + 1), Reserve: s.below(set + 1)}
}

// rows are n rows of m zeros, each with memory of its own.
func rows(n, m int) [][]int64 {
	l := make([][]int64, n)
	for i := range l {
		l[i] = make([]int64, m)
	}
	return l
}

// books are books of n parties, every number of which may be, new at each call.
func books(n int) api.Books {
	x := numbers(n + 1)
	return x.books(n)
}

// books are books of n parties, every number of which may be.
func (s *numbers) books(n int) api.Books {
	b := api.Books{Accts: make([]api.Acct, n), Bil: rows(n, n), Mul: make([]int64, n), Pos: rows(n, n)}
	for i := range n {
		b.Accts[i], b.Mul[i] = s.account(), s.limit()
		for j := range n {
			b.Bil[i][j] = s.limit()
		}
		for j := range i {
			b.Pos[i][j] = s.position()
			b.Pos[j][i] = -b.Pos[i][j]
		}
	}
	return b
}

// three are books of three parties with small numbers, new at each call.
func three() api.Books {
	return api.Books{
		Accts: []api.Acct{{Balance: 5, Credit: 1, Reserve: 2}, {Balance: -3, Credit: 4}, {Balance: 7}},
		Bil:   [][]int64{{-1, 0, 9}, {8, -1, 7}, {-1, 6, 5}},
		Mul:   []int64{-1, 0, 8},
		Pos:   [][]int64{{0, 4, -1}, {-4, 0, 6}, {1, -6, 0}},
	}
}

// several are books of each count of parties, ordinary ones and at the edges.
func several() []api.Books {
	l := []api.Books{three()}
	for n := 1; n <= api.MaxParties; n++ {
		l = append(l, books(n))
	}
	return l
}

// noBooks are what is handed in, and is no books: lists of unlike lengths, and numbers that may not be.
func noBooks() []api.Books {
	wild := books(3)
	wild.Accts[0] = api.Acct{Balance: least, Credit: -1, Reserve: most}
	wild.Bil[0], wild.Mul[1], wild.Pos[2] = []int64{least, most, -2}, least, []int64{most, least, 1, 2}
	return []api.Books{
		{},
		{Accts: []api.Acct{}, Bil: [][]int64{}, Mul: []int64{}, Pos: [][]int64{}},
		{Accts: make([]api.Acct, 2)},
		{Accts: make([]api.Acct, 1), Bil: [][]int64{nil}, Mul: []int64{0}, Pos: [][]int64{nil}},
		{Accts: make([]api.Acct, 2), Bil: [][]int64{{0}, {0, 0}}, Mul: []int64{0, 0}, Pos: [][]int64{{0, 0, 0}, {}}},
		{Bil: [][]int64{{1, 2, 3}, {}, nil}},
		{Mul: []int64{1, 2, 3}},
		{Pos: [][]int64{{}, {least}, {most, most, most}}},
		wild,
		books(api.MaxParties + 1),
		books(40),
	}
}

// all are several and noBooks.
func all() []api.Books {
	return append(several(), noBooks()...)
}

// deep are b's numbers in memory of their own, told by nothing of the package.
func deep(b api.Books) api.Books {
	c := api.Books{Accts: slices.Clone(b.Accts), Bil: slices.Clone(b.Bil), Mul: slices.Clone(b.Mul), Pos: slices.Clone(b.Pos)}
	for i := range c.Bil {
		c.Bil[i] = slices.Clone(c.Bil[i])
	}
	for i := range c.Pos {
		c.Pos[i] = slices.Clone(c.Pos[i])
	}
	return c
}

// plain are b's numbers with every list there, that a nil and an empty one are held for the same.
func plain(b api.Books) api.Books {
	c := api.Books{Accts: append([]api.Acct{}, b.Accts...), Bil: [][]int64{}, Mul: append([]int64{}, b.Mul...), Pos: [][]int64{}}
	for _, row := range b.Bil {
		c.Bil = append(c.Bil, append([]int64{}, row...))
	}
	for _, row := range b.Pos {
		c.Pos = append(c.Pos, append([]int64{}, row...))
	}
	return c
}

// equal tells whether two have the same numbers, told by nothing of the package.
func equal(a, b api.Books) bool {
	return reflect.DeepEqual(plain(a), plain(b))
}

// roomy are b's numbers with spare room behind the end of each list, that has something in it.
func roomy(b api.Books) api.Books {
	row := func(l []int64) []int64 {
		return append(append([]int64{}, l...), spare, spare)[:len(l)]
	}
	square := func(l [][]int64) [][]int64 {
		r := [][]int64{}
		for _, v := range l {
			r = append(r, row(v))
		}
		return append(r, []int64{spare})[:len(l)]
	}
	accts := append(append([]api.Acct{}, b.Accts...), api.Acct{Balance: spare})[:len(b.Accts)]
	return api.Books{Accts: accts, Bil: square(b.Bil), Mul: row(b.Mul), Pos: square(b.Pos)}
}

// isRoomy tells whether b is roomy(was), also behind each list's end.
func isRoomy(b, was api.Books) bool {
	row := func(l []int64) bool {
		return slices.Equal(l[len(l):len(l)+2], []int64{spare, spare})
	}
	square := func(l [][]int64) bool {
		return !slices.ContainsFunc(l, func(v []int64) bool { return !row(v) }) && slices.Equal(l[:len(l)+1][len(l)], []int64{spare})
	}
	return equal(b, was) && b.Accts[:len(b.Accts)+1][len(b.Accts)] == (api.Acct{Balance: spare}) && square(b.Bil) && row(b.Mul) && square(b.Pos)
}

// scribble writes into all memory of b, spare room too.
func scribble(b api.Books) {
	for i := range b.Accts[:cap(b.Accts)] {
		b.Accts[:cap(b.Accts)][i] = api.Acct{Balance: 91, Credit: 92, Reserve: 93}
	}
	scribbleRow(b.Mul)
	scribbleRows(b.Bil)
	scribbleRows(b.Pos)
}

// scribbleRow writes into all memory of a row.
func scribbleRow(l []int64) {
	for i := range l[:cap(l)] {
		l[:cap(l)][i] = 94
	}
}

// scribbleRows writes into all memory of rows, and then takes each off.
func scribbleRows(l [][]int64) {
	l = l[:cap(l)]
	for i := range l {
		scribbleRow(l[i])
		l[i] = []int64{95}
	}
}

// counts are how many a row may and may not have.
func counts() []int {
	return []int{math.MinInt, math.MinInt + 1, -1 << 32, -6, -2, -1, 0, 1, 2, 3, 4, 5, 6, api.MaxParties, api.MaxParties + 1, api.MaxParties + 2, 100, 1 << 32, 1<<32 + 3, math.MaxInt - 1, math.MaxInt}
}

// values are any numbers.
func values() []int64 {
	return []int64{least, least + 1, -set, -2, api.None, 0, 1, 7, 1 << 32, set, set + 1, most - 1, most}
}

// wantCount is how many there are of a row that is asked for n.
func wantCount(n int) int {
	if n < 0 || n > 6 {
		return 0
	}
	return n
}

// P10.1: n numbers v, of each n and any v; nil of an n that may not be.
func TestRow(t *testing.T) {
	for _, n := range counts() {
		for _, v := range values() {
			l := Row(n, v)
			if want := slices.Repeat([]int64{v}, wantCount(n)); !slices.Equal(l, want) {
				t.Errorf("Row(%d, %d) = %d; want %d", n, v, l, want)
			}
			if (n < 0 || n > api.MaxParties) && l != nil {
				t.Errorf("Row(%d, %d) is not nil", n, v)
			}
		}
	}
}

// P10.1: n rows of n numbers v, of each n and any v; nil of an n that may not be.
func TestSquare(t *testing.T) {
	for _, n := range counts() {
		for _, v := range values() {
			s := Square(n, v)
			if len(s) != wantCount(n) {
				t.Errorf("Square(%d, %d) has %d rows", n, v, len(s))
			}
			for i, row := range s {
				if !slices.Equal(row, slices.Repeat([]int64{v}, n)) {
					t.Errorf("Square(%d, %d): row %d is %d", n, v, i, row)
				}
			}
			if (n < 0 || n > api.MaxParties) && s != nil {
				t.Errorf("Square(%d, %d) is not nil", n, v)
			}
		}
	}
}

// P10.1: the example of the document.
func TestSquareOfTwo(t *testing.T) {
	if s := Square(2, 0); !reflect.DeepEqual(s, [][]int64{{0, 0}, {0, 0}}) {
		t.Errorf("Square(2, 0) = %d", s)
	}
}

// W6: no two rows of a Square share memory, nor do two answers, spare room too.
func TestRowsAreNewMemory(t *testing.T) {
	for n := 1; n <= api.MaxParties; n++ {
		for i := range n {
			s, other, row := Square(n, 5), Square(n, 5), Row(n, 5)
			scribbleRow(s[i])
			scribbleRow(Row(n, 5))
			for j := range n {
				if j != i && !slices.Equal(s[j], row) || !slices.Equal(other[j], row) {
					t.Errorf("%d: row %d shares memory with row %d", n, i, j)
				}
			}
			if slices.Contains(row, 94) {
				t.Errorf("Row(%d, 5) shares memory with another", n)
			}
			scribbleRows(s)
			if !slices.Equal(other[i], row) {
				t.Errorf("Square(%d, 5) shares memory with another", n)
			}
		}
	}
}

// P10.1: books of 1 to MaxParties are such, without Accts and with one more none is.
func TestIsOfEachCount(t *testing.T) {
	for n := range 20 {
		if want := n >= 1 && n <= 6; Is(books(n)) != want {
			t.Errorf("Is of %d parties: %t", n, !want)
		}
	}
	for i, b := range several() {
		if !Is(b) {
			t.Errorf("books %d are none", i)
		}
	}
	for i, b := range noBooks() {
		if Is(b) {
			t.Errorf("%d is taken for books", i)
		}
	}
	for n := 1; n <= api.MaxParties; n++ {
		if !Is(api.Books{Accts: make([]api.Acct, n), Bil: Square(n, api.None), Mul: Row(n, api.None), Pos: Square(n, 0)}) {
			t.Errorf("new books of %d are none", n)
		}
	}
}

// checkIs checks whether books of each count with one change are such, and are as they were behind it.
func checkIs(t *testing.T, n int, what string, want bool, change func(b *api.Books)) {
	t.Helper()
	b := books(n)
	change(&b)
	was := deep(b)
	if Is(b) != want {
		t.Errorf("%d parties, %s: %t", n, what, !want)
	}
	if !reflect.DeepEqual(b, was) {
		t.Errorf("%d parties, %s: Is changed them", n, what)
	}
}

// P10.1: one that is no account is a fault, each alone, wherever it stands; at the edges it is an account.
func TestIsOfAccounts(t *testing.T) {
	for _, x := range []struct {
		a    api.Acct
		want bool
	}{
		{api.Acct{}, true}, {api.Acct{Balance: high}, true}, {api.Acct{Balance: high + 1}, false}, {api.Acct{Balance: -high}, true},
		{api.Acct{Balance: -high - 1}, false}, {api.Acct{Balance: least}, false}, {api.Acct{Balance: most}, false},
		{api.Acct{Credit: set}, true}, {api.Acct{Credit: set + 1}, false}, {api.Acct{Credit: -1}, false},
		{api.Acct{Reserve: set}, true}, {api.Acct{Reserve: set + 1}, false}, {api.Acct{Reserve: -1}, false},
		{api.Acct{Balance: -high, Credit: set, Reserve: set}, true},
	} {
		for n := 1; n <= api.MaxParties; n++ {
			for i := range n {
				checkIs(t, n, "an account", x.want, func(b *api.Books) { b.Accts[i] = x.a })
			}
		}
	}
}

// P10.1: one account too few, one too many, none.
func TestIsOfHowManyAccounts(t *testing.T) {
	for n := 1; n <= api.MaxParties; n++ {
		checkIs(t, n, "an account too few", false, func(b *api.Books) { b.Accts = b.Accts[:n-1] })
		checkIs(t, n, "an account too many", false, func(b *api.Books) { b.Accts = append(b.Accts, api.Acct{}) })
		checkIs(t, n, "no accounts", false, func(b *api.Books) { b.Accts = nil })
	}
}

// changeLists hands each of the two squares of b to change.
func changeLists(b *api.Books, bil bool, change func(l *[][]int64)) {
	if bil {
		change(&b.Bil)
	} else {
		change(&b.Pos)
	}
}

// P10.1: Bil and Pos are squares: a row too few or too many, a row of one number too few or too many, wherever it stands.
func TestIsOfSquares(t *testing.T) {
	for n := 1; n <= api.MaxParties; n++ {
		for _, bil := range []bool{true, false} {
			check := func(what string, change func(l *[][]int64)) {
				t.Helper()
				checkIs(t, n, what, false, func(b *api.Books) { changeLists(b, bil, change) })
			}
			check("no rows", func(l *[][]int64) { *l = nil })
			check("a row too few", func(l *[][]int64) { *l = (*l)[:n-1] })
			check("the first row left out", func(l *[][]int64) { *l = (*l)[1:] })
			check("a row too many", func(l *[][]int64) { *l = append(*l, make([]int64, n)) })
			check("a row without numbers too many", func(l *[][]int64) { *l = append(*l, nil) })
			check("a row and a column too many", func(l *[][]int64) { *l = rows(n+1, n+1) })
			check("a row and a column too few", func(l *[][]int64) { *l = rows(n-1, n-1) })
			check("a column too many", func(l *[][]int64) { *l = rows(n, n+1) })
			check("a column too few", func(l *[][]int64) { *l = rows(n, n-1) })
			for i := range n {
				check("a number too few", func(l *[][]int64) { (*l)[i] = (*l)[i][:n-1] })
				check("a number too many", func(l *[][]int64) { (*l)[i] = append((*l)[i], 0) })
				check("a nil row", func(l *[][]int64) { (*l)[i] = nil })
			}
		}
	}
}

// P10.1: Bil and Pos with rows of unlike length that have as many numbers in all.
func TestIsOfRaggedSquares(t *testing.T) {
	for n := 2; n <= api.MaxParties; n++ {
		for _, bil := range []bool{true, false} {
			checkIs(t, n, "ragged", false, func(b *api.Books) {
				changeLists(b, bil, func(l *[][]int64) {
					*l = rows(n, n)
					(*l)[0], (*l)[n-1] = make([]int64, n-1), make([]int64, n+1)
				})
			})
			checkIs(t, n, "zeros", true, func(b *api.Books) {
				changeLists(b, bil, func(l *[][]int64) { *l = rows(n, n) })
			})
		}
	}
}

// P10.1: Mul too short, too long.
func TestIsOfMul(t *testing.T) {
	for n := 1; n <= api.MaxParties; n++ {
		checkIs(t, n, "no Mul", false, func(b *api.Books) { b.Mul = nil })
		checkIs(t, n, "Mul too short", false, func(b *api.Books) { b.Mul = b.Mul[:n-1] })
		checkIs(t, n, "Mul too long", false, func(b *api.Books) { b.Mul = append(b.Mul, 0) })
		checkIs(t, n, "Mul twice as long", false, func(b *api.Books) { b.Mul = make([]int64, 2*n) })
	}
}

// P10.1: a limit is None, or 0 to 2^61, wherever it stands, to oneself too.
func TestIsOfLimits(t *testing.T) {
	for _, x := range []struct {
		v    int64
		want bool
	}{
		{least, false}, {-set, false}, {-3, false}, {-2, false}, {-1, true}, {0, true}, {1, true}, {1 << 32, true}, {1 << 60, true},
		{set - 1, true}, {set, true}, {set + 1, false}, {1 << 62, false}, {most, false},
	} {
		for n := 1; n <= api.MaxParties; n++ {
			for i := range n {
				checkIs(t, n, "a limit to all", x.want, func(b *api.Books) { b.Mul[i] = x.v })
				for j := range n {
					checkIs(t, n, "a limit", x.want, func(b *api.Books) { b.Bil[i][j] = x.v })
				}
			}
		}
	}
}

// P10.1: a position is above -2^56 and below 2^56, wherever it stands, with that of the other turned round.
func TestIsOfPositions(t *testing.T) {
	for _, x := range []struct {
		v    int64
		want bool
	}{
		{0, true}, {1, true}, {-1, true}, {far - 1, true}, {far, true}, {far + 1, false}, {far + 2, false}, {1 << 57, false}, {most, false},
		{1 - far, true}, {-far, true}, {-far - 1, false}, {-far - 2, false}, {-1 << 57, false}, {least + 1, false}, {least, false},
	} {
		for n := 2; n <= api.MaxParties; n++ {
			for i := range n {
				for j := range n {
					if i != j {
						checkIs(t, n, "a position", x.want, func(b *api.Books) { b.Pos[i][j], b.Pos[j][i] = x.v, -x.v })
					}
				}
			}
		}
	}
}

// P10.1: Pos of i and j is that of j and i turned round; so that of i and i is 0.
func TestIsOfPositionsTurnedRound(t *testing.T) {
	for n := 1; n <= api.MaxParties; n++ {
		for i := range n {
			for _, v := range []int64{1, -1, 5, far, -far, far + 1, -far - 1, most, least, least + 1} {
				checkIs(t, n, "a position to itself", false, func(b *api.Books) { b.Pos[i][i] = v })
			}
			for j := range i {
				checkIs(t, n, "a position one more", false, func(b *api.Books) { b.Pos[i][j], b.Pos[j][i] = 6, -5 })
				checkIs(t, n, "a position one less", false, func(b *api.Books) { b.Pos[i][j], b.Pos[j][i] = 5, -6 })
				checkIs(t, n, "the same position", false, func(b *api.Books) { b.Pos[i][j], b.Pos[j][i] = 5, 5 })
				checkIs(t, n, "the same position below 0", false, func(b *api.Books) { b.Pos[i][j], b.Pos[j][i] = -5, -5 })
				checkIs(t, n, "one alone", false, func(b *api.Books) { b.Pos[i][j], b.Pos[j][i] = 5, 0 })
				checkIs(t, n, "the other alone", false, func(b *api.Books) { b.Pos[i][j], b.Pos[j][i] = 0, 5 })
				checkIs(t, n, "both the least", false, func(b *api.Books) { b.Pos[i][j], b.Pos[j][i] = least, least })
				checkIs(t, n, "turned round", true, func(b *api.Books) { b.Pos[i][j], b.Pos[j][i] = 5, -5 })
				checkIs(t, n, "turned round below 0", true, func(b *api.Books) { b.Pos[i][j], b.Pos[j][i] = -5, 5 })
			}
		}
	}
}

// P10.1: Net of each party, with positions above and below 0.
func TestNet(t *testing.T) {
	for i, want := range []int64{3, 2, -5} {
		if got := Net(three(), i); got != want {
			t.Errorf("Net(three, %d) = %d; want %d", i, got, want)
		}
	}
	b := books(1)
	if Net(b, 0) != 0 {
		t.Errorf("Net of one alone is %d", Net(b, 0))
	}
	for n := 2; n <= api.MaxParties; n++ {
		for i := range n {
			b := books(n)
			b.Pos = rows(n, n)
			for j := range n {
				if j != i {
					b.Pos[i][j], b.Pos[j][i] = far, -far
				}
			}
			if want := far * int64(n-1); Net(b, i) != want {
				t.Errorf("Net of all that one may send, %d of %d: %d; want %d", i, n, Net(b, i), want)
			}
			for j := range n {
				if j != i && Net(b, j) != -far {
					t.Errorf("Net of all that one may get, %d of %d: %d", j, n, Net(b, j))
				}
			}
		}
	}
}

// P10.1: Net is the sum of whole numbers of what was sent to all others; limits and accounts don't matter.
func TestNetIsThatOfWholeNumbers(t *testing.T) {
	x := numbers(77)
	for k := range 3000 {
		n := 1 + k%api.MaxParties
		b := x.books(n)
		for i := range n {
			want := new(big.Int)
			for j := range n {
				if j != i {
					want.Add(want, big.NewInt(b.Pos[i][j]))
				}
			}
			if got := Net(b, i); big.NewInt(got).Cmp(want) != 0 {
				t.Fatalf("Net(%d, %d) = %d; want %d", b.Pos, i, got, want)
			}
		}
	}
}

// P10.2: what all have sent net is 0 together, in all books.
func TestAllNetsAreNothingTogether(t *testing.T) {
	x := numbers(5)
	sent := 0
	for k := range 5000 {
		b := x.books(1 + k%api.MaxParties)
		if !Is(b) {
			t.Fatalf("%v is no books", b)
		}
		sum := new(big.Int)
		for i := range b.Accts {
			if Net(b, i) != 0 {
				sent++
			}
			sum.Add(sum, big.NewInt(Net(b, i)))
		}
		if sum.Sign() != 0 {
			t.Fatalf("all of %d sent %d net", b.Pos, sum)
		}
	}
	if sent < 5000 {
		t.Errorf("only %d sent anything net", sent)
	}
}

// P10.1: a copy is the same, of each count, and of what is no books too.
func TestCopy(t *testing.T) {
	for i, b := range all() {
		c := Copy(b)
		if !equal(b, c) || !Same(b, c) {
			t.Errorf("%d: Copy(%v) = %v", i, b, c)
		}
		if Is(c) != Is(b) {
			t.Errorf("%d: Is of a copy is %t", i, Is(c))
		}
	}
}

// W6, W7: a copy does not hang on what it is of, nor that on it, nor a copy on another: every list and every row is new memory.
func TestCopyIsNewMemory(t *testing.T) {
	for i, b := range all() {
		was := deep(b)
		from := roomy(b)
		c, other := Copy(from), Copy(from)
		scribble(c)
		if !isRoomy(from, was) || !equal(other, was) {
			t.Errorf("%d: a copy shares memory with what it is of, or with another", i)
		}
		scribble(from)
		if !equal(other, was) {
			t.Errorf("%d: a copy is kept by what it is of", i)
		}
	}
}

// W6: no two lists of a copy share memory, also where those of what it is of do.
func TestListsOfACopyShareNothing(t *testing.T) {
	shared := slices.Repeat([]int64{0}, 9)
	b := api.Books{Accts: make([]api.Acct, 3), Bil: [][]int64{shared[:3], shared[:3], shared[3:6]}, Mul: shared[:3], Pos: [][]int64{shared[:3], shared[:3], shared[3:6]}}
	places := 7
	for at := range places {
		c := Copy(b)
		lists := append(append([][]int64{c.Mul}, c.Bil...), c.Pos...)
		if len(lists) != places {
			t.Fatalf("%d lists", len(lists))
		}
		scribbleRow(lists[at])
		for i, l := range lists {
			if i != at && !slices.Equal(l, []int64{0, 0, 0}) {
				t.Errorf("list %d of a copy shares memory with list %d", at, i)
			}
		}
		c = Copy(b)
		scribbleRows(c.Bil)
		if !reflect.DeepEqual(c.Pos, rows(3, 3)) {
			t.Error("Pos of a copy shares memory with Bil")
		}
	}
	if slices.Contains(shared, 94) {
		t.Error("a copy shares memory with what it is of")
	}
}

// checkSame checks what Same answers of two, both ways.
func checkSame(t *testing.T, what string, a, b api.Books, want bool) {
	t.Helper()
	if Same(a, b) != want || Same(b, a) != want {
		t.Errorf("%s: Same(%v, %v) is %t, turned round %t; want %t", what, a, b, Same(a, b), Same(b, a), want)
	}
	if !Same(a, a) || !Same(b, b) {
		t.Errorf("%s: not the same as itself: %v, %v", what, a, b)
	}
}

// P10.1: those with the same numbers are the same, all others are not, whether they are books or none.
func TestSame(t *testing.T) {
	for i, a := range all() {
		checkSame(t, "its like", a, deep(a), true)
		checkSame(t, "its like with spare room", a, roomy(a), true)
		for j, b := range all() {
			checkSame(t, "each with each", a, b, equal(a, b))
			if i == j && !equal(a, b) {
				t.Errorf("%d: not made anew", i)
			}
		}
	}
}

// P10.1: books that differ in one number alone, of each list, wherever it stands, are not the same.
func TestSameOfOneNumber(t *testing.T) {
	for _, was := range several() {
		for i := range was.Accts {
			for _, change := range []func(a *api.Acct){
				func(a *api.Acct) { a.Balance++ }, func(a *api.Acct) { a.Credit++ }, func(a *api.Acct) { a.Reserve++ },
				func(a *api.Acct) { a.Balance -= 1 << 40 }, func(a *api.Acct) { a.Credit ^= 1 << 62 }, func(a *api.Acct) { a.Reserve ^= 1 << 32 },
			} {
				b := deep(was)
				change(&b.Accts[i])
				checkSame(t, "an account", was, b, false)
			}
			for _, bit := range []int64{1, 1 << 32, least} {
				b := deep(was)
				b.Mul[i] ^= bit
				checkSame(t, "Mul", was, b, false)
				for j := range was.Accts {
					b = deep(was)
					b.Bil[i][j] ^= bit
					checkSame(t, "Bil", was, b, false)
					b = deep(was)
					b.Pos[i][j] ^= bit
					checkSame(t, "Pos", was, b, false)
				}
			}
		}
	}
}

// P10.1: books that differ in how many there are of a list are not the same, though one begins or ends as the other.
func TestSameOfHowMany(t *testing.T) {
	for _, was := range several() {
		n := len(was.Accts)
		for i, change := range []func(b *api.Books){
			func(b *api.Books) { b.Accts = b.Accts[:n-1] }, func(b *api.Books) { b.Accts = append(b.Accts, api.Acct{}) }, func(b *api.Books) { b.Accts = nil },
			func(b *api.Books) { b.Bil = b.Bil[:n-1] }, func(b *api.Books) { b.Bil = append(b.Bil, nil) }, func(b *api.Books) { b.Bil = nil },
			func(b *api.Books) { b.Bil = append(b.Bil, make([]int64, n)) }, func(b *api.Books) { b.Bil = b.Bil[1:] },
			func(b *api.Books) { b.Bil[0] = b.Bil[0][:n-1] }, func(b *api.Books) { b.Bil[n-1] = append(b.Bil[n-1], 0) }, func(b *api.Books) { b.Bil[n-1] = nil },
			func(b *api.Books) { b.Mul = b.Mul[:n-1] }, func(b *api.Books) { b.Mul = append(b.Mul, 0) }, func(b *api.Books) { b.Mul = nil },
			func(b *api.Books) { b.Pos = b.Pos[:n-1] }, func(b *api.Books) { b.Pos = append(b.Pos, nil) }, func(b *api.Books) { b.Pos = nil },
			func(b *api.Books) { b.Pos = append(b.Pos, make([]int64, n)) }, func(b *api.Books) { b.Pos = b.Pos[1:] },
			func(b *api.Books) { b.Pos[0] = b.Pos[0][:n-1] }, func(b *api.Books) { b.Pos[n-1] = append(b.Pos[n-1], 0) }, func(b *api.Books) { b.Pos[n-1] = nil },
		} {
			b := deep(was)
			change(&b)
			if equal(was, b) {
				t.Fatalf("change %d changed nothing", i)
			}
			checkSame(t, "how many", was, b, false)
		}
	}
}

// P10.1: rows of unlike length with the same numbers in all, and the same numbers in another list, are not the same.
func TestSameOfRows(t *testing.T) {
	one := [][]int64{{1, 2}, {3}}
	for _, other := range [][][]int64{{{1}, {2, 3}}, {{1, 2, 3}}, {{1, 2, 3}, {}}, {{}, {1, 2, 3}}, {{1}, {2}, {3}}, {{1, 2}, {3}, {}}, {{1, 2}, nil, {3}}, {{3}, {1, 2}}, {{2, 1}, {3}}} {
		checkSame(t, "rows of Bil", api.Books{Bil: one}, api.Books{Bil: other}, false)
		checkSame(t, "rows of Pos", api.Books{Pos: one}, api.Books{Pos: other}, false)
	}
	checkSame(t, "Bil and Pos", api.Books{Bil: one}, api.Books{Pos: one}, false)
	checkSame(t, "Mul and a row", api.Books{Mul: []int64{1, 2}}, api.Books{Bil: [][]int64{{1, 2}}}, false)
	checkSame(t, "parties in another order", api.Books{Accts: []api.Acct{{Balance: 1}, {Balance: 2}}}, api.Books{Accts: []api.Acct{{Balance: 2}, {Balance: 1}}}, false)
	checkSame(t, "Mul in another order", api.Books{Mul: []int64{1, 2}}, api.Books{Mul: []int64{2, 1}}, false)
}

// P10.1, W5: a nil list and an empty one are the same, of each list and each row; a row without numbers is a row.
func TestSameOfNothing(t *testing.T) {
	for _, b := range []api.Books{
		{Accts: []api.Acct{}}, {Bil: [][]int64{}}, {Mul: []int64{}}, {Pos: [][]int64{}},
		{Accts: []api.Acct{}, Bil: [][]int64{}, Mul: []int64{}, Pos: [][]int64{}},
	} {
		checkSame(t, "nil and empty", api.Books{}, b, true)
	}
	checkSame(t, "a nil row of Bil", api.Books{Bil: [][]int64{nil}}, api.Books{Bil: [][]int64{{}}}, true)
	checkSame(t, "a nil row of Pos", api.Books{Pos: [][]int64{{}, nil}}, api.Books{Pos: [][]int64{nil, {}}}, true)
	checkSame(t, "a row of Bil and none", api.Books{Bil: [][]int64{nil}}, api.Books{}, false)
	checkSame(t, "a row of Pos and none", api.Books{Pos: [][]int64{{}}}, api.Books{Pos: [][]int64{}}, false)
	checkSame(t, "an account and none", api.Books{Accts: make([]api.Acct, 1)}, api.Books{}, false)
	checkSame(t, "a limit and none", api.Books{Mul: make([]int64, 1)}, api.Books{}, false)
}

// W6: what is handed in is not changed, not even behind the end of a list.
func TestNothingIsChanged(t *testing.T) {
	for i, was := range all() {
		b, other := roomy(was), roomy(was)
		Is(b)
		for j := range was.Accts {
			Net(b, j)
		}
		Copy(b)
		Same(b, other)
		Same(b, api.Books{})
		if !isRoomy(b, was) || !isRoomy(other, was) {
			t.Errorf("%d: %v became %v", i, was, b)
		}
	}
}

// W2: an answer does not hang on what was asked ahead of it.
func TestAnswersStayTheSame(t *testing.T) {
	b := three()
	for range 3 {
		if !Is(b) || Net(b, 2) != -5 || !Same(b, three()) || !equal(Copy(b), three()) || !slices.Equal(Row(2, 7), []int64{7, 7}) {
			t.Error("another answer")
		}
		scribbleRow(Row(2, 9))
		scribble(Copy(b))
		Is(api.Books{})
	}
}

// W1: no books, and no party of them, is such that a call panics.
func TestNoPanic(t *testing.T) {
	for _, b := range all() {
		Is(b)
		Copy(b)
		for _, i := range counts() {
			Net(b, i)
		}
		for _, i := range []int{math.MinInt, -1, len(b.Pos), len(b.Pos) + 1, math.MaxInt} {
			if n := Net(b, i); n != 0 {
				t.Errorf("Net(%v, %d) = %d, of one that there is not", b, i, n)
			}
		}
	}
}
