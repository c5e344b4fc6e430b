package fits

import (
	"math"
	"math/big"
	"slices"
	"testing"

	"giro/api"
	"giro/lim"
)

const (
	most     = math.MaxInt64
	least    = math.MinInt64
	mostInt  = math.MaxInt
	leastInt = math.MinInt
	// high is the greatest balance, and less it the least one; set is the greatest credit, reserve and limit.
	high = 1<<62 - 1
	set  = 1 << 61
	// far is the greatest position, and less it the least one.
	far = 1<<56 - 1
	// spare is what lies behind the end of a list that is handed in.
	spare = 4711
)

const (
	top    = api.Top
	urgent = api.Urgent
	normal = api.Normal
)

// classes are all there are.
var classes = []int{top, urgent, normal}

// books are books of such accounts, without limits, and nothing sent.
func books(l ...api.Acct) api.Books {
	n := len(l)
	return api.Books{Accts: slices.Clone(l), Bil: lim.Square(n, api.None), Mul: lim.Row(n, api.None), Pos: lim.Square(n, 0)}
}

// has is books of accounts with such balances alone.
func has(balances ...int64) api.Books {
	var l []api.Acct
	for _, n := range balances {
		l = append(l, api.Acct{Balance: n})
	}
	return books(l...)
}

// with are books, changed.
func with(b api.Books, change func(b *api.Books)) api.Books {
	c := lim.Copy(b)
	change(&c)
	return c
}

// sent are books in which i sent j so much more.
func sent(b api.Books, i, j int, n int64) api.Books {
	return with(b, func(b *api.Books) { b.Pos[i][j], b.Pos[j][i] = b.Pos[i][j]+n, b.Pos[j][i]-n })
}

// bil are books in which i has such a limit to j.
func bil(b api.Books, i, j int, limit int64) api.Books {
	return with(b, func(b *api.Books) { b.Bil[i][j] = limit })
}

// mul are books in which i has such a limit to all.
func mul(b api.Books, i int, limit int64) api.Books {
	return with(b, func(b *api.Books) { b.Mul[i] = limit })
}

// pay is a payment; its ID and its time hang on its other numbers, and don't matter.
func pay(from, to int, amount int64, class int) api.Pay {
	return api.Pay{ID: amount + int64(from), From: from, To: to, Amount: amount, Class: class, Start: int64(to), Till: 99}
}

// all is payments as a list.
func all(l ...api.Pay) []api.Pay { return l }

// numbers is a source of numbers that are the same in each run.
type numbers uint64

func (s *numbers) next() uint64 {
	*s ^= *s << 13
	*s ^= *s >> 7
	*s ^= *s << 17
	return uint64(*s)
}

// below is 0 to n-1.
func (s *numbers) below(n int64) int64 {
	return int64(s.next() % uint64(n))
}

// limit is one that may be.
func (s *numbers) limit() int64 {
	return []int64{api.None, api.None, 0, 1, set, s.below(set), s.below(20)}[s.below(7)]
}

// position is one that may be.
func (s *numbers) position() int64 {
	return []int64{-far, 0, 0, far, s.below(2*far+1) - far, s.below(40) - 20}[s.below(6)]
}

// account is one that may be, with little in it, or with anything.
func (s *numbers) account() api.Acct {
	if s.below(3) > 0 {
		return api.Acct{Balance: s.below(40) - 15, Credit: s.below(20), Reserve: s.below(15)}
	}
	balance := []int64{-high, high, s.below(2*high+1) - high}[s.below(3)]
	return api.Acct{Balance: balance, Credit: []int64{0, set, s.below(set + 1)}[s.below(3)], Reserve: []int64{0, set, s.below(set + 1)}[s.below(3)]}
}

// books are books of n parties.
func (s *numbers) books(n int) api.Books {
	b := has(make([]int64, n)...)
	for i := range n {
		b.Accts[i], b.Mul[i] = s.account(), s.limit()
		for j := range n {
			b.Bil[i][j] = s.limit()
		}
		for j := range i {
			b.Pos[i][j] = s.position()
			b.Pos[j][i] = -b.Pos[i][j]
		}
	}
	return b
}

// pays are so many payments of n parties that may be, little ones or any.
func (s *numbers) pays(n, many int) []api.Pay {
	var l []api.Pay
	little := s.below(2) == 0
	for range many {
		from := int(s.below(int64(n)))
		to := (from + 1 + int(s.below(int64(n-1)))) % n
		amount := []int64{1, api.MaxAmount, 1 + s.below(api.MaxAmount), 1 + s.below(20)}[s.below(4)]
		if little {
			amount = 1 + s.below(15)
		}
		l = append(l, pay(from, to, amount, classes[s.below(3)]))
	}
	return l
}

// What follows is what the document's words ask, told without the package and in whole numbers: for each party all payments are gone through.

func whole(n int64) *big.Int { return big.NewInt(n) }

func plus(a, b *big.Int) *big.Int { return new(big.Int).Add(a, b) }

func minus(a, b *big.Int) *big.Int { return new(big.Int).Sub(a, b) }

// sumOf is the sum of what payments that are such pay.
func sumOf(l []api.Pay, is func(p api.Pay) bool) *big.Int {
	sum := whole(0)
	for _, p := range l {
		if is(p) {
			sum = plus(sum, whole(p.Amount))
		}
	}
	return sum
}

// leftOf is Balance and Credit of one behind all payments.
func leftOf(b api.Books, l []api.Pay, i int) *big.Int {
	got := sumOf(l, func(p api.Pay) bool { return p.To == i })
	out := sumOf(l, func(p api.Pay) bool { return p.From == i })
	return minus(plus(plus(whole(b.Accts[i].Balance), whole(b.Accts[i].Credit)), got), out)
}

// keptOf is what of one's Reserve is kept behind all payments.
func keptOf(b api.Books, l []api.Pay, i int) *big.Int {
	spent := sumOf(l, func(p api.Pay) bool { return p.From == i && (p.Class == 1 || p.Class == 2) })
	kept := minus(whole(b.Accts[i].Reserve), spent)
	if kept.Sign() < 0 {
		return whole(0)
	}
	return kept
}

// posOf is what one sent to another, less what it got from it, behind all payments.
func posOf(b api.Books, l []api.Pay, i, j int) *big.Int {
	out := sumOf(l, func(p api.Pay) bool { return p.From == i && p.To == j })
	got := sumOf(l, func(p api.Pay) bool { return p.From == j && p.To == i })
	return minus(plus(whole(b.Pos[i][j]), out), got)
}

// netOf is what one sent to all others, less what it got from them, behind all payments.
func netOf(b api.Books, l []api.Pay, i int) *big.Int {
	net := whole(0)
	for j := range b.Accts {
		if j != i {
			net = plus(net, posOf(b, l, i, j))
		}
	}
	return net
}

// sends tells whether one sends a payment that is such.
func sends(l []api.Pay, i int, is func(p api.Pay) bool) bool {
	return slices.ContainsFunc(l, func(p api.Pay) bool { return p.From == i && is(p) })
}

// isAboveLimit tells whether there is a limit, and a number is above it.
func isAboveLimit(n *big.Int, limit int64) bool {
	return limit != -1 && n.Cmp(whole(limit)) > 0
}

// isShort tells whether one sends and falls short.
func isShort(b api.Books, l []api.Pay, i int) bool {
	if !sends(l, i, func(api.Pay) bool { return true }) {
		return false
	}
	left := leftOf(b, l, i)
	if left.Sign() < 0 || sends(l, i, func(p api.Pay) bool { return p.Class == 3 }) && left.Cmp(keptOf(b, l, i)) < 0 {
		return true
	}
	for j := range b.Accts {
		if sends(l, i, func(p api.Pay) bool { return p.To == j }) && isAboveLimit(posOf(b, l, i, j), b.Bil[i][j]) {
			return true
		}
	}
	return isAboveLimit(netOf(b, l, i), b.Mul[i])
}

// shortOf is who falls short.
func shortOf(b api.Books, l []api.Pay) []int {
	var short []int
	for i := range b.Accts {
		if isShort(b, l, i) {
			short = append(short, i)
		}
	}
	return short
}

// check holds who is Short, and whether it Fits, against what the test names; in each order of the payments that a turn makes.
func check(t *testing.T, what string, b api.Books, l []api.Pay, want ...int) {
	t.Helper()
	if !lim.Is(b) {
		t.Fatalf("%s: %v is no books", what, b)
	}
	turned := slices.Clone(l)
	slices.Reverse(turned)
	half := slices.Concat(l[len(l)/2:], l[:len(l)/2])
	for _, l := range [][]api.Pay{l, turned, half} {
		was := lim.Copy(b)
		if got := Short(b, l...); !slices.Equal(got, want) {
			t.Errorf("%s: Short(%v, %v) = %v, want %v", what, b, l, got, want)
		}
		if got := Fits(b, l...); got != (len(want) == 0) {
			t.Errorf("%s: Fits(%v, %v) = %t, want %v Short", what, b, l, got, want)
		}
		if !lim.Same(b, was) {
			t.Errorf("%s: %v became %v", what, was, b)
		}
	}
}

// checkTold holds who is Short, and whether it Fits, against the document's words.
func checkTold(t *testing.T, what string, b api.Books, l []api.Pay) {
	t.Helper()
	check(t, what, b, l, shortOf(b, l)...)
}

// checkMay holds what May answers, and with it whether it Fits where nobody falls short, against what the test names.
func checkMay(t *testing.T, b api.Books, p api.Pay, want bool) {
	t.Helper()
	if got := May(b, p); got != want {
		t.Errorf("May(%d accounts, %v) = %t", len(b.Accts), p, got)
	}
	if got := Fits(b, p); got != want {
		t.Errorf("Fits(%d accounts, %v) = %t", len(b.Accts), p, got)
	}
}

// rich are books of n parties, of which nobody falls short.
func rich(n int) api.Books {
	return has(slices.Repeat([]int64{1 << 50}, n)...)
}

// P15.1: a payment may be from each account to each other, and neither to itself, nor to or from one that there is not.
func TestMayOfParties(t *testing.T) {
	for n := 1; n <= api.MaxParties; n++ {
		ends := []int{leastInt, leastInt + 1, -1 << 32, -n, -2, -1, n, n + 1, 2 * n, 6, 7, 1 << 32, 1<<32 + 1, mostInt - 1, mostInt}
		for i := range n {
			ends = append(ends, i)
		}
		for _, from := range ends {
			for _, to := range ends {
				want := from != to && from >= 0 && from < n && to >= 0 && to < n
				for _, class := range classes {
					checkMay(t, rich(n), pay(from, to, 5, class), want)
				}
			}
		}
	}
}

// P15.1: Amount is 1 to MaxAmount.
func TestMayOfAmounts(t *testing.T) {
	for _, x := range []struct {
		amount int64
		want   bool
	}{
		{least, false}, {-api.MaxAmount, false}, {-1 << 32, false}, {-2, false}, {-1, false}, {0, false}, {1, true}, {2, true}, {1 << 31, true}, {1 << 32, true},
		{api.MaxAmount - 1, true}, {api.MaxAmount, true}, {api.MaxAmount + 1, false}, {1 << 41, false}, {1 << 62, false}, {most, false},
	} {
		for _, class := range classes {
			checkMay(t, rich(2), pay(0, 1, x.amount, class), x.want)
			checkMay(t, rich(6), pay(5, 2, x.amount, class), x.want)
		}
	}
}

// P15.1: its Class is one.
func TestMayOfClasses(t *testing.T) {
	for _, x := range []struct {
		class int
		want  bool
	}{
		{leastInt, false}, {-3, false}, {-2, false}, {-1, false}, {0, false}, {1, true}, {2, true}, {3, true}, {4, false}, {5, false}, {1 << 32, false}, {1<<32 + 1, false}, {1<<32 + 3, false}, {mostInt, false},
	} {
		checkMay(t, rich(2), pay(0, 1, 1, x.class), x.want)
		checkMay(t, rich(3), pay(2, 0, api.MaxAmount, x.class), x.want)
	}
}

// P15.1: nothing else of a payment is asked, whether it may be.
func TestMayOfIDsAndTimes(t *testing.T) {
	for _, id := range []int64{least, -1, 0, 1, most} {
		for _, start := range []int64{least, -1, 0, 5, most} {
			for _, till := range []int64{least, -1, 0, 4, most} {
				checkMay(t, rich(2), api.Pay{ID: id, From: 1, To: 0, Amount: 3, Class: normal, Start: start, Till: till}, true)
			}
		}
	}
}

// P15.1: a payment may be, though who sends it falls short.
func TestMayOfShort(t *testing.T) {
	x := numbers(9)
	for range 500 {
		n := 2 + int(x.below(5))
		b := x.books(n)
		p := x.pays(n, 1)[0]
		if !May(b, p) {
			t.Errorf("May(%v, %v) is false", b, p)
		}
		for _, change := range []func(p *api.Pay){
			func(p *api.Pay) { p.From = p.To }, func(p *api.Pay) { p.To = n }, func(p *api.Pay) { p.From = -1 }, func(p *api.Pay) { p.Amount = 0 }, func(p *api.Pay) { p.Class = 0 },
		} {
			q := p
			change(&q)
			if May(b, q) || Fits(b, q) {
				t.Errorf("%v may be, or fits, in %v", q, b)
			}
		}
	}
}

// P15.1: the document's example.
func TestExample(t *testing.T) {
	l := all(pay(0, 1, 6, normal), pay(1, 0, 3, normal))
	check(t, "both", has(5, 0), l)
	check(t, "the first alone", has(5, 0), l[:1], 0)
	check(t, "the second alone", has(5, 0), l[1:], 1)
	if !Fits(has(5, 0), l...) {
		t.Error("does not fit")
	}
}

// P15.2: of nothing it is true, whatever the books.
func TestOfNothing(t *testing.T) {
	l := []api.Books{{}, has(), has(5), has(5, 0), has(-1, -1, -1), mul(sent(has(-9, -9), 0, 1, 9), 0, 3), bil(sent(has(0, 0), 0, 1, 9), 0, 1, 3), has(0, 0, 0, 0, 0, 0, 0), {Accts: make([]api.Acct, 2)}}
	x := numbers(3)
	for n := 1; n <= api.MaxParties; n++ {
		l = append(l, x.books(n))
	}
	for _, b := range l {
		for _, none := range [][]api.Pay{nil, {}, make([]api.Pay, 0, 5), all(pay(0, 0, 0, 0))[:0], all(pay(0, 1, 1<<40, 3), pay(1, 0, 9, 3))[:0]} {
			if got := Short(b, none...); len(got) != 0 {
				t.Errorf("Short(%v) = %v", b, got)
			}
			if !Fits(b, none...) {
				t.Errorf("Fits(%v) is false", b)
			}
		}
		if len(Short(b)) != 0 || !Fits(b) {
			t.Errorf("Short(%v) = %v, Fits is %t", b, Short(b), Fits(b))
		}
	}
}

// P15.1: at most 64 Fit, whoever sends them, though more would leave nobody short.
func TestHowMany(t *testing.T) {
	for _, of := range [][]api.Pay{
		all(pay(0, 1, 1, top)), all(pay(1, 0, 1, normal)), all(pay(0, 1, 9, top), pay(1, 0, 9, normal)), all(pay(0, 1, 5, urgent), pay(1, 2, 5, urgent), pay(2, 0, 5, urgent)), all(pay(0, 1, api.MaxAmount, top)),
	} {
		l := slices.Repeat(of, 200)
		for _, many := range []int{0, 1, 2, 3, 5, 31, 32, 33, 62, 63, 64, 65, 66, 67, 100, 127, 128, 129, 200} {
			if got := Fits(rich(3), l[:many]...); got != (many <= 64) {
				t.Errorf("%d of %v: %t", many, of, got)
			}
		}
	}
	if l := slices.Repeat(all(pay(0, 1, 1, top)), 1<<16+64); Fits(rich(3), l...) || Fits(rich(3), l[:1<<16]...) || Fits(rich(3), l[:1<<16+1]...) {
		t.Error("too many fit")
	}
}

// P15.1: 64 are counted to the last one, wherever that stands.
func TestSixtyFour(t *testing.T) {
	for at := range 64 {
		l := slices.Repeat(all(pay(0, 1, 1, top)), 64)
		check(t, "just so much", has(64, 0), l)
		check(t, "one less", has(63, 0), l, 0)
		l[at] = pay(0, 1, 2, top)
		check(t, "one of two", has(65, 0), l)
		check(t, "one of two, one less", has(64, 0), l, 0)
		l[at] = pay(2, 1, 1, normal)
		check(t, "one of another", has(63, 0, 1), l)
		check(t, "one of another, which has nothing", has(63, 0, 0), l, 2)
		check(t, "one of another, one less of each", has(62, 0, 0), l, 0, 2)
		l[at] = pay(1, 0, 1, normal)
		check(t, "one that comes back", has(62, 0), l)
		check(t, "one that comes back, one less", has(61, 0), l, 0)
	}
	l := slices.Repeat(all(pay(0, 1, api.MaxAmount, normal)), 64)
	check(t, "all that may be", has(64*api.MaxAmount, 0), l)
	check(t, "all that may be, one less", has(64*api.MaxAmount-1, 0), l, 0)
}

// P15.1: none Fit, if one may not be among them, wherever it stands.
func TestOneThatMayNotBe(t *testing.T) {
	for _, p := range []api.Pay{
		pay(0, 0, 1, top), pay(0, 3, 1, top), pay(3, 0, 1, top), pay(-1, 0, 1, top), pay(0, -1, 1, top), pay(0, mostInt, 1, top), pay(leastInt, 0, 1, top),
		pay(0, 1, 0, top), pay(0, 1, -1, top), pay(0, 1, api.MaxAmount+1, top), pay(0, 1, least, top), pay(0, 1, most, top), pay(0, 1, 1, 0), pay(0, 1, 1, 4), {},
	} {
		for _, many := range []int{1, 2, 3, 10, 63, 64} {
			l := slices.Repeat(all(pay(0, 1, 1, top), pay(1, 2, 2, normal)), 32)[:many]
			if !Fits(rich(3), l...) {
				t.Fatalf("%d don't fit", many)
			}
			for at := range many {
				such := slices.Clone(l)
				such[at] = p
				if Fits(rich(3), such...) {
					t.Errorf("%v at %d of %d fits", p, at, many)
				}
				Short(rich(3), such...)
			}
		}
	}
}

// P15.1: Balance and Credit together may come to nothing, and not below.
func TestBalanceAndCredit(t *testing.T) {
	for _, class := range classes {
		for _, x := range []struct{ balance, credit, amount int64 }{
			{5, 0, 5}, {1, 0, 1}, {0, 5, 5}, {5, 3, 8}, {2, 7, 9}, {-3, 8, 5}, {-7, 8, 1}, {api.MaxAmount, 0, api.MaxAmount}, {0, api.MaxAmount, api.MaxAmount},
			{1 << 39, 1 << 39, api.MaxAmount}, {-1 << 60, 1<<60 + 1, 1}, {-1<<61 + 1, 1 << 61, 1}, {-1<<61 + api.MaxAmount, 1 << 61, api.MaxAmount},
		} {
			b, p := books(api.Acct{Balance: x.balance, Credit: x.credit}, api.Acct{}), pay(0, 1, x.amount, class)
			check(t, "all", b, all(p))
			check(t, "all, and one more", b, all(p, pay(0, 1, 1, class)), 0)
			if x.amount > 1 {
				check(t, "one less than all", b, all(pay(0, 1, x.amount-1, class)))
			}
			if x.amount < api.MaxAmount {
				check(t, "one more than all", b, all(pay(0, 1, x.amount+1, class)), 0)
			}
		}
		check(t, "nothing together", books(api.Acct{Balance: -set, Credit: set}, api.Acct{}), all(pay(0, 1, 1, class)), 0)
		check(t, "nothing there", has(0, 0), all(pay(0, 1, 1, class)), 0)
		check(t, "less than nothing", has(-1, 0), all(pay(0, 1, 1, class)), 0)
		check(t, "as little as may be", books(api.Acct{Balance: -high}, api.Acct{}), all(pay(0, 1, api.MaxAmount, class)), 0)
		check(t, "as little as may be, all credit", books(api.Acct{Balance: -high, Credit: set}, api.Acct{}), all(pay(0, 1, api.MaxAmount, class)), 0)
		check(t, "as much as may be", books(api.Acct{Balance: high, Credit: set, Reserve: set}, api.Acct{}), slices.Repeat(all(pay(0, 1, api.MaxAmount, class)), 64))
	}
}

// P15.1: an account that is none comes out, and nobody is short for that.
func TestAccountsThatAreNone(t *testing.T) {
	for _, class := range classes {
		check(t, "who gets has too much", has(9, high), all(pay(0, 1, 9, class)))
		check(t, "who gets has as much as may be", books(api.Acct{Balance: 9}, api.Acct{Balance: high, Credit: set}), all(pay(0, 1, 9, class)))
		full := books(api.Acct{Balance: high, Credit: set}, api.Acct{Balance: 1 << 50})
		l := append(slices.Repeat(all(pay(1, 0, api.MaxAmount, class)), 63), pay(0, 1, 1, class))
		check(t, "who sends gets too much", full, l)
		low := books(api.Acct{Balance: -high, Credit: set}, api.Acct{Balance: 0})
		check(t, "who sends has too little", low, all(pay(0, 1, 1, class)), 0)
		check(t, "a position that is none", sent(has(9, 9), 0, 1, far), all(pay(0, 1, 9, class)))
		check(t, "a position that is none, of who gets", sent(has(9, 9), 1, 0, -far), all(pay(0, 1, 9, class)))
		check(t, "a position that is none, and a limit", bil(sent(has(9, 9), 0, 1, far), 0, 1, far), all(pay(0, 1, 1, class)), 0)
		check(t, "a position that is none, and a greater limit", bil(sent(has(9, 9), 0, 1, far), 0, 1, far+9), all(pay(0, 1, 9, class)))
	}
}

// P15.1: who sends a Normal one is left what is Kept of its Reserve; who sends none, need not be.
func TestReserve(t *testing.T) {
	a := api.Acct{Balance: 5, Credit: 3, Reserve: 4}
	for _, x := range []struct {
		what  string
		l     []api.Pay
		short bool
	}{
		{"a Normal one that leaves just the Reserve", all(pay(0, 1, 4, normal)), false},
		{"a Normal one that leaves one less", all(pay(0, 1, 5, normal)), true},
		{"a Normal one that leaves one more", all(pay(0, 1, 3, normal)), false},
		{"a Top one of the Reserve", all(pay(0, 1, 8, top)), false},
		{"an Urgent one of the Reserve", all(pay(0, 1, 8, urgent)), false},
		{"a Top one that leaves less than the Reserve", all(pay(0, 1, 5, top)), false},
		{"a Top one beyond", all(pay(0, 1, 9, top)), true},
		{"an Urgent one beyond", all(pay(0, 1, 9, urgent)), true},
		{"an Urgent one spends of the Reserve, and a Normal one leaves what is kept", all(pay(0, 1, 4, normal), pay(0, 2, 2, urgent)), false},
		{"an Urgent one spends of the Reserve, and a Normal one leaves one less", all(pay(0, 1, 5, normal), pay(0, 2, 2, urgent)), true},
		{"a Top one spends of the Reserve", all(pay(0, 1, 4, normal), pay(0, 2, 3, top)), false},
		{"a Top one spends of the Reserve, one less", all(pay(0, 1, 5, normal), pay(0, 2, 3, top)), true},
		{"Top and Urgent spend together", all(pay(0, 1, 4, normal), pay(0, 2, 2, top), pay(0, 1, 2, urgent)), false},
		{"Top and Urgent spend together, one less", all(pay(0, 1, 5, normal), pay(0, 2, 2, top), pay(0, 1, 2, urgent)), true},
		{"Top and Urgent spend one less than the Reserve", all(pay(0, 1, 5, normal), pay(0, 2, 1, top), pay(0, 1, 2, urgent)), true},
		{"the Reserve is spent whole", all(pay(0, 1, 4, normal), pay(0, 2, 4, urgent)), false},
		{"the Reserve is spent beyond", all(pay(0, 1, 2, normal), pay(0, 2, 6, urgent)), false},
		{"the Reserve is spent beyond, and one more", all(pay(0, 1, 3, normal), pay(0, 2, 6, urgent)), true},
		{"the Reserve is spent beyond, and nothing left", all(pay(0, 1, 1, normal), pay(0, 2, 7, top)), false},
		{"the Reserve is spent beyond by each", all(pay(0, 1, 1, normal), pay(0, 2, 4, top), pay(0, 2, 4, urgent)), true},
		{"two Normal ones", all(pay(0, 1, 2, normal), pay(0, 2, 2, normal)), false},
		{"two Normal ones, one less", all(pay(0, 1, 2, normal), pay(0, 2, 3, normal)), true},
		{"what is got fills the account, not the Reserve", all(pay(0, 1, 6, normal), pay(2, 0, 2, normal)), false},
		{"what is got, one less", all(pay(0, 1, 7, normal), pay(2, 0, 2, normal)), true},
		{"what is got Top does not spend one's Reserve", all(pay(0, 1, 7, normal), pay(2, 0, 2, top)), true},
		{"what others send Urgent does not spend one's Reserve", all(pay(0, 1, 5, normal), pay(2, 1, 9, urgent), pay(1, 2, 9, top)), true},
		{"a Normal one of another", all(pay(0, 1, 8, urgent), pay(2, 1, 9, normal)), false},
		{"a Normal one that is got", all(pay(0, 1, 9, urgent), pay(2, 0, 1, normal)), false},
	} {
		var want []int
		if x.short {
			want = []int{0}
		}
		check(t, x.what, books(a, api.Acct{Balance: 50}, api.Acct{Balance: 50}), x.l, want...)
		// The same of another party than the first one.
		turned := slices.Clone(x.l)
		for i := range turned {
			turned[i].From, turned[i].To = 2-turned[i].From, 2-turned[i].To
		}
		if x.short {
			want = []int{2}
		}
		check(t, x.what+", turned", books(api.Acct{Balance: 50}, api.Acct{Balance: 50}, a), turned, want...)
	}
}

// P15.1: a Reserve that is more than Balance and Credit: no Normal one goes till it is spent.
func TestReserveOfMore(t *testing.T) {
	a := api.Acct{Balance: 5, Reserve: 100}
	check(t, "a Normal one", books(a, a), all(pay(0, 1, 1, normal)), 0)
	check(t, "an Urgent one", books(a, a), all(pay(0, 1, 5, urgent)))
	check(t, "a Normal one beside it", books(a, a), all(pay(0, 1, 4, urgent), pay(0, 1, 1, normal)), 0)
	check(t, "a Normal one, and enough is got", books(a, has(999).Accts[0]), all(pay(0, 1, 5, normal), pay(1, 0, 100, normal)))
	check(t, "a Normal one, and one less is got", books(a, has(999).Accts[0]), all(pay(0, 1, 5, normal), pay(1, 0, 99, normal)), 0)
	great := api.Acct{Balance: high, Credit: set, Reserve: set}
	check(t, "as much as may be", books(great, a), all(pay(0, 1, api.MaxAmount, normal)))
	edge := api.Acct{Balance: set, Credit: 7, Reserve: set}
	check(t, "the greatest Reserve", books(edge, a), all(pay(0, 1, 7, normal)))
	check(t, "the greatest Reserve, one less", books(edge, a), all(pay(0, 1, 8, normal)), 0)
	check(t, "the greatest Reserve, which is spent of", books(edge, a), append(slices.Repeat(all(pay(0, 1, api.MaxAmount, top)), 63), pay(0, 1, 7, normal)))
	check(t, "the greatest Reserve, which is spent of, one less", books(edge, a), append(slices.Repeat(all(pay(0, 1, api.MaxAmount, top)), 63), pay(0, 1, 8, normal)), 0)
}

// P15.1: Pos may come to its limit Bil, and not above.
func TestLimitsToEach(t *testing.T) {
	b := has(50, 50, 50)
	for _, class := range classes {
		one := func(amount int64) []api.Pay { return all(pay(0, 1, amount, class)) }
		check(t, "at the limit", bil(b, 0, 1, 3), one(3))
		check(t, "below the limit", bil(b, 0, 1, 3), one(2))
		check(t, "above the limit", bil(b, 0, 1, 3), one(4), 0)
		check(t, "no limit", bil(b, 0, 1, api.None), one(50))
		check(t, "a limit of 0", bil(b, 0, 1, 0), one(1), 0)
		check(t, "a limit of 1", bil(b, 0, 1, 1), one(1))
		check(t, "the greatest limit", bil(b, 0, 1, set), one(50))
		check(t, "none, of a great position", sent(b, 0, 1, far), one(1))
		check(t, "none, of a position below 0", sent(b, 0, 1, -9), one(1))
		check(t, "of two together", bil(b, 0, 1, 5), append(one(2), one(3)...))
		check(t, "of two together, above", bil(b, 0, 1, 4), append(one(2), one(3)...), 0)
		check(t, "what was sent", bil(sent(b, 0, 1, 2), 0, 1, 3), one(1))
		check(t, "what was sent, above", bil(sent(b, 0, 1, 2), 0, 1, 3), one(2), 0)
		check(t, "what was got", bil(sent(b, 0, 1, -2), 0, 1, 3), one(5))
		check(t, "what was got, above", bil(sent(b, 0, 1, -2), 0, 1, 3), one(6), 0)
		check(t, "what was got, and a limit of 0", bil(sent(b, 0, 1, -2), 0, 1, 0), one(2))
		check(t, "what was got, and a limit of 0, above", bil(sent(b, 0, 1, -2), 0, 1, 0), one(3), 0)
		check(t, "above, below 0 still", bil(sent(b, 0, 1, -9), 0, 1, 0), one(2))
		check(t, "at the greatest position", bil(sent(b, 0, 1, far-7), 0, 1, far), one(7))
		check(t, "beyond the greatest position", bil(sent(b, 0, 1, far-7), 0, 1, far), one(8), 0)
	}
}

// P15.1: a limit is to the one that one sends to: neither another's limit matters, nor one to oneself or to another.
func TestLimitsOfOthers(t *testing.T) {
	b := has(50, 50, 50)
	l := all(pay(0, 1, 4, top))
	check(t, "its limit to another", bil(b, 0, 2, 0), l)
	check(t, "its limit to itself", bil(b, 0, 0, 0), l)
	check(t, "the limit of who gets", bil(b, 1, 0, 0), l)
	check(t, "the limit of who gets to a third", bil(b, 1, 2, 0), l)
	check(t, "limits of a third", bil(bil(b, 2, 0, 0), 2, 1, 0), l)
	check(t, "above the limit to one to which it does not send", bil(sent(b, 0, 2, 9), 0, 2, 3), l)
	check(t, "above the limit to one to which it sends", bil(sent(b, 0, 1, 9), 0, 1, 3), l, 0)
	check(t, "above the limit to one from which it gets", bil(sent(b, 0, 2, 9), 0, 2, 3), all(pay(0, 1, 4, top), pay(2, 0, 1, top)))
	check(t, "who gets is above its limit", bil(sent(b, 1, 0, 9), 1, 0, 3), l)
	check(t, "each above its limit", bil(bil(b, 0, 1, 3), 1, 0, 3), l, 0)
	check(t, "above the limit to the last one", bil(b, 0, 2, 3), all(pay(0, 1, 1, top), pay(0, 2, 4, top)), 0)
	check(t, "above the limit to the first one", bil(b, 2, 0, 3), all(pay(2, 1, 1, top), pay(2, 0, 4, top)), 2)
	check(t, "at each limit", bil(bil(b, 0, 1, 4), 0, 2, 5), all(pay(0, 1, 4, top), pay(0, 2, 5, top)))
	check(t, "at one limit, above the other", bil(bil(b, 0, 1, 4), 0, 2, 5), all(pay(0, 1, 4, top), pay(0, 2, 6, top)), 0)
	check(t, "above the one limit, at the other", bil(bil(b, 0, 1, 3), 0, 2, 5), all(pay(0, 1, 4, top), pay(0, 2, 5, top)), 0)
}

// P15.1: Pos moves by what one gets, too: what comes back makes room.
func TestLimitsWithWhatComesBack(t *testing.T) {
	b := has(50, 50, 50)
	check(t, "so much comes back", bil(b, 0, 1, 3), all(pay(0, 1, 8, top), pay(1, 0, 5, top)))
	check(t, "one less comes back", bil(b, 0, 1, 3), all(pay(0, 1, 8, top), pay(1, 0, 4, top)), 0)
	check(t, "more comes back", bil(b, 0, 1, 0), all(pay(0, 1, 8, top), pay(1, 0, 9, top)))
	check(t, "just so much comes back", bil(bil(b, 0, 1, 0), 1, 0, 0), all(pay(0, 1, 8, top), pay(1, 0, 8, normal)))
	check(t, "one more comes back", bil(bil(b, 0, 1, 0), 1, 0, 0), all(pay(0, 1, 8, top), pay(1, 0, 9, normal)), 1)
	check(t, "one less comes back", bil(bil(b, 0, 1, 0), 1, 0, 0), all(pay(0, 1, 9, top), pay(1, 0, 8, normal)), 0)
	check(t, "it comes from another", bil(b, 0, 1, 3), all(pay(0, 1, 8, top), pay(2, 0, 8, top)), 0)
	check(t, "the limit to all, and it comes from another", mul(b, 0, 3), all(pay(0, 1, 8, top), pay(2, 0, 5, top)))
	check(t, "the limit to all, and it comes from another, one less", mul(b, 0, 3), all(pay(0, 1, 8, top), pay(2, 0, 4, top)), 0)
	check(t, "the limit to all, and it comes back", mul(b, 0, 3), all(pay(0, 1, 8, top), pay(1, 0, 5, top)))
	check(t, "a limit of 0 to all, and as much comes", mul(b, 0, 0), all(pay(0, 1, 8, top), pay(1, 0, 3, top), pay(2, 0, 5, normal)))
	check(t, "a limit of 0 to all, and one less comes", mul(b, 0, 0), all(pay(0, 1, 8, top), pay(1, 0, 3, top), pay(2, 0, 4, normal)), 0)
}

// P15.1: Net may come to its limit Mul, and not above.
func TestLimitsToAll(t *testing.T) {
	b := has(50, 50, 50)
	for _, class := range classes {
		one := func(amount int64) []api.Pay { return all(pay(0, 1, amount, class)) }
		two := all(pay(0, 1, 2, class), pay(0, 2, 3, class))
		check(t, "at the limit", mul(b, 0, 3), one(3))
		check(t, "below the limit", mul(b, 0, 3), one(2))
		check(t, "above the limit", mul(b, 0, 3), one(4), 0)
		check(t, "no limit", mul(b, 0, api.None), one(50))
		check(t, "a limit of 0", mul(b, 0, 0), one(1), 0)
		check(t, "a limit of 1", mul(b, 0, 1), one(1))
		check(t, "the greatest limit", mul(b, 0, set), one(50))
		check(t, "to two", mul(b, 0, 5), two)
		check(t, "to two, above", mul(b, 0, 4), two, 0)
		check(t, "to two, each at its limit", mul(bil(bil(b, 0, 1, 2), 0, 2, 3), 0, 5), two)
		check(t, "what was sent to another", mul(sent(b, 0, 2, 2), 0, 3), one(1))
		check(t, "what was sent to another, above", mul(sent(b, 0, 2, 2), 0, 3), one(2), 0)
		check(t, "what was sent to the same", mul(sent(b, 0, 1, 2), 0, 3), one(2), 0)
		check(t, "what was got from another", mul(sent(b, 0, 2, -2), 0, 3), one(5))
		check(t, "what was got from another, above", mul(sent(b, 0, 2, -2), 0, 3), one(6), 0)
		check(t, "what was got, and a limit of 0", mul(sent(b, 0, 2, -2), 0, 0), one(2))
		check(t, "what was got, and a limit of 0, above", mul(sent(b, 0, 2, -2), 0, 0), one(3), 0)
		check(t, "none, of a great net", sent(b, 0, 2, far), one(1))
		check(t, "none, of a net below 0", sent(b, 0, 2, -9), one(1))
		check(t, "it was above", mul(sent(b, 0, 2, 9), 0, 3), one(1), 0)
		check(t, "it was above, and gets as much", mul(sent(b, 0, 2, 9), 0, 3), append(one(1), pay(1, 0, 7, class)))
		check(t, "the limit of who gets", mul(b, 1, 0), one(5))
		check(t, "the limit of a third", mul(b, 2, 0), one(5))
		check(t, "who gets is above its limit", mul(sent(b, 1, 2, 9), 1, 3), one(5))
		check(t, "a third is above its limit", mul(sent(b, 2, 1, 9), 2, 3), one(5))
		check(t, "what others sent each other", mul(sent(b, 1, 2, 9), 0, 5), one(5))
	}
	great := rich(6)
	for j := 1; j < 6; j++ {
		great = sent(great, 0, j, far)
	}
	check(t, "of the greatest net", mul(great, 0, 5*far+1), all(pay(0, 3, 1, top)))
	check(t, "of the greatest net, above", mul(great, 0, 5*far+1), all(pay(0, 3, 2, top)), 0)
	check(t, "of the least net", mul(great, 3, 0), all(pay(3, 0, 1, top)))
}

// P15.1: who gets more than it sends is not short, if it was not below; who gets alone, never is.
func TestWhoGetsMore(t *testing.T) {
	check(t, "nothing there", has(0, 9, 0), all(pay(0, 1, 3, normal), pay(1, 0, 4, normal)))
	check(t, "as much", has(0, 9, 0), all(pay(0, 1, 3, normal), pay(1, 0, 3, normal)))
	check(t, "one less", has(0, 9, 0), all(pay(0, 1, 3, normal), pay(1, 0, 2, normal)), 0)
	check(t, "of two", has(0, 9, 9), all(pay(0, 1, 7, urgent), pay(1, 0, 3, normal), pay(2, 0, 4, normal)))
	check(t, "still below", has(-5, 9, 9), all(pay(0, 1, 1, normal), pay(1, 0, 5, normal)), 0)
	check(t, "not below any more", has(-5, 9, 9), all(pay(0, 1, 1, normal), pay(1, 0, 6, normal)))
	check(t, "below, and gets alone", has(-50, 9, 9), all(pay(1, 0, 5, normal)))
	check(t, "above its limits, and gets alone", mul(bil(sent(has(9, 9), 0, 1, 7), 0, 1, 0), 0, 0), all(pay(1, 0, 5, normal)))
	check(t, "above its limits, gets more and sends", mul(bil(sent(has(9, 9), 0, 1, 7), 0, 1, 0), 0, api.None), all(pay(1, 0, 5, normal), pay(0, 1, 1, normal)), 0)
	check(t, "above its limit to all, gets more and sends", mul(sent(has(9, 9), 0, 1, 7), 0, 0), all(pay(1, 0, 5, normal), pay(0, 1, 1, normal)), 0)
	check(t, "its Reserve is not there, and it gets alone", books(api.Acct{Reserve: 9}, api.Acct{Balance: 9}), all(pay(1, 0, 5, normal)))
}

// P15.1: in a ring each alone falls short, and none of them all at once; if one is left out, who it was to pay does.
func TestRing(t *testing.T) {
	for n := 2; n <= api.MaxParties; n++ {
		for _, class := range classes {
			for _, amount := range []int64{1, 5, api.MaxAmount} {
				var l []api.Pay
				for i := range n {
					l = append(l, pay(i, (i+1)%n, amount, class))
				}
				b := has(make([]int64, n)...)
				for i := range n {
					b.Mul[i] = 0
				}
				check(t, "all", b, l)
				for i := range n {
					check(t, "one alone", b, l[i:i+1], i)
					check(t, "one left out", b, slices.Delete(slices.Clone(l), i, i+1), (i+1)%n)
					if amount > 1 {
						less := slices.Clone(l)
						less[i].Amount--
						check(t, "one of one less", b, less, (i+1)%n)
					}
				}
			}
		}
	}
}

// P15.1: all who are short are told, rising, whatever the order of payments.
func TestSeveralShort(t *testing.T) {
	check(t, "two", has(1, 50, 2), all(pay(2, 1, 3, top), pay(0, 1, 2, top)), 0, 2)
	check(t, "two, one behind the other", has(50, 1, 1), all(pay(2, 0, 2, top), pay(1, 0, 2, normal)), 1, 2)
	check(t, "of unlike causes", mul(bil(books(api.Acct{Balance: 9}, api.Acct{Balance: 9, Reserve: 9}, api.Acct{Balance: 9}, api.Acct{Balance: 9}, api.Acct{}), 2, 0, 3), 0, 3),
		all(pay(3, 2, 9, normal), pay(2, 0, 4, top), pay(1, 0, 1, normal), pay(0, 4, 9, top), pay(4, 3, 10, urgent)), 0, 1, 2, 4)
	check(t, "of all causes at once, told once", mul(bil(books(api.Acct{Balance: 1, Reserve: 1}, api.Acct{}), 0, 1, 0), 0, 0), slices.Repeat(all(pay(0, 1, 2, normal)), 3), 0)
	for n := 2; n <= api.MaxParties; n++ {
		var l []api.Pay
		var want []int
		for i := range n {
			l = append(l, pay(n-1-i, (n-i)%n, int64(5+i), urgent))
			want = append(want, i)
		}
		check(t, "all", has(slices.Repeat([]int64{-5}, n)...), l, want...)
		check(t, "all but one", has(append(slices.Repeat([]int64{-5}, n-1), 50)...), l, want[:n-1]...)
		check(t, "all but the first one", has(append([]int64{50}, slices.Repeat([]int64{-5}, n-1)...)...), l, want[1:]...)
	}
}

// P15.1: one that falls short, but does not send, is not told, ahead of those that are, between and behind them.
func TestWhoDoesNotSend(t *testing.T) {
	check(t, "below nothing", has(-9, 5, 5), all(pay(1, 2, 5, top)))
	check(t, "ahead of one that is short", has(-9, 5, 5), all(pay(1, 2, 6, top)), 1)
	check(t, "between two", has(0, -9, 0), all(pay(0, 1, 1, top), pay(2, 1, 1, top)), 0, 2)
	check(t, "behind one", has(0, 9, -9), all(pay(0, 1, 1, top)), 0)
	check(t, "gets, and is below", has(-9, 5), all(pay(1, 0, 5, top)))
	check(t, "above its limits", mul(bil(sent(has(5, 5, 5), 0, 1, 9), 0, 1, 2), 0, 2), all(pay(1, 2, 5, top), pay(2, 1, 5, normal)))
	check(t, "has its Reserve not", books(api.Acct{Balance: 1, Reserve: 9}, api.Acct{Balance: 5}, api.Acct{}), all(pay(1, 2, 5, normal)))
	check(t, "all but one", has(-1, -1, -1, 5, -1, -1), all(pay(3, 0, 2, top), pay(3, 5, 3, normal)))
	check(t, "all, one sends", has(-1, -1, -1, -1, -1, -1), all(pay(4, 0, 2, top), pay(4, 5, 3, normal)), 4)
}

// P15.1: one payment that comes twice is two.
func TestOneTwice(t *testing.T) {
	for _, class := range classes {
		p := pay(0, 1, 4, class)
		check(t, "for both", has(8, 0), all(p, p))
		check(t, "one less than for both", has(7, 0), all(p, p), 0)
		check(t, "for one", has(4, 0), all(p, p), 0)
		check(t, "thrice", has(12, 0), all(p, p, p))
		check(t, "thrice, one less", has(11, 0), all(p, p, p), 0)
		check(t, "a limit for both", bil(mul(has(9, 0), 0, 8), 0, 1, 8), all(p, p))
		check(t, "a limit for less", bil(has(9, 0), 0, 1, 7), all(p, p), 0)
		check(t, "a limit to all for less", mul(has(9, 0), 0, 7), all(p, p), 0)
	}
}

// P15.1: payments are told apart by what they are, not by their IDs or times.
func TestIDsAndTimesDoNotMatter(t *testing.T) {
	for _, id := range []int64{least, 0, 1, most} {
		for _, time := range []int64{least, 0, 5, most} {
			p := api.Pay{ID: id, From: 0, To: 1, Amount: 4, Class: normal, Start: time, Till: -time}
			q := api.Pay{ID: id, From: 1, To: 2, Amount: 5, Class: top, Start: -time, Till: time}
			check(t, "enough", has(4, 1, 0), all(p, q))
			check(t, "not enough", has(4, 0, 0), all(p, q), 1)
			check(t, "twice", has(7, 9, 0), all(p, q, p), 0)
		}
	}
}

// Ways: Short and Fits take payments one by one, or as a list.
func TestVariadic(t *testing.T) {
	b := has(5, 0, 2)
	p, q, r := pay(0, 1, 6, top), pay(1, 0, 3, normal), pay(2, 1, 3, urgent)
	l := all(p, q, r)
	for i, x := range []struct {
		short []int
		fits  bool
		want  []int
	}{
		{Short(b), Fits(b), nil}, {Short(b, nil...), Fits(b, nil...), nil}, {Short(b, []api.Pay{}...), Fits(b, []api.Pay{}...), nil},
		{Short(b, p), Fits(b, p), []int{0}}, {Short(b, l[:1]...), Fits(b, l[:1]...), []int{0}},
		{Short(b, p, q), Fits(b, p, q), nil}, {Short(b, l[:2]...), Fits(b, l[:2]...), nil},
		{Short(b, p, q, r), Fits(b, p, q, r), []int{2}}, {Short(b, l...), Fits(b, l...), []int{2}},
		{Short(b, p, r), Fits(b, p, r), []int{0, 2}}, {Short(b, l[1:]...), Fits(b, l[1:]...), []int{2}}, {Short(b, q), Fits(b, q), []int{1}},
	} {
		if !slices.Equal(x.short, x.want) || x.fits != (len(x.want) == 0) {
			t.Errorf("%d: %v, %t, want %v", i, x.short, x.fits, x.want)
		}
	}
}

// P15.1: all small books of two, with all short lists of small payments.
func TestSmall(t *testing.T) {
	var of []api.Pay
	for _, class := range classes {
		of = append(of, pay(0, 1, 1, class), pay(0, 1, 2, class))
	}
	of = append(of, pay(1, 0, 1, urgent), pay(1, 0, 2, normal))
	var lists [][]api.Pay
	for i, p := range of {
		lists = append(lists, all(p))
		for j, q := range of[i:] {
			lists = append(lists, all(p, q))
			for _, r := range of[i+j:] {
				lists = append(lists, all(p, q, r))
			}
		}
	}
	each := []struct{ bil, mul, pos int64 }{{-1, -1, 0}, {-1, -1, 3}, {0, -1, 0}, {1, -1, 0}, {1, -1, -1}, {2, -1, -2}, {3, -1, 1}, {-1, 0, 0}, {-1, 1, -1}, {-1, 2, 0}, {-1, 3, 1}, {2, 1, 0}, {1, 2, 0}}
	for balance := int64(-1); balance < 4; balance++ {
		for credit := range int64(2) {
			for reserve := range int64(4) {
				for _, x := range each {
					b := sent(mul(bil(books(api.Acct{Balance: balance, Credit: credit, Reserve: reserve}, api.Acct{Balance: 1, Reserve: 1}), 0, 1, x.bil), 0, x.mul), 0, 1, x.pos)
					for _, l := range lists {
						want := shortOf(b, l)
						if got := Short(b, l...); !slices.Equal(got, want) || Fits(b, l...) != (len(want) == 0) {
							t.Fatalf("Short(%v, %v) = %v, want %v", b, l, got, want)
						}
					}
				}
			}
		}
	}
}

// P15.1: any books, any payments.
func TestAny(t *testing.T) {
	x := numbers(1)
	fit, short := 0, 0
	for range 6000 {
		n := 2 + int(x.below(5))
		b, l := x.books(n), x.pays(n, int(x.below(9)))
		checkTold(t, "any", b, l)
		if Fits(b, l...) {
			fit++
		} else {
			short++
		}
	}
	for range 300 {
		n := 2 + int(x.below(5))
		checkTold(t, "many", x.books(n), x.pays(n, 50+int(x.below(15))))
	}
	if fit < 500 || short < 500 {
		t.Errorf("%d fit, %d are short", fit, short)
	}
}

// near is so much, as a whole number, and a little more or less, if that is from low to high; else other.
func (s *numbers) near(n *big.Int, low, high, other int64) int64 {
	v := plus(n, whole(s.below(3)-1))
	if v.Cmp(whole(low)) < 0 || v.Cmp(whole(high)) > 0 {
		return other
	}
	return v.Int64()
}

// tighten brings each number of books near to where one would be short.
func (s *numbers) tighten(b api.Books, l []api.Pay) api.Books {
	b = lim.Copy(b)
	for i := range b.Accts {
		a := &b.Accts[i]
		a.Balance = 0
		floor := whole(0)
		if s.below(2) == 0 {
			floor = keptOf(b, l, i)
		}
		a.Balance = s.near(minus(floor, leftOf(b, l, i)), -high, high, 5)
		if s.below(4) == 0 {
			b.Mul[i] = s.near(netOf(b, l, i), 0, set, b.Mul[i])
		}
		for j := range b.Accts {
			if s.below(8) == 0 {
				b.Bil[i][j] = s.near(posOf(b, l, i, j), 0, set, b.Bil[i][j])
			}
		}
	}
	return b
}

// P15.1: books in which each number is near to where one would be short.
func TestNear(t *testing.T) {
	x := numbers(7)
	fit, short := 0, 0
	for range 8000 {
		n := 2 + int(x.below(5))
		l := x.pays(n, 1+int(x.below(8)))
		b := has(make([]int64, n)...)
		for i := range n {
			b.Accts[i] = api.Acct{Credit: x.below(9), Reserve: x.below(9)}
			if x.below(4) == 0 {
				b.Accts[i] = api.Acct{Credit: x.below(set + 1), Reserve: x.below(set + 1)}
			}
			for j := range i {
				b = sent(b, i, j, x.position())
			}
		}
		b = x.tighten(b, l)
		checkTold(t, "near", b, l)
		if Fits(b, l...) {
			fit++
		} else {
			short++
		}
	}
	if fit < 500 || short < 500 {
		t.Errorf("%d fit, %d are short", fit, short)
	}
}

// P15.2: who is Short stays so, if others send less: one less, one not at all, or nothing.
func TestShortStaysSo(t *testing.T) {
	x := numbers(11)
	asked := 0
	stays := func(b api.Books, l []api.Pay, i int) {
		asked++
		if !slices.Contains(Short(b, l...), i) || len(l) > 0 && Fits(b, l...) {
			t.Errorf("%d is not short any more: %v, %v", i, b, l)
		}
	}
	for range 3000 {
		n := 2 + int(x.below(5))
		l := x.pays(n, 1+int(x.below(8)))
		b := x.tighten(x.books(n), l)
		for _, i := range Short(b, l...) {
			for at, p := range l {
				if p.From == i {
					continue
				}
				stays(b, slices.Delete(slices.Clone(l), at, at+1), i)
				less := slices.Clone(l)
				less[at].Amount = 1 + x.below(p.Amount)
				stays(b, less, i)
			}
			stays(b, slices.DeleteFunc(slices.Clone(l), func(p api.Pay) bool { return p.From != i }), i)
		}
	}
	if asked < 3000 {
		t.Errorf("asked %d times alone", asked)
	}
}

// roomy are b's numbers with spare room behind the end of each list, that has something in it.
func roomy(b api.Books) api.Books {
	row := func(l []int64) []int64 { return slices.Concat(l, []int64{spare, spare})[:len(l)] }
	square := func(l [][]int64) [][]int64 {
		var r [][]int64
		for _, v := range l {
			r = append(r, row(v))
		}
		return slices.Concat(r, [][]int64{{spare}})[:len(l)]
	}
	return api.Books{Accts: slices.Concat(b.Accts, []api.Acct{{Balance: spare}})[:len(b.Accts)], Bil: square(b.Bil), Mul: row(b.Mul), Pos: square(b.Pos)}
}

// isRoomy tells whether b is roomy(was), also behind each list's end.
func isRoomy(b, was api.Books) bool {
	row := func(l []int64) bool { return slices.Equal(l[len(l):len(l)+2], []int64{spare, spare}) }
	square := func(l [][]int64) bool {
		return !slices.ContainsFunc(l, func(v []int64) bool { return !row(v) }) && slices.Equal(l[:len(l)+1][len(l)], []int64{spare})
	}
	return lim.Same(b, was) && b.Accts[:len(b.Accts)+1][len(b.Accts)] == (api.Acct{Balance: spare}) && square(b.Bil) && row(b.Mul) && square(b.Pos)
}

// scribble writes into all memory of b, but for spare room.
func scribble(b api.Books) {
	for i := range b.Accts {
		b.Accts[i], b.Mul[i] = api.Acct{Balance: 91, Credit: 92, Reserve: 93}, 94
		for j := range b.Accts {
			b.Bil[i][j], b.Pos[i][j] = 95, 96
		}
	}
}

// fill sets all of l's memory, the room behind its end too.
func fill(l []int) {
	l = l[:cap(l)]
	for i := range l {
		l[i] = -99
	}
}

// eachAsked goes through books and payments of which some are short.
func eachAsked(do func(b api.Books, l []api.Pay)) {
	x := numbers(21)
	for range 400 {
		n := 2 + int(x.below(5))
		l := x.pays(n, int(x.below(12)))
		do(x.tighten(x.books(n), l), l)
		do(x.books(n), l)
	}
	do(has(-1, -1, -1, -1, -1, -1), all(pay(0, 1, 1, top), pay(1, 2, 9, normal), pay(2, 3, 1, urgent), pay(3, 4, 1, top), pay(4, 5, 8, top), pay(5, 0, 1, normal)))
	do(rich(2), slices.Repeat(all(pay(0, 1, 1, top)), 65))
	do(rich(2), all(pay(0, 1, 1, top), pay(0, 9, 1, top)))
}

// W6: books and payments stay as they were, and so does the room behind each list's end; nothing there is asked.
func TestNothingIsChanged(t *testing.T) {
	eachAsked(func(b api.Books, l []api.Pay) {
		for _, room := range []int{0, 1, 2, 70} {
			from := roomy(b)
			whole := slices.Concat(l, slices.Repeat(all(pay(1, 0, 77, normal)), room))
			was := slices.Clone(whole)
			short, fits := Short(from, whole[:len(l)]...), Fits(from, whole[:len(l)]...)
			for _, p := range l {
				May(from, p)
			}
			fill(short)
			if !isRoomy(from, b) || !slices.Equal(whole, was) {
				t.Fatalf("%v became %v, %v became %v", b, from, was, whole)
			}
			if fits != Fits(b, l...) || !slices.Equal(Short(from, whole[:len(l)]...), Short(b, l...)) {
				t.Fatalf("%v, %v: what stands behind the end is asked", b, l)
			}
		}
	})
}

// W2, W6, W7: an answer is new memory, spare room too, and stays what it is, whatever becomes of what was handed in, of another answer, and whatever is called later.
func TestAnswersAreNewMemory(t *testing.T) {
	eachAsked(func(b api.Books, l []api.Pay) {
		from, pays := lim.Copy(b), slices.Clone(l)
		one, two := Short(from, pays...), Short(from, pays...)
		want := slices.Clone(one)
		fill(one)
		three := Short(from, pays...)
		scribble(from)
		clear(pays)
		Short(has(0, 0, 0), pay(2, 1, 9, top), pay(1, 0, 99, top), pay(0, 2, 9, top))
		fill(Short(b, l...))
		if !slices.Equal(two, want) || !slices.Equal(three, want) || !slices.Equal(Short(b, l...), want) {
			t.Fatalf("Short(%v, %v) became %v, %v, want %v", b, l, two, three, want)
		}
	})
}

// W2: books that share rows are asked as any others.
func TestBooksThatShareRows(t *testing.T) {
	row := lim.Row(3, 4)
	b := has(9, 9, 9)
	b.Bil, b.Mul = [][]int64{row, row, row}, row
	check(t, "at its limits", b, all(pay(0, 1, 4, top), pay(1, 2, 4, top)))
	check(t, "above", b, all(pay(0, 1, 5, top), pay(1, 2, 4, top)), 0)
	if !slices.Equal(row, []int64{4, 4, 4}) {
		t.Errorf("a limit became %v", row)
	}
}

// noBooks are what is handed in, and is no books.
func noBooks() []api.Books {
	l := []api.Books{
		{}, {Accts: make([]api.Acct, 2)}, {Accts: make([]api.Acct, 2), Bil: make([][]int64, 2), Mul: make([]int64, 2), Pos: make([][]int64, 2)},
		{Accts: make([]api.Acct, 7), Bil: lim.Square(6, 0), Mul: lim.Row(6, 0), Pos: lim.Square(6, 0)}, {Accts: make([]api.Acct, 1000)}, {Bil: lim.Square(2, 0), Mul: lim.Row(2, 0), Pos: lim.Square(2, 0)},
	}
	for _, change := range []func(b *api.Books){
		func(b *api.Books) { b.Accts = b.Accts[:1] }, func(b *api.Books) { b.Accts = append(b.Accts, make([]api.Acct, 99)...) }, func(b *api.Books) { b.Accts[0].Balance = least }, func(b *api.Books) { b.Accts[0].Balance = most },
		func(b *api.Books) { b.Accts[0].Credit = most }, func(b *api.Books) { b.Accts[0].Credit = least }, func(b *api.Books) { b.Accts[0].Reserve = least },
		func(b *api.Books) { b.Bil = nil }, func(b *api.Books) { b.Bil = b.Bil[:1] }, func(b *api.Books) { b.Bil[0] = nil }, func(b *api.Books) { b.Bil[0] = b.Bil[0][:1] }, func(b *api.Books) { b.Bil[0][1] = -2 },
		func(b *api.Books) { b.Mul = nil }, func(b *api.Books) { b.Mul = b.Mul[:1] }, func(b *api.Books) { b.Mul[0] = least }, func(b *api.Books) { b.Mul[2] = most },
		func(b *api.Books) { b.Pos = nil }, func(b *api.Books) { b.Pos = b.Pos[:2] }, func(b *api.Books) { b.Pos[1] = nil }, func(b *api.Books) { b.Pos[1] = b.Pos[1][:1] }, func(b *api.Books) { b.Pos[0] = make([]int64, 9) },
		func(b *api.Books) { b.Pos[0][1] = most }, func(b *api.Books) { b.Pos[0][1], b.Pos[1][0] = least, least },
	} {
		l = append(l, with(rich(3), change))
	}
	return l
}

// W1, W6: what is no books, and what may not be, is asked without a panic, and stays as it was.
func TestWhatIsNotSuch(t *testing.T) {
	lists := [][]api.Pay{
		nil, all(pay(0, 1, 1, top)), all(pay(1, 0, 5, normal), pay(0, 1, 5, urgent)), all(pay(2, 0, api.MaxAmount, normal)), all(pay(5, 6, 1, top)), all(pay(6, 5, 1, top)), all(pay(999, 99, 1, top)), {{}},
		all(pay(0, 0, 1, top)), all(pay(leastInt, mostInt, least, leastInt)), all(pay(mostInt, leastInt, most, mostInt)), all(pay(-1, 0, 1, normal)), all(pay(0, 1, most, normal), pay(0, 1, most, normal)),
		slices.Repeat(all(pay(0, 1, 1, top)), 65), slices.Repeat(all(pay(0, 1, most, top)), 1<<16), slices.Repeat(all(pay(1, 2, 1, top)), 64),
	}
	for _, such := range append(noBooks(), rich(1), rich(2), rich(6)) {
		for _, l := range lists {
			b, pays := lim.Copy(such), slices.Clone(l)
			fill(Short(b, pays...))
			fits := Fits(b, pays...)
			for _, p := range pays {
				may := May(b, p)
				if fits && !may {
					t.Fatalf("%v fits, and may not be", p)
				}
			}
			if fits && len(pays) > 64 || !lim.Same(b, such) || !slices.Equal(pays, l) {
				t.Errorf("%d payments in %v: %t, %v", len(l), such, fits, b)
			}
		}
	}
}

// W2: an answer does not hang on what was asked ahead of it.
func TestAnswersStayTheSame(t *testing.T) {
	b, l := has(5, 0), all(pay(0, 1, 6, normal), pay(1, 0, 3, normal))
	for range 3 {
		if !Fits(b, l...) || Fits(b, l[0]) || Fits(b, l[1]) || !slices.Equal(Short(b, l[1]), []int{1}) || !May(b, l[0]) {
			t.Error("another answer")
		}
		Short(has(-9, -9, -9), pay(0, 1, 5, top), pay(2, 1, 5, top))
		Fits(api.Books{}, l...)
		May(api.Books{}, l[0])
	}
}
