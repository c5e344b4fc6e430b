package pair

import (
	"math"
	"math/big"
	"slices"
	"testing"

	"giro/api"
	"giro/fits"
	"giro/lim"
	"giro/post"
	"giro/row"
	"giro/view"
)

const (
	most     = math.MaxInt64
	least    = math.MinInt64
	mostInt  = math.MaxInt
	leastInt = math.MinInt
	// high is the greatest balance, and less it the least one; set is the greatest credit, reserve and limit.
	high = 1<<62 - 1
	set  = 1 << 61
	// far is the greatest position, and less it the least one.
	far = 1<<56 - 1
	// spare is what lies behind the end of a list that is handed in.
	spare = 4711
	// now is the tick at which it is asked, where a test names none: pay's payments are ready at it.
	now = 5
)

const (
	top    = api.Top
	urgent = api.Urgent
	normal = api.Normal
)

// classes are all there are.
var classes = []int{top, urgent, normal}

// books are books of such accounts, without limits, and nothing sent.
func books(l ...api.Acct) api.Books {
	n := len(l)
	return api.Books{Accts: slices.Clone(l), Bil: lim.Square(n, api.None), Mul: lim.Row(n, api.None), Pos: lim.Square(n, 0)}
}

// has is books of accounts with such balances alone.
func has(balances ...int64) api.Books {
	var l []api.Acct
	for _, n := range balances {
		l = append(l, api.Acct{Balance: n})
	}
	return books(l...)
}

// with are books, changed.
func with(b api.Books, change func(b *api.Books)) api.Books {
	c := lim.Copy(b)
	change(&c)
	return c
}

// sent are books in which i sent j so much more.
func sent(b api.Books, i, j int, n int64) api.Books {
	return with(b, func(b *api.Books) { b.Pos[i][j], b.Pos[j][i] = b.Pos[i][j]+n, b.Pos[j][i]-n })
}

// bil are books in which i has such a limit to j.
func bil(b api.Books, i, j int, limit int64) api.Books {
	return with(b, func(b *api.Books) { b.Bil[i][j] = limit })
}

// mul are books in which i has such a limit to all.
func mul(b api.Books, i int, limit int64) api.Books {
	return with(b, func(b *api.Books) { b.Mul[i] = limit })
}

// pay is a payment that is ready from 3 to 9.
func pay(id int64, from, to int, amount int64, class int) api.Pay {
	return api.Pay{ID: id, From: from, To: to, Amount: amount, Class: class, Start: 3, Till: 9}
}

// timed is a payment with another time.
func timed(p api.Pay, start, till int64) api.Pay {
	p.Start, p.Till = start, till
	return p
}

// later and over are payments that are not ready yet, and not any more.
func later(p api.Pay) api.Pay { return timed(p, now+1, now+9) }

func over(p api.Pay) api.Pay { return timed(p, 0, now-1) }

// swap is two that pay each other: 1 from 0 to 1, and 2 back.
func swap(out, back int64, class int) []api.Pay {
	return waits(pay(1, 0, 1, out, class), pay(2, 1, 0, back, class))
}

// waits is payments as a row: of one From and Class they stand as they are told.
func waits(l ...api.Pay) []api.Pay {
	l = slices.Clone(l)
	slices.SortStableFunc(l, func(a, b api.Pay) int { return 10*(a.From-b.From) + a.Class - b.Class })
	return l
}

// idsOf is the IDs of payments.
func idsOf(l []api.Pay) []int64 {
	var ids []int64
	for _, p := range l {
		ids = append(ids, p.ID)
	}
	return ids
}

// without is all payments of l but those of another list.
func without(l, some []api.Pay) []api.Pay {
	return slices.DeleteFunc(slices.Clone(l), func(p api.Pay) bool { return slices.Contains(some, p) })
}

// other is 1 of 0 and 0 of 1, and itself of all else.
func other(i int) int {
	if i > 1 {
		return i
	}
	return 1 - i
}

// turned are books in which 0 and 1 stand for each other.
func turned(b api.Books) api.Books {
	return with(b, func(c *api.Books) {
		for i := range b.Accts {
			c.Accts[i], c.Mul[i] = b.Accts[other(i)], b.Mul[other(i)]
			for j := range b.Accts {
				c.Bil[i][j], c.Pos[i][j] = b.Bil[other(i)][other(j)], b.Pos[other(i)][other(j)]
			}
		}
	})
}

// turnedRow is a row in which 0 and 1 stand for each other.
func turnedRow(l []api.Pay) []api.Pay {
	l = slices.Clone(l)
	for i := range l {
		l[i].From, l[i].To = other(l[i].From), other(l[i].To)
	}
	return waits(l...)
}

// numbers is a source of numbers that are the same in each run.
type numbers uint64

func (s *numbers) next() uint64 {
	*s ^= *s << 13
	*s ^= *s >> 7
	*s ^= *s << 17
	return uint64(*s)
}

// below is 0 to n-1.
func (s *numbers) below(n int64) int64 {
	return int64(s.next() % uint64(n))
}

// limit is one that may be, mostly none or a little one.
func (s *numbers) limit() int64 {
	return []int64{api.None, api.None, api.None, api.None, api.None, api.None, 0, set, s.below(set), s.below(9)}[s.below(10)]
}

// books are books of n parties, with little in them, and now and then with as much as there may be.
func (s *numbers) books(n int) api.Books {
	b := has(make([]int64, n)...)
	for i := range n {
		b.Accts[i] = api.Acct{Balance: s.below(7) - 2, Credit: s.below(4), Reserve: s.below(3)}
		if s.below(9) == 0 {
			b.Accts[i].Balance = []int64{-high, high, high - s.below(4)}[s.below(3)]
		}
		b.Mul[i] = s.limit()
		for j := range n {
			b.Bil[i][j] = s.limit()
		}
		for j := range i {
			b.Pos[i][j] = []int64{0, 0, 0, 0, 0, s.below(20) - 10, far - s.below(4), s.below(4) - far}[s.below(8)]
			b.Pos[j][i] = -b.Pos[i][j]
		}
	}
	return b
}

// amount is one that may be, most of them little ones.
func (s *numbers) amount() int64 {
	return []int64{1 + s.below(4), 1 + s.below(4), 1 + s.below(8), 1 + s.below(8), 1 + s.below(15), api.MaxAmount - s.below(3)}[s.below(6)]
}

// pays is a row of so many payments of n parties that may be; at now one in five is not ready.
func (s *numbers) pays(n, many int) []api.Pay {
	var l []api.Pay
	normals := []int64{0, 3, 4, 4}[s.below(4)]
	for i := range many {
		from := int(s.below(int64(n)))
		to := (from + 1 + int(s.below(int64(n-1)))) % n
		class := classes[s.below(3)]
		if s.below(4) < normals {
			class = normal
		}
		p := pay(int64(i*7%41)+100*s.below(9), from, to, s.amount(), class)
		l = append(l, []api.Pay{p, p, p, p, p, p, p, p, later(p), over(p)}[s.below(10)])
	}
	return waits(l...)
}

// What follows is what the document's words ask, told without the packages below and in whole numbers: for each number all payments are gone through.

func whole(n int64) *big.Int { return big.NewInt(n) }

func plus(a, b *big.Int) *big.Int { return new(big.Int).Add(a, b) }

func minus(a, b *big.Int) *big.Int { return new(big.Int).Sub(a, b) }

// mayOf is what may go, in order: of each From the first one that is ready, and, if none that is ready is of another class, all Normal ones.
func mayOf(l []api.Pay, tick int64) (may []api.Pay) {
	for i, p := range l {
		first, others := true, false
		for j, q := range l {
			if q.From == p.From && tick >= q.Start && tick <= q.Till {
				first, others = first && j >= i, others || q.Class != 3
			}
		}
		if tick >= p.Start && tick <= p.Till && (first || !others) {
			may = append(may, p)
		}
	}
	return may
}

// sumOf is the sum of what payments that are such pay.
func sumOf(l []api.Pay, is func(p api.Pay) bool) *big.Int {
	sum := whole(0)
	for _, p := range l {
		if is(p) {
			sum = plus(sum, whole(p.Amount))
		}
	}
	return sum
}

// balanceOf is the balance of one behind all payments.
func balanceOf(b api.Books, l []api.Pay, i int) *big.Int {
	got := sumOf(l, func(p api.Pay) bool { return p.To == i })
	out := sumOf(l, func(p api.Pay) bool { return p.From == i })
	return minus(plus(whole(b.Accts[i].Balance), got), out)
}

// keptOf is what of one's Reserve is kept behind all payments.
func keptOf(b api.Books, l []api.Pay, i int) *big.Int {
	kept := minus(whole(b.Accts[i].Reserve), sumOf(l, func(p api.Pay) bool { return p.From == i && (p.Class == 1 || p.Class == 2) }))
	if kept.Sign() < 0 {
		return whole(0)
	}
	return kept
}

// posOf is what one sent to another, less what it got from it, behind all payments.
func posOf(b api.Books, l []api.Pay, i, j int) *big.Int {
	out := sumOf(l, func(p api.Pay) bool { return p.From == i && p.To == j })
	got := sumOf(l, func(p api.Pay) bool { return p.From == j && p.To == i })
	return minus(plus(whole(b.Pos[i][j]), out), got)
}

// netOf is what one sent to all others, less what it got from them, behind all payments.
func netOf(b api.Books, l []api.Pay, i int) *big.Int {
	net := whole(0)
	for j := range b.Accts {
		if j != i {
			net = plus(net, posOf(b, l, i, j))
		}
	}
	return net
}

// isAbove tells whether so much is above a limit, if there is one.
func isAbove(n *big.Int, limit int64) bool {
	return limit != -1 && n.Cmp(whole(limit)) > 0
}

// isShort tells whether who sends a payment is Short behind all of them.
func isShort(b api.Books, l []api.Pay, p api.Pay) bool {
	least := whole(0)
	if p.Class == 3 {
		least = keptOf(b, l, p.From)
	}
	left := plus(balanceOf(b, l, p.From), whole(b.Accts[p.From].Credit))
	return left.Cmp(least) < 0 || isAbove(posOf(b, l, p.From, p.To), b.Bil[p.From][p.To]) || isAbove(netOf(b, l, p.From), b.Mul[p.From])
}

// canBePosted tells whether what comes out of payments can be held.
func canBePosted(b api.Books, l []api.Pay) bool {
	for i := range b.Accts {
		if balanceOf(b, l, i).CmpAbs(whole(1<<62)) >= 0 {
			return false
		}
		for j := range b.Accts {
			if posOf(b, l, i, j).CmpAbs(whole(1<<56)) >= 0 {
				return false
			}
		}
	}
	return true
}

// posted are books behind payments.
func posted(b api.Books, l []api.Pay) api.Books {
	return with(b, func(c *api.Books) {
		for i := range b.Accts {
			c.Accts[i].Balance, c.Accts[i].Reserve = balanceOf(b, l, i).Int64(), keptOf(b, l, i).Int64()
			for j := range b.Accts {
				c.Pos[i][j] = posOf(b, l, i, j).Int64()
			}
		}
	})
}

// arePair tells whether two are p and q.
func arePair(b api.Books, p, q api.Pay) bool {
	both := []api.Pay{p, q}
	return q.From == p.To && q.To == p.From && p.From < q.From && !isShort(b, both, p) && !isShort(b, both, q) && canBePosted(b, both)
}

// toldNext is the next two.
func toldNext(b api.Books, l []api.Pay, tick int64) (p, q api.Pay, ok bool) {
	may := mayOf(l, tick)
	for _, p := range may {
		for _, q := range may {
			if arePair(b, p, q) {
				return p, q, true
			}
		}
	}
	return api.Pay{}, api.Pay{}, false
}

// toldRun is the books behind all that go two by two, what is left, and what went.
func toldRun(b api.Books, l []api.Pay, tick int64) (c api.Books, left, done []api.Pay) {
	c, left = lim.Copy(b), slices.Clone(l)
	for p, q, ok := toldNext(c, left, tick); ok; p, q, ok = toldNext(c, left, tick) {
		both := []api.Pay{p, q}
		c, left, done = posted(c, both), without(left, both), append(done, p, q)
	}
	return c, left, done
}

// checkTold holds what Next and Run answer against what the words ask.
func checkTold(t *testing.T, what string, b api.Books, l []api.Pay, tick int64) {
	t.Helper()
	if !lim.Is(b) || !row.Is(l) {
		t.Fatalf("%s: %v, %v: no books, or no row", what, b, l)
	}
	wasB, wasL := lim.Copy(b), slices.Clone(l)
	wantP, wantQ, is := toldNext(b, l, tick)
	if p, q, ok := Next(b, l, tick); p != wantP || q != wantQ || ok != is {
		t.Errorf("%s: Next(%v, %v, %d) = %v, %v, %t, want %v, %v, %t", what, b, l, tick, p, q, ok, wantP, wantQ, is)
	}
	wantC, wantLeft, wantDone := toldRun(b, l, tick)
	c, left, done := Run(b, l, tick)
	if !lim.Same(c, wantC) || !slices.Equal(left, wantLeft) || !slices.Equal(done, wantDone) {
		t.Errorf("%s: Run(%v, %v, %d) = %v, %v, %v, want %v, %v, %v", what, b, l, tick, c, left, done, wantC, wantLeft, wantDone)
	}
	if p, q, ok := Next(c, left, tick); ok || p != (api.Pay{}) || q != (api.Pay{}) {
		t.Errorf("%s: behind Run(%v, %v, %d) there are %v, %v", what, b, l, tick, p, q)
	}
	if !lim.Same(b, wasB) || !slices.Equal(l, wasL) {
		t.Errorf("%s: %v, %v became %v, %v", what, wasB, wasL, b, l)
	}
}

// checkAt holds the IDs of what went at a tick against those that the test names, in the order in which they went.
func checkAt(t *testing.T, what string, b api.Books, l []api.Pay, tick int64, ids ...int64) {
	t.Helper()
	p, q, ok := Next(b, l, tick)
	if ok != (len(ids) > 0) || ok && (p.ID != ids[0] || q.ID != ids[1]) {
		t.Errorf("%s: Next(%v, %v, %d) = %v, %v, %t, want %v", what, b, l, tick, p, q, ok, ids)
	}
	_, left, done := Run(b, l, tick)
	if !slices.Equal(idsOf(done), ids) || !slices.Equal(left, without(l, done)) {
		t.Errorf("%s: Run(%v, %v, %d): %v went, %v are left, want %v", what, b, l, tick, idsOf(done), idsOf(left), ids)
	}
	checkTold(t, what, b, l, tick)
}

// check is checkAt now.
func check(t *testing.T, what string, b api.Books, l []api.Pay, ids ...int64) {
	t.Helper()
	checkAt(t, what, b, l, now, ids...)
}

// checkTwo asks of a row that has one pair at most, 1 from 0 to 1 and 2 back, whether they go; and the same with 0 and 1 standing for each other.
func checkTwo(t *testing.T, what string, b api.Books, l []api.Pay, goes bool) {
	t.Helper()
	if !goes {
		check(t, what, b, l)
		check(t, what+", turned", turned(b), turnedRow(l))
		return
	}
	check(t, what, b, l, 1, 2)
	check(t, what+", turned", turned(b), turnedRow(l), 2, 1)
}

// P19.1: the document's example.
func TestExample(t *testing.T) {
	b, l := has(0, 0), swap(5, 5, normal)
	check(t, "the example", b, l, 1, 2)
	c, left, done := Run(b, l, now)
	if !lim.Same(c, b) || len(left) != 0 || !slices.Equal(done, l) {
		t.Errorf("%v, %v, %v", c, left, done)
	}
	c, left, done = Run(has(2, 0), swap(7, 5, normal), now)
	if !lim.Same(c, sent(has(0, 2), 0, 1, 2)) || len(left) != 0 || !slices.Equal(done, swap(7, 5, normal)) {
		t.Errorf("%v, %v, %v", c, left, done)
	}
}

// P19.1, W5: where nothing waits nothing goes, whether the row is nil or empty.
func TestNothingWaits(t *testing.T) {
	x := numbers(3)
	for _, l := range [][]api.Pay{nil, {}, make([]api.Pay, 0, 5), swap(1, 1, top)[:0], swap(1, 1, top)[2:]} {
		for n := 1; n <= api.MaxParties; n++ {
			for _, tick := range []int64{least, -1, 0, 5, most} {
				checkAt(t, "nothing", x.books(n), l, tick)
			}
		}
	}
}

// P19.1: one alone never goes, though it fits.
func TestOne(t *testing.T) {
	for n := 2; n <= api.MaxParties; n++ {
		rich := has(slices.Repeat([]int64{99}, n)...)
		for from := range n {
			for to := range n {
				for _, class := range classes {
					if from != to {
						check(t, "one", rich, waits(pay(8, from, to, 7, class)))
						check(t, "one of all it has", rich, waits(pay(8, from, to, 99, class)))
						check(t, "one behind the end of a pair", rich, swap(5, 5, class)[:1])
					}
				}
			}
		}
	}
}

// P19.1: two go, of any class, of any two, the lesser From first, and what they move is moved.
func TestTwo(t *testing.T) {
	for n := 2; n <= api.MaxParties; n++ {
		for i := range n {
			for j := range i {
				for _, class := range classes {
					for _, back := range classes {
						b := has(make([]int64, n)...)
						check(t, "two", b, waits(pay(3, j, i, 7, class), pay(4, i, j, 7, back)), 3, 4)
						check(t, "two, told otherwise", b, waits(pay(3, i, j, 7, class), pay(4, j, i, 7, back)), 4, 3)
						b.Accts[j] = api.Acct{Balance: 3, Reserve: 1}
						check(t, "two that are not alike", b, waits(pay(4, j, i, 9, class), pay(3, i, j, 7, back)), 4, 3)
						check(t, "two that are too unlike", b, waits(pay(4, j, i, 9, class), pay(3, i, j, 5, back)))
					}
				}
			}
		}
	}
}

// P19.1: of two, neither need fit alone; a difference may be just what one has, not one more.
func TestDifference(t *testing.T) {
	for _, class := range classes {
		for _, n := range []int64{1, 2, 5, 1000, api.MaxAmount} {
			checkTwo(t, "none", has(0, 0), swap(n, n, class), true)
			checkTwo(t, "of those below nothing", has(-1, -1), swap(n, n, class), false)
			checkTwo(t, "of one below nothing", has(-1, 9), swap(n, n, class), false)
		}
		for _, n := range []int64{2, 5, 1000, api.MaxAmount} {
			checkTwo(t, "of 1, with nothing", has(0, 9), swap(n, n-1, class), false)
			checkTwo(t, "of 1, just enough", has(1, 0), swap(n, n-1, class), true)
			checkTwo(t, "of n-1, just enough", has(n-1, 0), swap(n, 1, class), true)
			checkTwo(t, "of n-1, one short", has(n-2, 0), swap(n, 1, class), false)
			checkTwo(t, "to one below nothing", has(n-1, 1-n), swap(n, 1, class), true)
			checkTwo(t, "to one below nothing, one short", has(n-1, -n), swap(n, 1, class), false)
		}
	}
}

// P19.1: two that fit each alone go together as well; of two of which one fits alone, the other need not.
func TestEachAlone(t *testing.T) {
	for _, class := range classes {
		checkTwo(t, "each", has(9, 9), swap(5, 7, class), true)
		checkTwo(t, "the first alone", has(5, 0), swap(5, 3, class), true)
		checkTwo(t, "the first alone, and just so much back", has(5, 0), swap(5, 5, class), true)
		checkTwo(t, "the first alone, and more back than there is", has(5, 0), swap(5, 6, class), false)
		checkTwo(t, "the other alone", has(2, 5), swap(7, 5, class), true)
		checkTwo(t, "the other alone, and more out than there is", has(1, 5), swap(7, 5, class), false)
	}
	x := numbers(29)
	alone := func(b api.Books, p api.Pay) bool {
		_, e := post.Post(b, p)
		return fits.Fits(b, p) && e == api.OK
	}
	many := 0
	for range 4000 {
		b, l := x.books(2), waits(pay(1, 0, 1, x.amount(), classes[x.below(3)]), pay(2, 1, 0, x.amount(), classes[x.below(3)]))
		if alone(b, l[0]) && alone(b, l[1]) {
			many++
			check(t, "each alone", b, l, 1, 2)
		}
	}
	if many < 100 {
		t.Errorf("%d fit each alone", many)
	}
}

// P19.1: two that fit each alone and not together are no pair, as are any two of one From, of one To, and round a third.
func TestNoPair(t *testing.T) {
	for _, class := range classes {
		for _, b := range []api.Books{has(5, 5, 5), has(0, 0, 0), has(99, 99, 99)} {
			check(t, "of one From to one To", b, waits(pay(1, 0, 1, 5, class), pay(2, 0, 1, 5, class)))
			check(t, "of one From", b, waits(pay(1, 0, 1, 5, class), pay(2, 0, 2, 5, class)))
			check(t, "of the other From to one To", b, waits(pay(1, 1, 0, 5, class), pay(2, 1, 0, 5, class)))
			check(t, "to one To", b, waits(pay(1, 0, 2, 5, class), pay(2, 1, 2, 5, class)))
			check(t, "to a third", b, waits(pay(1, 0, 1, 5, class), pay(2, 1, 2, 5, class)))
			check(t, "from a third", b, waits(pay(1, 0, 1, 5, class), pay(2, 2, 0, 5, class)))
			check(t, "to the lesser one, to a third", b, waits(pay(1, 1, 0, 5, class), pay(2, 0, 2, 5, class)))
			check(t, "to the lesser one, from a third", b, waits(pay(1, 1, 0, 5, class), pay(2, 2, 1, 5, class)))
			check(t, "a ring", b, waits(pay(1, 0, 1, 5, class), pay(2, 1, 2, 5, class), pay(3, 2, 0, 5, class)))
			check(t, "a ring turned round", b, waits(pay(1, 0, 2, 5, class), pay(2, 2, 1, 5, class), pay(3, 1, 0, 5, class)))
			check(t, "a ring of four", has(5, 5, 5, 5), waits(pay(1, 0, 1, 5, class), pay(2, 1, 2, 5, class), pay(3, 2, 3, 5, class), pay(4, 3, 0, 5, class)))
			check(t, "three of one From", b, waits(pay(1, 1, 0, 5, class), pay(2, 1, 2, 5, class), pay(3, 1, 0, 5, class)))
		}
	}
}

// P19.1: the one of the lesser From is p, whichever was put first, of the lesser ID, of the lesser Class or of the greater amount; and also in a list where q stands ahead of it.
func TestLesserFrom(t *testing.T) {
	for _, class := range classes {
		for _, back := range classes {
			p, q := pay(9, 2, 3, 6, class), pay(1, 3, 2, 4, back)
			b := has(0, 0, 2, 0)
			for _, told := range [][]api.Pay{{p, q}, {q, p}} {
				l, e := row.Put(nil, told[0])
				l, f := row.Put(l, told[1])
				if e != api.OK || f != api.OK {
					t.Fatal(e, f)
				}
				check(t, "put", b, l, 9, 1)
				first, second, ok := Next(b, told, now)
				c, left, done := Run(b, told, now)
				if first != p || second != q || !ok || len(left) != 0 || !slices.Equal(done, []api.Pay{p, q}) || !lim.Same(c, sent(has(0, 0, 0, 2), 2, 3, 2)) {
					t.Errorf("of %v: %v, %v, %t, %v, %v, %v", told, first, second, ok, c, left, done)
				}
			}
		}
	}
}

// P19.1: two go from the later Start to the earlier Till, not one ahead, not one behind.
func TestTimes(t *testing.T) {
	for _, x := range []struct{ start, between, till int64 }{
		{0, 0, 0}, {0, 0, 1}, {3, 3, 3}, {3, 4, 5}, {-5, -4, -3}, {-1, 0, 1}, {0, 9, api.MaxTick}, {1 << 32, 1<<32 + 1, 1<<32 + 2},
		{least + 1, 0, most - 1}, {most - 1, most - 1, most - 1}, {least + 1, least + 1, least + 1},
	} {
		for _, class := range classes {
			l := swap(5, 5, class)
			p, q := l[0], l[1]
			for _, l := range [][]api.Pay{
				waits(timed(p, x.start, x.till), timed(q, x.start, x.till)), waits(timed(p, x.start, x.till), timed(q, least, most)), waits(timed(p, least, most), timed(q, x.start, x.till)),
				waits(timed(p, x.start, most), timed(q, least, x.till)), waits(timed(p, least, x.till), timed(q, x.start, most)),
			} {
				for _, tick := range []int64{x.start, x.between, x.till} {
					checkAt(t, "ready", has(0, 0), l, tick, 1, 2)
				}
				for _, tick := range []int64{x.start - 1, x.till + 1} {
					checkAt(t, "not ready", has(0, 0), l, tick)
					always := []api.Pay{timed(pay(3, 0, 2, 4, class), least, most), timed(pay(4, 2, 0, 4, class), least, most)}
					if class == normal {
						checkAt(t, "not ready, and others", has(0, 0, 0), waits(append(always, l...)...), tick, 3, 4)
					}
				}
			}
		}
	}
	l := swap(5, 5, normal)
	l[0] = timed(l[0], least, most)
	for _, tick := range []int64{least, -1, 0, 2, 10, 1 << 32, most} {
		checkAt(t, "one alone", has(9, 9), l, tick)
		checkAt(t, "never", has(9, 9), waits(l[0], timed(l[1], 5, 4)), tick)
		checkAt(t, "always", has(0, 0), waits(l[0], timed(l[1], least, most)), tick, 1, 2)
	}
}

// P19.1: what is ready of several pairs, at each tick.
func TestReadyOfSeveral(t *testing.T) {
	l := waits(timed(pay(1, 0, 1, 1, normal), 2, 4), timed(pay(2, 0, 1, 1, normal), 4, 6), timed(pay(3, 0, 2, 1, normal), 3, 7), timed(pay(4, 1, 0, 1, normal), 3, 6), timed(pay(5, 2, 0, 1, top), 0, 3), timed(pay(6, 1, 0, 1, normal), 4, 4))
	for tick, ids := range map[int64][]int64{-1: nil, 0: nil, 2: nil, 3: {1, 4, 3, 5}, 4: {1, 4, 2, 6}, 5: {2, 4}, 6: {2, 4}, 7: nil, 8: nil, 1<<32 + 4: nil} {
		checkAt(t, "several", has(0, 0, 0), l, tick, ids...)
	}
}

// P19.1: none of which two fit, whoever sends them, and of whatever class.
func TestNoneFits(t *testing.T) {
	for _, class := range classes {
		check(t, "none of two", has(5, 5), swap(1, 7, class))
		check(t, "none of many", has(0, 0, 0), waits(pay(1, 0, 1, 1, class), pay(2, 0, 2, 1, class), pay(3, 1, 0, 2, class), pay(4, 2, 1, 1, class), pay(5, 2, 0, api.MaxAmount, class), pay(6, 1, 2, 3, class)))
	}
	for _, b := range []api.Books{has(-1, -1, -1), has(-high, -high, -high), has(-1, 9, -1), books(api.Acct{Balance: -6, Credit: 5}, api.Acct{Balance: -7, Credit: 6, Reserve: 3}, api.Acct{Balance: -set - 1, Credit: set})} {
		check(t, "none of all", b, waits(pay(1, 0, 1, 1, top), pay(2, 1, 0, 1, urgent), pay(3, 2, 0, 1, normal), pay(4, 0, 2, 1, normal), pay(5, 1, 2, 1, urgent), pay(6, 2, 1, 1, normal)))
	}
}

// P19.1: of a p with more than one q the first one that goes with it goes, of whatever ID and amount.
func TestMoreThanOneBack(t *testing.T) {
	l := waits(pay(9, 0, 1, 5, normal), pay(7, 1, 0, 9, normal), pay(5, 1, 0, 5, normal), pay(8, 1, 0, 3, normal), pay(6, 1, 0, 6, normal))
	for _, x := range []struct {
		what string
		b    api.Books
		ids  []int64
	}{
		{"the first", has(0, 4), []int64{9, 7}}, {"the first, with more than enough", has(99, 99), []int64{9, 7}}, {"the second", has(0, 3), []int64{9, 5}}, {"the second, with nothing", has(0, 0), []int64{9, 5}},
		{"the third", bil(sent(has(2, 0), 1, 0, 2), 1, 0, 0), []int64{9, 8}}, {"the fourth", bil(sent(has(0, 1), 0, 1, 1), 0, 1, 0), []int64{9, 6}}, {"none", has(-1, 0), nil}, {"none, by the other", has(1, -1), nil},
	} {
		check(t, x.what, x.b, l, x.ids...)
	}
	check(t, "all the same", has(0, 0), waits(pay(9, 0, 1, 5, normal), pay(7, 1, 0, 5, normal), pay(5, 1, 0, 5, normal), pay(8, 1, 0, 5, normal)), 9, 7)
	check(t, "behind some to others", has(0, 0, 0), waits(pay(9, 0, 1, 5, normal), pay(4, 1, 2, 5, normal), pay(7, 1, 0, 6, normal), pay(3, 1, 2, 5, normal), pay(5, 1, 0, 5, normal)), 9, 5)
	check(t, "a q that is first of its From, and later ones", has(0, 0), waits(pay(9, 0, 1, 5, urgent), pay(7, 1, 0, 5, normal), pay(5, 1, 0, 5, normal)), 9, 7)
}

// P19.1: of a q with more than one p the first one of May goes.
func TestMoreThanOneOut(t *testing.T) {
	l := waits(pay(9, 0, 1, 9, normal), pay(7, 0, 1, 5, normal), pay(8, 0, 1, 3, normal), pay(1, 1, 0, 5, normal))
	check(t, "the first", has(4, 0), l, 9, 1)
	check(t, "the first, with more than enough", has(99, 99), l, 9, 1)
	check(t, "the second", has(3, 0), l, 7, 1)
	check(t, "the second, with nothing", has(0, 0), l, 7, 1)
	check(t, "the third", bil(sent(has(9, 2), 0, 1, 2), 0, 1, 0), l, 8, 1)
	check(t, "none", has(9, -1), l[2:])
	check(t, "all the same", has(0, 0), waits(pay(9, 0, 1, 5, normal), pay(7, 0, 1, 5, normal), pay(8, 0, 1, 5, normal), pay(1, 1, 0, 5, normal)), 9, 1)
	check(t, "the first p, not the first q", has(0, 0), waits(pay(4, 0, 1, 5, normal), pay(3, 0, 1, 6, normal), pay(2, 1, 0, 6, normal), pay(1, 1, 0, 5, normal)), 4, 1, 3, 2)
	check(t, "two p, two q", has(0, 0), waits(pay(4, 0, 1, 5, normal), pay(3, 0, 1, 5, normal), pay(2, 1, 0, 5, normal), pay(1, 1, 0, 5, normal)), 4, 2, 3, 1)
	check(t, "two p, two q, of which the first take each other", has(1, 1), waits(pay(4, 0, 1, 5, normal), pay(3, 0, 1, 7, normal), pay(2, 1, 0, 6, normal), pay(1, 1, 0, 4, normal)), 4, 2)
}

// P19.1: the first of May that goes with another goes first; what goes with nobody is left, wherever it stands.
func TestFirstOfMay(t *testing.T) {
	for _, class := range classes {
		check(t, "behind one of another From", has(9, 0, 0), waits(pay(1, 0, 1, 9, class), pay(2, 1, 2, 5, class), pay(3, 2, 1, 5, class)), 2, 3)
		check(t, "behind one to whom nobody pays", has(9, 0, 0, 9), waits(pay(1, 0, 3, 9, class), pay(2, 1, 2, 5, class), pay(3, 2, 1, 5, class), pay(4, 3, 1, 9, class)), 2, 3)
		check(t, "behind a pair that does not fit", has(0, 0, 0, 0), waits(pay(1, 0, 1, 5, class), pay(2, 1, 0, 6, class), pay(3, 2, 3, 5, class), pay(4, 3, 2, 5, class)), 3, 4)
		check(t, "between", has(9, 9, 9, 9), waits(pay(1, 0, 3, 5, class), pay(2, 1, 0, 5, class), pay(3, 2, 1, 5, class), pay(4, 3, 0, 5, class)), 1, 4)
		check(t, "the lesser From first", has(0, 0, 0, 0), waits(pay(4, 3, 2, 5, class), pay(3, 2, 3, 5, class), pay(2, 1, 0, 5, class), pay(1, 0, 1, 5, class)), 1, 2, 3, 4)
		check(t, "one round the other", has(0, 0, 0, 0), waits(pay(1, 0, 3, 5, class), pay(2, 1, 2, 4, class), pay(3, 2, 1, 4, class), pay(4, 3, 0, 5, class)), 1, 4, 2, 3)
		check(t, "crossed", has(0, 0, 0, 0), waits(pay(1, 0, 2, 5, class), pay(2, 1, 3, 4, class), pay(3, 2, 0, 5, class), pay(4, 3, 1, 4, class)), 1, 3, 2, 4)
		check(t, "three pairs", has(0, 0, 0, 0, 0, 0), waits(pay(1, 0, 5, 5, class), pay(2, 1, 3, 4, class), pay(3, 2, 4, 6, class), pay(4, 3, 1, 4, class), pay(5, 4, 2, 6, class), pay(6, 5, 0, 5, class)), 1, 6, 2, 4, 3, 5)
		check(t, "three pairs, of which the second does not fit", has(0, 0, 0, 0, 0, 0), waits(pay(1, 0, 5, 5, class), pay(2, 1, 3, 4, class), pay(3, 2, 4, 6, class), pay(4, 3, 1, 3, class), pay(5, 4, 2, 6, class), pay(6, 5, 0, 5, class)), 1, 6, 3, 5)
	}
	check(t, "behind Normal ones of its From", has(9, 0, 0), waits(pay(1, 0, 1, 5, normal), pay(2, 0, 2, 5, normal), pay(3, 2, 0, 5, normal)), 2, 3)
	check(t, "both behind Normal ones", has(0, 0, 0), waits(pay(1, 0, 1, 5, normal), pay(2, 0, 2, 5, normal), pay(3, 2, 1, 5, normal), pay(4, 2, 0, 5, normal)), 2, 4)
}

// P19.1: what stands behind a Top or an Urgent one of its From is not of May, and is no half of a pair till the one ahead is gone.
func TestHeldBack(t *testing.T) {
	for _, class := range []int{top, urgent} {
		ahead := pay(3, 0, 2, 9, class)
		for _, behind := range []int{class, urgent, normal} {
			if behind < class {
				continue
			}
			held := []api.Pay{pay(1, 0, 1, 5, behind), pay(2, 1, 0, 5, normal)}
			checkTwo(t, "behind one that goes with nobody", has(0, 0, 0), waits(append([]api.Pay{ahead}, held...)...), false)
			checkTwo(t, "behind one that goes with nobody, and would go alone", has(99, 99, 99), waits(append([]api.Pay{ahead}, held...)...), false)
			checkTwo(t, "behind one that does not fit with another", has(0, 0, 0), waits(append([]api.Pay{ahead, pay(4, 2, 0, 8, normal)}, held...)...), false)
			check(t, "behind one that goes with another", has(0, 0, 0), waits(append([]api.Pay{ahead, pay(4, 2, 0, 9, normal)}, held...)...), 3, 4, 1, 2)
			check(t, "behind one that goes with the same", has(0, 0), waits(pay(3, 0, 1, 9, class), pay(1, 0, 1, 5, behind), pay(4, 1, 0, 9, normal), pay(2, 1, 0, 5, normal)), 3, 4, 1, 2)
			checkTwo(t, "behind one that is not ready", has(0, 0, 0), waits(append([]api.Pay{later(ahead)}, held...)...), true)
			checkTwo(t, "behind one whose time is over", has(0, 0, 0), waits(append([]api.Pay{over(ahead)}, held...)...), true)
		}
		check(t, "both behind such ones", has(0, 0, 0), waits(pay(1, 0, 1, 5, normal), pay(2, 1, 0, 5, normal), ahead, pay(4, 1, 2, 9, class)))
		check(t, "a Normal one behind such a one, and the other of its From", has(0, 0), waits(pay(3, 0, 1, 6, class), pay(1, 0, 1, 5, normal), pay(2, 1, 0, 5, normal)))
		check(t, "it holds back none of another From", has(0, 0, 0), waits(ahead, pay(1, 1, 2, 5, normal), pay(5, 1, 2, 4, normal), pay(2, 2, 1, 4, normal)), 5, 2)
	}
	check(t, "a Top one ahead of an Urgent one", has(0, 0, 0), waits(pay(1, 0, 2, 5, top), pay(2, 0, 1, 5, urgent), pay(3, 1, 0, 5, urgent)))
	check(t, "a Top one that goes, an Urgent one that goes then, and Normal ones", has(0, 0, 0), waits(pay(4, 0, 1, 4, normal), pay(1, 0, 2, 5, top), pay(2, 0, 1, 6, urgent), pay(3, 1, 0, 6, normal), pay(5, 2, 0, 5, urgent), pay(6, 1, 0, 4, normal)), 1, 5, 2, 3, 4, 6)
}

// P19.1: one of the two, or both, that are themselves Top or Urgent.
func TestTopAndUrgent(t *testing.T) {
	for _, out := range classes {
		for _, back := range classes {
			l := waits(pay(1, 0, 1, 7, out), pay(2, 1, 0, 5, back))
			checkTwo(t, "with nothing", has(1, 0), l, false)
			checkTwo(t, "just enough", has(2, 0), l, true)
			b := books(api.Acct{Balance: 6, Reserve: 5}, api.Acct{Reserve: 2})
			checkTwo(t, "with Reserves", b, l, out != normal)
			check(t, "the first of several", has(2, 0), append(slices.Clone(l), pay(3, 1, 0, 7, normal)), 1, 2)
		}
	}
}

// P19.1: two that fit and can't be Posted stay, and another pair behind them goes.
func TestCanNotBePosted(t *testing.T) {
	full := has(9, high-3, 0, 0)
	for _, class := range classes {
		checkTwo(t, "just as much as can be held", full, swap(5, 2, class), true)
		checkTwo(t, "one more", full, swap(6, 2, class), false)
		checkTwo(t, "on the way alone", has(0, high), swap(5, 5, class), true)
		checkTwo(t, "on the way alone, the greatest", has(0, high), swap(api.MaxAmount, api.MaxAmount, class), true)
		checkTwo(t, "both full", has(high, high), swap(5, 5, class), true)
		checkTwo(t, "both full, one more", has(high, high), swap(6, 5, class), false)
		checkTwo(t, "a position just as great as can be", sent(has(9, 0), 0, 1, far-4), swap(6, 2, class), true)
		checkTwo(t, "a position one more", sent(has(9, 0), 0, 1, far-3), swap(6, 2, class), false)
		checkTwo(t, "a position on the way alone", sent(has(0, 0), 0, 1, far), swap(6, 6, class), true)
		checkTwo(t, "a position that falls", sent(has(9, 0), 1, 0, far), swap(6, 2, class), true)
		checkTwo(t, "the greatest, and its balance", has(api.MaxAmount, high-api.MaxAmount+1), swap(api.MaxAmount, 1, class), true)
		checkTwo(t, "the greatest, and one more", has(api.MaxAmount, high-api.MaxAmount+2), swap(api.MaxAmount, 1, class), false)
		check(t, "and another pair", full, waits(pay(1, 0, 1, 6, class), pay(2, 1, 0, 2, class), pay(3, 2, 3, 5, class), pay(4, 3, 2, 5, class)), 3, 4)
		check(t, "one that can not be, twice, and another", has(9, high, 9, high, 0, 0), waits(pay(1, 0, 1, 6, class), pay(2, 1, 0, 2, class), pay(3, 2, 3, 6, class), pay(4, 3, 2, 5, class), pay(5, 4, 5, 1, class), pay(6, 5, 4, 1, class)), 5, 6)
	}
	check(t, "the first q can not be, the next can", full, waits(pay(1, 0, 1, 6, normal), pay(2, 1, 0, 2, normal), pay(3, 1, 0, 3, normal)), 1, 3)
	check(t, "the first p can not be, the next can", full, waits(pay(1, 0, 1, 6, normal), pay(2, 0, 1, 5, normal), pay(3, 1, 0, 2, normal)), 2, 3)
	check(t, "Normal ones of its From", full, waits(pay(1, 0, 1, 6, normal), pay(2, 1, 0, 2, normal), pay(3, 0, 2, 5, normal), pay(4, 2, 0, 5, normal)), 3, 4)
	check(t, "a Top one holds back its From", full, waits(pay(1, 0, 1, 6, top), pay(2, 1, 0, 2, normal), pay(3, 0, 2, 5, normal), pay(4, 2, 0, 5, normal)))
	check(t, "till it can be", full, waits(pay(1, 0, 1, 6, normal), pay(2, 1, 0, 2, normal), pay(3, 1, 2, 5, normal), pay(4, 2, 1, 4, normal)), 3, 4, 1, 2)
}

// P19.1: what goes by a Credit, on either side.
func TestCredit(t *testing.T) {
	for _, class := range classes {
		for _, x := range []struct {
			a    api.Acct
			goes bool
		}{
			{api.Acct{Credit: 4}, false}, {api.Acct{Credit: 5}, true}, {api.Acct{Balance: 2, Credit: 2}, false}, {api.Acct{Balance: 2, Credit: 3}, true}, {api.Acct{Balance: -3, Credit: 7}, false}, {api.Acct{Balance: -3, Credit: 8}, true},
			{api.Acct{Balance: 5 - set, Credit: set}, true}, {api.Acct{Balance: 4 - set, Credit: set}, false}, {api.Acct{Balance: high, Credit: set}, true}, {api.Acct{Balance: -high, Credit: set}, false},
		} {
			checkTwo(t, "of who sends more", books(x.a, api.Acct{}), swap(7, 2, class), x.goes)
		}
		checkTwo(t, "of who gets more", books(api.Acct{Balance: 4}, api.Acct{Credit: 99}), swap(7, 2, class), false)
		checkTwo(t, "of who gets more and lies below", books(api.Acct{Balance: 5}, api.Acct{Balance: -9, Credit: 4}), swap(7, 2, class), true)
		checkTwo(t, "of who gets more and lies further below", books(api.Acct{Balance: 5}, api.Acct{Balance: -10, Credit: 4}), swap(7, 2, class), false)
		check(t, "used up", books(api.Acct{Credit: 5}, api.Acct{}, api.Acct{}), waits(pay(1, 0, 1, 5, class), pay(2, 1, 0, 2, class), pay(3, 0, 2, 5, class), pay(4, 2, 0, 2, class)), 1, 2)
	}
}

// P19.1: what is held by a Reserve, on either side: Normal ones alone; what goes Top and Urgent spends of it.
func TestReserve(t *testing.T) {
	kept := books(api.Acct{Balance: 9, Reserve: 4}, api.Acct{})
	checkTwo(t, "just what it leaves", kept, swap(7, 2, normal), true)
	checkTwo(t, "one more", kept, swap(8, 2, normal), false)
	checkTwo(t, "of who gets more", books(api.Acct{Balance: 9}, api.Acct{Reserve: 5}), swap(7, 2, normal), true)
	checkTwo(t, "of who gets more, one short", books(api.Acct{Balance: 9}, api.Acct{Reserve: 6}), swap(7, 2, normal), false)
	checkTwo(t, "above what there is", books(api.Acct{Reserve: 1}, api.Acct{}), swap(5, 5, normal), false)
	checkTwo(t, "of both", books(api.Acct{Balance: 4, Reserve: 4}, api.Acct{Balance: 3, Reserve: 3}), swap(5, 5, normal), true)
	check(t, "the first is held, the next goes", kept, waits(pay(1, 0, 1, 8, normal), pay(2, 0, 1, 7, normal), pay(3, 1, 0, 2, normal)), 2, 3)
	for _, class := range []int{top, urgent} {
		checkTwo(t, "all of it", kept, swap(11, 2, class), true)
		checkTwo(t, "one more than all", kept, swap(12, 2, class), false)
		checkTwo(t, "above what there is, both", books(api.Acct{Reserve: 9}, api.Acct{Reserve: 9}), swap(5, 5, class), true)
		checkTwo(t, "above what there is, and a Normal one back", books(api.Acct{Reserve: 9}, api.Acct{}), waits(pay(1, 0, 1, 5, class), pay(2, 1, 0, 5, normal)), true)
		checkTwo(t, "above what there is, of who sends the Normal one", books(api.Acct{}, api.Acct{Reserve: 9}), waits(pay(1, 0, 1, 5, class), pay(2, 1, 0, 5, normal)), false)
		check(t, "spent, and Normal ones", kept, waits(pay(1, 0, 1, 3, class), pay(3, 0, 1, 9, normal), pay(4, 0, 1, 8, normal), pay(2, 1, 0, 3, normal), pay(5, 1, 0, 1, normal), pay(6, 1, 0, 1, normal)), 1, 2, 3, 5)
		check(t, "what comes back does not fill it", kept, waits(pay(1, 0, 1, 3, class), pay(2, 1, 0, 3, class), pay(3, 0, 1, 9, normal), pay(4, 1, 0, 1, normal)), 1, 2, 3, 4)
	}
}

// P19.1: what is held by a limit to one, and by what was sent to that one, on either side.
func TestLimitsToOne(t *testing.T) {
	for _, class := range classes {
		b := bil(has(99, 99, 99), 0, 1, 5)
		checkTwo(t, "just the limit", b, swap(7, 2, class), true)
		checkTwo(t, "one more", b, swap(8, 2, class), false)
		checkTwo(t, "one more, and one more back", b, swap(8, 3, class), true)
		checkTwo(t, "of who gets more", b, swap(2, 9, class), true)
		checkTwo(t, "to a third", bil(bil(has(99, 99, 99), 0, 2, 0), 1, 2, 0), swap(9, 2, class), true)
		checkTwo(t, "no limit", bil(b, 0, 1, api.None), swap(99, 2, class), true)
		checkTwo(t, "0", bil(b, 0, 1, 0), swap(5, 5, class), true)
		checkTwo(t, "0, and one more", bil(b, 0, 1, 0), swap(6, 5, class), false)
		checkTwo(t, "0 of both", bil(bil(b, 0, 1, 0), 1, 0, 0), swap(5, 5, class), true)
		checkTwo(t, "a Position", sent(b, 0, 1, 2), swap(5, 2, class), true)
		checkTwo(t, "a Position, one more", sent(b, 0, 1, 2), swap(6, 2, class), false)
		checkTwo(t, "a Position below 0", sent(b, 1, 0, 2), swap(9, 2, class), true)
		checkTwo(t, "a Position below 0, one more", sent(b, 1, 0, 2), swap(10, 2, class), false)
		checkTwo(t, "a Position above it", sent(b, 0, 1, 9), swap(1, 4, class), false)
		checkTwo(t, "a Position above it, that falls to it", sent(b, 0, 1, 9), swap(1, 5, class), true)
		checkTwo(t, "a Position to a third", sent(b, 0, 2, 99), swap(7, 2, class), true)
		check(t, "used up", b, waits(pay(1, 0, 1, 7, class), pay(2, 1, 0, 2, class), pay(3, 0, 1, 2, class), pay(4, 1, 0, 1, class)), 1, 2)
	}
	b := bil(has(99, 99, 99), 0, 1, 2)
	check(t, "the first is held, that to another goes", b, waits(pay(1, 0, 1, 5, normal), pay(2, 1, 0, 2, normal), pay(3, 0, 2, 9, normal), pay(4, 2, 0, 1, normal)), 3, 4)
	check(t, "an Urgent one is held, none of its From goes", b, waits(pay(1, 0, 1, 5, urgent), pay(2, 1, 0, 2, normal), pay(3, 0, 2, 9, normal), pay(4, 2, 0, 1, normal)))
}

// P19.1: what is held by a limit to all, and by what was sent to all, on either side.
func TestLimitsToAll(t *testing.T) {
	for _, class := range classes {
		b := mul(has(99, 99, 99), 0, 5)
		checkTwo(t, "just the limit", b, swap(7, 2, class), true)
		checkTwo(t, "one more", b, swap(8, 2, class), false)
		checkTwo(t, "one more, and one more back", b, swap(8, 3, class), true)
		checkTwo(t, "of who gets more", b, swap(2, 9, class), true)
		checkTwo(t, "of a third", mul(has(99, 99, 99), 2, 0), swap(9, 2, class), true)
		checkTwo(t, "no limit", mul(b, 0, api.None), swap(99, 2, class), true)
		checkTwo(t, "0", mul(b, 0, 0), swap(5, 5, class), true)
		checkTwo(t, "0, and one more", mul(b, 0, 0), swap(6, 5, class), false)
		checkTwo(t, "0 of both", mul(mul(b, 0, 0), 1, 0), swap(5, 5, class), true)
		checkTwo(t, "what was sent to another", sent(b, 0, 2, 2), swap(5, 2, class), true)
		checkTwo(t, "what was sent to another, one more", sent(b, 0, 2, 2), swap(6, 2, class), false)
		checkTwo(t, "what came from another", sent(b, 2, 0, 2), swap(9, 2, class), true)
		checkTwo(t, "what came from another, one more", sent(b, 2, 0, 2), swap(10, 2, class), false)
		checkTwo(t, "above it as it is", sent(b, 0, 2, 9), swap(1, 4, class), false)
		checkTwo(t, "above it as it is, and falling to it", sent(b, 0, 2, 9), swap(1, 5, class), true)
		check(t, "used up", b, waits(pay(1, 0, 1, 7, class), pay(2, 1, 0, 2, class), pay(3, 0, 2, 2, class), pay(4, 2, 0, 1, class)), 1, 2)
	}
	check(t, "the first q is held, the next goes", mul(has(99, 99), 0, 4), waits(pay(1, 0, 1, 7, normal), pay(2, 1, 0, 2, normal), pay(3, 1, 0, 3, normal)), 1, 3)
}

// P19.1: a third payment is left over, wherever it stands; it neither helps a pair nor hinders it.
func TestThird(t *testing.T) {
	for _, class := range classes {
		first, second := pay(1, 1, 2, 5, class), pay(2, 2, 1, 5, class)
		for _, third := range []api.Pay{pay(3, 0, 1, 5, class), pay(3, 0, 2, 5, class), pay(3, 3, 1, 5, class), pay(3, 3, 2, 5, class), pay(3, 0, 3, 5, class), pay(3, 3, 0, 5, class), pay(3, 1, 2, 5, class), pay(3, 2, 1, 5, class), pay(3, 1, 0, 5, class), pay(3, 2, 3, 5, class)} {
			check(t, "told behind", has(0, 0, 0, 0), waits(first, second, third), 1, 2)
			if third.From == 0 || third.From == 3 {
				check(t, "told ahead", has(0, 0, 0, 0), waits(third, first, second), 1, 2)
			}
		}
		check(t, "what a third would bring", has(5, 0, 0), waits(pay(3, 0, 1, 5, class), pay(1, 1, 2, 6, class), pay(2, 2, 1, 5, class)))
		check(t, "what a third would bring to the other", has(5, 0, 0), waits(pay(3, 0, 2, 5, class), pay(1, 1, 2, 6, class), pay(2, 2, 1, 7, class)))
	}
	for _, third := range []api.Pay{pay(3, 1, 0, 5, normal), pay(3, 2, 3, 5, normal), pay(3, 1, 2, 6, normal), pay(3, 2, 1, 4, normal)} {
		check(t, "ahead of one of its From", has(0, 0, 0, 0), waits(third, pay(1, 1, 2, 5, normal), pay(2, 2, 1, 5, normal)), 1, 2)
	}
	check(t, "two of three and back", has(0, 0), waits(pay(1, 0, 1, 3, normal), pay(2, 0, 1, 4, normal), pay(3, 1, 0, 7, normal)))
	check(t, "one of three and back", has(0, 0), waits(pay(1, 0, 1, 3, normal), pay(2, 0, 1, 4, normal), pay(3, 1, 0, 4, normal)), 2, 3)
}

// P19.1: a pair that fits only when another was Posted goes behind it, wherever it stands; and the row is asked from its front again.
func TestOnlyBehindAnother(t *testing.T) {
	for _, class := range classes {
		check(t, "behind one ahead of it", has(5, 0, 0), waits(pay(1, 0, 1, 6, class), pay(2, 1, 0, 1, class), pay(3, 1, 2, 9, class), pay(4, 2, 1, 4, class)), 1, 2, 3, 4)
		check(t, "behind one behind it", has(0, 0, 5), waits(pay(1, 0, 1, 6, normal), pay(2, 1, 0, 1, class), pay(3, 0, 2, 4, normal), pay(4, 2, 0, 9, class)), 3, 4, 1, 2)
	}
	check(t, "a chain that rises", has(5, 0, 0, 0), waits(pay(1, 0, 1, 6, normal), pay(2, 1, 0, 1, normal), pay(3, 1, 2, 6, normal), pay(4, 2, 1, 1, normal), pay(5, 2, 3, 6, normal), pay(6, 3, 2, 1, normal)), 1, 2, 3, 4, 5, 6)
	check(t, "a chain that falls", has(0, 0, 0, 5), waits(pay(1, 1, 0, 6, normal), pay(2, 0, 1, 1, normal), pay(3, 2, 1, 6, normal), pay(4, 1, 2, 1, normal), pay(5, 3, 2, 6, normal), pay(6, 2, 3, 1, normal)), 6, 5, 4, 3, 2, 1)
	check(t, "from the front again", has(0, 0, 0, 9), waits(pay(1, 0, 1, 6, normal), pay(2, 1, 0, 1, normal), pay(3, 0, 3, 1, normal), pay(4, 3, 0, 6, normal), pay(5, 2, 3, 1, normal), pay(6, 3, 2, 3, normal)), 3, 4, 1, 2, 5, 6)
	check(t, "to and fro", has(1, 0), waits(pay(1, 0, 1, 2, normal), pay(2, 0, 1, 1, normal), pay(3, 0, 1, 2, normal), pay(4, 1, 0, 1, normal), pay(5, 1, 0, 2, normal), pay(6, 1, 0, 2, normal)), 1, 4, 2, 5, 3, 6)
	check(t, "till a Top one ahead of it is gone", has(0, 0, 0), waits(pay(1, 0, 1, 4, normal), pay(2, 1, 0, 4, normal), pay(3, 0, 2, 5, top), pay(4, 2, 0, 5, urgent)), 3, 4, 1, 2)
	check(t, "by a limit", bil(sent(has(9, 9), 0, 1, 3), 0, 1, 0), waits(pay(1, 0, 1, 5, normal), pay(2, 0, 1, 1, normal), pay(3, 1, 0, 4, normal), pay(4, 1, 0, 5, normal)), 2, 3, 1, 4)
}

// P19.1: of pairs of which each would go, and not one behind the other, the first goes.
func TestRivals(t *testing.T) {
	check(t, "of one balance", has(5, 0, 0), waits(pay(1, 0, 1, 6, normal), pay(2, 1, 0, 1, normal), pay(3, 0, 2, 5, normal), pay(4, 2, 0, 4, normal)), 1, 2)
	check(t, "of one balance, turned", has(5, 0, 0), waits(pay(3, 0, 2, 5, normal), pay(1, 0, 1, 6, normal), pay(2, 1, 0, 1, normal), pay(4, 2, 0, 4, normal)), 3, 4)
	check(t, "by a limit to all", mul(has(9, 9, 9), 0, 2), waits(pay(1, 0, 2, 6, normal), pay(2, 2, 0, 4, normal), pay(3, 0, 1, 5, normal), pay(4, 1, 0, 4, normal)), 1, 2)
	check(t, "by what can be held", has(9, 9, high-2), waits(pay(1, 0, 2, 6, normal), pay(2, 2, 0, 4, normal), pay(3, 1, 2, 5, normal), pay(4, 2, 1, 4, normal)), 1, 2)
	check(t, "by what is of May", has(0, 0, 0), waits(pay(1, 0, 1, 5, urgent), pay(2, 0, 2, 5, urgent), pay(3, 1, 0, 5, urgent), pay(4, 2, 0, 5, urgent)), 1, 3, 2, 4)
}

// full is a row of MaxPays payments that are pairs of n parties, each party in turn with each: of an amount out, and so much more back; the classes of a pair are those of its number and the next.
func full(n int, amount, more int64, class func(k int) int) []api.Pay {
	var l []api.Pay
	for k := range int64(api.MaxPays / 2) {
		i := int(k) % n
		j := (i + 1 + int(k)/n%(n-1)) % n
		l = append(l, pay(1000-k*7%41, min(i, j), max(i, j), amount, class(int(k))), pay(2000-k*7%41, max(i, j), min(i, j), amount+more, class(int(k)+1)))
	}
	return waits(l...)
}

// P19.1: a row of MaxPays, of which all go, some, and none.
func TestMaxPays(t *testing.T) {
	for n := 2; n <= api.MaxParties; n++ {
		zero := has(make([]int64, n)...)
		alike := full(n, 5, 0, func(int) int { return normal })
		_, left, done := Run(zero, alike, now)
		if len(left) != 0 || len(done) != api.MaxPays {
			t.Errorf("%v went, %v are left", idsOf(done), idsOf(left))
		}
		checkTold(t, "all", zero, alike, now)
		check(t, "none", zero, full(n, 5, 1, func(int) int { return normal }))
		checkAt(t, "none, by the tick", zero, alike, 10)
		for i := range 4 {
			mixed := full(n, 5, int64(i%2), func(k int) int { return classes[(k+i)%3] })
			checkTold(t, "some", has([]int64{7, 3, 0, 5, 1, int64(i)}[:n]...), mixed, now)
			checkTold(t, "some with nothing", zero, mixed, now)
		}
		for j := 0; j < len(alike); j += 7 {
			some := slices.Clone(alike)
			some[j] = later(some[j])
			checkTold(t, "all but one", zero, some, now)
			if _, left, _ := Run(zero, some, now); len(left) != 2 || !slices.Contains(left, some[j]) {
				t.Errorf("%v are left", left)
			}
		}
	}
	for _, class := range classes {
		l := full(2, 5, 0, func(int) int { return class })
		var ids []int64
		for i := range api.MaxPays / 2 {
			ids = append(ids, l[i].ID, l[i+api.MaxPays/2].ID)
		}
		check(t, "of two", has(0, 0), l, ids...)
	}
	var out []api.Pay
	for i := range api.MaxPays {
		out = append(out, pay(int64(i+1), i%3, 3+i%3, 1, normal))
	}
	check(t, "nothing comes back", has(99, 99, 99, 99, 99, 99), waits(out...))
}

// eachAsked goes through any books and rows, at ticks at which much is ready, and at such at which little is.
func eachAsked(seed numbers, many int, do func(b api.Books, l []api.Pay, tick int64)) {
	for range many {
		n := 2 + int(min(seed.below(5), seed.below(5)))
		l := seed.pays(n, int(seed.below(api.MaxPays+1)))
		do(seed.books(n), l, []int64{now, now, now, now, 0, now + 1, seed.below(20), most}[seed.below(8)])
	}
}

// P19.1: any books, any row, any tick.
func TestAny(t *testing.T) {
	some, many := 0, 0
	eachAsked(7, 3000, func(b api.Books, l []api.Pay, tick int64) {
		checkTold(t, "any", b, l, tick)
		_, left, done := Run(b, l, tick)
		if len(done) > 2 && len(left) > 0 {
			some++
		}
	})
	x := numbers(19)
	for range 200 {
		l := x.pays(2, 20)
		for i := range l {
			l[i].Amount = min(l[i].Amount, 30)
		}
		checkTold(t, "with enough", has(600, 600), l, now)
		if _, _, done := Run(has(600, 600), l, now); len(done) > 9 {
			many++
		}
	}
	if some < 500 || many < 50 {
		t.Errorf("of %d some went, of %d many", some, many)
	}
}

// P19.1: Run settles in just the order in which there is a Next each time, p then q, and answers what post and row make of them.
func TestRunIsNextByNext(t *testing.T) {
	eachAsked(31, 1500, func(b api.Books, l []api.Pay, tick int64) {
		c, left, done := Run(b, l, tick)
		for i := 0; ; i += 2 {
			p, q, ok := Next(b, l, tick)
			if ok != (i < len(done)) || ok && (p != done[i] || q != done[i+1]) {
				t.Fatalf("%d: Next is %v, %v, %t, Run settled %v", i, p, q, ok, done)
			}
			if !ok {
				break
			}
			var e, f, g api.Errno
			b, e = post.Post(b, p, q)
			l, _, f = row.Drop(l, p.ID)
			l, _, g = row.Drop(l, q.ID)
			if e != api.OK || f != api.OK || g != api.OK {
				t.Fatalf("%v, %v: %v, %v, %v", p, q, e, f, g)
			}
		}
		if !lim.Same(c, b) || !slices.Equal(left, l) {
			t.Fatalf("Run: %v, %v, want %v, %v", c, left, b, l)
		}
	})
}

// areSuch tells by the packages below whether two pay each other, the lesser From first, fit together and can be posted.
func areSuch(b api.Books, p, q api.Pay) bool {
	_, e := post.Post(b, p, q)
	return p.From < p.To && p.From == q.To && p.To == q.From && fits.Fits(b, p, q) && e == api.OK
}

// P19.1: the two that are the Next may go, pay each other, fit together and can be posted; no p ahead of that one is so with any q, nor is it with a q ahead of its q.
func TestNextIsTheFirst(t *testing.T) {
	pBehind, qBehind := 0, 0
	eachAsked(43, 3000, func(b api.Books, l []api.Pay, tick int64) {
		p, q, ok := Next(b, l, tick)
		may := view.May(l, tick)
		first := func(p api.Pay) int {
			return slices.IndexFunc(may, func(q api.Pay) bool { return areSuch(b, p, q) })
		}
		at := slices.IndexFunc(may, func(p api.Pay) bool { return first(p) >= 0 })
		if ok != (at >= 0) || ok && (p != may[at] || q != may[first(p)]) || !ok && (p != (api.Pay{}) || q != (api.Pay{})) {
			t.Fatalf("Next(%v, %v, %d) = %v, %v, %t, want that at %d of %v", b, l, tick, p, q, ok, at, may)
		}
		if at > 0 {
			pBehind++
		}
		if ok && slices.IndexFunc(may, func(q api.Pay) bool { return q.From == p.To && q.To == p.From }) < first(p) {
			qBehind++
		}
	})
	if pBehind < 300 || qBehind < 100 {
		t.Errorf("%d were not the first of May, %d did not go with the first that pays back", pBehind, qBehind)
	}
}

// P19.2, P0.6: behind Run there is no Next, no two of May that pay each other can go, and another Run settles nothing.
func TestBehindRun(t *testing.T) {
	eachAsked(11, 1500, func(b api.Books, l []api.Pay, tick int64) {
		c, left, _ := Run(b, l, tick)
		if p, q, ok := Next(c, left, tick); ok || p != (api.Pay{}) || q != (api.Pay{}) {
			t.Fatalf("behind Run there are %v, %v", p, q)
		}
		may := view.May(left, tick)
		for _, p := range may {
			for _, q := range may {
				if areSuch(c, p, q) {
					t.Fatalf("behind Run %v and %v could go", p, q)
				}
			}
		}
		d, still, done := Run(c, left, tick)
		if !lim.Same(d, c) || !slices.Equal(still, left) || len(done) != 0 {
			t.Fatalf("behind Run(%v, %v, %d): %v, %v, %v", b, l, tick, d, still, done)
		}
	})
}

// P19.1: what is left waits in its order; what went were of the row, ready, each once, and two by two paid each other; what all have together stays, and limits are what they were.
func TestNothingIsLost(t *testing.T) {
	total := func(b api.Books) *big.Int {
		sum := whole(0)
		for _, a := range b.Accts {
			sum = plus(sum, whole(a.Balance))
		}
		return sum
	}
	eachAsked(53, 1500, func(b api.Books, l []api.Pay, tick int64) {
		c, left, done := Run(b, l, tick)
		if len(left)+len(done) != len(l) || len(done)%2 != 0 || !row.Is(left) || !slices.Equal(left, without(l, done)) {
			t.Fatalf("of %v %v went, %v are left", l, done, left)
		}
		for i, p := range done {
			if back := done[i^1]; !slices.Contains(l, p) || tick < p.Start || tick > p.Till || p.From != back.To || p.To != back.From || (p.From < p.To) != (i%2 == 0) {
				t.Fatalf("%v went", p)
			}
		}
		limits := with(c, func(c *api.Books) { c.Accts, c.Pos = b.Accts, b.Pos })
		if total(c).Cmp(total(b)) != 0 || !lim.Is(c) || !lim.Same(limits, b) {
			t.Fatalf("%v became %v", b, c)
		}
	})
}

// P19.1: all rows of up to four little payments of three, with all little balances.
func TestSmall(t *testing.T) {
	of := []api.Pay{pay(0, 0, 1, 1, normal), pay(0, 0, 1, 2, normal), pay(0, 1, 0, 1, normal), pay(0, 1, 0, 2, normal), pay(0, 1, 0, 1, urgent), pay(0, 0, 2, 2, normal), pay(0, 2, 0, 1, normal), later(pay(0, 0, 1, 1, urgent))}
	rows := [][]api.Pay{nil}
	for i := 0; i < len(rows); i++ {
		for _, p := range of {
			if len(rows[i]) < 4 {
				p.ID = int64(9 - len(rows[i]))
				rows = append(rows, append(slices.Clone(rows[i]), p))
			}
		}
	}
	for i, l := range rows {
		l = waits(l...)
		for n := range int64(4) {
			b := has(n%2, n/2, int64(i)%2)
			checkTold(t, "small", b, l, now)
			b.Accts[0].Reserve = 1
			checkTold(t, "small, with a Reserve and limits", mul(bil(b, 0, 1, 1), 1, 0), l, now)
		}
	}
}

// roomy are b's numbers with spare room behind the end of each list, that has something in it.
func roomy(b api.Books) api.Books {
	row := func(l []int64) []int64 { return slices.Concat(l, []int64{spare, spare})[:len(l)] }
	square := func(l [][]int64) [][]int64 {
		var r [][]int64
		for _, v := range l {
			r = append(r, row(v))
		}
		return slices.Concat(r, [][]int64{{spare}})[:len(l)]
	}
	return api.Books{Accts: slices.Concat(b.Accts, []api.Acct{{Balance: spare}})[:len(b.Accts)], Bil: square(b.Bil), Mul: row(b.Mul), Pos: square(b.Pos)}
}

// isRoomy tells whether b is roomy(was), also behind each list's end.
func isRoomy(b, was api.Books) bool {
	row := func(l []int64) bool { return slices.Equal(l[len(l):len(l)+2], []int64{spare, spare}) }
	square := func(l [][]int64) bool {
		return !slices.ContainsFunc(l, func(v []int64) bool { return !row(v) }) && slices.Equal(l[:len(l)+1][len(l)], []int64{spare})
	}
	return lim.Same(b, was) && b.Accts[:len(b.Accts)+1][len(b.Accts)] == (api.Acct{Balance: spare}) && square(b.Bil) && row(b.Mul) && square(b.Pos)
}

// rowsOf are all rows of numbers of b, each with the spare room behind its end, those too that lie behind the end of a square.
func rowsOf(b api.Books) [][]int64 {
	rows := slices.Concat(b.Bil[:cap(b.Bil)], b.Pos[:cap(b.Pos)], [][]int64{b.Mul})
	for i, row := range rows {
		rows[i] = row[:cap(row)]
	}
	return rows
}

// scribble writes into all memory of b, spare room too: each row of numbers one number of its own, from n on. It tells whether none of them was another's, and none of a square's rows another square's.
func scribble(b api.Books, n int64) bool {
	rows := rowsOf(b)
	for i, row := range rows {
		for j := range row {
			row[j] = n + int64(i)
		}
	}
	accts := b.Accts[:cap(b.Accts)]
	for i := range accts {
		accts[i] = api.Acct{Balance: n, Credit: n, Reserve: n}
	}
	for i, row := range rows {
		if slices.ContainsFunc(row, func(v int64) bool { return v != n+int64(i) }) {
			return false
		}
	}
	clear(b.Bil[:cap(b.Bil)])
	apart := !slices.ContainsFunc(b.Pos, func(row []int64) bool { return row == nil })
	clear(b.Pos[:cap(b.Pos)])
	return apart
}

// fill writes into all of l's memory, spare room too, a payment of its own.
func fill(l []api.Pay, id int64) {
	l = l[:cap(l)]
	for i := range l {
		l[i] = pay(id, 9, 9, id, 9)
	}
}

// isAnywhere tells whether a payment of such an ID is in l's memory, spare room too.
func isAnywhere(l []api.Pay, id int64) bool {
	return slices.ContainsFunc(l[:cap(l)], func(p api.Pay) bool { return p.ID == id })
}

// P19.2, W6: books and the row stay as they were, and so does the room behind each list's end; nothing there is asked.
func TestNothingIsChanged(t *testing.T) {
	eachAsked(3, 400, func(b api.Books, l []api.Pay, tick int64) {
		for _, room := range []int{0, 1, 2, 50} {
			from := roomy(b)
			list := slices.Concat(l, slices.Repeat(swap(1, 1, top), room))
			was := slices.Clone(list)
			Next(from, list[:len(l)], tick)
			c, left, done := Run(from, list[:len(l)], tick)
			d, still, same := Run(b, l, tick)
			if !lim.Same(c, d) || !slices.Equal(left, still) || !slices.Equal(done, same) {
				t.Fatalf("%v, %v: what stands behind the end is asked", b, l)
			}
			scribble(c, 1000)
			fill(left, -1)
			fill(done, -2)
			if !isRoomy(from, b) || !slices.Equal(list, was) {
				t.Fatalf("%v became %v, %v became %v", b, from, was, list)
			}
		}
	})
}

// W2, W6, W7: what Run answers is new memory, spare room too, of which no two lists share any, whether something went or not; it stays what it is, whatever becomes of what was handed in, of another answer, and whatever is called later.
func TestAnswersAreNewMemory(t *testing.T) {
	eachAsked(5, 600, func(b api.Books, l []api.Pay, tick int64) {
		wantC, wantLeft, wantDone := toldRun(b, l, tick)
		from, list := roomy(b), slices.Concat(l, l)[:len(l)]
		c, left, done := Run(from, list, tick)
		d, still, more := Run(from, list, tick)
		if !scribble(c, 2000) {
			t.Fatalf("lists of Run(%v, %v, %d) share memory", b, l, tick)
		}
		fill(left, -1)
		fill(done, -2)
		if isAnywhere(left, -2) {
			t.Fatalf("what is left and what went share memory")
		}
		scribble(from, 3000)
		fill(list, -3)
		e, gone, went := Run(has(0, 0), waits(pay(1, 0, 1, 2, normal), pay(2, 1, 0, 2, top), pay(3, 0, 1, 2, normal)), now)
		scribble(e, 4000)
		fill(gone, -4)
		fill(went, -5)
		if !lim.Same(d, wantC) || !slices.Equal(still, wantLeft) || !slices.Equal(more, wantDone) {
			t.Fatalf("Run(%v, %v, %d) became %v, %v, %v", b, l, tick, d, still, more)
		}
	})
}

// W2, W6: books that share rows are asked as any others.
func TestBooksThatShareRows(t *testing.T) {
	row, none := lim.Row(3, 2), lim.Row(3, 0)
	b := has(9, 0, 0)
	b.Bil, b.Mul, b.Pos = [][]int64{row, row, row}, row, [][]int64{none, none, none}
	l := waits(pay(1, 0, 1, 7, normal), pay(2, 0, 1, 6, normal), pay(3, 0, 2, 3, normal), pay(4, 1, 0, 4, normal), pay(5, 2, 0, 3, normal))
	check(t, "shared", b, l, 2, 4, 3, 5)
	c, _, _ := Run(b, l, now)
	if !scribble(c, 5000) || !slices.Equal(row, lim.Row(3, 2)) || !slices.Equal(none, lim.Row(3, 0)) {
		t.Errorf("rows became %v, %v", row, none)
	}
}

// W2: an answer does not hang on what was asked ahead of it.
func TestAnswersStayTheSame(t *testing.T) {
	b, l := has(2, 0), waits(pay(1, 0, 1, 8, normal), pay(2, 0, 1, 7, normal), pay(3, 1, 0, 5, normal))
	for range 3 {
		check(t, "another answer", b, l, 2, 3)
		check(t, "of more", has(3, 0), l, 1, 3)
		check(t, "of less", has(1, 0), l)
		checkAt(t, "at another tick", b, l, 10)
		Run(api.Books{}, l, now)
	}
}

// noBooks are what is handed in, and is no books.
func noBooks() []api.Books {
	l := []api.Books{
		{}, {Accts: make([]api.Acct, 2)}, {Accts: make([]api.Acct, 2), Bil: make([][]int64, 2), Mul: make([]int64, 2), Pos: make([][]int64, 2)},
		{Accts: make([]api.Acct, 7), Bil: lim.Square(6, 0), Mul: lim.Row(6, 0), Pos: lim.Square(6, 0)}, {Accts: make([]api.Acct, 1000)}, {Bil: lim.Square(2, 0), Mul: lim.Row(2, 0), Pos: lim.Square(2, 0)},
	}
	for _, change := range []func(b *api.Books){
		func(b *api.Books) { b.Accts = b.Accts[:1] }, func(b *api.Books) { b.Accts = append(b.Accts, make([]api.Acct, 99)...) }, func(b *api.Books) { b.Accts[0].Balance = least }, func(b *api.Books) { b.Accts[0].Balance = most },
		func(b *api.Books) { b.Accts[0].Credit = most }, func(b *api.Books) { b.Accts[0].Credit = least }, func(b *api.Books) { b.Accts[0].Reserve = most },
		func(b *api.Books) { b.Bil = nil }, func(b *api.Books) { b.Bil = b.Bil[:1] }, func(b *api.Books) { b.Bil[0] = nil }, func(b *api.Books) { b.Bil[0] = b.Bil[0][:1] }, func(b *api.Books) { b.Bil[0][1] = -2 },
		func(b *api.Books) { b.Mul = nil }, func(b *api.Books) { b.Mul = b.Mul[:1] }, func(b *api.Books) { b.Mul[0] = least }, func(b *api.Books) { b.Mul[2] = most },
		func(b *api.Books) { b.Pos = nil }, func(b *api.Books) { b.Pos = b.Pos[:2] }, func(b *api.Books) { b.Pos[1] = nil }, func(b *api.Books) { b.Pos[1] = b.Pos[1][:1] }, func(b *api.Books) { b.Pos[0] = make([]int64, 9) }, func(b *api.Books) { b.Pos[2] = b.Pos[2][:0] },
		func(b *api.Books) { b.Pos[0][1] = most }, func(b *api.Books) { b.Pos[0][1], b.Pos[1][0] = least, least }, func(b *api.Books) { b.Pos[0][1]++ }, func(b *api.Books) { b.Pos[2][2] = 1 },
	} {
		l = append(l, with(has(9, 9, 9), change))
	}
	return l
}

// noRows are lists that are no rows, or rows of payments that may not be.
func noRows() [][]api.Pay {
	x := numbers(17)
	back := x.pays(4, 30)
	slices.Reverse(back)
	lists := [][]api.Pay{
		back, slices.Repeat(x.pays(3, 20), 3), slices.Repeat([]api.Pay{pay(7, 0, 1, 1, top)}, 300), slices.Repeat([]api.Pay{pay(7, 0, 1, 1, normal), pay(7, 1, 0, 1, normal)}, 50), slices.Repeat([]api.Pay{pay(7, 0, 2, 1, normal), pay(7, 0, 1, 1, normal), pay(8, 1, 0, 2, normal)}, 30), {{}, {}, {}},
		{pay(1, 0, 0, 1, top), pay(2, 0, 0, 1, top)}, {pay(1, leastInt, mostInt, 1, leastInt), pay(2, mostInt, leastInt, 1, mostInt)}, {pay(least, 0, 1, least, normal), pay(most, 1, 0, most, normal)},
	}
	for _, p := range []api.Pay{{}, pay(1, 0, 9, 1, top), pay(1, 0, 9, 1, normal), pay(1, 0, -1, 1, normal), pay(1, -9, -1, 1, urgent), pay(1, 6, 7, 1, normal), pay(1, 0, mostInt, 1, normal), pay(1, 0, leastInt, 1, normal)} {
		q := p
		q.ID, q.From, q.To = 2, p.To, p.From
		lists = append(lists, []api.Pay{p}, []api.Pay{p, q}, []api.Pay{q, p, pay(3, 0, 1, 1, normal), pay(4, 1, 0, 1, normal)})
	}
	for _, p := range []api.Pay{pay(1, 0, 1, 0, normal), pay(1, 0, 1, -1, top), pay(1, 0, 1, least, top), pay(1, 0, 1, most, top), pay(1, 0, 1, api.MaxAmount+1, top), pay(1, 0, 1, 1, 0), pay(1, 0, 1, 1, 4), pay(1, 0, 1, 1, leastInt), pay(1, 0, 1, 1, mostInt)} {
		q := pay(2, 1, 0, 1, normal)
		same := p
		same.ID, same.From, same.To = 3, 1, 0
		lists = append(lists, []api.Pay{p}, []api.Pay{p, q}, []api.Pay{p, same}, []api.Pay{p, q, same, pay(4, 0, 1, 1, normal)})
	}
	return lists
}

// W1, W6: what is no books, no row, or a row of payments that may not be is asked without a panic, and stays as it was.
func TestWhatIsNotSuch(t *testing.T) {
	x := numbers(13)
	lists := append(noRows(), nil, swap(5, 5, top), swap(5, 5, normal), waits(append(swap(5, 5, normal), pay(3, 2, 0, 5, normal), pay(4, 0, 2, 5, normal))...), x.pays(3, 40), x.pays(6, 40))
	for _, such := range append(noBooks(), has(9, 9, 9), has(high, high, high, high, high, high), has(9)) {
		for _, l := range lists {
			for _, tick := range []int64{least, now, most} {
				b, list := lim.Copy(such), slices.Clone(l)
				Next(b, list, tick)
				c, left, done := Run(b, list, tick)
				scribble(c, 6000)
				fill(left, -6)
				fill(done, -7)
				if !lim.Same(b, such) || !slices.Equal(list, l) {
					t.Fatalf("%v, %v became %v, %v", such, l, b, list)
				}
			}
		}
	}
}
