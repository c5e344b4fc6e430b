package knot

import (
	"math"
	"math/big"
	"slices"
	"testing"

	"giro/api"
	"giro/fits"
	"giro/lim"
	"giro/post"
	"giro/row"
	"giro/view"
)

const (
	most     = math.MaxInt64
	least    = math.MinInt64
	mostInt  = math.MaxInt
	leastInt = math.MinInt
	// high is the greatest balance, and less it the least one; set is the greatest credit, reserve and limit.
	high = 1<<62 - 1
	set  = 1 << 61
	// far is the greatest position, and less it the least one.
	far = 1<<56 - 1
	// spare is what lies behind the end of a list that is handed in.
	spare = 4711
	// now is the tick at which it is asked, where a test names none: pay's payments are ready at it.
	now = 5
)

const (
	top    = api.Top
	urgent = api.Urgent
	normal = api.Normal
)

// classes are all there are.
var classes = []int{top, urgent, normal}

// books are books of such accounts, without limits, and nothing sent.
func books(l ...api.Acct) api.Books {
	n := len(l)
	return api.Books{Accts: slices.Clone(l), Bil: lim.Square(n, api.None), Mul: lim.Row(n, api.None), Pos: lim.Square(n, 0)}
}

// has is books of accounts with such balances alone.
func has(balances ...int64) api.Books {
	var l []api.Acct
	for _, n := range balances {
		l = append(l, api.Acct{Balance: n})
	}
	return books(l...)
}

// with are books, changed.
func with(b api.Books, change func(b *api.Books)) api.Books {
	c := lim.Copy(b)
	change(&c)
	return c
}

// sent are books in which i sent j so much more.
func sent(b api.Books, i, j int, n int64) api.Books {
	return with(b, func(b *api.Books) { b.Pos[i][j], b.Pos[j][i] = b.Pos[i][j]+n, b.Pos[j][i]-n })
}

// bil are books in which i has such a limit to j.
func bil(b api.Books, i, j int, limit int64) api.Books {
	return with(b, func(b *api.Books) { b.Bil[i][j] = limit })
}

// mul are books in which i has such a limit to all.
func mul(b api.Books, i int, limit int64) api.Books {
	return with(b, func(b *api.Books) { b.Mul[i] = limit })
}

// pay is a payment that is ready from 3 to 9.
func pay(id int64, from, to int, amount int64, class int) api.Pay {
	return api.Pay{ID: id, From: from, To: to, Amount: amount, Class: class, Start: 3, Till: 9}
}

// timed is a payment with another time.
func timed(p api.Pay, start, till int64) api.Pay {
	p.Start, p.Till = start, till
	return p
}

// later and over are payments that are not ready yet, and not any more.
func later(p api.Pay) api.Pay { return timed(p, now+1, now+9) }

func over(p api.Pay) api.Pay { return timed(p, 0, now-1) }

// ring is a payment from each of n to the next, the last one to the first, of one amount: 1 from 0, 2 from 1 and so on.
func ring(n int, amount int64, class int) []api.Pay {
	var l []api.Pay
	for i := range n {
		l = append(l, pay(int64(i+1), i, (i+1)%n, amount, class))
	}
	return waits(l...)
}

// back is a ring the other way round: 11 from 0, 12 from 1 and so on.
func back(n int, amount int64, class int) []api.Pay {
	l := ring(n, amount, class)
	for i := range l {
		l[i].ID, l[i].To = l[i].ID+10, (i+n-1)%n
	}
	return l
}

// some is from 0 to 1 one payment of each amount, 1, 2 and so on.
func some(class int, amounts ...int64) []api.Pay {
	var l []api.Pay
	for i, n := range amounts {
		l = append(l, pay(int64(i+1), 0, 1, n, class))
	}
	return l
}

// and is several lists as one row.
func and(lists ...[]api.Pay) []api.Pay { return waits(slices.Concat(lists...)...) }

// waits is payments as a row: of one From and Class they stand as they are told.
func waits(l ...api.Pay) []api.Pay {
	l = slices.Clone(l)
	slices.SortStableFunc(l, func(a, b api.Pay) int { return 10*(a.From-b.From) + a.Class - b.Class })
	return l
}

// idsOf is the IDs of payments.
func idsOf(l []api.Pay) []int64 {
	var ids []int64
	for _, p := range l {
		ids = append(ids, p.ID)
	}
	return ids
}

// without is all payments of l but those of another list.
func without(l, some []api.Pay) []api.Pay {
	return slices.DeleteFunc(slices.Clone(l), func(p api.Pay) bool { return slices.Contains(some, p) })
}

// turned are books in which the last party stands for the first one, and so on.
func turned(b api.Books) api.Books {
	n := len(b.Accts) - 1
	return with(b, func(c *api.Books) {
		for i := range b.Accts {
			c.Accts[i], c.Mul[i] = b.Accts[n-i], b.Mul[n-i]
			for j := range b.Accts {
				c.Bil[i][j], c.Pos[i][j] = b.Bil[n-i][n-j], b.Pos[n-i][n-j]
			}
		}
	})
}

// turnedRow is a row of n parties in which the last one stands for the first one, and so on.
func turnedRow(l []api.Pay, n int) []api.Pay {
	l = slices.Clone(l)
	for i := range l {
		l[i].From, l[i].To = n-1-l[i].From, n-1-l[i].To
	}
	return waits(l...)
}

// numbers is a source of numbers that are the same in each run.
type numbers uint64

func (s *numbers) next() uint64 {
	*s ^= *s << 13
	*s ^= *s >> 7
	*s ^= *s << 17
	return uint64(*s)
}

// below is 0 to n-1.
func (s *numbers) below(n int64) int64 {
	return int64(s.next() % uint64(n))
}

// limit is one that may be, mostly none or a little one.
func (s *numbers) limit() int64 {
	return []int64{api.None, api.None, api.None, api.None, api.None, api.None, 0, set, s.below(set), s.below(9)}[s.below(10)]
}

// books are books of n parties, with little in them, and now and then with as much as there may be.
func (s *numbers) books(n int) api.Books {
	b := has(make([]int64, n)...)
	for i := range n {
		b.Accts[i] = api.Acct{Balance: s.below(7) - 2, Credit: s.below(4), Reserve: s.below(3)}
		if s.below(9) == 0 {
			b.Accts[i].Balance = []int64{-high, high, high - s.below(4)}[s.below(3)]
		}
		b.Mul[i] = s.limit()
		for j := range n {
			b.Bil[i][j] = s.limit()
		}
		for j := range i {
			b.Pos[i][j] = []int64{0, 0, 0, 0, 0, s.below(20) - 10, far - s.below(4), s.below(4) - far}[s.below(8)]
			b.Pos[j][i] = -b.Pos[i][j]
		}
	}
	return b
}

// amount is one that may be, nearly all of them little ones.
func (s *numbers) amount() int64 {
	return []int64{1 + s.below(4), 1 + s.below(4), 1 + s.below(4), 1 + s.below(8), []int64{1 + s.below(15), 1 + s.below(15), 1 + s.below(15), api.MaxAmount - s.below(3)}[s.below(4)]}[s.below(5)]
}

// pays is a row of so many payments of n parties that may be; at now one in five is not ready.
func (s *numbers) pays(n, many int) []api.Pay {
	var l []api.Pay
	normals := []int64{0, 3, 4, 4}[s.below(4)]
	for i := range many {
		from := int(s.below(int64(n)))
		to := (from + 1 + int(s.below(int64(n-1)))) % n
		class := classes[s.below(3)]
		if s.below(4) < normals {
			class = normal
		}
		p := pay(int64(i*7%41)+100*s.below(9), from, to, s.amount(), class)
		l = append(l, []api.Pay{p, p, p, p, p, p, p, p, later(p), over(p)}[s.below(10)])
	}
	return waits(l...)
}

// What follows is what the document's words ask, told without the packages below and in whole numbers: for each number all payments are gone through.

func whole(n int64) *big.Int { return big.NewInt(n) }

func plus(a, b *big.Int) *big.Int { return new(big.Int).Add(a, b) }

func minus(a, b *big.Int) *big.Int { return new(big.Int).Sub(a, b) }

// sumOf is the sum of what payments that are such pay.
func sumOf(l []api.Pay, is func(p api.Pay) bool) *big.Int {
	sum := whole(0)
	for _, p := range l {
		if is(p) {
			sum = plus(sum, whole(p.Amount))
		}
	}
	return sum
}

// balanceOf is the balance of one behind all payments.
func balanceOf(b api.Books, l []api.Pay, i int) *big.Int {
	got := sumOf(l, func(p api.Pay) bool { return p.To == i })
	out := sumOf(l, func(p api.Pay) bool { return p.From == i })
	return minus(plus(whole(b.Accts[i].Balance), got), out)
}

// keptOf is what of one's Reserve is kept behind all payments.
func keptOf(b api.Books, l []api.Pay, i int) *big.Int {
	kept := minus(whole(b.Accts[i].Reserve), sumOf(l, func(p api.Pay) bool { return p.From == i && (p.Class == 1 || p.Class == 2) }))
	if kept.Sign() < 0 {
		return whole(0)
	}
	return kept
}

// posOf is what one sent to another, less what it got from it, behind all payments.
func posOf(b api.Books, l []api.Pay, i, j int) *big.Int {
	out := sumOf(l, func(p api.Pay) bool { return p.From == i && p.To == j })
	got := sumOf(l, func(p api.Pay) bool { return p.From == j && p.To == i })
	return minus(plus(whole(b.Pos[i][j]), out), got)
}

// netOf is what one sent to all others, less what it got from them, behind all payments.
func netOf(b api.Books, l []api.Pay, i int) *big.Int {
	net := whole(0)
	for j := range b.Accts {
		if j != i {
			net = plus(net, posOf(b, l, i, j))
		}
	}
	return net
}

// isAbove tells whether so much is above a limit, if there is one.
func isAbove(n *big.Int, limit int64) bool {
	return limit != -1 && n.Cmp(whole(limit)) > 0
}

// isShort tells whether one sends in l, and is Short behind all of them.
func isShort(b api.Books, l []api.Pay, i int) bool {
	sends, least := false, whole(0)
	for _, p := range l {
		if p.From == i {
			sends = true
			if p.Class == 3 {
				least = keptOf(b, l, i)
			}
			if isAbove(posOf(b, l, i, p.To), b.Bil[i][p.To]) {
				return true
			}
		}
	}
	left := plus(balanceOf(b, l, i), whole(b.Accts[i].Credit))
	return sends && (left.Cmp(least) < 0 || isAbove(netOf(b, l, i), b.Mul[i]))
}

// holds tells whether nobody is Short behind all payments.
func holds(b api.Books, l []api.Pay) bool {
	for i := range b.Accts {
		if isShort(b, l, i) {
			return false
		}
	}
	return true
}

// canBePosted tells whether what comes out of payments can be held.
func canBePosted(b api.Books, l []api.Pay) bool {
	for i := range b.Accts {
		if balanceOf(b, l, i).CmpAbs(whole(1<<62)) >= 0 {
			return false
		}
		for j := range b.Accts {
			if posOf(b, l, i, j).CmpAbs(whole(1<<56)) >= 0 {
				return false
			}
		}
	}
	return true
}

// posted are books behind payments.
func posted(b api.Books, l []api.Pay) api.Books {
	return with(b, func(c *api.Books) {
		for i := range b.Accts {
			c.Accts[i].Balance, c.Accts[i].Reserve = balanceOf(b, l, i).Int64(), keptOf(b, l, i).Int64()
			for j := range b.Accts {
				c.Pos[i][j] = posOf(b, l, i, j).Int64()
			}
		}
	})
}

// choiceOf is the first ones of each that are ready, as many as many tells, in order.
func choiceOf(l []api.Pay, tick int64, many []int) (choice []api.Pay) {
	many = slices.Clone(many)
	for _, p := range l {
		if tick >= p.Start && tick <= p.Till && many[p.From] > 0 {
			many[p.From]--
			choice = append(choice, p)
		}
	}
	return choice
}

// partsOf is how many payments are from each of n.
func partsOf(l []api.Pay, n int) []int {
	many := make([]int, n)
	for _, p := range l {
		many[p.From]++
	}
	return many
}

// readyOf is how many payments of each of n are ready.
func readyOf(l []api.Pay, n int, tick int64) []int {
	return partsOf(choiceOf(l, tick, slices.Repeat([]int{len(l)}, n)), n)
}

// sum is a sum of how many there are.
func sum(many []int) int {
	n := 0
	for _, k := range many {
		n += k
	}
	return n
}

// toldMost is the choice, sweep by sweep.
func toldMost(b api.Books, l []api.Pay, tick int64) (many []int, sweeps int) {
	many = readyOf(l, len(b.Accts), tick)
	for {
		sweeps++
		choice, less := choiceOf(l, tick, many), slices.Clone(many)
		for i := range many {
			if isShort(b, choice, i) {
				less[i]--
			}
		}
		if slices.Equal(less, many) {
			return many, sweeps
		}
		many = less
	}
}

// toldRun is the books behind all of a choice at once, what is left, and what went.
func toldRun(b api.Books, l []api.Pay, tick int64, many []int) (c api.Books, left, done []api.Pay) {
	choice := choiceOf(l, tick, many)
	if !canBePosted(b, choice) {
		return lim.Copy(b), slices.Clone(l), nil
	}
	return posted(b, choice), without(l, choice), choice
}

// checkTold holds what Most and Run answer against what the words ask.
func checkTold(t *testing.T, what string, b api.Books, l []api.Pay, tick int64) {
	t.Helper()
	if !lim.Is(b) || !row.Is(l) {
		t.Fatalf("%s: %v, %v: no books, or no row", what, b, l)
	}
	wasB, wasL := lim.Copy(b), slices.Clone(l)
	want, wantSweeps := toldMost(b, l, tick)
	many, sweeps := Most(b, l, tick)
	if !slices.Equal(many, want) || sweeps != wantSweeps {
		t.Errorf("%s: Most(%v, %v, %d) = %v, %d, want %v, %d", what, b, l, tick, many, sweeps, want, wantSweeps)
	}
	if sweeps > sum(readyOf(l, len(b.Accts), tick))+1 {
		t.Errorf("%s: Most(%v, %v, %d): %d sweeps", what, b, l, tick, sweeps)
	}
	wantC, wantLeft, wantDone := toldRun(b, l, tick, want)
	c, left, done := Run(b, l, tick)
	if !lim.Same(c, wantC) || !slices.Equal(left, wantLeft) || !slices.Equal(done, wantDone) {
		t.Errorf("%s: Run(%v, %v, %d) = %v, %v, %v, want %v, %v, %v", what, b, l, tick, c, left, done, wantC, wantLeft, wantDone)
	}
	if !lim.Same(b, wasB) || !slices.Equal(l, wasL) {
		t.Errorf("%s: %v, %v became %v, %v", what, wasB, wasL, b, l)
	}
}

// checkMost holds the choice, and how many sweeps there were, against those that the test names; and the same with the parties told the other way round.
func checkMost(t *testing.T, what string, b api.Books, l []api.Pay, tick int64, sweeps int, ids []int64) {
	t.Helper()
	n := len(b.Accts)
	choice := slices.DeleteFunc(slices.Clone(l), func(p api.Pay) bool { return !slices.Contains(ids, p.ID) })
	if len(choice) != len(ids) {
		t.Fatalf("%s: %v are not all of %v", what, ids, l)
	}
	want := partsOf(choice, n)
	if many, k := Most(b, l, tick); !slices.Equal(many, want) || k != sweeps {
		t.Errorf("%s: Most(%v, %v, %d) = %v, %d, want %v, %d", what, b, l, tick, many, k, want, sweeps)
	}
	slices.Reverse(want)
	if many, k := Most(turned(b), turnedRow(l, n), tick); !slices.Equal(many, want) || k != sweeps {
		t.Errorf("%s, turned: Most(%v, %v, %d) = %v, %d, want %v, %d", what, b, l, tick, many, k, want, sweeps)
	}
	checkTold(t, what, b, l, tick)
	checkTold(t, what+", turned", turned(b), turnedRow(l, n), tick)
}

// checkAt is checkMost, of a choice that goes, in the order in which the test names it.
func checkAt(t *testing.T, what string, b api.Books, l []api.Pay, tick int64, sweeps int, ids ...int64) {
	t.Helper()
	checkMost(t, what, b, l, tick, sweeps, ids)
	if _, left, done := Run(b, l, tick); !slices.Equal(idsOf(done), ids) || !slices.Equal(left, without(l, done)) {
		t.Errorf("%s: Run(%v, %v, %d): %v went, %v are left, want %v", what, b, l, tick, idsOf(done), idsOf(left), ids)
	}
}

// check is checkAt now.
func check(t *testing.T, what string, b api.Books, l []api.Pay, sweeps int, ids ...int64) {
	t.Helper()
	checkAt(t, what, b, l, now, sweeps, ids...)
}

// checkHeld is checkMost now, of a choice that holds and can't be posted: nothing goes.
func checkHeld(t *testing.T, what string, b api.Books, l []api.Pay, sweeps int, ids ...int64) {
	t.Helper()
	checkMost(t, what, b, l, now, sweeps, ids)
	if c, left, done := Run(b, l, now); !lim.Same(c, b) || !slices.Equal(left, l) || len(done) != 0 {
		t.Errorf("%s: Run(%v, %v, %d) = %v, %v, %v", what, b, l, now, c, left, done)
	}
}

// upTo is 1 to n.
func upTo(n int) []int64 {
	var l []int64
	for i := range n {
		l = append(l, int64(i+1))
	}
	return l
}

// P20.1: the document's example.
func TestExample(t *testing.T) {
	b, l := has(0, 0, 0), ring(3, 5, normal)
	check(t, "the example", b, l, 1, 1, 2, 3)
	many, sweeps := Most(b, l, now)
	c, left, done := Run(b, l, now)
	want := sent(sent(sent(b, 0, 1, 5), 1, 2, 5), 2, 0, 5)
	if !slices.Equal(many, []int{1, 1, 1}) || sweeps != 1 || !lim.Same(c, want) || len(left) != 0 || !slices.Equal(done, l) {
		t.Errorf("%v, %d, %v, %v, %v", many, sweeps, c, left, done)
	}
}

// P20.1: of a ring and more, what goes, what is left, and the books behind it.
func TestRingAndMore(t *testing.T) {
	b := books(api.Acct{Balance: 2, Reserve: 4}, api.Acct{Credit: 1}, api.Acct{})
	l := waits(pay(9, 0, 1, 5, top), pay(8, 0, 1, 5, normal), pay(7, 1, 2, 6, normal), pay(6, 1, 0, 3, normal), pay(5, 2, 0, 4, urgent), pay(4, 2, 1, 2, normal))
	check(t, "a ring and more", b, l, 3, 9, 7, 5, 4)
	c, left, done := Run(b, l, now)
	want := sent(sent(sent(books(api.Acct{Balance: 1}, api.Acct{Balance: 1, Credit: 1}, api.Acct{}), 0, 1, 5), 1, 2, 4), 2, 0, 4)
	if !lim.Same(c, want) || !slices.Equal(left, []api.Pay{l[1], l[3]}) || !slices.Equal(done, []api.Pay{l[0], l[2], l[4], l[5]}) {
		t.Errorf("%v, %v, %v, want %v", c, left, done, want)
	}
}

// P20.1, P20.2, W5: where nothing waits nothing goes, in one sweep, whether the row is nil or empty; there is a part for each account, also where there is but one.
func TestNothingWaits(t *testing.T) {
	x := numbers(3)
	for _, l := range [][]api.Pay{nil, {}, make([]api.Pay, 0, 5), ring(3, 1, top)[:0], ring(3, 1, top)[3:]} {
		for n := 1; n <= api.MaxParties; n++ {
			for _, tick := range []int64{least, -1, 0, 5, most} {
				checkAt(t, "nothing", x.books(n), l, tick, 1)
				checkAt(t, "nothing, of those below nothing", has(slices.Repeat([]int64{-1}, n)...), l, tick, 1)
			}
		}
	}
}

// P20.1: one alone goes in one sweep, or is Short in the first one and doesn't.
func TestOne(t *testing.T) {
	for n := 2; n <= api.MaxParties; n++ {
		b := has(slices.Repeat([]int64{7}, n)...)
		for from := range n {
			for to := range n {
				for _, class := range classes {
					if from != to {
						check(t, "just enough", b, waits(pay(8, from, to, 7, class)), 1, 8)
						check(t, "one short", b, waits(pay(8, from, to, 8, class)), 2)
						check(t, "less", b, waits(pay(8, from, to, 1, class)), 1, 8)
						check(t, "the greatest", b, waits(pay(8, from, to, api.MaxAmount, class)), 2)
						check(t, "behind the end of a ring", b, ring(n, 8, class)[:1], 2)
					}
				}
			}
		}
	}
}

// P20.1: what is ready counts, from Start to Till, not one ahead, not one behind.
func TestTimes(t *testing.T) {
	for _, x := range []struct{ start, between, till int64 }{
		{0, 0, 0}, {0, 0, 1}, {3, 3, 3}, {3, 4, 5}, {-5, -4, -3}, {-1, 0, 1}, {0, 9, api.MaxTick}, {1 << 32, 1<<32 + 1, 1<<32 + 2},
		{least + 1, 0, most - 1}, {most - 1, most - 1, most - 1}, {least + 1, least + 1, least + 1},
	} {
		for _, class := range classes {
			l := ring(3, 5, class)
			always := []api.Pay{timed(l[0], least, most), timed(l[1], least, most), timed(l[2], least, most)}
			all := []api.Pay{timed(l[0], x.start, x.till), timed(l[1], x.start, x.till), timed(l[2], x.start, x.till)}
			for _, tick := range []int64{x.start, x.between, x.till} {
				checkAt(t, "all are ready", has(0, 0, 0), all, tick, 1, 1, 2, 3)
				for i := range l {
					one := slices.Clone(always)
					one[i] = all[i]
					checkAt(t, "one is ready too", has(0, 0, 0), one, tick, 1, 1, 2, 3)
				}
			}
			for _, tick := range []int64{x.start - 1, x.till + 1} {
				checkAt(t, "none is ready", has(0, 0, 0), all, tick, 1)
				checkAt(t, "none is ready, of those that have enough", has(5, 5, 5), all, tick, 1)
				checkAt(t, "none is ready, of those below nothing", has(-1, -1, -1), all, tick, 1)
				checkAt(t, "one is not ready", has(0, 0, 0), []api.Pay{all[0], always[1], always[2]}, tick, 3)
				checkAt(t, "one is not ready, of those that have enough", has(5, 5, 5), []api.Pay{all[0], always[1], always[2]}, tick, 1, 2, 3)
				checkAt(t, "one is not ready, and one behind it", has(0, 0, 0), waits(all[0], timed(pay(4, 0, 1, 5, class), least, most), always[1], always[2]), tick, 1, 4, 2, 3)
			}
		}
	}
	l := ring(2, 5, normal)
	l[0] = timed(l[0], least, most)
	for _, tick := range []int64{least, -1, 0, 2, 10, 1 << 32, most} {
		checkAt(t, "one alone", has(5, 0), l, tick, 1, 1)
		checkAt(t, "never", has(0, 0), waits(l[0], timed(l[1], 5, 4)), tick, 2)
		checkAt(t, "always", has(0, 0), waits(l[0], timed(l[1], least, most)), tick, 1, 1, 2)
	}
}

// P20.1: what is ready of several, at each tick.
func TestReadyOfSeveral(t *testing.T) {
	l := waits(timed(pay(1, 0, 1, 5, normal), 2, 4), timed(pay(2, 0, 1, 5, normal), 4, 6), timed(pay(3, 1, 0, 5, normal), 3, 6), timed(pay(4, 1, 2, 5, normal), 5, 5), timed(pay(5, 2, 1, 5, top), 0, 5))
	for _, x := range []struct {
		tick   int64
		sweeps int
		ids    []int64
	}{
		{-1, 1, nil}, {0, 2, nil}, {1, 2, nil}, {2, 2, nil}, {3, 2, []int64{1, 3}}, {4, 2, []int64{1, 3}}, {5, 1, []int64{2, 3, 4, 5}}, {6, 1, []int64{2, 3}}, {7, 1, nil}, {8, 1, nil}, {1<<32 + 5, 1, nil},
	} {
		checkAt(t, "several", has(0, 0, 0), l, x.tick, x.sweeps, x.ids...)
	}
}

// P20.1: a Top or an Urgent one that is not ready holds back none of its From; one that is ready, and doesn't go, does.
func TestNotReadyAhead(t *testing.T) {
	for _, class := range []int{top, urgent} {
		ahead := pay(9, 0, 1, 99, class)
		check(t, "ready", has(5, 0), and([]api.Pay{ahead}, some(normal, 2, 3)), 4)
		check(t, "not ready", has(5, 0), and([]api.Pay{later(ahead)}, some(normal, 2, 3)), 1, 1, 2)
		check(t, "over", has(5, 0), and([]api.Pay{over(ahead)}, some(normal, 2, 3)), 1, 1, 2)
		check(t, "not ready, between", has(5, 0), waits(pay(1, 0, 1, 2, top), later(pay(9, 0, 1, 9, urgent)), pay(2, 0, 1, 3, normal), over(pay(8, 0, 1, 9, normal)), pay(3, 0, 1, 1, normal)), 2, 1, 2)
		check(t, "not ready, behind", has(5, 0), waits(pay(1, 0, 1, 2, class), later(pay(9, 0, 1, 1, normal)), pay(2, 0, 1, 3, normal), over(pay(8, 0, 1, 1, normal))), 1, 1, 2)
	}
}

// P20.1, P20.2, P0.5: all that are ready go at once, in one sweep, if they hold.
func TestAllAtOnce(t *testing.T) {
	for _, class := range classes {
		check(t, "of one", has(15, 0), some(class, 1, 2, 3, 4, 5), 1, 1, 2, 3, 4, 5)
		check(t, "to several", has(6, 0, 0, 0), waits(pay(3, 0, 3, 1, class), pay(2, 0, 2, 2, class), pay(1, 0, 1, 3, class)), 1, 3, 2, 1)
		check(t, "from several", has(1, 2, 3, 0), waits(pay(3, 0, 3, 1, class), pay(2, 1, 3, 2, class), pay(1, 2, 3, 3, class)), 1, 3, 2, 1)
		check(t, "two and two back", has(0, 0), waits(pay(1, 0, 1, 3, class), pay(2, 0, 1, 4, class), pay(3, 1, 0, 6, class), pay(4, 1, 0, 1, class)), 1, 1, 2, 3, 4)
		check(t, "one for three", has(0, 0), waits(pay(1, 0, 1, 9, class), pay(3, 1, 0, 3, class), pay(4, 1, 0, 3, class), pay(5, 1, 0, 3, class)), 1, 1, 3, 4, 5)
		for n := 2; n <= api.MaxParties; n++ {
			var l []api.Pay
			for i := range n {
				for j := range n {
					if i != j {
						l = append(l, pay(int64(10*i+j), i, j, 5, class))
					}
				}
			}
			check(t, "each to each, of nothing", has(make([]int64, n)...), l, 1, idsOf(l)...)
			check(t, "each to each, of more", has(slices.Repeat([]int64{99}, n)...), l, 1, idsOf(l)...)
		}
	}
}

// P20.1, P20.2, P0.5: whatever the books and the row, all that are ready go in one sweep where they hold together, and else there is more than one sweep, and not all are in the choice.
func TestAllOrNotAll(t *testing.T) {
	all, not := 0, 0
	eachAsked(61, 3000, func(b api.Books, l []api.Pay, tick int64) {
		ready := view.Ready(l, tick)
		many, sweeps := Most(b, l, tick)
		if fits.Fits(b, ready...) != (sum(many) == len(ready)) || fits.Fits(b, ready...) != (sweeps == 1) {
			t.Fatalf("Most(%v, %v, %d) = %v, %d", b, l, tick, many, sweeps)
		}
		if sweeps == 1 && len(ready) > 3 {
			all++
		}
		if sweeps > 1 {
			not++
		}
	})
	if all < 100 || not < 1000 {
		t.Errorf("all went of %d, not of %d", all, not)
	}
}

// knots are rings of any lengths and amounts, through any of n parties, of any classes: each party gets what it sends.
func (s *numbers) knots(n int) []api.Pay {
	var l []api.Pay
	for {
		length, first, amount := 2+int(s.below(int64(n-1))), int(s.below(int64(n))), 1+s.below(9)
		if len(l)+length > api.MaxPays {
			return waits(l...)
		}
		step := 1 + (n-2)*int(s.below(2))
		for k := range length {
			to := (first + (k+1)%length*step) % n
			l = append(l, pay(int64(len(l)*7%41), (first+k*step)%n, to, amount, classes[s.below(3)]))
		}
	}
}

// P20.1, P20.2, P0.5: if all may go at once, all go in one sweep, though nothing goes alone; where one sends more, not all go.
func TestThoughNothingGoesAlone(t *testing.T) {
	x := numbers(83)
	for n := 2; n <= api.MaxParties; n++ {
		for range 60 {
			zero, l := has(make([]int64, n)...), x.knots(n)
			for _, p := range l {
				if fits.Fits(zero, p) {
					t.Fatalf("%v goes alone", p)
				}
			}
			check(t, "all", zero, l, 1, idsOf(l)...)
			for i := range n {
				zero.Bil[i], zero.Mul[i] = lim.Row(n, 99*api.MaxPays), 0
			}
			check(t, "all, with limits", zero, l, 1, idsOf(l)...)
			l[x.below(int64(len(l)))].Amount++
			many, sweeps := Most(zero, l, now)
			if sum(many) == len(l) || sweeps < 2 {
				t.Errorf("Most(%v, %v) = %v, %d", zero, l, many, sweeps)
			}
			checkTold(t, "one sends more", zero, l, now)
		}
	}
}

// P20.1: where nobody's first one holds, all parts are 0, in as many sweeps as one has payments, and one.
func TestNobodysFirst(t *testing.T) {
	for _, class := range classes {
		check(t, "of those below nothing", has(-1, -1, -1), ring(3, 1, class), 2)
		check(t, "of those with nothing, to one that sends none", has(0, 0, 0), waits(pay(1, 0, 2, 1, class), pay(2, 1, 2, 1, class)), 2)
		check(t, "more than all have", has(4, 4, 4), waits(pay(1, 0, 1, 9, class), pay(2, 1, 2, 99, class), pay(3, 2, 0, 5, class)), 4)
		check(t, "too much, each", has(9, 9, 9), waits(pay(1, 0, 1, 10, class), pay(2, 1, 2, 100, class), pay(3, 2, 1, 1000, class)), 3)
		check(t, "of three, two and one", has(-99, -99, -99), waits(pay(1, 0, 1, 3, class), pay(2, 0, 2, 2, class), pay(3, 0, 1, 1, class), pay(4, 1, 2, 2, class), pay(5, 1, 0, 1, class), pay(6, 2, 0, 1, class)), 4)
		check(t, "of one, three and none", has(-9, -9, 9), waits(pay(1, 0, 1, 3, class), pay(2, 1, 2, 2, class), pay(3, 1, 0, 1, class), pay(4, 1, 2, 2, class)), 4)
		check(t, "of those as far below as can be", has(-high, -high), waits(pay(1, 0, 1, api.MaxAmount, class), pay(2, 1, 0, api.MaxAmount, class), pay(3, 1, 0, 1, class)), 3)
	}
}

// P20.1, P20.2, P0.5: rings of which each has nothing go whole, either way round, of any classes, and several at once.
func TestRings(t *testing.T) {
	for n := 2; n <= api.MaxParties; n++ {
		zero := has(make([]int64, n)...)
		for k, class := range classes {
			for _, amount := range []int64{1, 5, api.MaxAmount} {
				check(t, "a ring", zero, ring(n, amount, class), 1, upTo(n)...)
				check(t, "a ring back", zero, back(n, amount, class), 1, idsOf(back(n, amount, class))...)
				both := and(ring(n, amount, class), back(n, amount+2, class))
				if amount < api.MaxAmount {
					check(t, "both ways", zero, both, 1, idsOf(both)...)
				}
			}
			mixed := ring(n, 5, normal)
			for i := range mixed {
				mixed[i].Class = classes[(i+k)%3]
			}
			check(t, "of any classes", zero, mixed, 1, upTo(n)...)
			for i := range n {
				less, more := ring(n, 5, class), ring(n, 5, class)
				less[i].Amount, more[i].Amount = 4, 6
				check(t, "in which one sends less", zero, less, n+1)
				check(t, "in which one sends more", zero, more, n+1)
				twice := and(ring(n, 5, class), []api.Pay{pay(9, i, (i+1)%n, 1, class)})
				check(t, "and one more", zero, twice, 2, upTo(n)...)
			}
		}
	}
	check(t, "two rings", has(0, 0, 0, 0, 0, 0), waits(pay(1, 0, 2, 5, normal), pay(2, 2, 4, 5, normal), pay(3, 4, 0, 5, normal), pay(4, 1, 3, 7, top), pay(5, 3, 5, 7, urgent), pay(6, 5, 1, 7, normal)), 1, 1, 4, 2, 5, 3, 6)
	check(t, "two rings of which one breaks", has(0, 0, 0, 0, 0, 0), waits(pay(1, 0, 2, 5, normal), pay(2, 2, 4, 5, normal), pay(3, 4, 0, 5, normal), pay(4, 1, 3, 7, top), pay(5, 3, 5, 7, urgent), pay(6, 5, 1, 6, normal)), 4, 1, 2, 3)
	check(t, "two rings through one", has(0, 0, 0, 0, 0), waits(pay(1, 0, 1, 5, normal), pay(2, 1, 2, 5, normal), pay(3, 2, 0, 5, normal), pay(4, 0, 3, 7, normal), pay(5, 3, 4, 7, normal), pay(6, 4, 0, 7, normal)), 1, 1, 4, 2, 3, 5, 6)
	check(t, "two rings through one, of which the later one breaks", has(0, 0, 0, 0, 0), waits(pay(1, 0, 1, 5, normal), pay(2, 1, 2, 5, normal), pay(3, 2, 0, 5, normal), pay(4, 0, 3, 7, normal), pay(5, 3, 4, 7, normal), pay(6, 4, 0, 6, normal)), 4, 1, 2, 3)
	check(t, "two rings through one, of which the first one breaks", has(0, 0, 0, 0, 0), waits(pay(1, 0, 1, 5, normal), pay(2, 1, 2, 5, normal), pay(3, 2, 0, 4, normal), pay(4, 0, 3, 7, normal), pay(5, 3, 4, 7, normal), pay(6, 4, 0, 7, normal)), 7)
}

// P20.1, P20.2: a ring that one party's debt breaks: one by one they have nothing from the one ahead any more, sweep by sweep, till one has enough of its own.
func TestBrokenRing(t *testing.T) {
	for n := 2; n <= api.MaxParties; n++ {
		for broke := range n {
			for far := 1; far < n; far++ {
				for _, class := range classes {
					b := has(make([]int64, n)...)
					b.Accts[broke].Balance = -1
					rich := (broke + far) % n
					var ids []int64
					for i := range n {
						if (i-broke+n)%n >= far {
							ids = append(ids, int64(i+1))
						}
					}
					check(t, "by a debt", b, ring(n, 5, class), n+1)
					b.Accts[rich].Balance = 4
					check(t, "till one has not enough", b, ring(n, 5, class), n+1)
					b.Accts[rich].Balance = 5
					check(t, "till one has enough", b, ring(n, 5, class), far+1, ids...)
					b.Accts[rich] = api.Acct{Balance: 2, Credit: 3}
					check(t, "till one has enough by its Credit", b, ring(n, 5, class), far+1, ids...)
					b.Accts[rich] = api.Acct{}
					b.Accts[broke].Credit = 1
					check(t, "not by a debt within a Credit", b, ring(n, 5, class), 1, upTo(n)...)
				}
			}
			l := ring(n, 5, normal)
			l[broke] = later(l[broke])
			check(t, "by one that is not ready", has(make([]int64, n)...), l, n)
		}
	}
}

// P20.1: a chain in which each pays out of what the next one brings, and the last one of its own.
func TestChain(t *testing.T) {
	for n := 2; n <= api.MaxParties; n++ {
		for _, class := range classes {
			chain := back(n, 5, class)[1:]
			b := has(make([]int64, n)...)
			check(t, "of nothing", b, chain, n)
			b.Accts[n-1].Balance = 5
			check(t, "of what the last one has", b, chain, 1, idsOf(chain)...)
			b.Accts[n-1].Balance = 4
			check(t, "of less than that", b, chain, n)
			if n > 2 {
				b.Accts[1].Balance = 5
				check(t, "of what the first one has too", b, chain, n-1, 12)
			}
		}
	}
	l := waits(pay(1, 1, 0, 5, normal), pay(2, 1, 0, 1, normal), pay(3, 2, 1, 3, normal), pay(4, 2, 1, 2, normal), pay(5, 2, 1, 1, normal))
	check(t, "of several", has(0, 0, 6), l, 1, 1, 2, 3, 4, 5)
	check(t, "of several, one short", has(0, 0, 5), l, 3, 1, 3, 4)
	check(t, "of several, much short", has(0, 0, 4), l, 4, 3)
	check(t, "of several, and some of its own", has(0, 2, 4), l, 4, 1, 3)
	check(t, "each adds some", has(0, 1, 1, 5), waits(pay(1, 3, 2, 5, normal), pay(2, 2, 1, 6, normal), pay(3, 1, 0, 7, normal)), 1, 3, 2, 1)
	check(t, "each adds some, one less", has(0, 1, 0, 5), waits(pay(1, 3, 2, 5, normal), pay(2, 2, 1, 6, normal), pay(3, 1, 0, 7, normal)), 3, 1)
}

// P20.1, P20.2: one who is Short has one less each sweep, of one, and of several; no other has.
func TestSweepBySweep(t *testing.T) {
	for n := range 8 {
		for k := range n + 2 {
			for _, class := range classes {
				l := some(class, slices.Repeat([]int64{3}, n)...)
				check(t, "of n, k go", has(int64(3*k), 0), l, n-min(n, k)+1, upTo(min(n, k))...)
				check(t, "of n, k go, one short of one more", has(int64(3*k+2), 0), l, n-min(n, k)+1, upTo(min(n, k))...)
				check(t, "of n, k go, and of another all", has(int64(3*k), 9, 0), and(l, []api.Pay{pay(91, 1, 2, 4, class), pay(92, 1, 2, 5, class)}), n-min(n, k)+1, append(upTo(min(n, k)), 91, 92)...)
			}
		}
	}
}

// P20.1, P20.2: two who are Short in one sweep have one less each in that one, and so have more than two.
func TestShortInOneSweep(t *testing.T) {
	for _, class := range classes {
		check(t, "two of one each", has(0, 0, 0), waits(pay(1, 0, 2, 1, class), pay(2, 1, 2, 1, class)), 2)
		check(t, "two of several", has(1, 1, 0), waits(pay(1, 0, 2, 1, class), pay(2, 0, 2, 1, class), pay(3, 1, 2, 1, class), pay(4, 1, 2, 1, class), pay(5, 1, 2, 1, class)), 3, 1, 3)
		check(t, "each is Short by one", has(5, 5, 5, 0), waits(pay(1, 0, 3, 5, class), pay(2, 0, 3, 1, class), pay(3, 1, 3, 5, class), pay(4, 1, 3, 1, class), pay(5, 2, 3, 5, class), pay(6, 2, 3, 1, class)), 2, 1, 3, 5)
		check(t, "each is Short, of unlike many", has(5, 5, 5, 0), waits(pay(1, 0, 3, 5, class), pay(2, 0, 3, 1, class), pay(3, 0, 3, 1, class), pay(4, 1, 3, 6, class), pay(5, 2, 3, 5, class)), 3, 1, 5)
		check(t, "all of six", has(0, 0, 0, 0, 0, 9), waits(pay(1, 0, 5, 1, class), pay(2, 1, 5, 1, class), pay(3, 2, 5, 1, class), pay(4, 3, 5, 1, class), pay(5, 4, 5, 1, class), pay(6, 5, 0, 9, class)), 2, 1, 6)
	}
}

// P20.1, P20.2: one who is Short only when another one has one less has one less in the sweep behind that one, and gets none back.
func TestShortBehindAnother(t *testing.T) {
	for _, class := range classes {
		check(t, "of what it gets", has(4, 0, 0), waits(pay(1, 0, 1, 5, class), pay(2, 1, 2, 5, class)), 3)
		check(t, "of a part of what it gets", has(5, 0, 0), waits(pay(1, 0, 1, 5, class), pay(3, 0, 1, 1, class), pay(2, 1, 2, 5, class), pay(4, 1, 2, 1, class)), 3, 1, 2)
		check(t, "and the next one behind that", has(5, 0, 0, 0), waits(pay(1, 0, 1, 5, class), pay(4, 0, 1, 1, class), pay(2, 1, 2, 5, class), pay(5, 1, 2, 1, class), pay(3, 2, 3, 5, class), pay(6, 2, 3, 1, class)), 4, 1, 2, 3)
		check(t, "against the order", has(0, 0, 5), waits(pay(1, 2, 1, 5, class), pay(4, 2, 1, 1, class), pay(2, 1, 0, 5, class), pay(5, 1, 0, 1, class)), 3, 2, 1)
		check(t, "by two at once", has(0, 0, 0, 0), waits(pay(1, 0, 2, 1, class), pay(2, 1, 2, 1, class), pay(3, 2, 3, 1, class), pay(4, 2, 3, 1, class)), 4)
		check(t, "by one of two", has(1, 0, 0, 0), waits(pay(1, 0, 2, 1, class), pay(2, 1, 2, 1, class), pay(3, 2, 3, 1, class), pay(4, 2, 3, 1, class)), 3, 1, 3)
		check(t, "and it has enough in the end", has(1, 2, 0), waits(pay(1, 0, 1, 2, class), pay(2, 1, 2, 2, class), pay(3, 1, 2, 2, class)), 3, 2)
		b := bil(has(9, 0, 0), 0, 1, 0)
		check(t, "by a limit", b, waits(pay(1, 0, 1, 5, class), pay(2, 1, 2, 5, class), pay(3, 1, 0, 5, class)), 4)
		check(t, "by a limit, and the limit holds", b, waits(pay(1, 0, 1, 5, class), pay(3, 1, 0, 5, class), pay(2, 1, 2, 5, class)), 2, 1, 3)
		check(t, "by a limit to all", mul(has(9, 0, 0), 0, 0), waits(pay(1, 0, 1, 5, class), pay(2, 1, 2, 5, class), pay(3, 1, 0, 5, class)), 4)
	}
}

// P20.1: of a party the first ones go: what stands behind one that doesn't stays, though it is small, and what goes need not be the greatest sum.
func TestFirstOnes(t *testing.T) {
	for _, class := range classes {
		for _, x := range []struct {
			amounts []int64
			goes    int
		}{
			{[]int64{5}, 1}, {[]int64{5, 1}, 1}, {[]int64{6}, 0}, {[]int64{6, 1}, 0}, {[]int64{6, 1, 1, 1}, 0}, {[]int64{1, 6, 1}, 1}, {[]int64{1, 4}, 2}, {[]int64{1, 5}, 1}, {[]int64{1, 4, 1}, 2}, {[]int64{1, 1, 1, 1, 1, 1, 1}, 5}, {[]int64{2, 2, 2}, 2}, {[]int64{2, 2, 1}, 3}, {[]int64{4, 99, 1, 1}, 1}, {[]int64{api.MaxAmount, 1}, 0},
		} {
			check(t, "first ones", has(5, 0), some(class, x.amounts...), len(x.amounts)-x.goes+1, upTo(x.goes)...)
		}
	}
	check(t, "of a ring", has(0, 0, 0), waits(pay(1, 0, 1, 5, normal), pay(2, 0, 1, 6, normal), pay(3, 0, 1, 1, normal), pay(4, 1, 2, 5, normal), pay(5, 2, 0, 5, normal)), 3, 1, 4, 5)
	check(t, "the small one first, and so the great one not", has(0, 0, 0), waits(pay(3, 0, 1, 1, normal), pay(1, 0, 1, 5, normal), pay(4, 1, 2, 5, normal), pay(5, 2, 0, 5, normal)), 5)
	check(t, "to one who needs it, behind one to another", has(5, 0, 0), waits(pay(1, 0, 2, 5, normal), pay(2, 0, 1, 5, normal), pay(3, 1, 2, 5, normal)), 3, 1)
}

// P20.1: the first ones are those of the row: Top ahead of Urgent ahead of Normal, whichever was put first, and of one class in the row's order.
func TestClasses(t *testing.T) {
	put := []api.Pay{pay(1, 0, 1, 1, normal), pay(2, 0, 1, 2, urgent), pay(3, 0, 1, 3, normal), pay(4, 0, 1, 4, top), pay(5, 0, 1, 5, urgent)}
	ids := []int64{4, 2, 5, 1, 3}
	for k, least := range []int64{0, 4, 6, 11, 12, 15} {
		check(t, "just so many", has(least, 0), waits(put...), len(ids)-k+1, ids[:k]...)
		if k > 0 {
			check(t, "one short of so many", has(least-1, 0), waits(put...), len(ids)-k+2, ids[:k-1]...)
		}
	}
	l, e := row.Front(waits(put...), 5)
	l, f := row.Front(l, 3)
	l, g := row.Class(l, 4, normal)
	if e != api.OK || f != api.OK || g != api.OK {
		t.Fatal(e, f, g)
	}
	check(t, "moved", has(10, 0), l, 3, 5, 2, 3)
	check(t, "moved, and one more goes", has(11, 0), l, 2, 5, 2, 3, 1)
	check(t, "moved, and all go", has(15, 0), l, 1, 5, 2, 3, 1, 4)
	for _, class := range []int{top, urgent} {
		check(t, "one that doesn't go holds back all behind it", has(5, 0), waits(pay(1, 0, 1, 6, class), pay(2, 0, 1, 1, urgent), pay(3, 0, 1, 1, normal)), 4)
		check(t, "one that goes holds back none, and many go", has(5, 0), waits(pay(1, 0, 1, 2, class), pay(2, 0, 1, 1, urgent), pay(3, 0, 1, 1, normal), pay(4, 0, 1, 1, normal)), 1, 1, 2, 3, 4)
		check(t, "it holds back none of another From", has(5, 5, 0), waits(pay(1, 0, 1, 6, class), pay(2, 1, 2, 4, normal), pay(3, 1, 2, 1, normal)), 2, 2, 3)
	}
}

// P20.1: how far a Credit goes.
func TestCredit(t *testing.T) {
	for _, class := range classes {
		for _, x := range []struct {
			a    api.Acct
			goes int
		}{
			{api.Acct{Credit: 4}, 0}, {api.Acct{Credit: 5}, 1}, {api.Acct{Credit: 9}, 1}, {api.Acct{Credit: 10}, 2}, {api.Acct{Balance: 2, Credit: 2}, 0}, {api.Acct{Balance: 2, Credit: 3}, 1}, {api.Acct{Balance: 3, Credit: 7}, 2}, {api.Acct{Balance: -3, Credit: 7}, 0}, {api.Acct{Balance: -3, Credit: 8}, 1},
			{api.Acct{Balance: 5 - set, Credit: set}, 1}, {api.Acct{Balance: 4 - set, Credit: set}, 0}, {api.Acct{Balance: high, Credit: set}, 2}, {api.Acct{Balance: -high, Credit: set}, 0},
		} {
			check(t, "of its own", books(x.a, api.Acct{}), some(class, 5, 5), 3-x.goes, upTo(x.goes)...)
		}
		check(t, "of who gets it", books(api.Acct{Balance: 4}, api.Acct{Credit: 99}), some(class, 5), 2)
		check(t, "with what comes in", books(api.Acct{Credit: 2}, api.Acct{Credit: 1}), and(some(class, 5, 1), []api.Pay{pay(3, 1, 0, 4, class), pay(4, 1, 0, 3, class)}), 1, 1, 2, 3, 4)
		check(t, "with what comes in, one more", books(api.Acct{Credit: 2}, api.Acct{Credit: 1}), and(some(class, 5, 1), []api.Pay{pay(3, 1, 0, 4, class), pay(4, 1, 0, 4, class)}), 2, 1, 2, 3)
		check(t, "of one who lies below it and sends nothing", books(api.Acct{Balance: 5}, api.Acct{Balance: -99, Credit: 9}), some(class, 5), 1, 1)
	}
}

// P20.1: what a Reserve keeps from Normal ones, less what goes Top and Urgent at once with them; where no Normal one goes it keeps nothing.
func TestReserve(t *testing.T) {
	kept := books(api.Acct{Balance: 9, Reserve: 4}, api.Acct{Reserve: 3})
	check(t, "just what it leaves", kept, some(normal, 3, 2), 1, 1, 2)
	check(t, "one more", kept, some(normal, 3, 3), 2, 1)
	check(t, "with what comes in", kept, and(some(normal, 3, 7), []api.Pay{pay(3, 1, 0, 5, normal)}), 1, 1, 2, 3)
	check(t, "with what comes in, one more", kept, and(some(normal, 3, 8), []api.Pay{pay(3, 1, 0, 5, normal)}), 3, 1)
	check(t, "above what there is", books(api.Acct{Reserve: 1}, api.Acct{}), ring(2, 5, normal), 3)
	check(t, "above what there is, and more comes in", books(api.Acct{Reserve: 1}, api.Acct{Balance: 1}), waits(pay(1, 0, 1, 5, normal), pay(2, 1, 0, 6, normal)), 1, 1, 2)
	check(t, "of one who sends nothing", books(api.Acct{Balance: 5}, api.Acct{Reserve: set}), some(normal, 5), 1, 1)
	check(t, "just there", books(api.Acct{Balance: 4, Reserve: 4}, api.Acct{Balance: 3, Reserve: 3}), ring(2, 5, normal), 1, 1, 2)
	for _, class := range []int{top, urgent} {
		check(t, "all of it", kept, some(class, 5, 4), 1, 1, 2)
		check(t, "one more than all", kept, some(class, 5, 5), 2, 1)
		check(t, "above what there is", books(api.Acct{Reserve: 9}, api.Acct{Reserve: 9}), ring(2, 5, class), 1, 1, 2)
		check(t, "above what there is, and a Normal one", books(api.Acct{Reserve: 9}, api.Acct{Reserve: 9}), waits(pay(1, 0, 1, 5, class), pay(2, 1, 0, 5, normal)), 3)
		spent := func(out, rest int64) []api.Pay { return waits(pay(1, 0, 1, out, class), pay(2, 0, 1, rest, normal)) }
		check(t, "some spent of it", kept, spent(3, 5), 1, 1, 2)
		check(t, "some spent of it, one more", kept, spent(3, 6), 2, 1)
		check(t, "just all spent", kept, spent(4, 5), 1, 1, 2)
		check(t, "all and more spent", kept, spent(5, 4), 1, 1, 2)
		check(t, "all and more spent, one more", kept, spent(5, 5), 2, 1)
		check(t, "all and more spent, and it is not gone below nothing", kept, spent(9, 1), 2, 1)
		check(t, "what comes in does not fill it", kept, and(spent(3, 8), []api.Pay{pay(3, 1, 0, 3, class)}), 1, 1, 2, 3)
		check(t, "a Normal one makes one Short, without it none is", books(api.Acct{Balance: 9, Reserve: 8}, api.Acct{}), spent(2, 2), 2, 1)
	}
	c, _, _ := Run(books(api.Acct{Balance: 9, Reserve: 4}, api.Acct{Reserve: 3}), waits(pay(1, 0, 1, 1, top), pay(2, 0, 1, 2, urgent), pay(3, 0, 1, 5, normal), pay(4, 1, 0, 4, urgent)), now)
	if !slices.Equal(c.Accts, []api.Acct{{Balance: 5, Reserve: 1}, {Balance: 4}}) {
		t.Errorf("what is kept: %v", c.Accts)
	}
}

// P20.1: how far a limit to one lets one go, with what was sent to that one, and with what comes from it.
func TestLimitsToOne(t *testing.T) {
	for _, class := range classes {
		b := bil(has(99, 99, 99), 0, 1, 5)
		from := func(i int, n int64) []api.Pay { return []api.Pay{pay(9, i, 0, n, class)} }
		check(t, "just the limit", b, some(class, 3, 2), 1, 1, 2)
		check(t, "one more", b, some(class, 3, 3), 2, 1)
		check(t, "one more, and one comes from it", b, and(some(class, 3, 3), from(1, 1)), 1, 1, 2, 9)
		check(t, "two more, and one comes from it", b, and(some(class, 3, 4), from(1, 1)), 2, 1, 9)
		check(t, "one more, and one comes from a third", b, and(some(class, 3, 3), from(2, 1)), 2, 1, 9)
		check(t, "one more, and one that comes from it does not go", with(b, func(b *api.Books) { b.Accts[1].Balance = -1 }), and(some(class, 4, 2), from(1, 6)), 3, 1)
		check(t, "of who gets it", bil(has(99, 99), 1, 0, 0), some(class, 9, 9), 1, 1, 2)
		check(t, "to a third", bil(bil(has(99, 99, 99), 0, 2, 0), 1, 2, 0), some(class, 9, 9), 1, 1, 2)
		check(t, "no limit", bil(b, 0, 1, api.None), some(class, 9, 90), 1, 1, 2)
		check(t, "0", bil(b, 0, 1, 0), some(class, 1, 1), 3)
		check(t, "0, and as much comes from it", bil(b, 0, 1, 0), and(some(class, 1, 1), from(1, 2)), 1, 1, 2, 9)
		check(t, "0 of each of a ring of two", bil(bil(has(0, 0), 0, 1, 0), 1, 0, 0), ring(2, 5, class), 1, 1, 2)
		check(t, "0 of one of a ring of three", bil(has(0, 0, 0), 0, 1, 0), ring(3, 5, class), 4)
		check(t, "0 of one of a ring of three, to another", bil(has(0, 0, 0), 0, 2, 0), ring(3, 5, class), 1, 1, 2, 3)
		check(t, "a Position", sent(b, 0, 1, 2), some(class, 1, 2), 1, 1, 2)
		check(t, "a Position, one more", sent(b, 0, 1, 2), some(class, 2, 2), 2, 1)
		check(t, "a Position below 0", sent(b, 1, 0, 2), some(class, 4, 3), 1, 1, 2)
		check(t, "a Position below 0, one more", sent(b, 1, 0, 2), some(class, 4, 4), 2, 1)
		check(t, "a Position above it", sent(b, 0, 1, 9), and(some(class, 1, 1), from(1, 4)), 3, 9)
		check(t, "a Position above it, that falls to it", sent(b, 0, 1, 9), and(some(class, 1, 1), from(1, 6)), 1, 1, 2, 9)
		check(t, "a Position above it to one to which it sends nothing", sent(b, 0, 1, 9), waits(pay(1, 0, 2, 1, class)), 1, 1)
		check(t, "a Position to a third", sent(b, 0, 2, 99), some(class, 3, 2), 1, 1, 2)
		check(t, "what stands behind one that it holds", b, waits(pay(1, 0, 2, 9, class), pay(2, 0, 1, 6, class), pay(3, 0, 2, 1, class)), 3, 1)
		check(t, "each to one", bil(bil(b, 0, 2, 3), 1, 2, 1), waits(pay(1, 0, 1, 5, class), pay(2, 0, 2, 3, class), pay(3, 0, 2, 1, class), pay(4, 1, 2, 1, class), pay(5, 1, 2, 1, class)), 2, 1, 2, 4)
	}
}

// P20.1: how far a limit to all lets one go, with what was sent to all, and with what comes from any.
func TestLimitsToAll(t *testing.T) {
	for _, class := range classes {
		b := mul(has(99, 99, 99), 0, 5)
		out := func(n, m int64) []api.Pay { return []api.Pay{pay(1, 0, 1, n, class), pay(2, 0, 2, m, class)} }
		from := func(i int, n int64) []api.Pay { return []api.Pay{pay(9, i, 0, n, class)} }
		check(t, "just the limit", b, out(3, 2), 1, 1, 2)
		check(t, "one more", b, out(3, 3), 2, 1)
		for i := 1; i < 3; i++ {
			check(t, "one more, and one comes", b, and(out(3, 3), from(i, 1)), 1, 1, 2, 9)
			check(t, "two more, and one comes", b, and(out(3, 4), from(i, 1)), 2, 1, 9)
			check(t, "what was sent to one", sent(b, 0, i, 2), out(1, 2), 1, 1, 2)
			check(t, "what was sent to one, one more", sent(b, 0, i, 2), out(1, 3), 2, 1)
			check(t, "what came from one", sent(b, i, 0, 2), out(4, 3), 1, 1, 2)
			check(t, "what came from one, one more", sent(b, i, 0, 2), out(4, 4), 2, 1)
			check(t, "above it as it is", sent(b, 0, i, 9), and(out(1, 1), from(i, 4)), 3, 9)
			check(t, "above it as it is, and falling to it", sent(b, 0, i, 9), and(out(1, 1), from(i, 6)), 1, 1, 2, 9)
		}
		check(t, "above it as it is, of one who sends nothing", sent(b, 0, 1, 9), from(1, 1), 1, 9)
		check(t, "of who gets it", mul(has(99, 99), 1, 0), some(class, 9, 9), 1, 1, 2)
		check(t, "of a third", mul(has(99, 99, 99), 2, 0), some(class, 9, 9), 1, 1, 2)
		check(t, "no limit", mul(b, 0, api.None), out(9, 90), 1, 1, 2)
		check(t, "0", mul(b, 0, 0), out(1, 1), 3)
		check(t, "0 of each of a ring", mul(mul(mul(has(0, 0, 0), 0, 0), 1, 0), 2, 0), ring(3, 5, class), 1, 1, 2, 3)
		check(t, "0 of one of a ring in which it sends more", mul(has(9, 0, 0), 0, 0), waits(pay(1, 0, 1, 6, class), pay(2, 1, 2, 5, class), pay(3, 2, 0, 5, class)), 4)
		check(t, "and a limit to one", bil(b, 0, 1, 2), waits(pay(1, 0, 1, 2, class), pay(2, 0, 2, 3, class), pay(3, 0, 2, 1, class), pay(4, 0, 1, 1, class)), 3, 1, 2)
	}
}

// P20.1: a choice that holds and can't be Posted: Most tells it, and nothing of it is Posted, Dropped or done.
func TestCanNotBePosted(t *testing.T) {
	for _, class := range classes {
		full := has(9, high-3, 0, 0)
		check(t, "just as much as can be held", full, some(class, 3), 1, 1)
		checkHeld(t, "one more", full, some(class, 4), 1, 1)
		checkHeld(t, "one more in two", full, some(class, 3, 1), 1, 1, 2)
		checkHeld(t, "and a ring of others", full, and(some(class, 4), []api.Pay{pay(3, 2, 3, 5, class), pay(4, 3, 2, 5, class)}), 1, 1, 3, 4)
		checkHeld(t, "and one that goes nowhere", full, and(some(class, 4), []api.Pay{pay(3, 2, 3, 5, class)}), 2, 1)
		checkHeld(t, "the first alone could be", full, some(class, 3, 6), 1, 1, 2)
		checkHeld(t, "behind some sweeps", full, some(class, 3, 6, 1, 1), 3, 1, 2)
		check(t, "not in the choice", full, some(class, 3, 7), 2, 1)
		check(t, "and it sends some itself", full, and(some(class, 4), []api.Pay{pay(3, 1, 2, 1, class)}), 1, 1, 3)
		checkHeld(t, "and it sends less itself", full, and(some(class, 5), []api.Pay{pay(3, 1, 2, 1, class)}), 1, 1, 3)
		check(t, "a position just as great as can be", sent(has(9, 0), 0, 1, far-4), some(class, 3, 1), 1, 1, 2)
		checkHeld(t, "a position one more", sent(has(9, 0), 0, 1, far-3), some(class, 3, 1), 1, 1, 2)
		checkHeld(t, "a position one more, and a ring of others", sent(has(9, 0, 0, 0), 0, 1, far-3), and(some(class, 3, 1), []api.Pay{pay(3, 2, 3, 5, class), pay(4, 3, 2, 5, class)}), 1, 1, 2, 3, 4)
		check(t, "a position that falls", sent(has(9, 0), 1, 0, far), some(class, 9), 1, 1)
		check(t, "the greatest, and its balance", has(api.MaxAmount, high-api.MaxAmount), some(class, api.MaxAmount), 1, 1)
		checkHeld(t, "the greatest, and one more", has(api.MaxAmount, high-api.MaxAmount+1), some(class, api.MaxAmount), 1, 1)
		checkHeld(t, "the last of a chain", has(9, 9, high), waits(pay(1, 0, 1, 5, class), pay(2, 1, 2, 14, class)), 1, 1, 2)
	}
}

// P20.1: all are Posted at once, not one by one: what is too much, too little or Short on the way alone goes.
func TestPostedAtOnce(t *testing.T) {
	for _, class := range classes {
		for n := 2; n <= api.MaxParties; n++ {
			l := ring(n, api.MaxAmount, class)
			check(t, "too much on the way", has(slices.Repeat([]int64{high}, n)...), l, 1, upTo(n)...)
			zero := has(make([]int64, n)...)
			zero.Accts[n/2].Balance = high
			check(t, "too much on the way for one", zero, l, 1, upTo(n)...)
			if n == 2 {
				check(t, "a position on the way", sent(zero, 0, 1, far), l, 1, 1, 2)
				check(t, "a position back on the way", sent(zero, 1, 0, far), l, 1, 1, 2)
			}
		}
		check(t, "Short on the way", has(0, 0), and(some(class, 3, 4), []api.Pay{pay(3, 1, 0, 7, class)}), 1, 1, 2, 3)
		check(t, "above a limit on the way", bil(mul(has(99, 99), 0, 0), 0, 1, 0), and(some(class, 3, 4), []api.Pay{pay(3, 1, 0, 7, class)}), 1, 1, 2, 3)
	}
}

// full is a row of MaxPays payments of n parties, each in turn to each: of amounts from least on, and of such classes.
func full(n int, least int64, class func(k int) int) []api.Pay {
	var l []api.Pay
	for k := range api.MaxPays {
		i := k % n
		j := (i + 1 + k/n%(n-1)) % n
		l = append(l, pay(int64(1000-k*7%41), i, j, least+int64(k/n%3), class(k)))
	}
	return waits(l...)
}

// P20.1, P20.2: a row of MaxPays, of which all go, some, and none.
func TestMaxPays(t *testing.T) {
	for n := 2; n <= api.MaxParties; n++ {
		zero, rich := has(make([]int64, n)...), has(slices.Repeat([]int64{999}, n)...)
		for k, class := range classes {
			l := full(n, 5, func(int) int { return class })
			check(t, "all", rich, l, 1, idsOf(l)...)
			checkTold(t, "some", zero, l, now)
			check(t, "none", has(slices.Repeat([]int64{-999}, n)...), l, (api.MaxPays+n-1)/n+1)
			checkAt(t, "none, by the tick", rich, l, 10, 1)
			mixed := full(n, 1, func(i int) int { return classes[(i+k)%3] })
			check(t, "all, of any class", rich, mixed, 1, idsOf(mixed)...)
			for i := range int64(20) {
				checkTold(t, "some, of any class", has([]int64{2, 3, 0, i / 2, 1, i}[:n]...), mixed, now)
			}
			for j := 0; j < len(l); j += 7 {
				but := slices.Clone(l)
				but[j] = later(but[j])
				check(t, "all but one", rich, but, 1, idsOf(without(l, l[j:j+1]))...)
			}
		}
		if api.MaxPays%n == 0 {
			var l []api.Pay
			for k := range api.MaxPays {
				l = append(l, pay(int64(k+1), k%n, (k+1)%n, int64(1+k/n), classes[k/n%3]))
			}
			l = waits(l...)
			check(t, "rings, of nothing", zero, l, 1, idsOf(l)...)
		}
	}
	for _, class := range classes {
		check(t, "of one", has(api.MaxPays, 0), some(class, slices.Repeat([]int64{1}, api.MaxPays)...), 1, upTo(api.MaxPays)...)
		check(t, "of one, but one", has(api.MaxPays-1, 0), some(class, slices.Repeat([]int64{1}, api.MaxPays)...), 2, upTo(api.MaxPays-1)...)
		check(t, "of one, but half", has(api.MaxPays/2, 0), some(class, slices.Repeat([]int64{1}, api.MaxPays)...), api.MaxPays/2+1, upTo(api.MaxPays/2)...)
		check(t, "of the greatest", has(api.MaxPays*api.MaxAmount, 0), some(class, slices.Repeat([]int64{api.MaxAmount}, api.MaxPays)...), 1, upTo(api.MaxPays)...)
		check(t, "of the greatest, but one", has(api.MaxPays*api.MaxAmount-1, 0), some(class, slices.Repeat([]int64{api.MaxAmount}, api.MaxPays)...), 2, upTo(api.MaxPays-1)...)
	}
}

// P20.2: as many sweeps as payments are ready, and one: where one alone is Short in each, and all are gone in the end.
func TestMostSweeps(t *testing.T) {
	for _, class := range classes {
		for n := range api.MaxPays + 1 {
			check(t, "of one", has(-1, 0), some(class, slices.Repeat([]int64{1}, n)...), n+1)
			held := and(some(class, slices.Repeat([]int64{1}, n)...), []api.Pay{later(pay(99, 0, 1, 1, class))})
			if n < api.MaxPays {
				check(t, "of one, and one that is not ready", has(-1, 0), held, n+1)
			}
		}
		// 0 has one less, then 1 has one less till its first one is gone, by its limit to 0, and then 0 again, which gets nothing any more.
		l := some(class, slices.Repeat([]int64{1}, 20)...)
		l = append(l, pay(100, 1, 0, 20, class))
		for i := range int64(19) {
			l = append(l, pay(101+i, 1, 2, 1, class))
		}
		check(t, "of two, to and fro", bil(has(-1, 99, 0), 1, 0, 0), waits(l...), api.MaxPays+1)
	}
	for n := 2; n <= api.MaxParties; n++ {
		var l []api.Pay
		for i := range n {
			l = append(l, pay(int64(i+1), i, (i+1)%n, 5, normal))
		}
		l[n-1].Amount = 4
		check(t, "of a ring", has(make([]int64, n)...), l, n+1)
	}
}

// P20.1: many has a part for each account, also for those that send nothing.
func TestParts(t *testing.T) {
	for n := 2; n <= api.MaxParties; n++ {
		for from := range n {
			l := waits(pay(1, from, (from+1)%n, 5, normal), pay(2, from, (from+1)%n, 4, normal))
			want := make([]int, n)
			b := has(oneHas(n, from, 5)...)
			want[from] = 1
			if many, sweeps := Most(b, l, now); !slices.Equal(many, want) || sweeps != 2 {
				t.Errorf("Most(%v, %v) = %v, %d, want %v, 2", b, l, many, sweeps, want)
			}
			want[from] = 0
			if many, sweeps := Most(b, l, now+9); len(many) != n || !slices.Equal(many, want) || sweeps != 1 {
				t.Errorf("Most(%v, %v) = %v, %d, want %v, 1", b, l, many, sweeps, want)
			}
		}
	}
}

// oneHas is n balances of 0 but one.
func oneHas(n, i int, balance int64) []int64 {
	l := make([]int64, n)
	l[i] = balance
	return l
}

// greatest is, of each part, the greatest that it is in any choice that holds, each choice tried out.
func greatest(b api.Books, l []api.Pay, tick int64) []int {
	all, best := readyOf(l, len(b.Accts), tick), make([]int, len(b.Accts))
	many := make([]int, len(all))
	for i := 0; i < len(all); {
		if holds(b, choiceOf(l, tick, many)) {
			for j, k := range many {
				best[j] = max(best[j], k)
			}
		}
		for i = 0; i < len(all); i++ {
			if many[i] < all[i] {
				many[i]++
				break
			}
			many[i] = 0
		}
	}
	return best
}

// P20.1, P0.5: the choice holds, and each of its parts is the greatest that it is in any choice that holds.
func TestGreatest(t *testing.T) {
	x := numbers(97)
	part, whole, none := 0, 0, 0
	for range 2000 {
		n := 2 + int(x.below(3))
		b, l := x.books(n), x.pays(n, int(x.below(9)))
		for i := range l {
			l[i].Amount = min(l[i].Amount, 12)
		}
		want := greatest(b, l, now)
		many, _ := Most(b, l, now)
		if !slices.Equal(many, want) || !holds(b, choiceOf(l, now, many)) {
			t.Fatalf("Most(%v, %v, %d) = %v, want %v", b, l, now, many, want)
		}
		switch sum(want) {
		case 0:
			none++
		case sum(readyOf(l, n, now)):
			whole++
		default:
			part++
		}
	}
	if part < 200 || whole < 200 || none < 200 {
		t.Errorf("%d went in part, %d whole, %d not at all", part, whole, none)
	}
}

// eachAsked goes through any books and rows, at ticks at which much is ready, and at such at which little is.
func eachAsked(seed numbers, many int, do func(b api.Books, l []api.Pay, tick int64)) {
	for i := range many {
		n := 2 + int(min(seed.below(5), seed.below(5)))
		b, l := seed.books(n), seed.pays(n, int(seed.below(api.MaxPays+1)))
		if i%2 == 0 {
			for j := range b.Accts {
				b.Accts[j].Balance = min(b.Accts[j].Balance, high-30) + seed.below(30)
			}
		}
		do(b, l, []int64{now, now, now, now, 0, now + 1, seed.below(20), most}[seed.below(8)])
	}
}

// P20.1, P20.2: any books, any row, any tick.
func TestAny(t *testing.T) {
	part, held, long := 0, 0, 0
	eachAsked(7, 3000, func(b api.Books, l []api.Pay, tick int64) {
		checkTold(t, "any", b, l, tick)
		many, sweeps := Most(b, l, tick)
		_, _, done := Run(b, l, tick)
		if len(done) > 3 && sweeps > 2 {
			part++
		}
		if len(done) == 0 && sum(many) > 0 {
			held++
		}
		if sweeps > 10 {
			long++
		}
	})
	if part < 300 || held < 100 || long < 300 {
		t.Errorf("%d went in part, %d were held, %d took many sweeps", part, held, long)
	}
}

// P20.1: what goes is the first ones of what is ready, as many of each as Most tells, in the row's order; Run answers what post and row make of them, all at once.
func TestRunIsMost(t *testing.T) {
	eachAsked(31, 1500, func(b api.Books, l []api.Pay, tick int64) {
		many, _ := Most(b, l, tick)
		c, left, done := Run(b, l, tick)
		choice := view.Heads(view.Ready(l, tick), many...)
		want, e := post.Post(b, choice...)
		if e != api.OK {
			choice = nil
		}
		rest := slices.Clone(l)
		for _, p := range choice {
			rest, _, e = row.Drop(rest, p.ID)
			if e != api.OK {
				t.Fatal(e)
			}
		}
		if !fits.Fits(b, choice...) || !lim.Same(c, want) || !slices.Equal(left, rest) || !slices.Equal(done, choice) {
			t.Fatalf("Run(%v, %v, %d) = %v, %v, %v, want %v, %v, %v", b, l, tick, c, left, done, want, rest, choice)
		}
	})
}

// P20.1: sweep by sweep: each that is Short has one less, and none was Short behind the last sweep, nor in none ahead of it.
func TestEachSweep(t *testing.T) {
	eachAsked(37, 1500, func(b api.Books, l []api.Pay, tick int64) {
		ready := view.Ready(l, tick)
		want := readyOf(l, len(b.Accts), tick)
		many, sweeps := Most(b, l, tick)
		for k := range sweeps {
			short := fits.Short(b, view.Heads(ready, want...)...)
			if (len(short) == 0) != (k == sweeps-1) {
				t.Fatalf("Most(%v, %v, %d): %v are Short in sweep %d of %d", b, l, tick, short, k, sweeps)
			}
			for _, i := range short {
				want[i]--
			}
		}
		if !slices.Equal(many, want) {
			t.Fatalf("Most(%v, %v, %d) = %v, want %v", b, l, tick, many, want)
		}
	})
}

// P20.1: behind a Run that settled something there is no choice any more: it would have been in the first one; another Run settles nothing.
func TestBehindRun(t *testing.T) {
	settled := 0
	eachAsked(11, 1500, func(b api.Books, l []api.Pay, tick int64) {
		c, left, done := Run(b, l, tick)
		if many, _ := Most(c, left, tick); len(done) > 0 && sum(many) > 0 {
			t.Fatalf("behind Run(%v, %v, %d) there is %v", b, l, tick, many)
		}
		if len(done) > 0 {
			settled++
		}
		d, still, more := Run(c, left, tick)
		if !lim.Same(d, c) || !slices.Equal(still, left) || len(more) != 0 {
			t.Fatalf("behind Run(%v, %v, %d): %v, %v, %v", b, l, tick, d, still, more)
		}
	})
	if settled < 300 {
		t.Errorf("%d settled something", settled)
	}
}

// P20.1: where one party has more Credit, or no limit to all, no part of the choice is less.
func TestMoreHelps(t *testing.T) {
	x := numbers(71)
	eachAsked(73, 1000, func(b api.Books, l []api.Pay, tick int64) {
		many, _ := Most(b, l, tick)
		i := int(x.below(int64(len(b.Accts))))
		more, _ := Most(with(b, func(b *api.Books) { b.Accts[i].Credit += 1 + x.below(9) }), l, tick)
		free, _ := Most(with(b, func(b *api.Books) { b.Mul[i] = api.None }), l, tick)
		for j := range many {
			if more[j] < many[j] || free[j] < many[j] {
				t.Fatalf("Most(%v, %v, %d) = %v, with more %v, with no limit %v", b, l, tick, many, more, free)
			}
		}
	})
}

// P20.1, P0.3, P0.4: what is left waits in its order; what went was of the row, ready, each once, in the row's order; what all have together stays, all positions together are nothing, limits are what they were, and no sender comes to lie below its floor.
func TestNothingIsLost(t *testing.T) {
	total := func(b api.Books) *big.Int {
		sum := whole(0)
		for _, a := range b.Accts {
			sum = plus(sum, whole(a.Balance))
		}
		return sum
	}
	eachAsked(53, 1500, func(b api.Books, l []api.Pay, tick int64) {
		c, left, done := Run(b, l, tick)
		if len(left)+len(done) != len(l) || !row.Is(left) || !row.Is(done) || !slices.Equal(left, without(l, done)) || !slices.Equal(done, without(l, left)) {
			t.Fatalf("of %v %v went, %v are left", l, done, left)
		}
		for _, p := range done {
			if a := c.Accts[p.From]; tick < p.Start || tick > p.Till || a.Balance+a.Credit < 0 {
				t.Fatalf("%v went", p)
			}
		}
		positions := whole(0)
		for i := range c.Accts {
			positions = plus(positions, netOf(c, nil, i))
		}
		limits := with(c, func(c *api.Books) { c.Accts, c.Pos = b.Accts, b.Pos })
		if total(c).Cmp(total(b)) != 0 || positions.Sign() != 0 || !lim.Is(c) || !lim.Same(limits, b) {
			t.Fatalf("%v became %v", b, c)
		}
	})
}

// P20.1: all rows of up to four little payments of three, with all little balances.
func TestSmall(t *testing.T) {
	of := []api.Pay{pay(0, 0, 1, 1, normal), pay(0, 0, 1, 2, normal), pay(0, 1, 0, 1, normal), pay(0, 1, 2, 2, normal), pay(0, 1, 0, 1, urgent), pay(0, 2, 0, 2, normal), pay(0, 2, 1, 1, top), later(pay(0, 0, 1, 1, urgent))}
	rows := [][]api.Pay{nil}
	for i := 0; i < len(rows); i++ {
		for _, p := range of {
			if len(rows[i]) < 4 {
				p.ID = int64(9 - len(rows[i]))
				rows = append(rows, append(slices.Clone(rows[i]), p))
			}
		}
	}
	for i, l := range rows {
		l = waits(l...)
		for n := range int64(4) {
			b := has(n%2, n/2, int64(i)%2)
			checkTold(t, "small", b, l, now)
			b.Accts[0].Reserve = 1
			checkTold(t, "small, with a Reserve and limits", mul(bil(b, 0, 1, 1), 1, 0), l, now)
		}
	}
}

// roomy are b's numbers with spare room behind the end of each list, that has something in it.
func roomy(b api.Books) api.Books {
	row := func(l []int64) []int64 { return slices.Concat(l, []int64{spare, spare})[:len(l)] }
	square := func(l [][]int64) [][]int64 {
		var r [][]int64
		for _, v := range l {
			r = append(r, row(v))
		}
		return slices.Concat(r, [][]int64{{spare}})[:len(l)]
	}
	return api.Books{Accts: slices.Concat(b.Accts, []api.Acct{{Balance: spare}})[:len(b.Accts)], Bil: square(b.Bil), Mul: row(b.Mul), Pos: square(b.Pos)}
}

// isRoomy tells whether b is roomy(was), also behind each list's end.
func isRoomy(b, was api.Books) bool {
	row := func(l []int64) bool { return slices.Equal(l[len(l):len(l)+2], []int64{spare, spare}) }
	square := func(l [][]int64) bool {
		return !slices.ContainsFunc(l, func(v []int64) bool { return !row(v) }) && slices.Equal(l[:len(l)+1][len(l)], []int64{spare})
	}
	return lim.Same(b, was) && b.Accts[:len(b.Accts)+1][len(b.Accts)] == (api.Acct{Balance: spare}) && square(b.Bil) && row(b.Mul) && square(b.Pos)
}

// rowsOf are all rows of numbers of b, each with the spare room behind its end, those too that lie behind the end of a square.
func rowsOf(b api.Books) [][]int64 {
	rows := slices.Concat(b.Bil[:cap(b.Bil)], b.Pos[:cap(b.Pos)], [][]int64{b.Mul})
	for i, row := range rows {
		rows[i] = row[:cap(row)]
	}
	return rows
}

// scribble writes into all memory of b, spare room too: each row of numbers one number of its own, from n on. It tells whether none of them was another's, and none of a square's rows another square's.
func scribble(b api.Books, n int64) bool {
	rows := rowsOf(b)
	for i, row := range rows {
		for j := range row {
			row[j] = n + int64(i)
		}
	}
	accts := b.Accts[:cap(b.Accts)]
	for i := range accts {
		accts[i] = api.Acct{Balance: n, Credit: n, Reserve: n}
	}
	for i, row := range rows {
		if slices.ContainsFunc(row, func(v int64) bool { return v != n+int64(i) }) {
			return false
		}
	}
	clear(b.Bil[:cap(b.Bil)])
	apart := !slices.ContainsFunc(b.Pos, func(row []int64) bool { return row == nil })
	clear(b.Pos[:cap(b.Pos)])
	return apart
}

// fill writes into all of l's memory, spare room too, a payment of its own.
func fill(l []api.Pay, id int64) {
	l = l[:cap(l)]
	for i := range l {
		l[i] = pay(id, 9, 9, id, 9)
	}
}

// isAnywhere tells whether a payment of such an ID is in l's memory, spare room too.
func isAnywhere(l []api.Pay, id int64) bool {
	return slices.ContainsFunc(l[:cap(l)], func(p api.Pay) bool { return p.ID == id })
}

// P20.2, W6: books and the row stay as they were, and so does the room behind each list's end; nothing there is asked.
func TestNothingIsChanged(t *testing.T) {
	eachAsked(3, 400, func(b api.Books, l []api.Pay, tick int64) {
		for _, room := range []int{0, 1, 2, 50} {
			from := roomy(b)
			list := slices.Concat(l, slices.Repeat(ring(2, 1, top), room))
			was := slices.Clone(list)
			many, sweeps := Most(from, list[:len(l)], tick)
			want, wantSweeps := Most(b, l, tick)
			c, left, done := Run(from, list[:len(l)], tick)
			d, still, same := Run(b, l, tick)
			if !slices.Equal(many, want) || sweeps != wantSweeps || !lim.Same(c, d) || !slices.Equal(left, still) || !slices.Equal(done, same) {
				t.Fatalf("%v, %v: what stands behind the end is asked", b, l)
			}
			fillParts(many, 700)
			scribble(c, 1000)
			fill(left, -1)
			fill(done, -2)
			if !isRoomy(from, b) || !slices.Equal(list, was) {
				t.Fatalf("%v became %v, %v became %v", b, from, was, list)
			}
		}
	})
}

// fillParts writes a number into all of a choice's memory, spare room too.
func fillParts(many []int, n int) {
	many = many[:cap(many)]
	for i := range many {
		many[i] = n
	}
}

// W2, W6, W7: what Most and Run answer is new memory, spare room too, of which no two lists share any, whether something went or not; it stays what it is, whatever becomes of what was handed in, of another answer, and whatever is called later.
func TestAnswersAreNewMemory(t *testing.T) {
	eachAsked(5, 600, func(b api.Books, l []api.Pay, tick int64) {
		want, _ := toldMost(b, l, tick)
		wantC, wantLeft, wantDone := toldRun(b, l, tick, want)
		from, list := roomy(b), slices.Concat(l, l)[:len(l)]
		many, _ := Most(from, list, tick)
		parts, _ := Most(from, list, tick)
		c, left, done := Run(from, list, tick)
		d, still, more := Run(from, list, tick)
		if !scribble(c, 2000) {
			t.Fatalf("lists of Run(%v, %v, %d) share memory", b, l, tick)
		}
		fill(left, -1)
		fill(done, -2)
		if isAnywhere(left, -2) {
			t.Fatalf("what is left and what went share memory")
		}
		fillParts(many, 800)
		scribble(from, 3000)
		fill(list, -3)
		other, _ := Most(has(9, 0, 0), ring(3, 2, normal), now)
		fillParts(other, 900)
		e, gone, went := Run(has(9, 0, 0), append(ring(3, 2, normal)[:2:2], pay(9, 2, 1, 99, top)), now)
		scribble(e, 4000)
		fill(gone, -4)
		fill(went, -5)
		if !slices.Equal(parts, want) || !lim.Same(d, wantC) || !slices.Equal(still, wantLeft) || !slices.Equal(more, wantDone) {
			t.Fatalf("Most and Run(%v, %v, %d) became %v, %v, %v, %v", b, l, tick, parts, d, still, more)
		}
	})
}

// W2, W6: books that share rows are asked as any others.
func TestBooksThatShareRows(t *testing.T) {
	row, none := lim.Row(3, 2), lim.Row(3, 0)
	b := has(9, 0, 0)
	b.Bil, b.Mul, b.Pos = [][]int64{row, row, row}, row, [][]int64{none, none, none}
	l := waits(pay(1, 0, 1, 7, normal), pay(2, 0, 2, 3, normal), pay(3, 0, 2, 1, normal), pay(4, 1, 0, 5, normal), pay(5, 2, 0, 3, normal))
	check(t, "shared", b, l, 2, 1, 2, 4, 5)
	c, _, _ := Run(b, l, now)
	if !scribble(c, 5000) || !slices.Equal(row, lim.Row(3, 2)) || !slices.Equal(none, lim.Row(3, 0)) {
		t.Errorf("rows became %v, %v", row, none)
	}
}

// W2: an answer does not hang on what was asked ahead of it.
func TestAnswersStayTheSame(t *testing.T) {
	b, l := has(0, 0, 0), and(ring(3, 5, normal), []api.Pay{pay(4, 0, 1, 2, normal)})
	for range 3 {
		check(t, "an answer", b, l, 2, 1, 2, 3)
		check(t, "of more", has(2, 0, 0), l, 1, 1, 4, 2, 3)
		check(t, "of less", has(0, -1, 0), l, 5)
		checkAt(t, "at another tick", b, l, 10, 1)
		Most(api.Books{}, l, now)
		Run(api.Books{}, l, now)
	}
}

// noBooks are what is handed in, and is no books.
func noBooks() []api.Books {
	l := []api.Books{
		{}, {Accts: make([]api.Acct, 2)}, {Accts: make([]api.Acct, 2), Bil: make([][]int64, 2), Mul: make([]int64, 2), Pos: make([][]int64, 2)},
		{Accts: make([]api.Acct, 7), Bil: lim.Square(6, 0), Mul: lim.Row(6, 0), Pos: lim.Square(6, 0)}, {Accts: make([]api.Acct, 1000)}, {Bil: lim.Square(2, 0), Mul: lim.Row(2, 0), Pos: lim.Square(2, 0)},
	}
	for _, change := range []func(b *api.Books){
		func(b *api.Books) { b.Accts = b.Accts[:1] }, func(b *api.Books) { b.Accts = append(b.Accts, make([]api.Acct, 99)...) }, func(b *api.Books) { b.Accts[0].Balance = least }, func(b *api.Books) { b.Accts[0].Balance = most },
		func(b *api.Books) { b.Accts[0].Credit = most }, func(b *api.Books) { b.Accts[0].Credit = least }, func(b *api.Books) { b.Accts[0].Reserve = most },
		func(b *api.Books) { b.Bil = nil }, func(b *api.Books) { b.Bil = b.Bil[:1] }, func(b *api.Books) { b.Bil[0] = nil }, func(b *api.Books) { b.Bil[0] = b.Bil[0][:1] }, func(b *api.Books) { b.Bil[0][1] = -2 },
		func(b *api.Books) { b.Mul = nil }, func(b *api.Books) { b.Mul = b.Mul[:1] }, func(b *api.Books) { b.Mul[0] = least }, func(b *api.Books) { b.Mul[2] = most },
		func(b *api.Books) { b.Pos = nil }, func(b *api.Books) { b.Pos = b.Pos[:2] }, func(b *api.Books) { b.Pos[1] = nil }, func(b *api.Books) { b.Pos[1] = b.Pos[1][:1] }, func(b *api.Books) { b.Pos[0] = make([]int64, 9) }, func(b *api.Books) { b.Pos[2] = b.Pos[2][:0] },
		func(b *api.Books) { b.Pos[0][1] = most }, func(b *api.Books) { b.Pos[0][1], b.Pos[1][0] = least, least }, func(b *api.Books) { b.Pos[0][1]++ }, func(b *api.Books) { b.Pos[2][2] = 1 },
	} {
		l = append(l, with(has(9, 9, 9), change))
	}
	return l
}

// noRows are lists that are no rows, or rows of payments that may not be.
func noRows() [][]api.Pay {
	x := numbers(17)
	back := x.pays(4, 30)
	slices.Reverse(back)
	lists := [][]api.Pay{
		back, slices.Repeat(x.pays(3, 20), 3), slices.Repeat([]api.Pay{pay(7, 0, 1, 1, top)}, 300), slices.Repeat([]api.Pay{pay(7, 0, 1, 1, normal), pay(7, 1, 0, 1, normal)}, 50), slices.Repeat([]api.Pay{pay(7, 0, 2, 1, normal), pay(7, 0, 1, 1, normal), pay(8, 1, 0, 2, normal)}, 30), {{}, {}, {}},
		{pay(1, 0, 0, 1, top), pay(2, 0, 0, 1, top)}, {pay(1, leastInt, mostInt, 1, leastInt), pay(2, mostInt, leastInt, 1, mostInt)}, {pay(least, 0, 1, least, normal), pay(most, 1, 0, most, normal)},
	}
	for _, p := range []api.Pay{{}, pay(1, 0, 9, 1, top), pay(1, 0, 9, 1, normal), pay(1, 0, -1, 1, normal), pay(1, -9, -1, 1, urgent), pay(1, 6, 7, 1, normal), pay(1, 0, mostInt, 1, normal), pay(1, 0, leastInt, 1, normal)} {
		q := p
		q.ID, q.From, q.To = 2, p.To, p.From
		lists = append(lists, []api.Pay{p}, []api.Pay{p, q}, []api.Pay{q, p, pay(3, 0, 1, 1, normal), pay(4, 1, 0, 1, normal)})
	}
	for _, p := range []api.Pay{pay(1, 0, 1, 0, normal), pay(1, 0, 1, -1, top), pay(1, 0, 1, least, top), pay(1, 0, 1, most, top), pay(1, 0, 1, api.MaxAmount+1, top), pay(1, 0, 1, 1, 0), pay(1, 0, 1, 1, 4), pay(1, 0, 1, 1, leastInt), pay(1, 0, 1, 1, mostInt)} {
		q := pay(2, 1, 0, 1, normal)
		same := p
		same.ID, same.From, same.To = 3, 1, 0
		lists = append(lists, []api.Pay{p}, []api.Pay{p, q}, []api.Pay{p, same}, []api.Pay{p, q, same, pay(4, 0, 1, 1, normal)})
	}
	return lists
}

// W1, W6: what is no books, no row, or a row of payments that may not be is asked without a panic, and stays as it was.
func TestWhatIsNotSuch(t *testing.T) {
	x := numbers(13)
	lists := append(noRows(), nil, ring(2, 5, top), ring(3, 5, normal), and(ring(3, 5, normal), back(3, 5, urgent)), x.pays(3, 40), x.pays(6, 40))
	for _, such := range append(noBooks(), has(9, 9, 9), has(high, high, high, high, high, high), has(9)) {
		for _, l := range lists {
			for _, tick := range []int64{least, now, most} {
				b, list := lim.Copy(such), slices.Clone(l)
				many, _ := Most(b, list, tick)
				fillParts(many, 500)
				c, left, done := Run(b, list, tick)
				scribble(c, 6000)
				fill(left, -6)
				fill(done, -7)
				if !lim.Same(b, such) || !slices.Equal(list, l) {
					t.Fatalf("%v, %v became %v, %v", such, l, b, list)
				}
			}
		}
	}
}
