package free

import (
	"math"
	"math/big"
	"slices"
	"testing"

	"giro/api"
	"giro/fits"
	"giro/lim"
	"giro/post"
	"giro/row"
	"giro/view"
)

const (
	most     = math.MaxInt64
	least    = math.MinInt64
	mostInt  = math.MaxInt
	leastInt = math.MinInt
	// high is the greatest balance, and less it the least one; set is the greatest credit, reserve and limit.
	high = 1<<62 - 1
	set  = 1 << 61
	// far is the greatest position, and less it the least one.
	far = 1<<56 - 1
	// spare is what lies behind the end of a list that is handed in.
	spare = 4711
	// now is the tick at which it is asked, where a test names none: pay's payments are ready at it.
	now = 5
)

const (
	top    = api.Top
	urgent = api.Urgent
	normal = api.Normal
)

// classes are all there are.
var classes = []int{top, urgent, normal}

// books are books of such accounts, without limits, and nothing sent.
func books(l ...api.Acct) api.Books {
	n := len(l)
	return api.Books{Accts: slices.Clone(l), Bil: lim.Square(n, api.None), Mul: lim.Row(n, api.None), Pos: lim.Square(n, 0)}
}

// has is books of accounts with such balances alone.
func has(balances ...int64) api.Books {
	var l []api.Acct
	for _, n := range balances {
		l = append(l, api.Acct{Balance: n})
	}
	return books(l...)
}

// with are books, changed.
func with(b api.Books, change func(b *api.Books)) api.Books {
	c := lim.Copy(b)
	change(&c)
	return c
}

// sent are books in which i sent j so much more.
func sent(b api.Books, i, j int, n int64) api.Books {
	return with(b, func(b *api.Books) { b.Pos[i][j], b.Pos[j][i] = b.Pos[i][j]+n, b.Pos[j][i]-n })
}

// bil are books in which i has such a limit to j.
func bil(b api.Books, i, j int, limit int64) api.Books {
	return with(b, func(b *api.Books) { b.Bil[i][j] = limit })
}

// mul are books in which i has such a limit to all.
func mul(b api.Books, i int, limit int64) api.Books {
	return with(b, func(b *api.Books) { b.Mul[i] = limit })
}

// pay is a payment that is ready from 3 to 9.
func pay(id int64, from, to int, amount int64, class int) api.Pay {
	return api.Pay{ID: id, From: from, To: to, Amount: amount, Class: class, Start: 3, Till: 9}
}

// timed is a payment with another time.
func timed(p api.Pay, start, till int64) api.Pay {
	p.Start, p.Till = start, till
	return p
}

// later and over are payments that are not ready yet, and not any more.
func later(p api.Pay) api.Pay { return timed(p, now+1, now+9) }

func over(p api.Pay) api.Pay { return timed(p, 0, now-1) }

// waits is payments as a row: of one From and Class they stand as they are told.
func waits(l ...api.Pay) []api.Pay {
	l = slices.Clone(l)
	slices.SortStableFunc(l, func(a, b api.Pay) int { return 10*(a.From-b.From) + a.Class - b.Class })
	return l
}

// idsOf is the IDs of payments.
func idsOf(l []api.Pay) []int64 {
	var ids []int64
	for _, p := range l {
		ids = append(ids, p.ID)
	}
	return ids
}

// without is all payments of l but those of another list.
func without(l, some []api.Pay) []api.Pay {
	return slices.DeleteFunc(slices.Clone(l), func(p api.Pay) bool { return slices.Contains(some, p) })
}

// numbers is a source of numbers that are the same in each run.
type numbers uint64

func (s *numbers) next() uint64 {
	*s ^= *s << 13
	*s ^= *s >> 7
	*s ^= *s << 17
	return uint64(*s)
}

// below is 0 to n-1.
func (s *numbers) below(n int64) int64 {
	return int64(s.next() % uint64(n))
}

// limit is one that may be, mostly none or a little one.
func (s *numbers) limit() int64 {
	return []int64{api.None, api.None, api.None, 0, set, s.below(set), s.below(20), s.below(40)}[s.below(8)]
}

// books are books of n parties, with little in them, and now and then with as much as there may be.
func (s *numbers) books(n int) api.Books {
	b := has(make([]int64, n)...)
	for i := range n {
		b.Accts[i] = api.Acct{Balance: s.below(25) - 5, Credit: s.below(12), Reserve: s.below(9)}
		if s.below(12) == 0 {
			b.Accts[i].Balance = []int64{-high, high - s.below(9)}[s.below(2)]
		}
		b.Mul[i] = s.limit()
		for j := range n {
			b.Bil[i][j] = s.limit()
		}
		for j := range i {
			b.Pos[i][j] = []int64{0, 0, 0, s.below(30) - 15, far - s.below(9), s.below(9) - far}[s.below(6)]
			b.Pos[j][i] = -b.Pos[i][j]
		}
	}
	return b
}

// pays is a row of so many payments of n parties that may be, most of them little ones; at now one in five is not ready.
func (s *numbers) pays(n, many int) []api.Pay {
	var l []api.Pay
	normals := s.below(3)
	for i := range many {
		from := int(s.below(int64(n)))
		to := (from + 1 + int(s.below(int64(n-1)))) % n
		class := classes[s.below(3)]
		if s.below(3) < normals {
			class = normal
		}
		p := pay(int64(i*7%41)+100*s.below(9), from, to, []int64{1 + s.below(15), 1 + s.below(15), 1 + s.below(30), api.MaxAmount}[s.below(4)], class)
		l = append(l, []api.Pay{p, p, p, p, p, p, p, p, later(p), over(p)}[s.below(10)])
	}
	return waits(l...)
}

// What follows is what the document's words ask, told without the packages below and in whole numbers.

func whole(n int64) *big.Int { return big.NewInt(n) }

func plus(a, b *big.Int) *big.Int { return new(big.Int).Add(a, b) }

func minus(a, b *big.Int) *big.Int { return new(big.Int).Sub(a, b) }

// isWithin tells whether a number is above -end and below end.
func isWithin(n *big.Int, end int64) bool { return n.CmpAbs(whole(end)) < 0 }

// isAbove tells whether so much is above a limit, if there is one.
func isAbove(n *big.Int, limit int64) bool {
	return limit != -1 && n.Cmp(whole(limit)) > 0
}

// mayOf is what may go, in order: of each From the first one that is ready, and, if none that is ready is of another class, all Normal ones.
func mayOf(l []api.Pay, tick int64) (may []api.Pay) {
	for i, p := range l {
		first, others := true, false
		for j, q := range l {
			if q.From == p.From && tick >= q.Start && tick <= q.Till {
				first, others = first && j >= i, others || q.Class != 3
			}
		}
		if tick >= p.Start && tick <= p.Till && (first || !others) {
			may = append(may, p)
		}
	}
	return may
}

// fitsAlone tells whether who sends a payment is not Short behind it.
func fitsAlone(b api.Books, p api.Pay) bool {
	a, kept := b.Accts[p.From], whole(0)
	if p.Class == 3 {
		kept = whole(a.Reserve)
	}
	left := minus(plus(whole(a.Balance), whole(a.Credit)), whole(p.Amount))
	net := whole(p.Amount)
	for j := range b.Accts {
		if j != p.From {
			net = plus(net, whole(b.Pos[p.From][j]))
		}
	}
	return left.Cmp(kept) >= 0 && !isAbove(plus(whole(b.Pos[p.From][p.To]), whole(p.Amount)), b.Bil[p.From][p.To]) && !isAbove(net, b.Mul[p.From])
}

// canBePosted tells whether what comes out of a payment can be held.
func canBePosted(b api.Books, p api.Pay) bool {
	n := whole(p.Amount)
	return isWithin(plus(whole(b.Accts[p.To].Balance), n), 1<<62) && isWithin(minus(whole(b.Accts[p.From].Balance), n), 1<<62) && isWithin(plus(whole(b.Pos[p.From][p.To]), n), 1<<56)
}

// posted are books behind a payment.
func posted(b api.Books, p api.Pay) api.Books {
	return with(sent(b, p.From, p.To, p.Amount), func(b *api.Books) {
		b.Accts[p.From].Balance -= p.Amount
		b.Accts[p.To].Balance += p.Amount
		if p.Class != 3 {
			b.Accts[p.From].Reserve = max(b.Accts[p.From].Reserve-p.Amount, 0)
		}
	})
}

// toldNext is the next one.
func toldNext(b api.Books, l []api.Pay, tick int64) (api.Pay, bool) {
	for _, p := range mayOf(l, tick) {
		if fitsAlone(b, p) && canBePosted(b, p) {
			return p, true
		}
	}
	return api.Pay{}, false
}

// toldRun is the books behind all that go one by one, what is left, and what went.
func toldRun(b api.Books, l []api.Pay, tick int64) (c api.Books, left, done []api.Pay) {
	c, left = lim.Copy(b), slices.Clone(l)
	for p, ok := toldNext(c, left, tick); ok; p, ok = toldNext(c, left, tick) {
		c, left, done = posted(c, p), without(left, []api.Pay{p}), append(done, p)
	}
	return c, left, done
}

// checkTold holds what Next and Run answer against what the words ask.
func checkTold(t *testing.T, what string, b api.Books, l []api.Pay, tick int64) {
	t.Helper()
	if !lim.Is(b) || !row.Is(l) {
		t.Fatalf("%s: %v, %v: no books, or no row", what, b, l)
	}
	wasB, wasL := lim.Copy(b), slices.Clone(l)
	want, is := toldNext(b, l, tick)
	if p, ok := Next(b, l, tick); p != want || ok != is {
		t.Errorf("%s: Next(%v, %v, %d) = %v, %t, want %v, %t", what, b, l, tick, p, ok, want, is)
	}
	wantC, wantLeft, wantDone := toldRun(b, l, tick)
	c, left, done := Run(b, l, tick)
	if !lim.Same(c, wantC) || !slices.Equal(left, wantLeft) || !slices.Equal(done, wantDone) {
		t.Errorf("%s: Run(%v, %v, %d) = %v, %v, %v, want %v, %v, %v", what, b, l, tick, c, left, done, wantC, wantLeft, wantDone)
	}
	if p, ok := Next(c, left, tick); ok || p != (api.Pay{}) {
		t.Errorf("%s: behind Run(%v, %v, %d) there is %v", what, b, l, tick, p)
	}
	if !lim.Same(b, wasB) || !slices.Equal(l, wasL) {
		t.Errorf("%s: %v, %v became %v, %v", what, wasB, wasL, b, l)
	}
}

// checkAt holds the IDs of what went at a tick against those that the test names, in the order in which they went.
func checkAt(t *testing.T, what string, b api.Books, l []api.Pay, tick int64, ids ...int64) {
	t.Helper()
	p, ok := Next(b, l, tick)
	if ok != (len(ids) > 0) || ok && p.ID != ids[0] {
		t.Errorf("%s: Next(%v, %v, %d) = %v, %t, want %v", what, b, l, tick, p, ok, ids)
	}
	_, left, done := Run(b, l, tick)
	if !slices.Equal(idsOf(done), ids) || !slices.Equal(left, without(l, done)) {
		t.Errorf("%s: Run(%v, %v, %d): %v went, %v are left, want %v", what, b, l, tick, idsOf(done), idsOf(left), ids)
	}
	checkTold(t, what, b, l, tick)
}

// check is checkAt now.
func check(t *testing.T, what string, b api.Books, l []api.Pay, ids ...int64) {
	t.Helper()
	checkAt(t, what, b, l, now, ids...)
}

// P18.1: the document's example.
func TestExample(t *testing.T) {
	b, l := has(5, 0), waits(pay(1, 0, 1, 7, normal), pay(2, 0, 1, 4, normal))
	check(t, "the example", b, l, 2)
	c, left, done := Run(b, l, now)
	if !lim.Same(c, sent(has(1, 4), 0, 1, 4)) || !slices.Equal(left, l[:1]) || !slices.Equal(done, l[1:]) {
		t.Errorf("%v, %v, %v", c, left, done)
	}
}

// P18.1, W5: where nothing waits nothing goes, whether the row is nil or empty.
func TestNothingWaits(t *testing.T) {
	x := numbers(3)
	for _, l := range [][]api.Pay{nil, {}, make([]api.Pay, 0, 5), waits(pay(1, 0, 1, 1, top))[:0], waits(pay(1, 0, 1, 1, top))[1:]} {
		for n := 1; n <= api.MaxParties; n++ {
			for _, tick := range []int64{least, -1, 0, 5, most} {
				checkAt(t, "nothing", x.books(n), l, tick)
			}
		}
	}
}

// P18.1: one goes, of any class, from any to any, and what it moves is moved.
func TestOne(t *testing.T) {
	for n := 2; n <= api.MaxParties; n++ {
		for from := range n {
			for to := range n {
				for _, class := range classes {
					if from == to {
						continue
					}
					b := has(slices.Repeat([]int64{9}, n)...)
					b.Accts[from].Reserve = 2
					check(t, "one", b, waits(pay(8, from, to, 7, class)), 8)
					check(t, "one that is too much", b, waits(pay(8, from, to, 10, class)))
				}
			}
		}
	}
}

// P18.1: one goes from the tick of its Start to that of its Till, not one ahead, not one behind.
func TestTimes(t *testing.T) {
	for _, x := range []struct{ start, between, till int64 }{
		{0, 0, 0}, {0, 0, 1}, {3, 3, 3}, {3, 4, 5}, {-5, -4, -3}, {-1, 0, 1}, {0, 9, api.MaxTick}, {1 << 32, 1<<32 + 1, 1<<32 + 2},
		{least + 1, 0, most - 1}, {most - 1, most - 1, most - 1}, {least + 1, least + 1, least + 1},
	} {
		for _, class := range classes {
			p := timed(pay(8, 0, 1, 5, class), x.start, x.till)
			for _, tick := range []int64{x.start - 1, x.till + 1} {
				checkAt(t, "not ready", has(5, 0), waits(p), tick)
				always := timed(pay(7, 1, 0, 1, class), least, most)
				checkAt(t, "not ready, and another one", has(5, 1), waits(p, always), tick, 7)
			}
			for _, tick := range []int64{x.start, x.between, x.till} {
				checkAt(t, "ready", has(5, 0), waits(p), tick, 8)
			}
		}
	}
	p := timed(pay(8, 0, 1, 5, normal), least, most)
	for _, tick := range []int64{least, -1, 0, 1 << 32, most} {
		checkAt(t, "always", has(5, 0), waits(p), tick, 8)
		checkAt(t, "never", has(5, 0), waits(timed(p, 5, 4)), tick)
	}
}

// P18.1: none that is Ready, at any of several ticks; and what is ready of several.
func TestReadyOfSeveral(t *testing.T) {
	l := waits(timed(pay(1, 0, 1, 1, top), 2, 4), timed(pay(2, 0, 1, 1, urgent), 4, 6), timed(pay(3, 0, 2, 1, normal), 3, 7), timed(pay(4, 1, 0, 1, normal), 7, 7), timed(pay(5, 2, 0, 1, top), 0, 2))
	for tick, ids := range map[int64][]int64{-1: nil, 0: {5}, 1: {5}, 2: {1, 5}, 3: {1, 3}, 4: {1, 2, 3}, 5: {2, 3}, 6: {2, 3}, 7: {3, 4}, 8: nil, 1 << 32: nil, 1<<32 + 4: nil} {
		checkAt(t, "several", has(9, 9, 9), l, tick, ids...)
	}
}

// P18.1: none that fits, whoever sends it, and of whatever class.
func TestNoneFits(t *testing.T) {
	for _, class := range classes {
		check(t, "none of two", has(5, 5), waits(pay(1, 0, 1, 6, class), pay(2, 1, 0, 6, class)))
		check(t, "none of many", has(0, 0, 0), waits(pay(1, 0, 1, 1, class), pay(2, 0, 2, 1, class), pay(3, 1, 0, 1, class), pay(4, 2, 1, 1, class), pay(5, 2, 0, api.MaxAmount, class)))
	}
	for _, b := range []api.Books{has(-1, -1, -1), has(-high, -high, -high), has(0, 0, 0), books(api.Acct{Balance: -6, Credit: 6}, api.Acct{Balance: -7, Credit: 6, Reserve: 3}, api.Acct{Balance: -set, Credit: set})} {
		check(t, "none of all", b, waits(pay(1, 0, 1, 1, top), pay(2, 1, 2, 1, urgent), pay(3, 2, 0, 1, normal), pay(4, 0, 2, 1, normal)))
	}
}

// P18.1: the first of May that fits goes first; what stands ahead of it and doesn't fit is left.
func TestFirstOfMay(t *testing.T) {
	for _, x := range []struct {
		what     string
		balances []int64
		ids      []int64
	}{
		{"the first", []int64{5, 0, 0}, []int64{1}}, {"the second", []int64{0, 5, 0}, []int64{2}}, {"the third", []int64{0, 0, 5}, []int64{3}}, {"the first two", []int64{5, 5, 0}, []int64{1, 2}},
		{"the last two", []int64{0, 5, 5}, []int64{2, 3}}, {"the first and the last", []int64{5, 0, 5}, []int64{1, 3}}, {"all", []int64{5, 5, 5}, []int64{1, 2, 3}}, {"none", []int64{4, 4, 4}, nil},
	} {
		for _, class := range classes {
			b := has(append(x.balances, 0)...)
			check(t, x.what, b, waits(pay(1, 0, 3, 5, class), pay(2, 1, 3, 5, class), pay(3, 2, 3, 5, class)), x.ids...)
			check(t, x.what+", told otherwise", b, waits(pay(3, 2, 3, 5, class), pay(2, 1, 3, 5, class), pay(1, 0, 3, 5, class)), x.ids...)
		}
	}
}

// P18.1: of one's Normal ones each may go, whichever fits: not the greatest, nor the least, nor the one of the least ID goes, but the first.
func TestNormalOnes(t *testing.T) {
	l := waits(pay(7, 0, 1, 6, normal), pay(5, 0, 1, 3, normal), pay(9, 0, 2, 4, normal), pay(2, 0, 1, 1, normal), pay(4, 0, 2, 5, normal))
	for n, ids := range [][]int64{nil, {2}, {2}, {5}, {5, 2}, {5, 2}, {7}, {7, 2}, {7, 2}, {7, 5}, {7, 5, 2}, {7, 5, 2}, {7, 5, 2}, {7, 5, 9}, {7, 5, 9, 2}, {7, 5, 9, 2}, {7, 5, 9, 2}, {7, 5, 9, 2}, {7, 5, 9, 2}, {7, 5, 9, 2, 4}} {
		check(t, "of one", has(int64(n), 0, 0), l, ids...)
		check(t, "of one, by Credit", books(api.Acct{Balance: int64(n) - 9, Credit: 9}, api.Acct{}, api.Acct{}), l, ids...)
		check(t, "of one, with a Reserve", books(api.Acct{Balance: int64(n) + 9, Reserve: 9}, api.Acct{}, api.Acct{}), l, ids...)
	}
	check(t, "the first does not fit and the next does", has(5, 0), waits(pay(1, 0, 1, 6, normal), pay(2, 0, 1, 5, normal)), 2)
	check(t, "each third", has(6, 0), waits(pay(1, 0, 1, 9, normal), pay(2, 0, 1, 9, normal), pay(3, 0, 1, 2, normal), pay(4, 0, 1, 9, normal), pay(5, 0, 1, 5, normal), pay(6, 0, 1, 4, normal)), 3, 6)
}

// P18.1: a Top or an Urgent one that does not fit holds back all others of its From, and none of another.
func TestHeldBack(t *testing.T) {
	for _, class := range []int{top, urgent} {
		big := pay(1, 0, 1, 6, class)
		check(t, "ahead of a Normal one", has(5, 0), waits(big, pay(2, 0, 1, 1, normal)))
		check(t, "ahead of Normal ones", has(5, 0), waits(big, pay(2, 0, 1, 1, normal), pay(3, 0, 1, 2, normal)))
		check(t, "ahead of one of its class", has(5, 0), waits(big, pay(2, 0, 1, 1, class)))
		check(t, "ahead of one of another From", has(5, 5), waits(big, pay(2, 1, 0, 9, class), pay(3, 0, 1, 1, normal)))
		check(t, "ahead of those of another From", has(5, 5, 0), waits(big, pay(3, 0, 1, 1, normal), pay(2, 1, 2, 4, normal), pay(4, 1, 2, 1, normal), pay(5, 1, 2, 1, normal)), 2, 4)
		check(t, "behind those of another From", has(4, 5, 0), waits(pay(7, 1, 2, 9, class), pay(8, 1, 2, 1, normal), pay(3, 0, 2, 5, normal), pay(2, 0, 2, 4, normal)), 2)
		check(t, "held by a Reserve alone", books(api.Acct{Balance: 6, Reserve: 6}, api.Acct{}), waits(pay(9, 0, 1, 1, normal), big), 1)
		check(t, "till it can go", has(5, 1), waits(big, pay(2, 0, 1, 1, normal), pay(3, 1, 0, 1, normal)), 3, 1)
		check(t, "till it can go, with more", has(5, 2), waits(big, pay(2, 0, 1, 1, normal), pay(3, 1, 0, 2, normal)), 3, 1, 2)
		check(t, "one that fits, and then one that does not", has(6, 0), waits(pay(4, 0, 1, 2, class), big, pay(2, 0, 1, 1, normal)), 4)
		check(t, "one that fits, and then Normal ones", has(6, 0), waits(big, pay(2, 0, 1, 1, normal)), 1)
		check(t, "one that fits, and then the second of the Normal ones", has(8, 0), waits(big, pay(2, 0, 1, 3, normal), pay(3, 0, 1, 2, normal)), 1, 3)
	}
	check(t, "a Top one ahead of an Urgent one", has(5, 0), waits(pay(1, 0, 1, 6, top), pay(2, 0, 1, 1, urgent)))
	check(t, "a Top one, an Urgent one, Normal ones", has(9, 0), waits(pay(3, 0, 1, 2, normal), pay(2, 0, 1, 2, urgent), pay(1, 0, 1, 2, top), pay(4, 0, 1, 9, normal), pay(5, 0, 1, 3, normal)), 1, 2, 3, 5)
}

// P18.1: one that is not Ready holds nothing back, and is left where it stands.
func TestNotReadyAhead(t *testing.T) {
	for _, class := range classes {
		for _, shift := range []func(p api.Pay) api.Pay{later, over} {
			idle := shift(pay(1, 0, 1, 1, class))
			check(t, "ahead of a Normal one", has(5, 0), waits(idle, pay(2, 0, 1, 4, normal)), 2)
			check(t, "ahead of Normal ones", has(5, 0), waits(idle, pay(2, 0, 1, 6, normal), pay(3, 0, 1, 2, normal)), 3)
			check(t, "a great one, ahead of one of its class", has(5, 0), waits(shift(pay(1, 0, 1, 99, class)), pay(2, 0, 1, 4, class)), 2)
			check(t, "ahead of one of another From", has(5, 5), waits(idle, pay(2, 1, 0, 4, class)), 2)
			check(t, "between", has(5, 5), waits(pay(3, 0, 1, 2, class), idle, pay(2, 0, 1, 3, class)), 3, 2)
			check(t, "all that there are", has(5, 5), waits(idle, shift(pay(2, 0, 1, 1, normal)), shift(pay(3, 1, 0, 1, class))))
		}
	}
	check(t, "a Top one that is not, ahead of an Urgent one that does not fit", has(5, 0), waits(later(pay(1, 0, 1, 1, top)), pay(2, 0, 1, 6, urgent), pay(3, 0, 1, 1, normal)))
	check(t, "an Urgent one that is not, behind a Top one", has(5, 0), waits(pay(1, 0, 1, 1, top), over(pay(2, 0, 1, 6, urgent)), pay(3, 0, 1, 1, normal)), 1, 3)
}

// P18.1: one that fits and can't be Posted stays; another behind it goes.
func TestCanNotBePosted(t *testing.T) {
	full := has(9, high-3, 0)
	for _, class := range classes {
		check(t, "just as much as can be held", full, waits(pay(1, 0, 1, 3, class)), 1)
		check(t, "one more", full, waits(pay(1, 0, 1, 4, class)))
		check(t, "and one of another From", full, waits(pay(1, 0, 1, 4, class), pay(2, 1, 2, 5, class)), 2, 1)
		check(t, "and one of another From, that does not help", full, waits(pay(1, 0, 1, 4, class), pay(2, 2, 0, 5, class)))
		check(t, "a position just as great as can be", sent(has(9, 0), 0, 1, far-4), waits(pay(1, 0, 1, 4, class)), 1)
		check(t, "a position one more", sent(has(9, 0), 0, 1, far-3), waits(pay(1, 0, 1, 4, class)))
		check(t, "a position, and another From", sent(has(9, 5), 0, 1, far-3), waits(pay(1, 0, 1, 4, class), pay(2, 1, 0, 1, class)), 2, 1)
		check(t, "the other's position", sent(has(9, 5, 5), 1, 0, 3-far), waits(pay(1, 0, 1, 4, class), pay(2, 2, 0, 4, class)), 2)
	}
	check(t, "ahead of Normal ones of its From", full, waits(pay(1, 0, 1, 4, normal), pay(2, 0, 1, 2, normal), pay(3, 0, 2, 4, normal)), 2, 3)
	check(t, "a Top one, ahead of Normal ones of its From", full, waits(pay(1, 0, 1, 4, top), pay(2, 0, 1, 2, normal), pay(3, 0, 2, 4, normal)))
	check(t, "a Top one, till it can be", full, waits(pay(1, 0, 1, 4, top), pay(2, 0, 1, 2, normal), pay(3, 1, 2, 1, normal), pay(4, 2, 0, 1, top)), 3, 1, 4)
	check(t, "all of MaxAmount", has(api.MaxAmount, high-api.MaxAmount), waits(pay(1, 0, 1, api.MaxAmount, normal)), 1)
	check(t, "all of MaxAmount, and one", has(api.MaxAmount, high-api.MaxAmount+1), waits(pay(1, 0, 1, api.MaxAmount, normal)))
	check(t, "what did fit is taken by one ahead", full, waits(pay(1, 0, 1, 2, normal), pay(2, 0, 1, 2, normal), pay(3, 0, 1, 1, normal)), 1, 3)
}

// P18.1: what goes by a Credit.
func TestCredit(t *testing.T) {
	for _, class := range classes {
		for _, x := range []struct {
			a   api.Acct
			ids []int64
		}{
			{api.Acct{Credit: 4}, nil}, {api.Acct{Credit: 5}, []int64{1}}, {api.Acct{Balance: 2, Credit: 2}, nil}, {api.Acct{Balance: 2, Credit: 3}, []int64{1}}, {api.Acct{Balance: -3, Credit: 7}, nil}, {api.Acct{Balance: -3, Credit: 8}, []int64{1}},
			{api.Acct{Balance: 5 - set, Credit: set}, []int64{1}}, {api.Acct{Balance: 4 - set, Credit: set}, nil}, {api.Acct{Balance: high, Credit: set}, []int64{1}}, {api.Acct{Balance: -high, Credit: set}, nil},
		} {
			check(t, "a Credit", books(x.a, api.Acct{}), waits(pay(1, 0, 1, 5, class)), x.ids...)
		}
		check(t, "a Credit, used up", books(api.Acct{Credit: 5}, api.Acct{}), waits(pay(1, 0, 1, 3, class), pay(2, 0, 1, 3, class)), 1)
		check(t, "a Credit, of another", books(api.Acct{Credit: 4}, api.Acct{Credit: 99}), waits(pay(1, 0, 1, 5, class)))
	}
}

// P18.1: what is held by a Reserve: Normal ones alone; what goes Top and Urgent spends of it.
func TestReserve(t *testing.T) {
	kept := books(api.Acct{Balance: 9, Reserve: 4}, api.Acct{})
	check(t, "just what it leaves", kept, waits(pay(1, 0, 1, 5, normal)), 1)
	check(t, "one more", kept, waits(pay(1, 0, 1, 6, normal)))
	check(t, "one by one", kept, waits(pay(1, 0, 1, 3, normal), pay(2, 0, 1, 3, normal), pay(3, 0, 1, 2, normal), pay(4, 0, 1, 1, normal)), 1, 3)
	check(t, "the first is held, the next goes", kept, waits(pay(1, 0, 1, 6, normal), pay(2, 0, 1, 5, normal)), 2)
	for _, class := range []int{top, urgent} {
		check(t, "all of it", kept, waits(pay(1, 0, 1, 9, class)), 1)
		check(t, "one more than all", kept, waits(pay(1, 0, 1, 10, class)))
		check(t, "spent, and Normal ones", kept, waits(pay(1, 0, 1, 3, class), pay(2, 0, 1, 6, normal), pay(3, 0, 1, 5, normal)), 1, 3)
		check(t, "all spent, and Normal ones", kept, waits(pay(1, 0, 1, 6, class), pay(2, 0, 1, 4, normal), pay(3, 0, 1, 3, normal)), 1, 3)
		check(t, "more than was kept", kept, waits(pay(1, 0, 1, 4, class), pay(2, 0, 1, 2, class), pay(3, 0, 1, 3, normal)), 1, 2, 3)
		check(t, "of another", kept, waits(pay(1, 0, 1, 6, normal), pay(2, 1, 0, 1, class)))
		check(t, "come back", kept, waits(pay(1, 0, 1, 6, normal), pay(2, 1, 0, 3, class), pay(3, 0, 1, 5, normal)), 3, 2)
	}
}

// P18.1: what is held by a limit to one, and by what was sent to that one.
func TestLimitsToOne(t *testing.T) {
	for _, class := range classes {
		b := bil(has(99, 99, 99), 0, 1, 5)
		check(t, "just the limit", b, waits(pay(1, 0, 1, 5, class)), 1)
		check(t, "one more", b, waits(pay(1, 0, 1, 6, class)))
		check(t, "to another", b, waits(pay(1, 0, 2, 6, class)), 1)
		check(t, "of another", b, waits(pay(1, 1, 0, 6, class)), 1)
		check(t, "no limit", bil(b, 0, 1, api.None), waits(pay(1, 0, 1, 6, class)), 1)
		check(t, "a limit of 0", bil(b, 0, 1, 0), waits(pay(1, 0, 1, 1, class)))
		check(t, "a Position", sent(b, 0, 1, 2), waits(pay(1, 0, 1, 3, class)), 1)
		check(t, "a Position, one more", sent(b, 0, 1, 2), waits(pay(1, 0, 1, 4, class)))
		check(t, "a Position below 0", sent(b, 1, 0, 2), waits(pay(1, 0, 1, 7, class)), 1)
		check(t, "a Position below 0, one more", sent(b, 1, 0, 2), waits(pay(1, 0, 1, 8, class)))
		check(t, "a Position above the limit", sent(b, 0, 1, 9), waits(pay(1, 0, 1, 1, class), pay(2, 1, 0, 4, class)), 2)
		check(t, "used up", b, waits(pay(1, 0, 1, 3, class), pay(2, 0, 1, 2, class), pay(3, 0, 1, 1, class)), 1, 2)
		check(t, "what comes back", b, waits(pay(1, 0, 1, 6, class), pay(2, 1, 0, 1, class)), 2, 1)
	}
	b := bil(has(99, 99, 99), 0, 1, 2)
	check(t, "the first is held, those to another go", b, waits(pay(1, 0, 1, 3, normal), pay(2, 0, 2, 3, normal), pay(3, 0, 1, 2, normal), pay(4, 0, 1, 1, normal)), 2, 3)
	check(t, "an Urgent one is held, none of its From goes", b, waits(pay(1, 0, 1, 3, urgent), pay(2, 0, 2, 3, normal), pay(3, 1, 2, 3, normal)), 3)
}

// P18.1: what is held by a limit to all, and by what was sent to all.
func TestLimitsToAll(t *testing.T) {
	for _, class := range classes {
		b := mul(has(99, 99, 99), 0, 5)
		check(t, "just the limit", b, waits(pay(1, 0, 1, 5, class)), 1)
		check(t, "one more", b, waits(pay(1, 0, 1, 6, class)))
		check(t, "of another", b, waits(pay(1, 1, 0, 6, class)), 1)
		check(t, "no limit", mul(b, 0, api.None), waits(pay(1, 0, 1, 6, class)), 1)
		check(t, "a limit of 0", mul(b, 0, 0), waits(pay(1, 0, 1, 1, class)))
		check(t, "what was sent to another", sent(b, 0, 2, 2), waits(pay(1, 0, 1, 3, class)), 1)
		check(t, "what was sent to another, one more", sent(b, 0, 2, 2), waits(pay(1, 0, 1, 4, class)))
		check(t, "what came from another", sent(b, 2, 0, 2), waits(pay(1, 0, 1, 7, class)), 1)
		check(t, "what came from another, one more", sent(b, 2, 0, 2), waits(pay(1, 0, 1, 8, class)))
		check(t, "used up", b, waits(pay(1, 0, 1, 3, class), pay(2, 0, 2, 2, class), pay(3, 0, 1, 1, class)), 1, 2)
		check(t, "above it as it is", sent(b, 0, 2, 9), waits(pay(1, 0, 1, 1, class)))
		check(t, "what comes back", b, waits(pay(1, 0, 1, 6, class), pay(2, 2, 0, 1, class)), 2, 1)
	}
	check(t, "the first is held, the next goes", mul(has(99, 99, 99), 0, 4), waits(pay(1, 0, 1, 5, normal), pay(2, 0, 2, 3, normal), pay(3, 0, 1, 2, normal), pay(4, 0, 1, 1, normal)), 2, 4)
}

// P18.1: one that fits only when another was Posted goes behind it, wherever it stands; and the row is asked from its front again.
func TestOnlyBehindAnother(t *testing.T) {
	for _, class := range classes {
		check(t, "behind one ahead of it", has(5, 0, 0), waits(pay(1, 0, 1, 5, class), pay(2, 1, 2, 5, class)), 1, 2)
		check(t, "behind one behind it", has(0, 5, 0), waits(pay(1, 0, 2, 5, class), pay(2, 1, 0, 5, class)), 2, 1)
		check(t, "a chain that rises", has(5, 0, 0, 0), waits(pay(1, 0, 1, 5, class), pay(2, 1, 2, 5, class), pay(3, 2, 3, 5, class)), 1, 2, 3)
		check(t, "a chain that falls", has(0, 0, 0, 5), waits(pay(1, 0, 1, 5, class), pay(2, 1, 0, 5, class), pay(3, 2, 1, 5, class), pay(4, 3, 2, 5, class)), 4, 3, 2, 1)
		check(t, "a ring that one can begin", has(0, 3, 0), waits(pay(1, 0, 1, 3, class), pay(2, 1, 2, 3, class), pay(3, 2, 0, 3, class)), 2, 3, 1)
		check(t, "a ring that none can begin", has(0, 2, 0), waits(pay(1, 0, 1, 3, class), pay(2, 1, 2, 3, class), pay(3, 2, 0, 3, class)))
		check(t, "to and fro", has(1, 0), waits(pay(1, 0, 1, 1, class), pay(2, 0, 1, 1, class), pay(3, 0, 1, 1, class), pay(4, 1, 0, 1, class), pay(5, 1, 0, 1, class)), 1, 4, 2, 5, 3)
		check(t, "from the front again", has(0, 0, 9), waits(pay(1, 0, 1, 4, class), pay(2, 1, 0, 4, class), pay(3, 2, 0, 4, class), pay(4, 2, 1, 5, class)), 3, 1, 2, 4)
	}
	check(t, "Normal ones from the front again", has(2, 3), waits(pay(1, 0, 1, 4, normal), pay(2, 0, 1, 3, normal), pay(3, 0, 1, 1, normal), pay(4, 1, 0, 4, normal)), 3, 4, 1)
}

// P18.1: of two that would fit each alone, and not one behind the other, the first goes.
func TestRivals(t *testing.T) {
	for _, class := range classes {
		check(t, "of one From", has(5, 0, 0), waits(pay(1, 0, 1, 3, class), pay(2, 0, 2, 3, class)), 1)
		check(t, "of one From, turned", has(5, 0, 0), waits(pay(2, 0, 2, 3, class), pay(1, 0, 1, 3, class)), 2)
		check(t, "by a limit to one", bil(has(9, 0), 0, 1, 5), waits(pay(1, 0, 1, 3, class), pay(2, 0, 1, 3, class)), 1)
		check(t, "by a limit to all", mul(has(9, 0, 0), 0, 5), waits(pay(1, 0, 2, 3, class), pay(2, 0, 1, 3, class)), 1)
		check(t, "by what can be held", has(5, 5, high-5), waits(pay(1, 0, 2, 3, class), pay(2, 1, 2, 3, class)), 1)
	}
	check(t, "by a Reserve", books(api.Acct{Balance: 7, Reserve: 2}, api.Acct{}), waits(pay(1, 0, 1, 3, normal), pay(2, 0, 1, 3, normal)), 1)
	check(t, "three, of which the first and the last fit", has(5, 0), waits(pay(1, 0, 1, 3, normal), pay(2, 0, 1, 3, normal), pay(3, 0, 1, 2, normal)), 1, 3)
	check(t, "an Urgent one takes what a Normal one needs", has(5, 0), waits(pay(1, 0, 1, 3, normal), pay(2, 0, 1, 3, urgent)), 2)
}

// full is a row of MaxPays payments, all of 1, of so many senders, each in turn of the classes.
func full(senders int, class func(i int) int) []api.Pay {
	var l []api.Pay
	for i := range api.MaxPays {
		from := i % senders
		l = append(l, pay(int64(1000-i*7%41), from, (from+1)%6, 1, class(i)))
	}
	return waits(l...)
}

// P18.1: a row of MaxPays, of which all go, some, and none.
func TestMaxPays(t *testing.T) {
	for senders := 1; senders <= 6; senders++ {
		for i, class := range append(classes, 0) {
			l := full(senders, func(i int) int {
				if class == 0 {
					return classes[i/senders%3]
				}
				return class
			})
			all := has(40, 40, 40, 40, 40, 40)
			check(t, "all", all, l, idsOf(l)...)
			check(t, "none", has(0, 0, 0, 0, 0, 0), l)
			checkTold(t, "some", has(7, 3, 0, 5, 1, int64(i)), l, now)
			checkAt(t, "none, by the tick", all, l, 10)
			for j := range l {
				some := slices.Clone(l)
				some[j] = later(some[j])
				check(t, "all but one", all, some, idsOf(slices.Delete(slices.Clone(l), j, j+1))...)
			}
		}
	}
	var l []api.Pay
	for i := range api.MaxPays {
		l = append(l, pay(int64(i+1), i%2, 1-i%2, 1, normal))
	}
	l = waits(l...)
	_, left, done := Run(has(1, 0), l, now)
	if len(done) != api.MaxPays || len(left) != 0 {
		t.Errorf("%v went, %v are left", done, left)
	}
	checkTold(t, "to and fro", has(1, 0), l, now)
	check(t, "to and fro, of nothing", has(0, 0), l)
}

// eachAsked goes through any books and rows, at ticks at which much is ready, and at such at which little is.
func eachAsked(seed numbers, many int, do func(b api.Books, l []api.Pay, tick int64)) {
	for range many {
		n := 2 + int(seed.below(5))
		l := seed.pays(n, int(seed.below(api.MaxPays+1)))
		do(seed.books(n), l, []int64{now, now, now, now, 0, now + 1, seed.below(20), most}[seed.below(8)])
	}
}

// P18.1: any books, any row, any tick.
func TestAny(t *testing.T) {
	some, all := 0, 0
	eachAsked(7, 3000, func(b api.Books, l []api.Pay, tick int64) {
		checkTold(t, "any", b, l, tick)
		_, left, done := Run(b, l, tick)
		if len(done) > 1 && len(left) > 0 {
			some++
		}
		if len(done) > 5 && len(left) == 0 {
			all++
		}
	})
	x := numbers(19)
	for range 200 {
		l := x.pays(4, 40)
		for i := range l {
			l[i].Amount = min(l[i].Amount, 30)
		}
		checkTold(t, "with enough", has(600, 600, 600, 600), l, now)
	}
	if some < 500 {
		t.Errorf("of %d some went, of %d all", some, all)
	}
}

// P18.1: Run settles in just the order in which there is a Next each time, and answers what post and row make of it.
func TestRunIsNextByNext(t *testing.T) {
	eachAsked(31, 1500, func(b api.Books, l []api.Pay, tick int64) {
		c, left, done := Run(b, l, tick)
		for i := 0; ; i++ {
			p, ok := Next(b, l, tick)
			if ok != (i < len(done)) || ok && p != done[i] {
				t.Fatalf("%d: Next is %v, %t, Run settled %v", i, p, ok, done)
			}
			if !ok {
				break
			}
			var e, f api.Errno
			b, e = post.Post(b, p)
			l, _, f = row.Drop(l, p.ID)
			if e != api.OK || f != api.OK {
				t.Fatalf("%v: %v, %v", p, e, f)
			}
		}
		if !lim.Same(c, b) || !slices.Equal(left, l) {
			t.Fatalf("Run: %v, %v, want %v, %v", c, left, b, l)
		}
	})
}

// P18.1: each one that is the Next may go, fits alone and can be posted, and none of those ahead of it is so.
func TestNextIsTheFirst(t *testing.T) {
	is := func(b api.Books, p api.Pay) bool {
		_, e := post.Post(b, p)
		return fits.Fits(b, p) && e == api.OK
	}
	behind := 0
	eachAsked(43, 2000, func(b api.Books, l []api.Pay, tick int64) {
		p, ok := Next(b, l, tick)
		may := view.May(l, tick)
		at := slices.IndexFunc(may, func(p api.Pay) bool { return is(b, p) })
		if ok != (at >= 0) || ok && p != may[at] || !ok && p != (api.Pay{}) {
			t.Fatalf("Next(%v, %v, %d) = %v, %t, want that at %d of %v", b, l, tick, p, ok, at, may)
		}
		if at > 0 {
			behind++
		}
	})
	if behind < 300 {
		t.Errorf("%d were not the first of May", behind)
	}
}

// P18.2, P0.6: behind Run there is no Next, and another Run settles nothing.
func TestBehindRun(t *testing.T) {
	eachAsked(11, 1500, func(b api.Books, l []api.Pay, tick int64) {
		c, left, _ := Run(b, l, tick)
		if p, ok := Next(c, left, tick); ok || p != (api.Pay{}) {
			t.Fatalf("behind Run there is %v", p)
		}
		for _, p := range view.May(left, tick) {
			if _, e := post.Post(c, p); e == api.OK && fits.Fits(c, p) {
				t.Fatalf("behind Run %v could go", p)
			}
		}
		d, still, done := Run(c, left, tick)
		if !lim.Same(d, c) || !slices.Equal(still, left) || len(done) != 0 {
			t.Fatalf("behind Run(%v, %v, %d): %v, %v, %v", b, l, tick, d, still, done)
		}
	})
}

// P18.1: what is left waits in its order, what went was of the row and ready, each once; what all have together stays.
func TestNothingIsLost(t *testing.T) {
	total := func(b api.Books) *big.Int {
		sum := whole(0)
		for _, a := range b.Accts {
			sum = plus(sum, whole(a.Balance))
		}
		return sum
	}
	eachAsked(53, 1500, func(b api.Books, l []api.Pay, tick int64) {
		c, left, done := Run(b, l, tick)
		if len(left)+len(done) != len(l) || !row.Is(left) || !slices.Equal(left, without(l, done)) {
			t.Fatalf("of %v %v went, %v are left", l, done, left)
		}
		for _, p := range done {
			if !slices.Contains(l, p) || tick < p.Start || tick > p.Till {
				t.Fatalf("%v went", p)
			}
		}
		if total(c).Cmp(total(b)) != 0 || !lim.Is(c) {
			t.Fatalf("%v became %v", b, c)
		}
	})
}

// P18.1: all rows of up to three little payments between two, of all classes, with all little balances.
func TestSmall(t *testing.T) {
	var of []api.Pay
	for from := range 2 {
		for _, class := range []int{urgent, normal} {
			for amount := int64(1); amount <= 2; amount++ {
				of = append(of, pay(0, from, 1-from, amount, class))
			}
		}
	}
	of = append(of, later(pay(0, 0, 1, 1, urgent)))
	rows := [][]api.Pay{nil}
	for i := 0; i < len(rows); i++ {
		for _, p := range of {
			if len(rows[i]) < 3 {
				p.ID = int64(9 - len(rows[i]))
				rows = append(rows, append(slices.Clone(rows[i]), p))
			}
		}
	}
	for _, l := range rows {
		l = waits(l...)
		for n := range int64(9) {
			b := has(n%3, n/3)
			checkTold(t, "small", b, l, now)
			b.Accts[0].Reserve = 1
			checkTold(t, "small, with a Reserve", b, l, now)
			checkTold(t, "small, with a limit to one", bil(b, 0, 1, 1), l, now)
			checkTold(t, "small, with a limit to all", mul(b, 1, 0), l, now)
		}
	}
}

// roomy are b's numbers with spare room behind the end of each list, that has something in it.
func roomy(b api.Books) api.Books {
	row := func(l []int64) []int64 { return slices.Concat(l, []int64{spare, spare})[:len(l)] }
	square := func(l [][]int64) [][]int64 {
		var r [][]int64
		for _, v := range l {
			r = append(r, row(v))
		}
		return slices.Concat(r, [][]int64{{spare}})[:len(l)]
	}
	return api.Books{Accts: slices.Concat(b.Accts, []api.Acct{{Balance: spare}})[:len(b.Accts)], Bil: square(b.Bil), Mul: row(b.Mul), Pos: square(b.Pos)}
}

// isRoomy tells whether b is roomy(was), also behind each list's end.
func isRoomy(b, was api.Books) bool {
	row := func(l []int64) bool { return slices.Equal(l[len(l):len(l)+2], []int64{spare, spare}) }
	square := func(l [][]int64) bool {
		return !slices.ContainsFunc(l, func(v []int64) bool { return !row(v) }) && slices.Equal(l[:len(l)+1][len(l)], []int64{spare})
	}
	return lim.Same(b, was) && b.Accts[:len(b.Accts)+1][len(b.Accts)] == (api.Acct{Balance: spare}) && square(b.Bil) && row(b.Mul) && square(b.Pos)
}

// rowsOf are all rows of numbers of b, each with the spare room behind its end, those too that lie behind the end of a square.
func rowsOf(b api.Books) [][]int64 {
	rows := slices.Concat(b.Bil[:cap(b.Bil)], b.Pos[:cap(b.Pos)], [][]int64{b.Mul})
	for i, row := range rows {
		rows[i] = row[:cap(row)]
	}
	return rows
}

// scribble writes into all memory of b, spare room too: each row of numbers one number of its own, from n on. It tells whether none of them was another's, and none of a square's rows another square's.
func scribble(b api.Books, n int64) bool {
	rows := rowsOf(b)
	for i, row := range rows {
		for j := range row {
			row[j] = n + int64(i)
		}
	}
	accts := b.Accts[:cap(b.Accts)]
	for i := range accts {
		accts[i] = api.Acct{Balance: n, Credit: n, Reserve: n}
	}
	for i, row := range rows {
		if slices.ContainsFunc(row, func(v int64) bool { return v != n+int64(i) }) {
			return false
		}
	}
	clear(b.Bil[:cap(b.Bil)])
	apart := !slices.ContainsFunc(b.Pos, func(row []int64) bool { return row == nil })
	clear(b.Pos[:cap(b.Pos)])
	return apart
}

// fill writes into all of l's memory, spare room too, a payment of its own.
func fill(l []api.Pay, id int64) {
	l = l[:cap(l)]
	for i := range l {
		l[i] = pay(id, 9, 9, id, 9)
	}
}

// P18.2, W6: books and the row stay as they were, and so does the room behind each list's end; nothing there is asked.
func TestNothingIsChanged(t *testing.T) {
	eachAsked(3, 400, func(b api.Books, l []api.Pay, tick int64) {
		for _, room := range []int{0, 1, 2, 50} {
			from := roomy(b)
			list := slices.Concat(l, slices.Repeat([]api.Pay{pay(77, 0, 1, 1, top)}, room))
			was := slices.Clone(list)
			Next(from, list[:len(l)], tick)
			c, left, done := Run(from, list[:len(l)], tick)
			d, still, same := Run(b, l, tick)
			if !lim.Same(c, d) || !slices.Equal(left, still) || !slices.Equal(done, same) {
				t.Fatalf("%v, %v: what stands behind the end is asked", b, l)
			}
			scribble(c, 1000)
			fill(left, -1)
			fill(done, -2)
			if !isRoomy(from, b) || !slices.Equal(list, was) {
				t.Fatalf("%v became %v, %v became %v", b, from, was, list)
			}
		}
	})
}

// W2, W6, W7: what Run answers is new memory, spare room too, of which no two lists share any, whether something went or not; it stays what it is, whatever becomes of what was handed in, of another answer, and whatever is called later.
func TestAnswersAreNewMemory(t *testing.T) {
	eachAsked(5, 600, func(b api.Books, l []api.Pay, tick int64) {
		wantC, wantLeft, wantDone := toldRun(b, l, tick)
		from, list := roomy(b), slices.Concat(l, l)[:len(l)]
		c, left, done := Run(from, list, tick)
		d, still, more := Run(from, list, tick)
		if !scribble(c, 2000) {
			t.Fatalf("lists of Run(%v, %v, %d) share memory", b, l, tick)
		}
		fill(left, -1)
		if len(done) > 0 && done[0] != wantDone[0] {
			t.Fatalf("what is left and what went share memory")
		}
		fill(done, -2)
		if len(left) > 0 && left[0].ID != -1 {
			t.Fatalf("what is left and what went share memory")
		}
		scribble(from, 3000)
		fill(list, -3)
		e, gone, went := Run(has(9, 0), waits(pay(1, 0, 1, 2, top), pay(2, 0, 1, 99, top), pay(3, 0, 1, 2, top)), now)
		scribble(e, 4000)
		fill(gone, -4)
		fill(went, -5)
		if !lim.Same(d, wantC) || !slices.Equal(still, wantLeft) || !slices.Equal(more, wantDone) {
			t.Fatalf("Run(%v, %v, %d) became %v, %v, %v", b, l, tick, d, still, more)
		}
	})
}

// W2, W6: books that share rows are asked as any others.
func TestBooksThatShareRows(t *testing.T) {
	row, none := lim.Row(3, 6), lim.Row(3, 0)
	b := has(9, 0, 0)
	b.Bil, b.Mul, b.Pos = [][]int64{row, row, row}, row, [][]int64{none, none, none}
	l := waits(pay(1, 0, 1, 7, normal), pay(2, 0, 1, 4, normal), pay(3, 0, 2, 3, normal), pay(4, 1, 0, 3, normal))
	check(t, "shared", b, l, 2, 4, 3)
	c, _, _ := Run(b, l, now)
	if !scribble(c, 5000) || !slices.Equal(row, lim.Row(3, 6)) || !slices.Equal(none, lim.Row(3, 0)) {
		t.Errorf("rows became %v, %v", row, none)
	}
}

// W2: an answer does not hang on what was asked ahead of it.
func TestAnswersStayTheSame(t *testing.T) {
	b, l := has(5, 0), waits(pay(1, 0, 1, 7, normal), pay(2, 0, 1, 4, normal))
	for range 3 {
		check(t, "another answer", b, l, 2)
		check(t, "of more", has(11, 0), l, 1, 2)
		check(t, "of less", has(0, 0), l)
		checkAt(t, "at another tick", b, l, 10)
		Run(api.Books{}, l, now)
	}
}

// noBooks are what is handed in, and is no books.
func noBooks() []api.Books {
	l := []api.Books{
		{}, {Accts: make([]api.Acct, 2)}, {Accts: make([]api.Acct, 2), Bil: make([][]int64, 2), Mul: make([]int64, 2), Pos: make([][]int64, 2)},
		{Accts: make([]api.Acct, 7), Bil: lim.Square(6, 0), Mul: lim.Row(6, 0), Pos: lim.Square(6, 0)}, {Accts: make([]api.Acct, 1000)}, {Bil: lim.Square(2, 0), Mul: lim.Row(2, 0), Pos: lim.Square(2, 0)},
	}
	for _, change := range []func(b *api.Books){
		func(b *api.Books) { b.Accts = b.Accts[:1] }, func(b *api.Books) { b.Accts = append(b.Accts, make([]api.Acct, 99)...) }, func(b *api.Books) { b.Accts[0].Balance = least }, func(b *api.Books) { b.Accts[0].Balance = most },
		func(b *api.Books) { b.Accts[0].Credit = most }, func(b *api.Books) { b.Accts[0].Credit = least }, func(b *api.Books) { b.Accts[0].Reserve = most },
		func(b *api.Books) { b.Bil = nil }, func(b *api.Books) { b.Bil = b.Bil[:1] }, func(b *api.Books) { b.Bil[0] = nil }, func(b *api.Books) { b.Bil[0] = b.Bil[0][:1] }, func(b *api.Books) { b.Bil[0][1] = -2 },
		func(b *api.Books) { b.Mul = nil }, func(b *api.Books) { b.Mul = b.Mul[:1] }, func(b *api.Books) { b.Mul[0] = least }, func(b *api.Books) { b.Mul[2] = most },
		func(b *api.Books) { b.Pos = nil }, func(b *api.Books) { b.Pos = b.Pos[:2] }, func(b *api.Books) { b.Pos[1] = nil }, func(b *api.Books) { b.Pos[1] = b.Pos[1][:1] }, func(b *api.Books) { b.Pos[0] = make([]int64, 9) }, func(b *api.Books) { b.Pos[2] = b.Pos[2][:0] },
		func(b *api.Books) { b.Pos[0][1] = most }, func(b *api.Books) { b.Pos[0][1], b.Pos[1][0] = least, least }, func(b *api.Books) { b.Pos[0][1]++ }, func(b *api.Books) { b.Pos[2][2] = 1 },
	} {
		l = append(l, with(has(9, 9, 9), change))
	}
	return l
}

// noRows are lists that are no rows, or rows of payments that may not be.
func noRows() [][]api.Pay {
	x := numbers(17)
	back := x.pays(4, 30)
	slices.Reverse(back)
	return [][]api.Pay{
		back, slices.Repeat(x.pays(3, 20), 3), slices.Repeat([]api.Pay{pay(7, 0, 1, 1, top)}, 300), slices.Repeat([]api.Pay{pay(7, 0, 1, 1, normal), pay(7, 1, 0, 9, normal)}, 100), {{}, {}, {}},
		{{}}, {pay(1, 0, 0, 1, top)}, {pay(1, 0, 9, 1, top)}, {pay(1, 9, 0, 1, top)}, {pay(1, -1, 0, 1, normal)}, {pay(1, 0, -1, 1, normal)}, {pay(1, 0, 1, 0, normal)}, {pay(1, 0, 1, -1, top)}, {pay(1, 0, 1, least, top)}, {pay(1, 0, 1, most, top)},
		{pay(1, 0, 1, api.MaxAmount+1, top)}, {pay(1, 0, 1, 1, 0)}, {pay(1, 0, 1, 1, 4)}, {pay(1, leastInt, mostInt, 1, leastInt)}, {pay(least, 1, 0, 2, normal), pay(most, mostInt, leastInt, 1, mostInt)},
		{pay(1, 0, 9, 1, top), pay(2, 0, 1, 1, normal), pay(3, 1, 0, 4, normal), pay(4, 6, 0, 1, top), pay(5, 7, 1, 1, normal)}, {pay(1, 2, 1, 1, top), pay(2, 0, 1, 1, normal)},
	}
}

// W1, W6: what is no books, no row, or a row of payments that may not be is asked without a panic, and stays as it was.
func TestWhatIsNotSuch(t *testing.T) {
	x := numbers(13)
	lists := append(noRows(), nil, waits(pay(1, 0, 1, 5, top), pay(2, 1, 2, 5, normal), pay(3, 2, 0, 5, normal)), x.pays(3, 40), x.pays(6, 40))
	for _, such := range append(noBooks(), has(9, 9, 9), has(high, high, high, high, high, high), has(9)) {
		for _, l := range lists {
			for _, tick := range []int64{least, now, most} {
				b, list := lim.Copy(such), slices.Clone(l)
				Next(b, list, tick)
				c, left, done := Run(b, list, tick)
				scribble(c, 6000)
				fill(left, -6)
				fill(done, -7)
				if !lim.Same(b, such) || !slices.Equal(list, l) {
					t.Fatalf("%v, %v became %v, %v", such, l, b, list)
				}
			}
		}
	}
}
