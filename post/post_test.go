package post

import (
	"math"
	"math/big"
	"slices"
	"testing"

	"giro/api"
	"giro/lim"
)

const (
	most     = math.MaxInt64
	least    = math.MinInt64
	mostInt  = math.MaxInt
	leastInt = math.MinInt
	// high is the greatest balance, and less it the least one; set is the greatest credit, reserve and limit.
	high = 1<<62 - 1
	set  = 1 << 61
	// far is the greatest position, and less it the least one.
	far = 1<<56 - 1
	// spare is what lies behind the end of a list that is handed in.
	spare = 4711
)

const (
	top    = api.Top
	urgent = api.Urgent
	normal = api.Normal
)

// classes are all there are.
var classes = []int{top, urgent, normal}

// books are books of such accounts, without limits, and nothing sent.
func books(l ...api.Acct) api.Books {
	n := len(l)
	return api.Books{Accts: slices.Clone(l), Bil: lim.Square(n, api.None), Mul: lim.Row(n, api.None), Pos: lim.Square(n, 0)}
}

// has is books of accounts with such balances alone.
func has(balances ...int64) api.Books {
	var l []api.Acct
	for _, n := range balances {
		l = append(l, api.Acct{Balance: n})
	}
	return books(l...)
}

// with are books, changed.
func with(b api.Books, change func(b *api.Books)) api.Books {
	c := lim.Copy(b)
	change(&c)
	return c
}

// sent are books in which i sent j so much more.
func sent(b api.Books, i, j int, n int64) api.Books {
	return with(b, func(b *api.Books) { b.Pos[i][j], b.Pos[j][i] = b.Pos[i][j]+n, b.Pos[j][i]-n })
}

// pay is a payment; its ID and its time hang on its other numbers, and don't matter.
func pay(from, to int, amount int64, class int) api.Pay {
	return api.Pay{ID: amount + int64(from), From: from, To: to, Amount: amount, Class: class, Start: int64(to), Till: 99}
}

// all is payments as a list.
func all(l ...api.Pay) []api.Pay { return l }

// many is a payment so many times.
func many(n int, p api.Pay) []api.Pay { return slices.Repeat(all(p), n) }

// numbers is a source of numbers that are the same in each run.
type numbers uint64

func (s *numbers) next() uint64 {
	*s ^= *s << 13
	*s ^= *s >> 7
	*s ^= *s << 17
	return uint64(*s)
}

// below is 0 to n-1.
func (s *numbers) below(n int64) int64 {
	return int64(s.next() % uint64(n))
}

// from is low to high.
func (s *numbers) from(low, high int64) int64 {
	return low + s.below(high-low+1)
}

// limit is one that may be.
func (s *numbers) limit() int64 {
	return []int64{api.None, api.None, 0, 1, set, s.below(set), s.below(20)}[s.below(7)]
}

// number is one that may be, if at most end and at least its negative may be: any, a little one, or one at an end.
func (s *numbers) number(end int64) int64 {
	return []int64{s.from(-end, end), s.from(-20, 20), 0, end - s.below(30), s.below(30) - end}[s.below(5)]
}

// books are books of n parties.
func (s *numbers) books(n int) api.Books {
	b := has(make([]int64, n)...)
	for i := range n {
		b.Accts[i] = api.Acct{Balance: s.number(high), Credit: []int64{0, set, s.below(set + 1), s.below(20)}[s.below(4)], Reserve: []int64{0, set, s.below(set + 1), s.below(20), s.below(20)}[s.below(5)]}
		b.Mul[i] = s.limit()
		for j := range n {
			b.Bil[i][j] = s.limit()
		}
		for j := range i {
			b.Pos[i][j] = s.number(far)
			b.Pos[j][i] = -b.Pos[i][j]
		}
	}
	return b
}

// pays are so many payments of n parties that may be, little ones or any.
func (s *numbers) pays(n, many int) []api.Pay {
	var l []api.Pay
	little := s.below(2) == 0
	for range many {
		from := int(s.below(int64(n)))
		to := (from + 1 + int(s.below(int64(n-1)))) % n
		amount := []int64{1, api.MaxAmount, 1 + s.below(api.MaxAmount), 1 + s.below(20)}[s.below(4)]
		if little {
			amount = 1 + s.below(15)
		}
		l = append(l, pay(from, to, amount, classes[s.below(3)]))
	}
	return l
}

// What follows is what the document's words ask, told without the packages below and in whole numbers: for each number all payments are gone through.

// sumOf is the sum of what payments that are such pay.
func sumOf(l []api.Pay, is func(p api.Pay) bool) *big.Int {
	sum := new(big.Int)
	for _, p := range l {
		if is(p) {
			sum.Add(sum, big.NewInt(p.Amount))
		}
	}
	return sum
}

// moved is n, with what is got more, and what is gone less; false, if that is not more than -end and less than end.
func moved(n int64, got, gone *big.Int, end int64) (int64, bool) {
	is := new(big.Int).Add(big.NewInt(n), got)
	is.Sub(is, gone)
	return is.Int64(), is.CmpAbs(big.NewInt(end)) < 0
}

// keptOf is what of one's Reserve is kept behind all payments.
func keptOf(b api.Books, l []api.Pay, i int) int64 {
	kept := big.NewInt(b.Accts[i].Reserve)
	kept.Sub(kept, sumOf(l, func(p api.Pay) bool { return p.From == i && (p.Class == 1 || p.Class == 2) }))
	if kept.Sign() < 0 {
		return 0
	}
	return kept.Int64()
}

// isSuch tells whether a payment may be.
func isSuch(b api.Books, p api.Pay) bool {
	n := len(b.Accts)
	return p.From >= 0 && p.From < n && p.To >= 0 && p.To < n && p.From != p.To && p.Amount >= 1 && p.Amount <= 1<<40 && (p.Class == 1 || p.Class == 2 || p.Class == 3)
}

// told are the books behind all payments, and the error, of books that are such.
func told(b api.Books, l []api.Pay) (api.Books, api.Errno) {
	if len(l) > 64 || slices.ContainsFunc(l, func(p api.Pay) bool { return !isSuch(b, p) }) {
		return b, api.ErrArg
	}
	c, held := with(b, func(*api.Books) {}), true
	for i := range b.Accts {
		got, gone := sumOf(l, func(p api.Pay) bool { return p.To == i }), sumOf(l, func(p api.Pay) bool { return p.From == i })
		n, ok := moved(b.Accts[i].Balance, got, gone, 1<<62)
		c.Accts[i], held = api.Acct{Balance: n, Credit: b.Accts[i].Credit, Reserve: keptOf(b, l, i)}, held && ok
		for j := range b.Accts {
			out, back := sumOf(l, func(p api.Pay) bool { return p.From == i && p.To == j }), sumOf(l, func(p api.Pay) bool { return p.From == j && p.To == i })
			n, ok := moved(b.Pos[i][j], out, back, 1<<56)
			c.Pos[i][j], held = n, held && ok
		}
	}
	if !held {
		return b, api.ErrOver
	}
	return c, api.OK
}

// orders are some orders of payments: all, if they are few.
func orders(l []api.Pay) [][]api.Pay {
	if len(l) > 4 {
		turned := slices.Clone(l)
		slices.Reverse(turned)
		return [][]api.Pay{l, turned, slices.Concat(l[len(l)/2:], l[:len(l)/2]), slices.Concat(l[1:], l[:1])}
	}
	if len(l) == 0 {
		return [][]api.Pay{l}
	}
	var all [][]api.Pay
	for i := range l {
		for _, rest := range orders(slices.Delete(slices.Clone(l), i, i+1)) {
			all = append(all, slices.Concat(l[i:i+1], rest))
		}
	}
	return all
}

// check holds what Post answers against what the test names, in several orders of the payments.
func check(t *testing.T, what string, b api.Books, l []api.Pay, want api.Books, wantE api.Errno) {
	t.Helper()
	if !lim.Is(b) {
		t.Fatalf("%s: %v is no books", what, b)
	}
	for _, l := range orders(l) {
		was := lim.Copy(b)
		if c, e := Post(b, l...); e != wantE || !lim.Same(c, want) {
			t.Errorf("%s: Post(%v, %v) = %v, %v, want %v, %v", what, b, l, c, e, want, wantE)
		}
		if !lim.Same(b, was) {
			t.Errorf("%s: %v became %v", what, was, b)
		}
	}
}

// checkFails holds that an error is told, and b.
func checkFails(t *testing.T, what string, b api.Books, l []api.Pay, want api.Errno) {
	t.Helper()
	check(t, what, b, l, b, want)
}

// checkIs holds that it is posted, and which balances there are then.
func checkIs(t *testing.T, what string, b api.Books, l []api.Pay, balances ...int64) {
	t.Helper()
	c, e := Post(b, l...)
	for i, n := range balances {
		if e != api.OK || c.Accts[i].Balance != n {
			t.Errorf("%s: Post(%v, %v) = %v, %v, want %v", what, b, l, c, e, balances)
		}
	}
	checkTold(t, what, b, l)
}

// checkTold holds what Post answers against the document's words.
func checkTold(t *testing.T, what string, b api.Books, l []api.Pay) {
	t.Helper()
	want, e := told(b, l)
	check(t, what, b, l, want, e)
}

// rich are books of n parties, of which no two numbers are the same but the limits.
func rich(n int) api.Books {
	b := has(make([]int64, n)...)
	for i := range n {
		b.Accts[i] = api.Acct{Balance: 1<<50 + int64(i), Credit: 1<<30 + int64(i), Reserve: 1<<20 + int64(i)}
		for j := range i {
			b = sent(b, i, j, int64(100*i+j))
		}
	}
	return b
}

// P16.1: the document's example.
func TestExample(t *testing.T) {
	for _, class := range classes {
		want := sent(has(3, 2), 0, 1, 2)
		check(t, "the example", has(5, 0), all(pay(0, 1, 2, class)), want, api.OK)
	}
}

// P16.1: one payment moves what its two parties have, each way, and nothing else.
func TestOnePayment(t *testing.T) {
	for n := 2; n <= api.MaxParties; n++ {
		b := rich(n)
		for from := range n {
			for to := range n {
				for _, class := range classes {
					for _, amount := range []int64{1, 7, 1 << 20, 1<<20 + 9, api.MaxAmount} {
						if from == to {
							continue
						}
						want := with(sent(b, from, to, amount), func(b *api.Books) {
							b.Accts[from].Balance -= amount
							b.Accts[to].Balance += amount
							if class != normal {
								b.Accts[from].Reserve = max(b.Accts[from].Reserve-amount, 0)
							}
						})
						check(t, "one", b, all(pay(from, to, amount, class)), want, api.OK)
					}
				}
			}
		}
	}
}

// P16.1: of no payment at all, all stays.
func TestNoPayment(t *testing.T) {
	x := numbers(3)
	l := []api.Books{has(5), has(-high), has(high), has(0, 0), sent(has(1, 2), 0, 1, far), rich(6)}
	for n := 1; n <= api.MaxParties; n++ {
		l = append(l, x.books(n), x.books(n))
	}
	for _, b := range l {
		for _, none := range [][]api.Pay{nil, {}, make([]api.Pay, 0, 5), all(pay(0, 0, 0, 0))[:0], all(pay(0, 1, 1<<40, 3), pay(1, 0, 9, 3))[:0]} {
			check(t, "none", b, none, b, api.OK)
		}
		if c, e := Post(b); e != api.OK || !lim.Same(c, b) {
			t.Errorf("Post(%v) = %v, %v", b, c, e)
		}
	}
}

// P16.1: at most 64.
func TestHowMany(t *testing.T) {
	b := rich(3)
	for _, of := range [][]api.Pay{
		all(pay(0, 1, 1, top)), all(pay(1, 0, 1, normal)), all(pay(0, 1, 9, top), pay(1, 0, 9, normal)), all(pay(0, 1, 5, urgent), pay(1, 2, 5, urgent), pay(2, 0, 5, normal)), all(pay(2, 1, api.MaxAmount, normal)),
	} {
		l := slices.Repeat(of, 200)
		for _, n := range []int{0, 1, 2, 3, 5, 31, 32, 33, 62, 63, 64} {
			checkTold(t, "some", b, l[:n])
			if _, e := Post(b, l[:n]...); e != api.OK {
				t.Errorf("%d of %v: %v", n, of, e)
			}
		}
		for _, n := range []int{65, 66, 67, 100, 127, 128, 129, 200} {
			checkFails(t, "too many", b, l[:n], api.ErrArg)
		}
	}
	l := many(1<<16+64, pay(0, 1, 1, top))
	for _, n := range []int{1 << 16, 1<<16 + 1, 1<<16 + 64} {
		checkFails(t, "far too many", b, l[:n], api.ErrArg)
	}
}

// P16.1: 64 are posted to the last one, wherever that stands.
func TestSixtyFour(t *testing.T) {
	for at := range 64 {
		l := many(64, pay(0, 1, 1, normal))
		l[at] = pay(0, 1, 2, urgent)
		checkIs(t, "one of two", has(70, 0), l, 5, 65)
		l[at] = pay(2, 1, 3, normal)
		checkIs(t, "one of another", has(70, 0, 9), l, 7, 66, 6)
		l[at] = pay(1, 0, 5, normal)
		checkIs(t, "one that comes back", has(70, 0), l, 12, 58)
	}
	checkIs(t, "all that may be", has(1<<46, 7), many(64, pay(0, 1, api.MaxAmount, normal)), 0, 1<<46+7)
}

// notSuch are payments that may not be, of three parties.
func notSuch() []api.Pay {
	return []api.Pay{
		pay(0, 0, 1, top), pay(2, 2, 1, normal), pay(0, 3, 1, top), pay(3, 0, 1, top), pay(-1, 0, 1, top), pay(0, -1, 1, top), pay(0, mostInt, 1, top), pay(leastInt, 0, 1, top), pay(5, 4, 1, top), pay(-1, -2, 1, top), pay(1<<32, 1, 1, top), pay(1, 1<<32, 1, top),
		pay(0, 1, 0, top), pay(0, 1, -1, top), pay(0, 1, -5, normal), pay(0, 1, api.MaxAmount+1, top), pay(0, 1, least, top), pay(0, 1, most, top), pay(0, 1, 1, 0), pay(0, 1, 1, 4), pay(0, 1, 1, -1), pay(0, 1, 1, 1<<32+1), pay(0, 1, 1, mostInt), {},
	}
}

// P16.1: ErrArg, if one may not be, wherever it stands.
func TestOneThatMayNotBe(t *testing.T) {
	b := rich(3)
	for _, p := range notSuch() {
		for _, n := range []int{1, 2, 3, 10, 63, 64} {
			l := slices.Repeat(all(pay(0, 1, 1, top), pay(1, 2, 2, normal)), 32)[:n]
			checkTold(t, "all may be", b, l)
			for at := range n {
				such := slices.Clone(l)
				such[at] = p
				if c, e := Post(b, such...); e != api.ErrArg || !lim.Same(c, b) {
					t.Errorf("%v at %d of %d: %v, %v", p, at, n, c, e)
				}
			}
		}
	}
}

// P16.1: from each account to each other, and neither to itself, nor to or from one that there is not.
func TestParties(t *testing.T) {
	for n := 1; n <= api.MaxParties; n++ {
		ends := []int{leastInt, -1 << 32, -n, -2, -1, n, n + 1, 6, 7, 1 << 32, mostInt}
		for i := range n {
			ends = append(ends, i)
		}
		for _, from := range ends {
			for _, to := range ends {
				for _, class := range classes {
					checkTold(t, "parties", rich(n), all(pay(from, to, 5, class)))
				}
			}
		}
	}
}

// P16.1: an Amount is 1 to MaxAmount, a class is one.
func TestAmountsAndClasses(t *testing.T) {
	for _, amount := range []int64{least, -api.MaxAmount, -1 << 32, -1, 0, 1, 2, 1 << 32, api.MaxAmount - 1, api.MaxAmount, api.MaxAmount + 1, 1 << 41, 1 << 62, most} {
		for _, class := range []int{leastInt, -3, -1, 0, 1, 2, 3, 4, 5, 1 << 32, 1<<32 + 1, mostInt} {
			checkTold(t, "amount and class", rich(2), all(pay(0, 1, amount, class)))
			checkTold(t, "amount and class, behind another", rich(3), all(pay(0, 1, 9, normal), pay(2, 0, amount, class)))
		}
	}
}

// P16.1: where ErrArg and ErrOver both might be told, it is ErrArg.
func TestWhichError(t *testing.T) {
	over := has(0, high, 0)
	checkFails(t, "over alone", over, all(pay(0, 1, 1, top)), api.ErrOver)
	for _, p := range notSuch() {
		checkFails(t, "one that may not be", over, all(pay(0, 1, 1, top), p), api.ErrArg)
		l := append(many(62, pay(0, 1, 1, top)), pay(2, 1, 1, top))
		checkFails(t, "one that may not be, of many", over, append(slices.Clone(l), p), api.ErrArg)
		checkFails(t, "one that may not be, the first of many", over, append(all(p), l...), api.ErrArg)
		checkFails(t, "a position", sent(has(0, 0, 0), 0, 1, far), all(pay(0, 1, 1, top), p), api.ErrArg)
	}
	checkFails(t, "64, and over", over, many(64, pay(0, 1, 1, top)), api.ErrOver)
	checkFails(t, "65, and over", over, many(65, pay(0, 1, 1, top)), api.ErrArg)
	checkFails(t, "65, and one that may not be", over, append(many(64, pay(0, 1, 1, top)), pay(0, 0, 1, top)), api.ErrArg)
	checkFails(t, "65 that would not be over", has(0, 0), many(65, pay(0, 1, 1, top)), api.ErrArg)
}

// P16.1: a Balance that just can be held behind it, and one more, both ways.
func TestBalanceThatCanBeHeld(t *testing.T) {
	for _, class := range classes {
		for _, n := range []int64{1, 2, 9, 1 << 31, 1 << 32, api.MaxAmount - 1, api.MaxAmount} {
			p := pay(0, 1, n, class)
			checkIs(t, "up to the greatest", has(0, high-n), all(p), -n, high)
			checkIs(t, "below the greatest", has(0, high-n-1), all(p), -n, high-1)
			checkFails(t, "one more than the greatest", has(0, high-n+1), all(p), api.ErrOver)
			checkFails(t, "from the greatest", has(0, high), all(p), api.ErrOver)
			checkIs(t, "down to the least", has(n-high, 0), all(p), -high, n)
			checkIs(t, "above the least", has(n-high+1, 0), all(p), -high+1, n)
			checkFails(t, "one less than the least", has(n-high-1, 0), all(p), api.ErrOver)
			checkFails(t, "from the least", has(-high, 0), all(p), api.ErrOver)
			checkIs(t, "from the greatest to the least", has(high, -high), all(p), high-n, n-high)
			checkFails(t, "both", has(-high, high), all(p), api.ErrOver)
		}
	}
	checkIs(t, "64 of all", has(1<<46-high, high-1<<46), many(64, pay(0, 1, api.MaxAmount, normal)), -high, high)
	checkFails(t, "64 of all, who gets has one more", has(1<<46-high, high-1<<46+1), many(64, pay(0, 1, api.MaxAmount, normal)), api.ErrOver)
	checkFails(t, "64 of all, who sends has one less", has(1<<46-high-1, high-1<<46), many(64, pay(0, 1, api.MaxAmount, normal)), api.ErrOver)
	checkFails(t, "64 of all, from the ends", has(-high, high), many(64, pay(0, 1, api.MaxAmount, normal)), api.ErrOver)
}

// P16.1: what can't be held of any one party is told, whoever it is.
func TestEachBalance(t *testing.T) {
	for n := 2; n <= api.MaxParties; n++ {
		for i := range n {
			for j := range n {
				if i == j {
					continue
				}
				full := with(has(make([]int64, n)...), func(b *api.Books) { b.Accts[j].Balance = high })
				checkFails(t, "who gets", full, all(pay(i, j, 1, top)), api.ErrOver)
				checkTold(t, "who gets sends", full, all(pay(j, i, 1, top)))
				low := with(has(make([]int64, n)...), func(b *api.Books) { b.Accts[i].Balance = -high })
				checkFails(t, "who sends", low, all(pay(i, j, 1, top)), api.ErrOver)
				checkTold(t, "who sends gets", low, all(pay(j, i, 1, top)))
			}
		}
	}
}

// P16.1: credit and Reserve are no part of what is held.
func TestCreditDoesNotMatter(t *testing.T) {
	great := api.Acct{Balance: high - 1, Credit: set, Reserve: set}
	checkIs(t, "the greatest", books(api.Acct{Credit: set, Reserve: set}, great), all(pay(0, 1, 1, normal)), -1, high)
	checkFails(t, "one more", books(api.Acct{Credit: set, Reserve: set}, great), all(pay(0, 1, 2, normal)), api.ErrOver)
	small := api.Acct{Balance: 1 - high, Credit: set, Reserve: set}
	checkIs(t, "the least", books(small, api.Acct{}), all(pay(0, 1, 1, top)), -high, 1)
	checkFails(t, "one less", books(small, api.Acct{}), all(pay(0, 1, 2, top)), api.ErrOver)
}

// P16.1: a Balance, or a position, that could not be held on the way, but can behind all of them.
func TestOnTheWay(t *testing.T) {
	checkIs(t, "goes on", has(9, high, 0), all(pay(0, 1, 5, top), pay(1, 2, 5, normal)), 4, high, 5)
	checkIs(t, "goes on, and more", has(9, high, 0), all(pay(0, 1, 5, top), pay(1, 2, 6, normal)), 4, high-1, 6)
	checkFails(t, "goes on, one less", has(9, high, 0), all(pay(0, 1, 5, top), pay(1, 2, 4, normal)), api.ErrOver)
	checkIs(t, "comes back", has(9, high), all(pay(0, 1, 5, top), pay(1, 0, 5, normal)), 9, high)
	checkIs(t, "is brought", has(9, -high, 0), all(pay(0, 1, 5, top), pay(1, 2, 5, normal)), 4, -high, 5)
	checkFails(t, "is brought, one less", has(9, -high, 0), all(pay(0, 1, 4, top), pay(1, 2, 5, normal)), api.ErrOver)
	checkIs(t, "in parts", has(0, high, 0), all(pay(0, 1, 2, top), pay(0, 1, 3, normal), pay(1, 2, 1, urgent), pay(1, 0, 4, top)), -1, high, 1)
	half := append(many(32, pay(0, 1, api.MaxAmount, top)), many(32, pay(1, 0, api.MaxAmount, normal))...)
	checkIs(t, "64 at the ends", has(-high, high), half, -high, high)
	checkIs(t, "64 at the ends, turned", has(high, -high), half, high, -high)
	checkIs(t, "64 at the ends of a position", sent(has(0, 0), 0, 1, far), half, 0, 0)
	l := append(many(6, pay(0, 1, 1, normal)), pay(1, 0, 3, top))
	check(t, "a position comes back", sent(has(0, 0), 0, 1, far-3), l, sent(has(-3, 3), 0, 1, far), api.OK)
	checkFails(t, "a position comes back, one less", sent(has(0, 0), 0, 1, far-3), append(l, pay(0, 1, 1, top)), api.ErrOver)
	checkFails(t, "what comes from another does not bring a position back", sent(has(0, 0, 0), 0, 1, far), all(pay(0, 1, 5, top), pay(1, 2, 5, top), pay(2, 0, 5, top)), api.ErrOver)
	ring := has(high, high, high, -high, -high, -high)
	checkIs(t, "a ring at the ends", ring, all(pay(0, 1, 5, top), pay(1, 2, 5, normal), pay(2, 3, 5, urgent), pay(3, 4, 5, top), pay(4, 5, 5, top), pay(5, 0, 5, top)), high, high, high, -high, -high, -high)
}

// P16.1: a party gets and sends at once.
func TestGetsAndSends(t *testing.T) {
	b := has(5, 0, 2)
	check(t, "in a row", b, all(pay(0, 1, 4, normal), pay(1, 2, 3, normal)), sent(sent(has(1, 1, 5), 0, 1, 4), 1, 2, 3), api.OK)
	check(t, "both ways", b, all(pay(0, 1, 4, normal), pay(1, 0, 3, normal)), sent(has(4, 1, 2), 0, 1, 1), api.OK)
	check(t, "as much", b, all(pay(0, 1, 4, normal), pay(1, 0, 4, urgent)), b, api.OK)
	check(t, "a ring", b, all(pay(0, 1, 4, normal), pay(1, 2, 4, urgent), pay(2, 0, 4, top)), sent(sent(sent(b, 0, 1, 4), 1, 2, 4), 2, 0, 4), api.OK)
	check(t, "from two, to two", b, all(pay(0, 1, 1, normal), pay(2, 1, 2, normal), pay(1, 0, 4, normal), pay(1, 2, 8, normal)), sent(sent(has(8, -9, 8), 0, 1, -3), 1, 2, 6), api.OK)
}

// P16.1: nobody is asked for room: a Balance below what it may be rises, and one falls below that too.
func TestBalanceBelow(t *testing.T) {
	a := api.Acct{Balance: -50, Credit: 3, Reserve: 2}
	b := books(a, api.Acct{Balance: 4, Credit: 1})
	checkIs(t, "rises", b, all(pay(1, 0, 4, normal)), -46, 0)
	checkIs(t, "rises, and is below still", b, all(pay(1, 0, 1, top)), -49, 3)
	checkIs(t, "rises to its floor", b, all(pay(1, 0, 47, top)), -3, -43)
	checkIs(t, "falls", b, all(pay(0, 1, 4, urgent)), -54, 8)
	checkIs(t, "the least one rises", has(-high, 0), all(pay(1, 0, 1, top)), 1-high, -1)
	checkIs(t, "the least one rises by all", has(-high, 0), many(64, pay(1, 0, api.MaxAmount, normal)), 1<<46-high, -1<<46)
}

// P16.1: what comes out is asked, whether it is books: a Balance that was below what an account has may come to be one.
func TestBalanceOfNoAccount(t *testing.T) {
	for _, x := range []struct {
		balance, amount int64
		want            api.Errno
	}{
		{-high - 1, 1, api.OK}, {-high - 1, 9, api.OK}, {-high - 2, 1, api.ErrOver}, {-high - 2, 2, api.OK}, {-high - 1 - api.MaxAmount, api.MaxAmount, api.ErrOver}, {-high - api.MaxAmount, api.MaxAmount, api.OK}, {least, api.MaxAmount, api.ErrOver}, {most, api.MaxAmount, api.ErrOver}, {high + 1, 1, api.ErrOver},
	} {
		b := has(x.balance, 0)
		c, e := Post(b, pay(1, 0, x.amount, top))
		want := b
		if x.want == api.OK {
			want = sent(has(x.balance+x.amount, -x.amount), 1, 0, x.amount)
		}
		if e != x.want || !lim.Same(c, want) {
			t.Errorf("Post(%v) of %d = %v, %v", b, x.amount, c, e)
		}
		if c, e := Post(b); e != api.ErrOver || !lim.Same(c, b) {
			t.Errorf("Post(%v) = %v, %v", b, c, e)
		}
	}
	for _, n := range []int64{least, most} {
		for _, l := range [][]api.Pay{many(64, pay(0, 1, api.MaxAmount, normal)), many(64, pay(1, 0, api.MaxAmount, normal))} {
			if c, e := Post(has(n, 0), l...); e != api.ErrOver || !lim.Same(c, has(n, 0)) {
				t.Errorf("Post of %d: %v, %v", n, c, e)
			}
		}
	}
}

// P16.1: a position that just can be held behind it, and one more, both ways.
func TestPositionThatCanBeHeld(t *testing.T) {
	for _, class := range classes {
		for _, n := range []int64{1, 2, 9, 1 << 32, api.MaxAmount} {
			for i := range 3 {
				for j := range 3 {
					if i == j {
						continue
					}
					p, b := pay(i, j, n, class), has(5, 5, 5)
					checkFails(t, "from the greatest", sent(b, i, j, far), all(p), api.ErrOver)
					checkFails(t, "one more than the greatest", sent(b, i, j, far-n+1), all(p), api.ErrOver)
					checkTold(t, "up to the greatest", sent(b, i, j, far-n), all(p))
					checkTold(t, "from the least", sent(b, i, j, -far), all(p))
					if c, e := Post(sent(b, i, j, far-n), p); e != api.OK || c.Pos[i][j] != far || c.Pos[j][i] != -far {
						t.Errorf("%v of %d: %v, %v", p, far-n, c, e)
					}
					if c, e := Post(sent(b, i, j, -far), p); e != api.OK || c.Pos[i][j] != n-far || c.Pos[j][i] != far-n {
						t.Errorf("%v of %d: %v, %v", p, -far, c, e)
					}
				}
			}
		}
	}
	l := many(64, pay(1, 0, api.MaxAmount, urgent))
	check(t, "64 of all", sent(has(0, 0), 1, 0, far-1<<46), l, sent(has(1<<46, -1<<46), 1, 0, far), api.OK)
	checkFails(t, "64 of all, and one more", sent(has(0, 0), 1, 0, far-1<<46+1), l, api.ErrOver)
	checkTold(t, "other positions are great", sent(sent(has(0, 0, 0), 0, 1, far), 1, 2, far), all(pay(0, 2, 9, top), pay(2, 1, 9, top), pay(1, 0, 9, normal)))
}

// P16.1: Pos of both is moved, both ways round, and no other's.
func TestPositions(t *testing.T) {
	b := sent(sent(has(9, 9, 9), 0, 1, 7), 2, 1, 3)
	for _, x := range []struct {
		what string
		l    []api.Pay
		want [][]int64
	}{
		{"what was sent", all(pay(0, 1, 4, top)), [][]int64{{0, 11, 0}, {-11, 0, -3}, {0, 3, 0}}},
		{"what was got", all(pay(1, 0, 4, top)), [][]int64{{0, 3, 0}, {-3, 0, -3}, {0, 3, 0}}},
		{"all that was got", all(pay(1, 0, 7, normal)), [][]int64{{0, 0, 0}, {0, 0, -3}, {0, 3, 0}}},
		{"more than was got", all(pay(1, 0, 9, normal)), [][]int64{{0, -2, 0}, {2, 0, -3}, {0, 3, 0}}},
		{"to one from which nothing came", all(pay(2, 0, 5, urgent)), [][]int64{{0, 7, -5}, {-7, 0, -3}, {5, 3, 0}}},
		{"to each", all(pay(1, 0, 1, top), pay(1, 2, 2, normal)), [][]int64{{0, 6, 0}, {-6, 0, -1}, {0, 1, 0}}},
		{"from each", all(pay(0, 1, 1, top), pay(2, 1, 2, normal)), [][]int64{{0, 8, 0}, {-8, 0, -5}, {0, 5, 0}}},
		{"there and back", all(pay(0, 1, 8, top), pay(1, 0, 3, normal)), [][]int64{{0, 12, 0}, {-12, 0, -3}, {0, 3, 0}}},
		{"a ring", all(pay(0, 1, 1, top), pay(1, 2, 1, top), pay(2, 0, 1, top)), [][]int64{{0, 8, -1}, {-8, 0, -2}, {1, 2, 0}}},
	} {
		checkTold(t, x.what, b, x.l)
		if c, e := Post(b, x.l...); e != api.OK || !slices.EqualFunc(c.Pos, x.want, slices.Equal[[]int64]) {
			t.Errorf("%s: %v, %v, want %v", x.what, c.Pos, e, x.want)
		}
	}
}

// P16.1: Reserve is what is Kept of it, what one sent Top and Urgent spent.
func TestReserve(t *testing.T) {
	a := api.Acct{Balance: 50, Credit: 3, Reserve: 4}
	for _, x := range []struct {
		what string
		l    []api.Pay
		want int64
	}{
		{"a Top one of less", all(pay(0, 1, 3, top)), 1}, {"an Urgent one of less", all(pay(0, 1, 1, urgent)), 3},
		{"a Top one of just so much", all(pay(0, 1, 4, top)), 0}, {"an Urgent one of just so much", all(pay(0, 1, 4, urgent)), 0},
		{"a Top one of more", all(pay(0, 1, 5, top)), 0}, {"an Urgent one of more", all(pay(0, 1, api.MaxAmount, urgent)), 0},
		{"both, of less", all(pay(0, 1, 1, top), pay(0, 2, 2, urgent)), 1}, {"both, of just so much", all(pay(0, 1, 1, top), pay(0, 2, 3, urgent)), 0},
		{"both, of more", all(pay(0, 1, 3, top), pay(0, 2, 3, urgent)), 0}, {"both of more", all(pay(0, 1, 9, top), pay(0, 2, 9, urgent)), 0},
		{"two of a class", all(pay(0, 1, 1, top), pay(0, 1, 1, top)), 2}, {"three", all(pay(0, 1, 1, top), pay(0, 2, 1, top), pay(0, 1, 1, urgent)), 1},
		{"a Normal one alone", all(pay(0, 1, 4, normal)), 4}, {"a Normal one of more", all(pay(0, 1, 99, normal)), 4}, {"Normal ones", many(64, pay(0, 1, 9, normal)), 4},
		{"a Normal one beside a Top one", all(pay(0, 1, 9, normal), pay(0, 1, 3, top)), 1}, {"a Normal one beside an Urgent one", all(pay(0, 2, 1, normal), pay(0, 1, 2, urgent)), 2},
		{"a Normal one beside both", all(pay(0, 2, 7, normal), pay(0, 1, 2, urgent), pay(0, 1, 1, top)), 1}, {"a Normal one beside one of just so much", all(pay(0, 2, 7, normal), pay(0, 1, 4, urgent)), 0},
		{"what is got", all(pay(1, 0, 9, top)), 4}, {"what is got Normal", all(pay(1, 0, 9, normal)), 4}, {"what is got beside one", all(pay(1, 0, 9, urgent), pay(0, 1, 3, urgent)), 1},
		{"what others send", all(pay(1, 2, 9, top), pay(2, 1, 9, urgent)), 4}, {"nothing", nil, 4},
	} {
		b := books(a, api.Acct{Balance: 50, Credit: 3, Reserve: 100}, api.Acct{Balance: 50, Reserve: 200})
		checkTold(t, x.what, b, x.l)
		if c, e := Post(b, x.l...); e != api.OK || c.Accts[0].Reserve != x.want || c.Accts[0].Credit != 3 {
			t.Errorf("%s: %v, %v, want %d", x.what, c.Accts, e, x.want)
		}
	}
	for _, reserve := range []int64{0, 1, set - 1, set} {
		b := books(api.Acct{Reserve: reserve}, api.Acct{Reserve: set})
		for _, class := range classes {
			checkTold(t, "at an end", b, all(pay(0, 1, 1, class)))
			checkTold(t, "at an end, and all that may be", b, many(64, pay(0, 1, api.MaxAmount, class)))
		}
	}
}

// P16.1: whether a Reserve is spent does not hang on a Balance.
func TestReserveOfAnyBalance(t *testing.T) {
	for _, balance := range []int64{-high + 64, -9, 0, 3, 5, high} {
		b := books(api.Acct{Balance: balance, Reserve: 5}, api.Acct{Balance: -high + 64, Reserve: 9})
		for _, class := range classes {
			for _, n := range []int64{1, 4, 5, 6} {
				checkTold(t, "one", b, all(pay(0, 1, n, class)))
				checkTold(t, "two", b, all(pay(0, 1, n, class), pay(0, 1, 2, top)))
			}
		}
	}
}

// P16.1: limits do not matter, and stay as they are.
func TestLimitsDoNotMatter(t *testing.T) {
	x := numbers(5)
	for _, limit := range []int64{api.None, 0, 1, set} {
		b := has(5, 0, 2)
		l := all(pay(0, 1, 9, normal), pay(1, 2, 9, top), pay(0, 2, 1, urgent))
		want, _ := told(b, l)
		for _, c := range []*api.Books{&b, &want} {
			c.Bil, c.Mul = lim.Square(3, limit), lim.Row(3, limit)
		}
		check(t, "all of one", b, l, want, api.OK)
	}
	for range 200 {
		n := 2 + int(x.below(5))
		b, l := x.books(n), x.pays(n, int(x.below(9)))
		free := with(b, func(b *api.Books) { b.Bil, b.Mul = lim.Square(n, api.None), lim.Row(n, api.None) })
		c, e := Post(b, l...)
		d, f := Post(free, l...)
		d.Bil, d.Mul = b.Bil, b.Mul
		if e != f || !lim.Same(c, d) {
			t.Errorf("Post(%v, %v) = %v, %v; without limits %v, %v", b, l, c, e, d, f)
		}
	}
}

// P16.1: one payment that comes twice is two.
func TestOneTwice(t *testing.T) {
	for _, class := range classes {
		p, b := pay(0, 1, 4, class), books(api.Acct{Balance: 9, Reserve: 10}, api.Acct{})
		checkIs(t, "once", b, many(1, p), 5, 4)
		checkIs(t, "twice", b, many(2, p), 1, 8)
		checkIs(t, "thrice", b, many(3, p), -3, 12)
		checkIs(t, "twice, and back", b, append(many(2, p), pay(1, 0, 4, class)), 5, 4)
		checkFails(t, "held once, not twice", has(0, high-7), many(2, p), api.ErrOver)
		checkIs(t, "held twice", has(0, high-8), many(2, p), -8, high)
		checkFails(t, "a position held once, not twice", sent(has(0, 0), 0, 1, far-7), many(2, p), api.ErrOver)
	}
}

// P16.1: IDs and times do not matter.
func TestIDsAndTimesDoNotMatter(t *testing.T) {
	for _, id := range []int64{least, -1, 0, 1, most} {
		for _, time := range []int64{least, -1, 0, 5, most} {
			p := api.Pay{ID: id, From: 0, To: 1, Amount: 4, Class: normal, Start: time, Till: -time}
			q := api.Pay{ID: id, From: 1, To: 2, Amount: 5, Class: top, Start: -time, Till: time}
			checkIs(t, "two of one ID", has(4, 1, 0), all(p, q), 0, 0, 5)
			checkIs(t, "one of them twice", has(4, 1, 0), all(p, q, p), -4, 4, 5)
		}
	}
}

// P16.2: it does not matter in which order they stand, at each of many orders.
func TestAnyOrder(t *testing.T) {
	x := numbers(13)
	for range 300 {
		n := 2 + int(x.below(5))
		b, l := x.books(n), x.pays(n, 5+int(x.below(60)))
		want, wantE := Post(b, l...)
		for range 4 {
			for i := range l {
				j := int(x.below(int64(i + 1)))
				l[i], l[j] = l[j], l[i]
			}
			if c, e := Post(b, l...); e != wantE || !lim.Same(c, want) {
				t.Fatalf("Post(%v, %v) = %v, %v, want %v, %v", b, l, c, e, want, wantE)
			}
		}
	}
}

// P16.1: all at once is one by one, and part by part, where each of these can be held.
func TestOneByOne(t *testing.T) {
	x := numbers(17)
	held := 0
	for range 2000 {
		n := 2 + int(x.below(5))
		b, l := x.books(n), x.pays(n, int(x.below(20)))
		want, e := Post(b, l...)
		c, ok := b, e == api.OK
		for i := 0; i < len(l) && ok; {
			some := min(int(x.below(4)), len(l)-i)
			d, e := Post(c, l[i:i+some]...)
			c, ok, i = d, e == api.OK, i+some
		}
		if !ok {
			continue
		}
		held++
		if !lim.Same(c, want) {
			t.Fatalf("Post(%v, %v) = %v, part by part %v", b, l, want, c)
		}
	}
	if held < 300 {
		t.Errorf("%d were held", held)
	}
}

// P16.2: what all have together stays, and all positions together are nothing; so it is of each party what it has less, or more, and its net.
func TestTogether(t *testing.T) {
	x := numbers(19)
	sum := func(b api.Books) *big.Int {
		n := new(big.Int)
		for _, a := range b.Accts {
			n.Add(n, big.NewInt(a.Balance))
		}
		return n
	}
	posted := 0
	for range 2000 {
		n := 2 + int(x.below(5))
		b, l := x.books(n), x.pays(n, 1+int(x.below(64)))
		c, e := Post(b, l...)
		if sum(b).Cmp(sum(c)) != 0 || !lim.Is(c) {
			t.Fatalf("Post(%v, %v) = %v, %v", b, l, c, e)
		}
		nets := int64(0)
		for i := range n {
			nets += lim.Net(c, i)
			if lim.Net(c, i)-lim.Net(b, i) != b.Accts[i].Balance-c.Accts[i].Balance {
				t.Fatalf("%d has another net than balance: Post(%v, %v) = %v, %v", i, b, l, c, e)
			}
		}
		if nets != 0 {
			t.Fatalf("all positions of %v are %d", c, nets)
		}
		if e == api.OK {
			posted++
		}
	}
	if posted < 300 {
		t.Errorf("%d were posted", posted)
	}
}

// Ways: Post takes payments one by one, or as a list.
func TestVariadic(t *testing.T) {
	b := has(5, 0, 2)
	p, q, r := pay(0, 1, 6, top), pay(1, 0, 3, normal), pay(2, 1, 3, urgent)
	l := all(p, q, r)
	type answer struct {
		c api.Books
		e api.Errno
	}
	of := func(c api.Books, e api.Errno) answer { return answer{c, e} }
	for i, x := range []struct {
		one, list answer
		want      []int64
	}{
		{of(Post(b)), of(Post(b, nil...)), []int64{5, 0, 2}}, {of(Post(b, []api.Pay{}...)), of(Post(b, l[:0]...)), []int64{5, 0, 2}},
		{of(Post(b, p)), of(Post(b, l[:1]...)), []int64{-1, 6, 2}}, {of(Post(b, p, q)), of(Post(b, l[:2]...)), []int64{2, 3, 2}},
		{of(Post(b, p, q, r)), of(Post(b, l...)), []int64{2, 6, -1}}, {of(Post(b, q, r)), of(Post(b, l[1:]...)), []int64{8, 0, -1}},
	} {
		for _, a := range []answer{x.one, x.list} {
			for j, n := range x.want {
				if a.e != api.OK || a.c.Accts[j].Balance != n {
					t.Errorf("%d: %v, %v, want %v", i, a.c, a.e, x.want)
				}
			}
		}
	}
}

// P16.1: all small books of two, with all short lists of small payments.
func TestSmall(t *testing.T) {
	var of []api.Pay
	for _, class := range classes {
		of = append(of, pay(0, 1, 1, class), pay(0, 1, 2, class))
	}
	of = append(of, pay(1, 0, 1, urgent), pay(1, 0, 2, normal), pay(1, 1, 1, top))
	lists := [][]api.Pay{nil}
	for i, p := range of {
		lists = append(lists, all(p))
		for j, q := range of[i:] {
			lists = append(lists, all(p, q))
			for _, r := range of[i+j:] {
				lists = append(lists, all(p, q, r))
			}
		}
	}
	balances := []int64{-high, 1 - high, 2 - high, -1, 0, 3, high - 2, high - 1, high}
	for _, one := range balances {
		for _, two := range balances {
			for reserve := range int64(4) {
				for _, pos := range []int64{0, far, 1 - far} {
					b := sent(books(api.Acct{Balance: one, Credit: reserve, Reserve: reserve}, api.Acct{Balance: two, Reserve: 1}), 0, 1, pos)
					for _, l := range lists {
						want, wantE := told(b, l)
						if c, e := Post(b, l...); e != wantE || !lim.Same(c, want) {
							t.Fatalf("Post(%v, %v) = %v, %v, want %v, %v", b, l, c, e, want, wantE)
						}
					}
				}
			}
		}
	}
}

// P16.1: any books, any payments.
func TestAny(t *testing.T) {
	x := numbers(1)
	count := map[api.Errno]int{}
	for range 4000 {
		n := 2 + int(x.below(5))
		b, l := x.books(n), x.pays(n, int(x.below(9)))
		if x.below(8) == 0 {
			l = slices.Insert(l, int(x.below(int64(len(l)+1))), notSuch()[x.below(20)])
		}
		checkTold(t, "any", b, l)
		_, e := Post(b, l...)
		count[e]++
	}
	for range 300 {
		n := 2 + int(x.below(5))
		checkTold(t, "many", x.books(n), x.pays(n, 50+int(x.below(18))))
	}
	for _, e := range []api.Errno{api.OK, api.ErrArg, api.ErrOver} {
		if count[e] < 300 {
			t.Errorf("%v: %d", e, count[e])
		}
	}
}

// near is books in which some numbers are so that behind l they lie at an end of what can be held, or one beside it.
func (s *numbers) near(n int, l []api.Pay) api.Books {
	b := has(make([]int64, n)...)
	flat, e := told(b, l)
	if e != api.OK {
		panic(e)
	}
	end := func(move, end int64) int64 {
		at := []int64{end, -end}[s.below(2)] + s.from(-1, 1) - move
		return max(min(at, end), -end)
	}
	for i := range n {
		b.Accts[i] = api.Acct{Reserve: s.below(20), Credit: s.below(20)}
		if s.below(int64(n)) == 0 {
			b.Accts[i].Balance = end(flat.Accts[i].Balance, high)
		}
		for j := range i {
			if s.below(int64(2*n)) == 0 {
				b = sent(b, i, j, end(flat.Pos[i][j], far))
			}
		}
	}
	return b
}

// P16.1: books in which numbers are near to what can't be held.
func TestNear(t *testing.T) {
	x := numbers(7)
	posted, over := 0, 0
	for range 6000 {
		n := 2 + int(x.below(5))
		l := x.pays(n, 1+int(x.below(8)))
		b := x.near(n, l)
		checkTold(t, "near", b, l)
		if _, e := Post(b, l...); e == api.OK {
			posted++
		} else {
			over++
		}
	}
	if posted < 500 || over < 500 {
		t.Errorf("%d were posted, %d were over", posted, over)
	}
}

// roomy are b's numbers with spare room behind the end of each list, that has something in it.
func roomy(b api.Books) api.Books {
	row := func(l []int64) []int64 { return slices.Concat(l, []int64{spare, spare})[:len(l)] }
	square := func(l [][]int64) [][]int64 {
		var r [][]int64
		for _, v := range l {
			r = append(r, row(v))
		}
		return slices.Concat(r, [][]int64{{spare}})[:len(l)]
	}
	return api.Books{Accts: slices.Concat(b.Accts, []api.Acct{{Balance: spare}})[:len(b.Accts)], Bil: square(b.Bil), Mul: row(b.Mul), Pos: square(b.Pos)}
}

// isRoomy tells whether b is roomy(was), also behind each list's end.
func isRoomy(b, was api.Books) bool {
	row := func(l []int64) bool { return slices.Equal(l[len(l):len(l)+2], []int64{spare, spare}) }
	square := func(l [][]int64) bool {
		return !slices.ContainsFunc(l, func(v []int64) bool { return !row(v) }) && slices.Equal(l[:len(l)+1][len(l)], []int64{spare})
	}
	return lim.Same(b, was) && b.Accts[:len(b.Accts)+1][len(b.Accts)] == (api.Acct{Balance: spare}) && square(b.Bil) && row(b.Mul) && square(b.Pos)
}

// rowsOf are all rows of numbers of b, each with the spare room behind its end, those too that lie behind the end of a square.
func rowsOf(b api.Books) [][]int64 {
	rows := slices.Concat(b.Bil[:cap(b.Bil)], b.Pos[:cap(b.Pos)], [][]int64{b.Mul})
	for i, row := range rows {
		rows[i] = row[:cap(row)]
	}
	return rows
}

// scribble writes into all memory of b, spare room too: each row of numbers one number of its own, from n on. It tells whether none of them was another's, and none of a square's rows another square's.
func scribble(b api.Books, n int64) bool {
	rows := rowsOf(b)
	for i, row := range rows {
		for j := range row {
			row[j] = n + int64(i)
		}
	}
	accts := b.Accts[:cap(b.Accts)]
	for i := range accts {
		accts[i] = api.Acct{Balance: n, Credit: n, Reserve: n}
	}
	for i, row := range rows {
		if slices.ContainsFunc(row, func(v int64) bool { return v != n+int64(i) }) {
			return false
		}
	}
	clear(b.Bil[:cap(b.Bil)])
	apart := !slices.ContainsFunc(b.Pos, func(row []int64) bool { return row == nil })
	clear(b.Pos[:cap(b.Pos)])
	return apart
}

// eachAsked goes through books and payments: some are posted, of some each error is told.
func eachAsked(do func(b api.Books, l []api.Pay)) {
	x := numbers(21)
	for range 300 {
		n := 2 + int(x.below(5))
		l := x.pays(n, int(x.below(12)))
		do(x.near(n, l), l)
		do(x.books(n), l)
	}
	do(rich(6), nil)
	do(has(-1, -1, -1, -1, -1, -1), all(pay(0, 1, 1, top), pay(1, 2, 9, normal), pay(2, 3, 1, urgent), pay(3, 4, 1, top), pay(4, 5, 8, top), pay(5, 0, 1, normal)))
	do(has(0, high), all(pay(0, 1, 1, top)))
	do(rich(2), many(65, pay(0, 1, 1, top)))
	do(rich(2), all(pay(0, 1, 1, top), pay(0, 9, 1, top)))
}

// W6, P16.2: books and payments stay as they were, and so does the room behind each list's end; nothing there is asked.
func TestNothingIsChanged(t *testing.T) {
	eachAsked(func(b api.Books, l []api.Pay) {
		for _, room := range []int{0, 1, 2, 70} {
			from := roomy(b)
			whole := slices.Concat(l, many(room, pay(1, 0, 77, normal)))
			was := slices.Clone(whole)
			c, e := Post(from, whole[:len(l)]...)
			if d, f := Post(b, l...); e != f || !lim.Same(c, d) {
				t.Fatalf("%v, %v: what stands behind the end is asked", b, l)
			}
			if !scribble(c, 1000) || !isRoomy(from, b) || !slices.Equal(whole, was) {
				t.Fatalf("%v became %v, %v became %v", b, from, was, whole)
			}
		}
	})
}

// W2, W6, W7: an answer is new memory, also beside an error, spare room too, of which no two lists share any; it stays what it is, whatever becomes of what was handed in, of another answer, and whatever is called later.
func TestAnswersAreNewMemory(t *testing.T) {
	eachAsked(func(b api.Books, l []api.Pay) {
		want, _ := told(b, l)
		for _, from := range []api.Books{lim.Copy(b), roomy(b)} {
			pays := slices.Clone(l)
			one, _ := Post(from, pays...)
			two, _ := Post(from, pays...)
			if !scribble(one, 2000) {
				t.Fatalf("lists of Post(%v, %v) share memory", b, l)
			}
			three, _ := Post(from, pays...)
			scribble(from, 3000)
			clear(pays)
			four, _ := Post(has(0, 0, 0), pay(2, 1, 9, top), pay(1, 0, 99, top), pay(0, 2, 9, top))
			scribble(four, 4000)
			if !lim.Same(two, want) || !lim.Same(three, want) {
				t.Fatalf("Post(%v, %v) became %v, %v, want %v", b, l, two, three, want)
			}
		}
	})
}

// W2, W6: books that share rows are posted as any others, and the answer's rows are apart.
func TestBooksThatShareRows(t *testing.T) {
	row, none := lim.Row(3, 4), lim.Row(3, 0)
	b := has(9, 9, 9)
	b.Bil, b.Mul, b.Pos = [][]int64{row, row, row}, row, [][]int64{none, none, none}
	checkIs(t, "shared", b, all(pay(0, 1, 4, top), pay(1, 2, 5, top)), 5, 8, 14)
	for _, l := range [][]api.Pay{nil, all(pay(0, 1, 4, top)), all(pay(0, 0, 4, top)), many(65, pay(0, 1, 4, top))} {
		if c, _ := Post(b, l...); !scribble(c, 5000) {
			t.Errorf("lists of Post(%v, %v) share memory", b, l)
		}
	}
	all := lim.Square(3, 0)
	b.Bil, b.Mul, b.Pos = all, all[0], all
	checkIs(t, "one square", b, []api.Pay{pay(0, 1, 4, top), pay(1, 2, 5, top)}, 5, 8, 14)
	if !slices.Equal(row, lim.Row(3, 4)) || !slices.Equal(none, lim.Row(3, 0)) || !slices.EqualFunc(all, lim.Square(3, 0), slices.Equal[[]int64]) {
		t.Errorf("rows became %v, %v, %v", row, none, all)
	}
}

// noBooks are what is handed in, and neither is books, nor becomes books by payments.
func noBooks() []api.Books {
	l := []api.Books{
		{}, {Accts: make([]api.Acct, 2)}, {Accts: make([]api.Acct, 2), Bil: make([][]int64, 2), Mul: make([]int64, 2), Pos: make([][]int64, 2)},
		{Accts: make([]api.Acct, 7), Bil: lim.Square(6, 0), Mul: lim.Row(6, 0), Pos: lim.Square(6, 0)}, {Accts: make([]api.Acct, 1000)}, {Bil: lim.Square(2, 0), Mul: lim.Row(2, 0), Pos: lim.Square(2, 0)},
	}
	for _, change := range []func(b *api.Books){
		func(b *api.Books) { b.Accts = b.Accts[:1] }, func(b *api.Books) { b.Accts = append(b.Accts, make([]api.Acct, 99)...) }, func(b *api.Books) { b.Accts[0].Balance = least }, func(b *api.Books) { b.Accts[0].Balance = most },
		func(b *api.Books) { b.Accts[0].Credit = most }, func(b *api.Books) { b.Accts[0].Credit = least }, func(b *api.Books) { b.Accts[0].Reserve = most },
		func(b *api.Books) { b.Bil = nil }, func(b *api.Books) { b.Bil = b.Bil[:1] }, func(b *api.Books) { b.Bil[0] = nil }, func(b *api.Books) { b.Bil[0] = b.Bil[0][:1] }, func(b *api.Books) { b.Bil[0][1] = -2 },
		func(b *api.Books) { b.Mul = nil }, func(b *api.Books) { b.Mul = b.Mul[:1] }, func(b *api.Books) { b.Mul[0] = least }, func(b *api.Books) { b.Mul[2] = most },
		func(b *api.Books) { b.Pos = nil }, func(b *api.Books) { b.Pos = b.Pos[:2] }, func(b *api.Books) { b.Pos[1] = nil }, func(b *api.Books) { b.Pos[1] = b.Pos[1][:1] }, func(b *api.Books) { b.Pos[0] = make([]int64, 9) }, func(b *api.Books) { b.Pos[2] = b.Pos[2][:0] },
		func(b *api.Books) { b.Pos[0][1] = most }, func(b *api.Books) { b.Pos[0][1], b.Pos[1][0] = least, least }, func(b *api.Books) { b.Pos[0][1]++ }, func(b *api.Books) { b.Pos[2][2] = 1 },
	} {
		l = append(l, with(rich(3), change))
	}
	return l
}

// W1, W3, W4, W6: what is no books is asked without a panic: ErrArg is told of what may not be, else ErrOver, as what comes out is no books; and it stays as it was.
func TestWhatIsNotSuch(t *testing.T) {
	lists := [][]api.Pay{
		nil, all(pay(0, 1, 1, top)), all(pay(1, 0, 5, normal), pay(0, 1, 5, urgent)), all(pay(2, 0, api.MaxAmount, normal)), all(pay(0, 2, 9, normal), pay(2, 1, 9, normal)), all(pay(5, 6, 1, top)), all(pay(6, 5, 1, top)), all(pay(999, 99, 1, top)), {{}},
		all(pay(0, 0, 1, top)), all(pay(leastInt, mostInt, least, leastInt)), all(pay(mostInt, leastInt, most, mostInt)), all(pay(-1, 0, 1, normal)), all(pay(0, 1, most, normal), pay(0, 1, most, normal)),
		many(65, pay(0, 1, 1, top)), many(1<<16, pay(0, 1, most, top)), many(64, pay(1, 2, 1, top)), many(64, pay(0, 1, api.MaxAmount, normal)), many(64, pay(1, 0, api.MaxAmount, normal)),
	}
	for i, such := range noBooks() {
		for _, l := range lists {
			b, pays := lim.Copy(such), slices.Clone(l)
			want := api.ErrOver
			if len(l) > 64 || slices.ContainsFunc(l, func(p api.Pay) bool { return !isSuch(b, p) }) {
				want = api.ErrArg
			}
			c, e := Post(b, pays...)
			if e != want || !lim.Same(c, such) || !lim.Same(b, such) || !slices.Equal(pays, l) {
				t.Errorf("%d: %d payments %v: %v, want %v", i, len(l), l[:min(len(l), 2)], e, want)
			}
			if !scribble(c, 6000) || !lim.Same(b, such) {
				t.Errorf("%d: %d payments: what is answered shares memory", i, len(l))
			}
		}
	}
}

// W2: an answer does not hang on what was asked ahead of it.
func TestAnswersStayTheSame(t *testing.T) {
	b, l := has(5, 0), all(pay(0, 1, 6, normal), pay(1, 0, 3, normal))
	for range 3 {
		if c, e := Post(b, l...); e != api.OK || !lim.Same(c, sent(has(2, 3), 0, 1, 3)) {
			t.Errorf("another answer: %v, %v", c, e)
		}
		Post(has(-9, -9, -9), pay(0, 1, 5, top), pay(2, 1, 5, top))
		Post(api.Books{}, l...)
		Post(b, pay(0, 0, 1, top))
		Post(has(0, high), l[0])
	}
}
