package most

import (
	"math"
	"math/big"
	"slices"
	"testing"

	"giro/api"
	"giro/fits"
	"giro/lim"
)

const (
	most     = math.MaxInt64
	least    = math.MinInt64
	mostInt  = math.MaxInt
	leastInt = math.MinInt
	// high is the greatest balance, and less it the least one; set is the greatest credit, reserve and limit.
	high = 1<<62 - 1
	set  = 1 << 61
	// far is the greatest position, and less it the least one.
	far = 1<<56 - 1
	// spare is what lies behind the end of a list that is handed in.
	spare = 4711
)

const (
	top    = api.Top
	urgent = api.Urgent
	normal = api.Normal
)

// classes are all there are.
var classes = []int{top, urgent, normal}

// ends are Amounts at, and near to, the ends of what a payment may have.
var ends = []int64{1, 2, 3, 9, 1<<31 - 1, 1 << 32, api.MaxAmount - 2, api.MaxAmount - 1, api.MaxAmount}

// books are books of such accounts, without limits, and nothing sent.
func books(l ...api.Acct) api.Books {
	n := len(l)
	return api.Books{Accts: slices.Clone(l), Bil: lim.Square(n, api.None), Mul: lim.Row(n, api.None), Pos: lim.Square(n, 0)}
}

// has is books of accounts with such balances alone.
func has(balances ...int64) api.Books {
	var l []api.Acct
	for _, n := range balances {
		l = append(l, api.Acct{Balance: n})
	}
	return books(l...)
}

// with are books, changed.
func with(b api.Books, change func(b *api.Books)) api.Books {
	c := lim.Copy(b)
	change(&c)
	return c
}

// sent are books in which i sent j so much more.
func sent(b api.Books, i, j int, n int64) api.Books {
	return with(b, func(b *api.Books) { b.Pos[i][j], b.Pos[j][i] = b.Pos[i][j]+n, b.Pos[j][i]-n })
}

// bil are books in which i has such a limit to j.
func bil(b api.Books, i, j int, limit int64) api.Books {
	return with(b, func(b *api.Books) { b.Bil[i][j] = limit })
}

// mul are books in which i has such a limit to all.
func mul(b api.Books, i int, limit int64) api.Books {
	return with(b, func(b *api.Books) { b.Mul[i] = limit })
}

// pay is a payment; its ID and its time hang on its other numbers, and don't matter.
func pay(from, to int, amount int64, class int) api.Pay {
	return api.Pay{ID: amount + int64(from), From: from, To: to, Amount: amount, Class: class, Start: int64(to), Till: 99}
}

// rich are books of n, none of which falls short.
func rich(n int) api.Books {
	return with(has(make([]int64, n)...), func(b *api.Books) {
		for i := range b.Accts {
			b.Accts[i].Balance = high
		}
	})
}

// pairs are all two unlike of n.
func pairs(n int) [][2]int {
	var l [][2]int
	for i := range n {
		for j := range n {
			if i != j {
				l = append(l, [2]int{i, j})
			}
		}
	}
	return l
}

// numbers is a source of numbers that are the same in each run.
type numbers uint64

func (s *numbers) next() uint64 {
	*s ^= *s << 13
	*s ^= *s >> 7
	*s ^= *s << 17
	return uint64(*s)
}

// below is 0 to n-1.
func (s *numbers) below(n int64) int64 {
	return int64(s.next() % uint64(n))
}

// limit is one that may be.
func (s *numbers) limit() int64 {
	return []int64{api.None, api.None, 0, 1, set, s.below(set), s.below(20)}[s.below(7)]
}

// position is one that may be.
func (s *numbers) position() int64 {
	return []int64{-far, 0, 0, far, s.below(2*far+1) - far, s.below(40) - 20}[s.below(6)]
}

// account is one that may be, with little in it, or with anything.
func (s *numbers) account() api.Acct {
	if s.below(3) > 0 {
		return api.Acct{Balance: s.below(40) - 15, Credit: s.below(20), Reserve: s.below(15)}
	}
	balance := []int64{-high, high, s.below(2*high+1) - high}[s.below(3)]
	return api.Acct{Balance: balance, Credit: []int64{0, set, s.below(set + 1)}[s.below(3)], Reserve: []int64{0, set, s.below(set + 1)}[s.below(3)]}
}

// books are books of n parties.
func (s *numbers) books(n int) api.Books {
	b := has(make([]int64, n)...)
	for i := range n {
		b.Accts[i], b.Mul[i] = s.account(), s.limit()
		for j := range n {
			b.Bil[i][j] = s.limit()
		}
		for j := range i {
			b.Pos[i][j] = s.position()
			b.Pos[j][i] = -b.Pos[i][j]
		}
	}
	return b
}

// What follows is what the document's words ask, told without the packages below and in whole numbers.

func whole(n int64) *big.Int { return big.NewInt(n) }

func plus(a, b *big.Int) *big.Int { return new(big.Int).Add(a, b) }

func minus(a, b *big.Int) *big.Int { return new(big.Int).Sub(a, b) }

// isAbove tells whether so much is above a limit, if there is one.
func isAbove(n *big.Int, limit int64) bool {
	return limit != -1 && n.Cmp(whole(limit)) > 0
}

// isShort tells whether who sends one payment alone is Short behind it.
func isShort(b api.Books, from, to int, amount int64, class int) bool {
	a, kept := b.Accts[from], whole(0)
	if class == 3 {
		kept = whole(a.Reserve)
	}
	left := minus(plus(whole(a.Balance), whole(a.Credit)), whole(amount))
	net := whole(amount)
	for j := range b.Accts {
		if j != from {
			net = plus(net, whole(b.Pos[from][j]))
		}
	}
	return left.Cmp(kept) < 0 || isAbove(plus(whole(b.Pos[from][to]), whole(amount)), b.Bil[from][to]) || isAbove(net, b.Mul[from])
}

// goes tells whether a payment Fits alone.
func goes(b api.Books, from, to int, amount int64, class int) bool {
	n := len(b.Accts)
	return from >= 0 && from < n && to >= 0 && to < n && from != to && amount >= 1 && amount <= 1<<40 && class >= 1 && class <= 3 &&
		!isShort(b, from, to, amount, class)
}

// told is the greatest Amount that goes: as more is never better, it is found by halves.
func told(b api.Books, from, to, class int) int64 {
	n := int64(0)
	for step := int64(1 << 40); step > 0; step /= 2 {
		if goes(b, from, to, n+step, class) {
			n += step
		}
	}
	return n
}

// check holds an answer against what is asked, and against what Fits.
func check(t *testing.T, what string, b api.Books, from, to, class int, want int64) {
	t.Helper()
	n := Of(b, from, to, class)
	if n != want {
		t.Errorf("%s: Of(%v, %d, %d, %d) = %d, want %d", what, b, from, to, class, n, want)
	}
	if n > 0 && !fits.Fits(b, pay(from, to, n, class)) {
		t.Errorf("%s: Of(%v, %d, %d, %d) = %d, which does not fit", what, b, from, to, class, n)
	}
	if fits.Fits(b, pay(from, to, n+1, class)) {
		t.Errorf("%s: Of(%v, %d, %d, %d) = %d, and one more fits", what, b, from, to, class, n)
	}
}

// checkTold holds an answer against what the words ask.
func checkTold(t *testing.T, what string, b api.Books, from, to, class int) {
	t.Helper()
	check(t, what, b, from, to, class, told(b, from, to, class))
}

// checkEach holds the answers for a Top, an Urgent and a Normal one from 0 to 1 against what is asked.
func checkEach(t *testing.T, what string, b api.Books, wants ...int64) {
	t.Helper()
	for i, class := range classes {
		check(t, what, b, 0, 1, class, wants[i])
		checkTold(t, what, b, 0, 1, class)
	}
}

// P17.1: the document's example.
func TestExample(t *testing.T) {
	checkEach(t, "example", books(api.Acct{Balance: 5, Reserve: 2}, api.Acct{}), 5, 5, 3)
}

// P17.1: Balance, Credit and Reserve are what bounds it, by class.
func TestAccounts(t *testing.T) {
	for _, x := range []struct {
		what             string
		a                api.Acct
		urgently, normal int64
	}{
		{"a Balance", api.Acct{Balance: 5}, 5, 5}, {"of 1", api.Acct{Balance: 1}, 1, 1}, {"of nothing", api.Acct{}, 0, 0},
		{"a Credit", api.Acct{Credit: 5}, 5, 5}, {"a Credit of 1", api.Acct{Credit: 1}, 1, 1}, {"both", api.Acct{Balance: 5, Credit: 3}, 8, 8},
		{"a Reserve", api.Acct{Balance: 5, Reserve: 4}, 5, 1}, {"a Reserve of all", api.Acct{Balance: 5, Reserve: 5}, 5, 0}, {"a Reserve of 1 more", api.Acct{Balance: 5, Reserve: 6}, 5, 0},
		{"a Reserve of more", api.Acct{Balance: 5, Reserve: set}, 5, 0}, {"a Reserve of the Credit", api.Acct{Credit: 5, Reserve: 2}, 5, 3}, {"all three", api.Acct{Balance: 5, Credit: 3, Reserve: 2}, 8, 6},
		{"a Reserve of nothing", api.Acct{Reserve: 1}, 0, 0}, {"a Reserve of both", api.Acct{Balance: 5, Credit: 3, Reserve: 8}, 8, 0}, {"a Reserve of 1 less", api.Acct{Balance: 5, Credit: 3, Reserve: 7}, 8, 1},
		{"a Balance below nothing", api.Acct{Balance: -5, Credit: 8}, 3, 3}, {"with a Reserve", api.Acct{Balance: -5, Credit: 8, Reserve: 2}, 3, 1}, {"at its floor", api.Acct{Balance: -8, Credit: 8}, 0, 0},
		{"one above it", api.Acct{Balance: -7, Credit: 8}, 1, 1}, {"one below it", api.Acct{Balance: -9, Credit: 8}, 0, 0}, {"far below it", api.Acct{Balance: -high, Credit: 8, Reserve: 2}, 0, 0},
		{"the least one", api.Acct{Balance: -high, Reserve: set}, 0, 0}, {"the least one with all Credit", api.Acct{Balance: -high, Credit: set}, 0, 0}, {"as much Credit as there is", api.Acct{Balance: 3 - set, Credit: set}, 3, 3},
		{"the greatest", api.Acct{Balance: high, Credit: set}, api.MaxAmount, api.MaxAmount}, {"the greatest with all Reserve", api.Acct{Balance: high, Credit: set, Reserve: set}, api.MaxAmount, api.MaxAmount},
		{"a great Reserve", api.Acct{Balance: set, Reserve: set - 3}, api.MaxAmount, 3}, {"all of it kept", api.Acct{Credit: set, Reserve: set}, api.MaxAmount, 0},
	} {
		checkEach(t, x.what, books(x.a, api.Acct{}), x.urgently, x.urgently, x.normal)
		checkEach(t, x.what+", and to one with all", books(x.a, api.Acct{Balance: high, Credit: set, Reserve: set}), x.urgently, x.urgently, x.normal)
		checkEach(t, x.what+", and to one below its floor", books(x.a, api.Acct{Balance: -high}), x.urgently, x.urgently, x.normal)
	}
}

// P17.1: at each end just so much goes as there is, whatever it is made of, and at most MaxAmount.
func TestHowMuchThereIs(t *testing.T) {
	for _, n := range ends {
		for _, a := range []api.Acct{{Balance: n}, {Credit: n}, {Balance: n - 5, Credit: 5}, {Balance: n - set, Credit: set}} {
			checkEach(t, "an end", books(a, api.Acct{}), n, n, n)
			kept := a
			kept.Reserve = n
			checkEach(t, "an end that is kept", books(kept, api.Acct{}), n, n, 0)
			kept.Reserve = n - 1
			checkEach(t, "an end that is kept but 1", books(kept, api.Acct{}), n, n, 1)
			kept.Balance, kept.Reserve = a.Balance+77, 77
			more := min(n+77, api.MaxAmount)
			checkEach(t, "an end behind a Reserve", books(kept, api.Acct{}), more, more, n)
		}
	}
	for _, n := range []int64{1, 2, 1 << 20, api.MaxAmount, set - api.MaxAmount} {
		checkEach(t, "beyond MaxAmount", has(api.MaxAmount+n, 0), api.MaxAmount, api.MaxAmount, api.MaxAmount)
		checkEach(t, "beyond MaxAmount, kept", books(api.Acct{Balance: api.MaxAmount + n, Reserve: n}, api.Acct{}), api.MaxAmount, api.MaxAmount, api.MaxAmount)
		checkEach(t, "beyond MaxAmount, one more kept", books(api.Acct{Balance: api.MaxAmount + n, Reserve: n + 1}, api.Acct{}), api.MaxAmount, api.MaxAmount, api.MaxAmount-1)
	}
}

// checkBound holds each class's answer for one from 0 to 1 of rich books, changed, against one number.
func checkBound(t *testing.T, what string, change func(b *api.Books), want int64) {
	t.Helper()
	checkEach(t, what, with(rich(3), change), want, want, want)
}

// P17.1: a limit to the other one bounds it, by what was sent to that one.
func TestLimitsToEach(t *testing.T) {
	for _, x := range []struct {
		what            string
		limit, was, all int64
	}{
		{"nothing sent", 3, 0, 3}, {"1 that just fits", 1, 0, 1}, {"a limit of 0", 0, 0, 0}, {"no limit", api.None, 0, api.MaxAmount}, {"no limit, much sent", api.None, far, api.MaxAmount}, {"no limit, much got", api.None, -far, api.MaxAmount},
		{"some sent", 3, 2, 1}, {"reached", 3, 3, 0}, {"reached, 0", 0, 0, 0}, {"passed", 3, 4, 0}, {"passed by far", 3, far, 0}, {"passed, 0", 0, 1, 0},
		{"some got", 3, -4, 7}, {"some got, 0", 0, -4, 4}, {"1 got, 0", 0, -1, 1}, {"much got", 0, -far, api.MaxAmount}, {"much got, all", set, -far, api.MaxAmount}, {"all", set, 0, api.MaxAmount}, {"all, much sent", set, far, api.MaxAmount},
		{"great ones", far, far - 9, 9}, {"great ones, reached", far, far, 0}, {"great ones, passed", far - 1, far, 0},
	} {
		checkBound(t, x.what, func(b *api.Books) { b.Bil[0][1], b.Pos[0][1], b.Pos[1][0] = x.limit, x.was, -x.was }, x.all)
	}
	for _, n := range ends {
		for _, was := range []int64{0, 1, 7, -1, -7, far - api.MaxAmount, -far} {
			if was+n >= 0 {
				checkBound(t, "an end", func(b *api.Books) { b.Bil[0][1], b.Pos[0][1], b.Pos[1][0] = was+n, was, -was }, n)
			}
		}
	}
	for _, n := range []int64{1, 2, 1 << 20, set - api.MaxAmount} {
		checkBound(t, "beyond MaxAmount", func(b *api.Books) { b.Bil[0][1] = api.MaxAmount + n }, api.MaxAmount)
	}
}

// P17.1: no other limit to one, and none that another set, bounds it.
func TestLimitsOfOthers(t *testing.T) {
	for _, x := range pairs(3) {
		b := with(has(9, 9, 9), func(b *api.Books) { b.Bil, b.Mul = lim.Square(3, 0), lim.Row(3, 0) })
		b.Bil[x[0]][x[1]], b.Mul[x[0]] = 4, 7
		for _, y := range pairs(3) {
			alone, toOne, toAll := int64(0), int64(9), int64(9)
			if x == y {
				alone, toOne = 4, 4
			}
			if x[0] == y[0] {
				toAll = 7
			}
			for _, class := range classes {
				check(t, "limits of others", b, y[0], y[1], class, alone)
				check(t, "a limit of one to one", bil(has(9, 9, 9), x[0], x[1], 4), y[0], y[1], class, toOne)
				check(t, "a limit of one to all", mul(has(9, 9, 9), x[0], 7), y[0], y[1], class, toAll)
			}
		}
	}
	for _, limit := range []int64{0, 1, set} {
		own := with(has(9, 9), func(b *api.Books) { b.Bil[0][0], b.Bil[1][1], b.Bil[1][0], b.Mul[1] = limit, limit, limit, limit })
		checkEach(t, "limits to oneself, and of who gets", own, 9, 9, 9)
	}
}

// P17.1: a limit to all bounds it, by what was sent to all.
func TestLimitsToAll(t *testing.T) {
	for _, x := range []struct {
		what              string
		limit, to1, other int64
		all               int64
	}{
		{"nothing sent", 3, 0, 0, 3}, {"1 that just fits", 1, 0, 0, 1}, {"a limit of 0", 0, 0, 0, 0}, {"no limit", api.None, 0, 0, api.MaxAmount}, {"no limit, much sent", api.None, far, far, api.MaxAmount},
		{"some sent to that one", 3, 2, 0, 1}, {"some sent to another", 3, 0, 2, 1}, {"some sent to both", 9, 2, 3, 4}, {"reached by that one", 3, 3, 0, 0}, {"reached by another", 3, 0, 3, 0}, {"reached by both", 3, 1, 2, 0},
		{"passed by that one", 3, 4, 0, 0}, {"passed by another", 3, 0, 4, 0}, {"passed by both", 3, 2, 2, 0}, {"passed by far", 0, far, far, 0},
		{"some got from that one", 3, -2, 0, 5}, {"some got from another", 3, 0, -2, 5}, {"some got from both", 3, -2, -4, 9}, {"some got, 0", 0, -2, 0, 2}, {"some got from another, 0", 0, 0, -1, 1},
		{"sent to one, got from the other", 3, 5, -4, 2}, {"got from one, sent to the other", 3, -5, 4, 4}, {"as much", 3, -5, 5, 3}, {"1 too much", 3, -5, 8, 0}, {"passed but for one", 3, 9, -9, 3},
		{"much got", 0, -far, -far, api.MaxAmount}, {"much sent, and got", 7, far, -far, 7}, {"great ones", 2 * far, far, far - 9, 9}, {"all", set, far, far, api.MaxAmount}, {"great ones, reached", 2 * far, far, far, 0},
	} {
		checkBound(t, x.what, func(b *api.Books) {
			b.Mul[0], b.Pos[0] = x.limit, []int64{0, x.to1, x.other}
			b.Pos[1][0], b.Pos[2][0] = -x.to1, -x.other
		}, x.all)
	}
	for _, n := range ends {
		for _, was := range []int64{0, 1, 7, -1, far, -far} {
			b := mul(sent(rich(3), 0, 2, was), 0, max(was+n, 0))
			want := min(max(was+n, 0)-was, api.MaxAmount)
			checkEach(t, "an end", b, want, want, want)
		}
	}
	for _, n := range []int64{1, 2, 1 << 20, set - api.MaxAmount} {
		checkBound(t, "beyond MaxAmount", func(b *api.Books) { b.Mul[0] = api.MaxAmount + n }, api.MaxAmount)
	}
}

// P17.1: what was sent between others bounds nothing.
func TestWhatOthersSent(t *testing.T) {
	b := mul(bil(has(9, 9, 9, 9), 0, 1, 6), 0, 7)
	for _, n := range []int64{1, 5, 9, far, -1, -5, -far} {
		checkEach(t, "between others", sent(b, 2, 3, n), 6, 6, 6)
		checkEach(t, "by who gets", sent(b, 1, 2, n), 6, 6, 6)
	}
	checkEach(t, "to another", sent(b, 0, 2, 1), 6, 6, 6)
	checkEach(t, "to another, and more", sent(b, 0, 2, 2), 5, 5, 5)
	checkEach(t, "from another", sent(sent(b, 2, 0, 4), 0, 3, 6), 5, 5, 5)
	checkEach(t, "to each of the others", sent(sent(b, 0, 2, 3), 0, 3, 2), 2, 2, 2)
}

// P17.1: of all bounds the least one holds, also where two or more are one.
func TestSeveralBounds(t *testing.T) {
	for _, x := range [][3]int64{{3, 5, 9}, {3, 9, 5}, {5, 3, 9}, {9, 3, 5}, {5, 9, 3}, {9, 5, 3}, {3, 3, 9}, {3, 9, 3}, {9, 3, 3}, {3, 3, 3}, {3, 4, 4}, {4, 3, 4}, {4, 4, 3}, {0, 3, 3}, {3, 0, 3}, {3, 3, 0}, {0, 0, 0}} {
		normally := min(x[0], x[1], x[2])
		b := mul(bil(books(api.Acct{Balance: x[0]}, api.Acct{}, api.Acct{}), 0, 1, x[1]), 0, x[2])
		checkEach(t, "three bounds", b, normally, normally, normally)
		b.Accts[0] = api.Acct{Balance: x[0], Credit: 2, Reserve: 2}
		urgently := min(x[0]+2, x[1], x[2])
		checkEach(t, "three bounds and a Reserve", b, urgently, urgently, normally)
		b = sent(b, 0, 1, 2)
		b.Bil[0][1], b.Mul[0] = x[1]+2, x[2]+2
		checkEach(t, "three bounds with some sent", b, urgently, urgently, normally)
		b = sent(b, 2, 0, 1)
		urgently, normally = min(x[0]+2, x[1], x[2]+1), min(x[0], x[1], x[2]+1)
		checkEach(t, "three bounds with some got", b, urgently, urgently, normally)
	}
	great := mul(bil(rich(2), 0, 1, api.MaxAmount), 0, api.MaxAmount)
	checkEach(t, "all of them MaxAmount", great, api.MaxAmount, api.MaxAmount, api.MaxAmount)
	great.Accts[0] = api.Acct{Balance: api.MaxAmount - 1, Credit: 1}
	checkEach(t, "all of them, the account too", great, api.MaxAmount, api.MaxAmount, api.MaxAmount)
	great.Mul[0]--
	checkEach(t, "all of them, but one less", great, api.MaxAmount-1, api.MaxAmount-1, api.MaxAmount-1)
}

// P17.1: 0, if from or to is no account, or both are one.
func TestParties(t *testing.T) {
	for n := 1; n <= api.MaxParties; n++ {
		asked := []int{leastInt, -1 << 32, -n, -2, -1, n, n + 1, 6, 7, 1 << 32, mostInt}
		for i := range n {
			asked = append(asked, i)
		}
		b := with(rich(n), func(b *api.Books) {
			for i := range n {
				b.Accts[i].Balance = int64(i) + 3
			}
		})
		for _, from := range asked {
			for _, to := range asked {
				want := int64(0)
				if from >= 0 && from < n && to >= 0 && to < n && from != to {
					want = int64(from) + 3
				}
				for _, class := range classes {
					check(t, "parties", b, from, to, class, want)
				}
			}
		}
	}
}

// P17.1: 0, if class is none.
func TestClasses(t *testing.T) {
	for _, class := range []int{leastInt, -3, -2, -1, 0, 4, 5, 1 << 32, 1<<32 + 1, 1<<32 + 3, mostInt} {
		check(t, "no class", has(5, 5), 0, 1, class, 0)
		check(t, "no class, of the greatest", rich(6), 5, 0, class, 0)
		check(t, "no class, with a Reserve", books(api.Acct{Balance: 5, Reserve: 2}, api.Acct{}), 0, 1, class, 0)
		check(t, "no class, and both one", has(5, 5), 1, 1, class, 0)
		check(t, "no class, and no account", has(5, 5), -1, 1, class, 0)
	}
	checkEach(t, "each class", has(5, 5), 5, 5, 5)
}

// P17.1: that what comes out of a payment can't be held bounds nothing, as Fits does not ask it.
func TestWhatCanNotBeHeld(t *testing.T) {
	checkEach(t, "who gets has all", has(5, high), 5, 5, 5)
	checkEach(t, "a position", sent(has(5, 0), 0, 1, far), 5, 5, 5)
	checkEach(t, "a position of who gets", sent(bil(has(5, 0), 0, 1, set), 0, 1, far-1), 5, 5, 5)
	checkEach(t, "all of them", sent(has(high, high), 0, 1, far), api.MaxAmount, api.MaxAmount, api.MaxAmount)
}

// P17.2: each lesser Amount fits, from 1 on, and none that is more.
func TestLesserAmounts(t *testing.T) {
	x := numbers(11)
	some := 0
	for range 1500 {
		n := 2 + int(x.below(5))
		b := x.books(n)
		for _, p := range pairs(n) {
			class := classes[x.below(3)]
			all := Of(b, p[0], p[1], class)
			amounts := []int64{1, 2, all / 2, all - 1, all, 1 + x.below(max(all, 1)), all + 1, all + 2, 2 * all, all + 1 + x.below(100), api.MaxAmount - 1, api.MaxAmount, api.MaxAmount + 1}
			for _, amount := range amounts {
				want := amount >= 1 && amount <= all
				if fits.Fits(b, pay(p[0], p[1], amount, class)) != want || goes(b, p[0], p[1], amount, class) != want {
					t.Fatalf("Of(%v, %d, %d, %d) = %d, Fits of %d is %v", b, p[0], p[1], class, all, amount, !want)
				}
			}
			if all > 1 && all < api.MaxAmount {
				some++
			}
		}
	}
	if some < 300 {
		t.Errorf("%d were neither nothing nor all", some)
	}
}

// P17.1, P17.2: all small books of two: Of is how many Amounts fit, and they are the first ones.
func TestSmall(t *testing.T) {
	limits := []int64{api.None, 0, 1, 3}
	for balance := int64(-3); balance <= 3; balance++ {
		for k := int64(0); k < 9; k++ {
			a := api.Acct{Balance: balance, Credit: k % 3, Reserve: k / 3}
			for _, toOne := range limits {
				for _, toAll := range limits {
					for was := int64(-2); was <= 2; was++ {
						b := mul(bil(sent(books(a, api.Acct{}), 0, 1, was), 0, 1, toOne), 0, toAll)
						for _, class := range classes {
							checkSmall(t, b, class)
						}
					}
				}
			}
		}
	}
}

// checkSmall tries all small Amounts one by one.
func checkSmall(t *testing.T, b api.Books, class int) {
	t.Helper()
	all := Of(b, 0, 1, class)
	for amount := int64(1); amount < 9; amount++ {
		if goes(b, 0, 1, amount, class) != (amount <= all) {
			t.Errorf("Of(%v, 0, 1, %d) = %d, but of %d", b, class, all, amount)
		}
	}
}

// P17.1: any books, any parties, any class.
func TestAny(t *testing.T) {
	x := numbers(7)
	for range 4000 {
		n := 1 + int(x.below(6))
		b := x.books(n)
		from, to, class := int(x.below(8))-1, int(x.below(8))-1, int(x.below(5))
		checkTold(t, "any", b, from, to, class)
		if n > 1 {
			from = int(x.below(int64(n)))
			checkTold(t, "any that may be", b, from, (from+1+int(x.below(int64(n-1))))%n, classes[x.below(3)])
		}
	}
}

// P17.1: books in which each bound is near to some Amount, or there is none.
func TestNear(t *testing.T) {
	x := numbers(31)
	near := func(n int64) int64 { return n + x.below(5) - 2 }
	some := 0
	for range 4000 {
		n := 2 + int(x.below(5))
		b := x.books(n)
		from := int(x.below(int64(n)))
		to := (from + 1 + int(x.below(int64(n-1)))) % n
		amount := []int64{1, 2, 9, 1 + x.below(api.MaxAmount), api.MaxAmount}[x.below(5)]
		reserve := []int64{0, 5, 1 << 50}[x.below(3)]
		credit := []int64{0, 7, 1 << 51}[x.below(3)]
		b.Accts[from] = api.Acct{Balance: near(amount) + []int64{0, reserve}[x.below(2)] - credit, Credit: credit, Reserve: reserve}
		b.Bil[from][to] = []int64{api.None, max(near(amount)+b.Pos[from][to], 0)}[x.below(2)]
		b.Mul[from] = []int64{api.None, max(near(amount)+lim.Net(b, from), 0)}[x.below(2)]
		for _, class := range classes {
			checkTold(t, "near", b, from, to, class)
			if all := Of(b, from, to, class); all > 0 && all <= amount+2 && all >= amount-2 {
				some++
			}
		}
	}
	if some < 3000 {
		t.Errorf("%d were near", some)
	}
}

// roomy are books whose lists have spare room behind their ends, with something in it.
func roomy(b api.Books) api.Books {
	rows := func(l [][]int64) [][]int64 {
		c := make([][]int64, len(l), len(l)+2)
		for i, row := range l {
			c[i] = append(slices.Clone(row), spare, spare)[:len(row)]
		}
		more := append(c, []int64{spare}, []int64{spare})
		return more[:len(l)]
	}
	filler := api.Acct{Balance: spare, Credit: spare, Reserve: spare}
	return api.Books{Accts: append(slices.Clone(b.Accts), filler, filler)[:len(b.Accts)], Bil: rows(b.Bil), Mul: append(slices.Clone(b.Mul), spare, spare)[:len(b.Mul)], Pos: rows(b.Pos)}
}

// isRoomy tells whether roomy books are what they were, spare room too.
func isRoomy(b, was api.Books) bool {
	more := func(l []int64) bool { return slices.Equal(l[:len(l)+2][len(l):], []int64{spare, spare}) }
	far := func(l [][]int64) bool {
		return slices.EqualFunc(l[:len(l)+2][len(l):], [][]int64{{spare}, {spare}}, slices.Equal[[]int64]) && !slices.ContainsFunc(l, func(row []int64) bool { return !more(row) })
	}
	filler := api.Acct{Balance: spare, Credit: spare, Reserve: spare}
	return lim.Same(b, was) && slices.Equal(b.Accts[:len(b.Accts)+2][len(b.Accts):], []api.Acct{filler, filler}) && more(b.Mul) && far(b.Bil) && far(b.Pos)
}

// W6: books stay as they were, and so does the room behind each list's end; nothing there is asked.
func TestNothingIsChanged(t *testing.T) {
	x := numbers(3)
	for range 500 {
		n := 1 + int(x.below(6))
		was := x.books(n)
		b := roomy(was)
		for from := -1; from <= n; from++ {
			for to := -1; to <= n; to++ {
				for class := range 5 {
					if all := Of(b, from, to, class); all != told(was, from, to, class) {
						t.Fatalf("Of(%v, %d, %d, %d) = %d with spare room", was, from, to, class, all)
					}
				}
			}
		}
		if !isRoomy(b, was) {
			t.Fatalf("%v became %v", was, b)
		}
	}
}

// W2: books that share rows are asked as any others.
func TestBooksThatShareRows(t *testing.T) {
	for _, limit := range []int64{api.None, 0, 2, 7} {
		row := lim.Row(2, limit)
		zero := lim.Row(2, 0)
		b := api.Books{Accts: []api.Acct{{Balance: 5, Reserve: 2}, {Balance: 4}}, Bil: [][]int64{row, row}, Mul: row, Pos: [][]int64{zero, zero}}
		for _, class := range classes {
			checkTold(t, "shared", b, 0, 1, class)
			checkTold(t, "shared", b, 1, 0, class)
		}
	}
}

// W2, W6: nothing is kept: an answer does not hang on what was asked ahead of it, nor on what becomes of books that were asked of.
func TestNothingIsKept(t *testing.T) {
	x := numbers(37)
	for range 200 {
		b, other := x.books(3), x.books(2)
		want := Of(b, 0, 1, urgent)
		Of(other, 1, 0, normal)
		Of(has(1), 0, 0, 9)
		if all := Of(b, 0, 1, urgent); all != want {
			t.Errorf("Of(%v) = %d, and then %d", b, want, all)
		}
		c := lim.Copy(b)
		b.Accts[0], b.Bil[0][1], b.Mul[0] = x.account(), x.limit(), x.limit()
		checkTold(t, "changed", b, 0, 1, urgent)
		check(t, "as it was", c, 0, 1, urgent, want)
	}
}

// noBooks are books that are none.
func noBooks() []api.Books {
	b := has(5, 5, 5)
	list := []api.Books{{}, {Accts: b.Accts}, {Accts: b.Accts, Pos: b.Pos}, {Bil: b.Bil, Mul: b.Mul, Pos: b.Pos}, rich(3)}
	list[4].Accts = list[4].Accts[:2]
	for _, change := range []func(b *api.Books){
		func(b *api.Books) { b.Bil = nil }, func(b *api.Books) { b.Bil = b.Bil[:2] }, func(b *api.Books) { b.Bil[1] = b.Bil[1][:1] }, func(b *api.Books) { b.Bil[0] = nil },
		func(b *api.Books) { b.Mul = nil }, func(b *api.Books) { b.Mul = b.Mul[:1] }, func(b *api.Books) { b.Mul[0] = -2 }, func(b *api.Books) { b.Mul[0] = least }, func(b *api.Books) { b.Mul[0] = most },
		func(b *api.Books) { b.Pos = nil }, func(b *api.Books) { b.Pos = b.Pos[:1] }, func(b *api.Books) { b.Pos[0] = b.Pos[0][:1] }, func(b *api.Books) { b.Pos[0] = nil }, func(b *api.Books) { b.Pos[0][1] = 1 },
		func(b *api.Books) { b.Pos[0][1], b.Pos[1][0] = most, least }, func(b *api.Books) { b.Pos[0][0] = least }, func(b *api.Books) { b.Pos[0] = []int64{0, most, most} },
		func(b *api.Books) { b.Bil[0][1] = least }, func(b *api.Books) { b.Bil[0][1] = most }, func(b *api.Books) { b.Bil[0] = append(b.Bil[0], 1) }, func(b *api.Books) { b.Bil = append(b.Bil, b.Mul) },
		func(b *api.Books) { b.Accts[0] = api.Acct{Balance: most, Credit: most, Reserve: least} }, func(b *api.Books) { b.Accts[0] = api.Acct{Balance: least, Credit: least, Reserve: most} },
		func(b *api.Books) { b.Accts = slices.Repeat(b.Accts, 3) }, func(b *api.Books) { b.Accts = append(b.Accts, api.Acct{}) },
	} {
		list = append(list, with(b, change))
	}
	return append(list, books(slices.Repeat([]api.Acct{{Balance: 9}}, 7)...))
}

// W1, W6: what is no books is asked without a panic, whatever else is asked, and stays as it was.
func TestWhatIsNotSuch(t *testing.T) {
	for _, b := range noBooks() {
		if lim.Is(b) {
			t.Fatalf("%v are books", b)
		}
		was := lim.Copy(b)
		for _, from := range []int{leastInt, -1, 0, 1, 2, 3, 6, 7, mostInt} {
			for _, to := range []int{leastInt, -1, 0, 1, 2, 3, 6, 7, mostInt} {
				for class := -1; class <= 4; class++ {
					Of(b, from, to, class)
				}
			}
		}
		if !lim.Same(b, was) {
			t.Errorf("%v became %v", was, b)
		}
	}
}
