package acct

import (
	"math"
	"math/big"
	"testing"

	"giro/api"
)

const (
	most  = math.MaxInt64
	least = math.MinInt64
	// high is the greatest balance, and less it the least one; set is the greatest credit and reserve.
	high = 1<<62 - 1
	set  = 1 << 61
)

// classes are those of payments.
var classes = []int{api.Top, api.Urgent, api.Normal}

// balances are those that may be, at their edges.
func balances() []int64 {
	return []int64{-high, 1 - high, -set - 1, -set, 1 - set, -9, -5, -3, -1, 0, 1, 2, 3, 5, 9, 1 << 40, set - 1, set, set + 1, high - 1, high}
}

// sets are credits and reserves that may be, at their edges.
func sets() []int64 {
	return []int64{0, 1, 2, 3, 1 << 32, 1 << 40, set - 1, set}
}

// amounts are numbers from 0 on, at the edges of what an account holds.
func amounts() []int64 {
	return []int64{0, 1, 2, 3, 4, 5, 9, 1 << 32, 1 << 40, set - 1, set, set + 1, high - 1, high, high + 1, high + 2, 2*high - 1, 2 * high, 2*high + 1, most}
}

// accounts are all that the edges make, and many more, all of which may be.
func accounts() []api.Acct {
	var l []api.Acct
	for _, balance := range balances() {
		for _, credit := range sets() {
			for _, reserve := range sets() {
				l = append(l, api.Acct{Balance: balance, Credit: credit, Reserve: reserve})
			}
		}
	}
	x := numbers(88172645463325252)
	for range 2000 {
		l = append(l, api.Acct{Balance: x.upTo(high) - x.upTo(high), Credit: x.upTo(set), Reserve: x.upTo(set)})
	}
	return l
}

// numbers are the same ones at each run.
type numbers uint64

// next is any number.
func (x *numbers) next() uint64 {
	*x ^= *x << 13
	*x ^= *x >> 7
	*x ^= *x << 17
	return uint64(*x)
}

// upTo is a number from 0 to end, small ones as often as great ones.
func (x *numbers) upTo(end int64) int64 {
	n := x.next() >> (1 + x.next()%63)
	return int64(n % uint64(end+1))
}

// whole is the sum of what is added, less what is taken, as whole numbers have it.
func whole(added []int64, taken ...int64) *big.Int {
	sum := new(big.Int)
	for _, n := range added {
		sum.Add(sum, big.NewInt(n))
	}
	for _, n := range taken {
		sum.Sub(sum, big.NewInt(n))
	}
	return sum
}

// isBalance tells whether a whole number may be a balance.
func isBalance(n *big.Int) bool {
	return new(big.Int).Abs(n).Cmp(big.NewInt(1<<62)) < 0
}

// wantOut is the account that Out must answer, and its error, as whole numbers have it.
func wantOut(a api.Acct, n int64, class int) (api.Acct, api.Errno) {
	balance := whole([]int64{a.Balance}, n)
	if !isBalance(balance) {
		return a, api.ErrOver
	}
	next := api.Acct{Balance: balance.Int64(), Credit: a.Credit, Reserve: a.Reserve}
	if class != api.Normal {
		next.Reserve = wantKept(a, n)
	}
	return next, api.OK
}

// wantKept is what Kept must answer, as whole numbers have it.
func wantKept(a api.Acct, spent int64) int64 {
	left := whole([]int64{a.Reserve}, spent)
	if left.Sign() < 0 {
		return 0
	}
	return left.Int64()
}

// checkIn checks what In answers, and that it answers it again.
func checkIn(t *testing.T, a api.Acct, n int64, want api.Acct, wantE api.Errno) {
	t.Helper()
	was := a
	for range 2 {
		if is, e := In(a, n); is != want || e != wantE {
			t.Errorf("In(%v, %d) = %v, %d; want %v, %d", a, n, is, e, want, wantE)
		}
	}
	if a != was {
		t.Errorf("In changed %v to %v", was, a)
	}
}

// checkOut checks what Out answers, and that it answers it again.
func checkOut(t *testing.T, a api.Acct, n int64, class int, want api.Acct, wantE api.Errno) {
	t.Helper()
	was := a
	for range 2 {
		if is, e := Out(a, n, class); is != want || e != wantE {
			t.Errorf("Out(%v, %d, %d) = %v, %d; want %v, %d", a, n, class, is, e, want, wantE)
		}
	}
	if a != was {
		t.Errorf("Out changed %v to %v", was, a)
	}
}

// P9.1: a Balance at each edge, with any Credit and Reserve.
func TestIsBalance(t *testing.T) {
	for _, x := range []struct {
		balance int64
		want    bool
	}{
		{least, false}, {least + 1, false}, {-1<<62 - 1, false}, {-1 << 62, false}, {1 - 1<<62, true}, {2 - 1<<62, true},
		{-1 << 61, true}, {-1, true}, {0, true}, {1, true}, {1 << 61, true}, {1<<61 + 1, true},
		{1<<62 - 2, true}, {1<<62 - 1, true}, {1 << 62, false}, {1<<62 + 1, false}, {most - 1, false}, {most, false},
	} {
		for _, credit := range sets() {
			for _, reserve := range sets() {
				a := api.Acct{Balance: x.balance, Credit: credit, Reserve: reserve}
				if Is(a) != x.want {
					t.Errorf("Is(%v) = %v", a, !x.want)
				}
			}
		}
	}
}

// P9.1: a Credit, a Reserve at each edge, all else as it may be.
func TestIsCreditAndReserve(t *testing.T) {
	for _, x := range []struct {
		n    int64
		want bool
	}{
		{least, false}, {least + 1, false}, {-1 << 62, false}, {-1 << 61, false}, {-2, false}, {-1, false}, {0, true}, {1, true},
		{1 << 40, true}, {1<<61 - 1, true}, {1 << 61, true}, {1<<61 + 1, false}, {1<<62 - 1, false}, {1 << 62, false}, {most, false},
	} {
		for _, balance := range balances() {
			for _, other := range sets() {
				if a := (api.Acct{Balance: balance, Credit: x.n, Reserve: other}); Is(a) != x.want {
					t.Errorf("Is(%v) = %v", a, !x.want)
				}
				if a := (api.Acct{Balance: balance, Credit: other, Reserve: x.n}); Is(a) != x.want {
					t.Errorf("Is(%v) = %v", a, !x.want)
				}
			}
		}
	}
}

// P9.1: one fault isn't made up for by another.
func TestIsManyFaults(t *testing.T) {
	for _, balance := range []int64{least, -1 << 62, 1 << 62, most, 0} {
		for _, credit := range []int64{least, -1, 1<<61 + 1, most, 0} {
			for _, reserve := range []int64{least, -1, 1<<61 + 1, most, 0} {
				a := api.Acct{Balance: balance, Credit: credit, Reserve: reserve}
				if Is(a) != (a == api.Acct{}) {
					t.Errorf("Is(%v) = %v", a, Is(a))
				}
			}
		}
	}
}

// P9.1: an account may lie below its floor, and keep more than it has.
func TestIsAsksNoFloor(t *testing.T) {
	for _, a := range accounts() {
		if !Is(a) {
			t.Errorf("Is(%v) = false", a)
		}
	}
}

// P9.1: nothing spent, less than the Reserve, just that, one more, the greatest number.
func TestKept(t *testing.T) {
	for _, x := range []struct{ reserve, spent, want int64 }{
		{7, 0, 7}, {7, 1, 6}, {7, 6, 1}, {7, 7, 0}, {7, 8, 0}, {7, most - 1, 0}, {7, most, 0},
		{0, 0, 0}, {0, 1, 0}, {0, most, 0}, {1, 0, 1}, {1, 1, 0}, {1, 2, 0},
		{set, 0, set}, {set, 1, set - 1}, {set, set - 1, 1}, {set, set, 0}, {set, set + 1, 0}, {set, most, 0},
	} {
		for _, balance := range balances() {
			for _, credit := range sets() {
				a := api.Acct{Balance: balance, Credit: credit, Reserve: x.reserve}
				if is := Kept(a, x.spent); is != x.want {
					t.Errorf("Kept(%v, %d) = %d; want %d", a, x.spent, is, x.want)
				}
			}
		}
	}
}

// P9.1, W10: as whole numbers have it.
func TestKeptIsThatOfWholeNumbers(t *testing.T) {
	x := numbers(3)
	for _, a := range accounts() {
		for _, spent := range append(amounts(), a.Reserve, a.Reserve+1, max(a.Reserve-1, 0), x.upTo(set), x.upTo(most-1)) {
			if is, want := Kept(a, spent), wantKept(a, spent); is != want {
				t.Errorf("Kept(%v, %d) = %d; want %d", a, spent, is, want)
			}
		}
	}
}

// P9.1: what was spent at once, or in two steps, leaves the same.
func TestKeptStepByStep(t *testing.T) {
	for reserve := range int64(12) {
		for first := range int64(12) {
			for second := range int64(12) {
				a := api.Acct{Balance: 4, Credit: 1, Reserve: reserve}
				b := api.Acct{Balance: 4, Credit: 1, Reserve: Kept(a, first)}
				if Kept(b, second) != Kept(a, first+second) {
					t.Errorf("of %d, %d and %d spent", reserve, first, second)
				}
			}
		}
	}
}

// P9.1: each class, above and below 0, with Credit and Reserve of nothing and of the most.
func TestRoom(t *testing.T) {
	for _, x := range []struct {
		a           api.Acct
		all, normal int64
	}{
		{api.Acct{}, 0, 0},
		{api.Acct{Balance: 5, Credit: 3, Reserve: 2}, 8, 6},
		{api.Acct{Balance: -5, Credit: 3, Reserve: 2}, -2, -4},
		{api.Acct{Balance: -9, Credit: 3, Reserve: 2}, -6, -8},
		{api.Acct{Balance: 5}, 5, 5},
		{api.Acct{Balance: -5}, -5, -5},
		{api.Acct{Credit: 3}, 3, 3},
		{api.Acct{Reserve: 2}, 0, -2},
		{api.Acct{Balance: -3, Credit: 3}, 0, 0},
		{api.Acct{Balance: -3, Credit: 3, Reserve: 1}, 0, -1},
		{api.Acct{Balance: 5, Credit: set}, 1<<61 + 5, 1<<61 + 5},
		{api.Acct{Balance: 5, Reserve: set}, 5, 5 - 1<<61},
		{api.Acct{Balance: -5, Credit: set, Reserve: set}, 1<<61 - 5, -5},
		{api.Acct{Balance: 5, Credit: set, Reserve: set}, 1<<61 + 5, 5},
		{api.Acct{Balance: high}, 1<<62 - 1, 1<<62 - 1},
		{api.Acct{Balance: high, Credit: set}, 3<<61 - 1, 3<<61 - 1},
		{api.Acct{Balance: high, Credit: set, Reserve: set}, 3<<61 - 1, 1<<62 - 1},
		{api.Acct{Balance: high, Reserve: set}, 1<<62 - 1, 1<<61 - 1},
		{api.Acct{Balance: -high}, 1 - 1<<62, 1 - 1<<62},
		{api.Acct{Balance: -high, Credit: set}, 1 - 1<<61, 1 - 1<<61},
		{api.Acct{Balance: -high, Reserve: set}, 1 - 1<<62, 1 - 3<<61},
		{api.Acct{Balance: -high, Credit: set, Reserve: set}, 1 - 1<<61, 1 - 1<<62},
	} {
		for i, want := range []int64{x.all, x.all, x.normal} {
			if is := Room(x.a, classes[i]); is != want {
				t.Errorf("Room(%v, %d) = %d; want %d", x.a, classes[i], is, want)
			}
		}
	}
}

// P9.1, W10: as whole numbers have it.
func TestRoomIsThatOfWholeNumbers(t *testing.T) {
	for _, a := range accounts() {
		all := whole([]int64{a.Balance, a.Credit})
		normal := whole([]int64{a.Balance, a.Credit}, a.Reserve)
		for i, want := range []*big.Int{all, all, normal} {
			if is := Room(a, classes[i]); big.NewInt(is).Cmp(want) != 0 {
				t.Errorf("Room(%v, %d) = %d; want %d", a, classes[i], is, want)
			}
		}
	}
}

// P9.1: of what is no class at all, Room isn't less Reserve, and Out leaves it: each is said of its own classes.
func TestNoSuchClass(t *testing.T) {
	a := api.Acct{Balance: 5, Credit: 3, Reserve: 2}
	for _, class := range []int{least, -3, -1, 0, 4, 5, 1<<32 + 1, 1<<32 + 3, most} {
		if is := Room(a, class); is != 8 {
			t.Errorf("Room of class %d = %d", class, is)
		}
		checkOut(t, a, 1, class, api.Acct{Balance: 4, Credit: 3, Reserve: 2}, api.OK)
		checkOut(t, a, most, class, a, api.ErrOver)
	}
}

// P9.1: nothing, the greatest that leaves an account, one more, and what no int64 holds.
func TestIn(t *testing.T) {
	for _, credit := range sets() {
		for _, reserve := range sets() {
			for _, x := range []struct {
				balance, n, want int64
				e                api.Errno
			}{
				{5, 0, 5, api.OK}, {5, 1, 6, api.OK}, {5, 9, 14, api.OK}, {0, 0, 0, api.OK}, {0, 7, 7, api.OK},
				{-5, 3, -2, api.OK}, {-5, 5, 0, api.OK}, {-5, 6, 1, api.OK},
				{5, high - 6, high - 1, api.OK}, {5, high - 5, high, api.OK}, {5, high - 4, 5, api.ErrOver}, {5, high - 3, 5, api.ErrOver},
				{5, most - 5, 5, api.ErrOver}, {5, most - 4, 5, api.ErrOver}, {5, most, 5, api.ErrOver},
				{0, high, high, api.OK}, {0, high + 1, 0, api.ErrOver}, {0, most, 0, api.ErrOver},
				{high, 0, high, api.OK}, {high, 1, high, api.ErrOver}, {high, high, high, api.ErrOver},
				{high, high + 1, high, api.ErrOver}, {high, high + 2, high, api.ErrOver}, {high, most, high, api.ErrOver},
				{high - 1, 1, high, api.OK}, {high - 1, 2, high - 1, api.ErrOver},
				{-high, 0, -high, api.OK}, {-high, 1, 1 - high, api.OK}, {-high, high, 0, api.OK}, {-high, 2*high - 1, high - 1, api.OK},
				{-high, 2 * high, high, api.OK}, {-high, 2*high + 1, -high, api.ErrOver}, {-high, most, -high, api.ErrOver},
				{-1, high + 1, high, api.OK}, {-1, high + 2, -1, api.ErrOver},
			} {
				a := api.Acct{Balance: x.balance, Credit: credit, Reserve: reserve}
				checkIn(t, a, x.n, api.Acct{Balance: x.want, Credit: credit, Reserve: reserve}, x.e)
			}
		}
	}
}

// P9.1: nothing, less than the Reserve, just that, more than that, by each class.
func TestOutAndTheReserve(t *testing.T) {
	for _, x := range []struct{ reserve, n, left int64 }{
		{7, 0, 7}, {7, 1, 6}, {7, 6, 1}, {7, 7, 0}, {7, 8, 0}, {7, 9, 0}, {7, 100, 0}, {7, 1 << 61, 0},
		{0, 0, 0}, {0, 1, 0}, {0, 9, 0}, {1, 1, 0}, {1, 2, 0},
		{set, 0, set}, {set, 1, set - 1}, {set, set - 1, 1}, {set, set, 0}, {set, set + 1, 0},
	} {
		for _, balance := range []int64{5, 0, -5, 7, 8, high} {
			for _, credit := range sets() {
				a := api.Acct{Balance: balance, Credit: credit, Reserve: x.reserve}
				spent := api.Acct{Balance: balance - x.n, Credit: credit, Reserve: x.left}
				checkOut(t, a, x.n, api.Top, spent, api.OK)
				checkOut(t, a, x.n, api.Urgent, spent, api.OK)
				spent.Reserve = x.reserve
				checkOut(t, a, x.n, api.Normal, spent, api.OK)
			}
		}
	}
}

// P9.1: the greatest that leaves an account, one more, and what no int64 holds; with an error the Reserve is as it was too.
func TestOut(t *testing.T) {
	for _, credit := range sets() {
		for _, reserve := range sets() {
			for _, x := range []struct {
				balance, n, want int64
				e                api.Errno
			}{
				{5, 0, 5, api.OK}, {5, 1, 4, api.OK}, {5, 5, 0, api.OK}, {5, 6, -1, api.OK}, {5, 9, -4, api.OK}, {0, 0, 0, api.OK}, {-5, 3, -8, api.OK},
				{5, high + 4, 1 - high, api.OK}, {5, high + 5, -high, api.OK}, {5, high + 6, 5, api.ErrOver}, {5, most, 5, api.ErrOver},
				{0, high - 1, 1 - high, api.OK}, {0, high, -high, api.OK}, {0, high + 1, 0, api.ErrOver}, {0, most, 0, api.ErrOver},
				{-1, high - 1, -high, api.OK}, {-1, high, -1, api.ErrOver}, {-1, most - 1, -1, api.ErrOver}, {-1, most, -1, api.ErrOver},
				{-2, most - 1, -2, api.ErrOver}, {-2, most, -2, api.ErrOver}, {-3, most, -3, api.ErrOver},
				{-high, 0, -high, api.OK}, {-high, 1, -high, api.ErrOver}, {-high, high, -high, api.ErrOver}, {-high, high + 2, -high, api.ErrOver},
				{-high, high + 3, -high, api.ErrOver}, {-high, high + 4, -high, api.ErrOver}, {-high, most, -high, api.ErrOver},
				{1 - high, 1, -high, api.OK}, {1 - high, 2, 1 - high, api.ErrOver},
				{high, 0, high, api.OK}, {high, 1, high - 1, api.OK}, {high, high, 0, api.OK}, {high, 2*high - 1, 1 - high, api.OK},
				{high, 2 * high, -high, api.OK}, {high, 2*high + 1, high, api.ErrOver}, {high, most, high, api.ErrOver},
			} {
				a := api.Acct{Balance: x.balance, Credit: credit, Reserve: reserve}
				want := api.Acct{Balance: x.want, Credit: credit, Reserve: reserve}
				checkOut(t, a, x.n, api.Normal, want, x.e)
				if x.e == api.OK {
					want.Reserve = max(0, reserve-x.n)
				}
				checkOut(t, a, x.n, api.Top, want, x.e)
				checkOut(t, a, x.n, api.Urgent, want, x.e)
			}
		}
	}
}

// P9.1: Out asks for no room: that an account falls below its floor isn't its to refuse.
func TestOutAsksForNoRoom(t *testing.T) {
	a := api.Acct{Balance: 1, Credit: 2, Reserve: 3}
	for n := range int64(20) {
		checkOut(t, a, n, api.Normal, api.Acct{Balance: 1 - n, Credit: 2, Reserve: 3}, api.OK)
		checkOut(t, a, n, api.Urgent, api.Acct{Balance: 1 - n, Credit: 2, Reserve: max(3-n, 0)}, api.OK)
	}
}

// P9.1, W10: In and Out of many accounts, as whole numbers have it.
func TestInAndOutAreThoseOfWholeNumbers(t *testing.T) {
	x := numbers(7)
	for _, a := range accounts() {
		for _, n := range append(amounts(), a.Reserve, a.Reserve+1, high-max(a.Balance, 0), x.upTo(high), x.upTo(most-1)) {
			more := whole([]int64{a.Balance, n})
			if isBalance(more) {
				checkIn(t, a, n, api.Acct{Balance: more.Int64(), Credit: a.Credit, Reserve: a.Reserve}, api.OK)
			} else {
				checkIn(t, a, n, a, api.ErrOver)
			}
			for _, class := range classes {
				want, e := wantOut(a, n, class)
				checkOut(t, a, n, class, want, e)
			}
		}
	}
}

// P9.1: what came in may go out again; and what went out as Normal may come in again.
func TestInAndOutAgain(t *testing.T) {
	x := numbers(11)
	back := 0
	for _, a := range accounts() {
		for _, n := range append(amounts(), x.upTo(high), x.upTo(1<<20)) {
			if in, e := In(a, n); e == api.OK {
				back++
				checkOut(t, in, n, api.Normal, a, api.OK)
				spent := api.Acct{Balance: a.Balance, Credit: a.Credit, Reserve: Kept(a, n)}
				checkOut(t, in, n, api.Top, spent, api.OK)
				checkOut(t, in, n, api.Urgent, spent, api.OK)
			}
			if out, e := Out(a, n, api.Normal); e == api.OK {
				back++
				checkIn(t, out, n, a, api.OK)
			}
		}
	}
	if back < 10000 {
		t.Errorf("only %d came back", back)
	}
}

// P9.1: what In and Out answer is an account, with an error or without.
func TestAnAccountStaysOne(t *testing.T) {
	for _, a := range accounts() {
		for _, n := range amounts() {
			if is, _ := In(a, n); !Is(is) {
				t.Errorf("In(%v, %d) = %v", a, n, is)
			}
			for _, class := range classes {
				if is, _ := Out(a, n, class); !Is(is) {
					t.Errorf("Out(%v, %d, %d) = %v", a, n, class, is)
				}
			}
		}
	}
}

// P9.1: the room after Out is so much less; what is spent of the Reserve isn't taken twice from a Normal payment's.
func TestRoomAfterInAndOut(t *testing.T) {
	for balance := int64(-6); balance < 7; balance++ {
		for reserve := range int64(5) {
			a := api.Acct{Balance: balance, Credit: 3, Reserve: reserve}
			for n := range int64(8) {
				in, _ := In(a, n)
				out, _ := Out(a, n, api.Normal)
				for _, class := range classes {
					if Room(in, class) != Room(a, class)+n || Room(out, class) != Room(a, class)-n {
						t.Errorf("%v, %d: room %d, %d, was %d", a, n, Room(in, class), Room(out, class), Room(a, class))
					}
				}
				urgent, _ := Out(a, n, api.Urgent)
				if want := Room(a, api.Normal) - max(n-reserve, 0); Room(urgent, api.Normal) != want {
					t.Errorf("%v, %d: room %d behind an urgent payment; want %d", a, n, Room(urgent, api.Normal), want)
				}
			}
		}
	}
}

// P9.2, W2: an account that is handed in is as it was, and what was asked ahead does not matter.
func TestNothingIsChanged(t *testing.T) {
	l := accounts()
	was := accounts()
	for i := range l {
		for _, n := range amounts() {
			for _, class := range classes {
				Room(l[i], class)
				Out(l[i], n, class)
			}
			Kept(l[i], n)
			In(l[i], n)
			Is(l[i])
		}
		if l[i] != was[i] {
			t.Fatalf("%v became %v", was[i], l[i])
		}
	}
	checkOut(t, api.Acct{Balance: 5, Credit: 3, Reserve: 2}, 1, api.Top, api.Acct{Balance: 4, Credit: 3, Reserve: 1}, api.OK)
}

// W1: no number is one at which a call panics.
func TestNoPanic(t *testing.T) {
	edges := []int64{least, least + 1, -1 << 62, -set, -1, 0, 1, set, 1 << 62, most - 1, most}
	for _, balance := range edges {
		for _, credit := range edges {
			for _, reserve := range edges {
				a := api.Acct{Balance: balance, Credit: credit, Reserve: reserve}
				Is(a)
				for _, n := range edges {
					Kept(a, n)
					checkEither(t, a, n)
				}
			}
		}
	}
}

// checkEither checks that In and Out answer an account or ErrOver, whatever they are given.
func checkEither(t *testing.T, a api.Acct, n int64) {
	t.Helper()
	is, e := In(a, n)
	if e == api.OK && !Is(is) || e != api.OK && (e != api.ErrOver || is != a) {
		t.Errorf("In(%v, %d) = %v, %d", a, n, is, e)
	}
	for _, class := range []int{api.Top, api.Urgent, api.Normal, 0, -1, 4} {
		Room(a, class)
		is, e = Out(a, n, class)
		if e == api.OK && !Is(is) || e != api.OK && (e != api.ErrOver || is != a) {
			t.Errorf("Out(%v, %d, %d) = %v, %d", a, n, class, is, e)
		}
	}
}
