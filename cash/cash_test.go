package cash

import (
	"math"
	"math/big"
	"slices"
	"testing"
)

const (
	most  = math.MaxInt64
	least = math.MinInt64
)

// edges are numbers at which a sum, a product or a cut begins or ceases to be held.
func edges() []int64 {
	return []int64{
		least, least + 1, least / 2, least/2 - 1, -10001, -10000, -9999, -2, -1,
		0, 1, 2, 3, 9999, 10000, 10001, 19999, 20000, 1 << 31, 1 << 32, 3037000499, 3037000500,
		most / 10000, most/10000 + 1, 1 << 50, 1<<62 - 1, 1 << 62, 1<<62 + 1, most - 1, most,
	}
}

// cuts are all cuts at the ends and some between them, and wrong ones.
func cuts() []int64 {
	return []int64{least, -10000, -1, 0, 1, 2, 1250, 3333, 4999, 5000, 5001, 9998, 9999, 10000, 10001, 10002, 20000, most}
}

// numbers is a row of numbers that is the same in each run: small ones, great ones, those at the edges.
func numbers(many int) []int64 {
	x := uint64(20261117)
	ends := edges()
	l := make([]int64, many)
	for i := range l {
		x ^= x << 13
		x ^= x >> 7
		x ^= x << 17
		switch x >> 61 {
		case 0:
			l[i] = ends[x%uint64(len(ends))]
		default:
			l[i] = int64(x) >> (x % 64)
		}
	}
	return l
}

// held is n as the calls answer it: n, true, if an int64 holds it.
func held(n *big.Int) (int64, bool) {
	if !n.IsInt64() {
		return 0, false
	}
	return n.Int64(), true
}

func wholeSum(l []int64) (int64, bool) {
	sum := new(big.Int)
	for _, n := range l {
		sum.Add(sum, big.NewInt(n))
	}
	return held(sum)
}

func wholeWorth(price, many, cut int64) (int64, bool) {
	if price < 0 || many < 0 || cut < 0 || cut > 10000 {
		return 0, false
	}
	n := new(big.Int).Mul(big.NewInt(price), big.NewInt(many))
	n.Mul(n, big.NewInt(10000-cut))
	return held(n.Quo(n, big.NewInt(10000)))
}

func checkSum(t *testing.T, l []int64, want int64, ok bool) {
	t.Helper()
	if n, is := Sum(l...); n != want || is != ok {
		t.Errorf("Sum(%v) = %d, %v; want %d, %v", l, n, is, want, ok)
	}
}

func checkAdd(t *testing.T, a, b, want int64, ok bool) {
	t.Helper()
	if n, is := Add(a, b); n != want || is != ok {
		t.Errorf("Add(%d, %d) = %d, %v; want %d, %v", a, b, n, is, want, ok)
	}
}

func checkLess(t *testing.T, n, cut, want int64, ok bool) {
	t.Helper()
	if m, is := Less(n, cut); m != want || is != ok {
		t.Errorf("Less(%d, %d) = %d, %v; want %d, %v", n, cut, m, is, want, ok)
	}
}

func checkWorth(t *testing.T, price, many, cut, want int64, ok bool) {
	t.Helper()
	if n, is := Worth(price, many, cut); n != want || is != ok {
		t.Errorf("Worth(%d, %d, %d) = %d, %v; want %d, %v", price, many, cut, n, is, want, ok)
	}
}

// P1.1: Add.
func TestAdd(t *testing.T) {
	for _, x := range []struct {
		a, b, want int64
		ok         bool
	}{
		{0, 0, 0, true},
		{2, 3, 5, true},
		{-2, -3, -5, true},
		{-7, 3, -4, true},
		{most, 0, most, true},
		{most - 1, 1, most, true},
		{most, 1, 0, false},
		{most, most, 0, false},
		{1 << 62, 1<<62 - 1, most, true},
		{1 << 62, 1 << 62, 0, false},
		{least, 0, least, true},
		{least + 1, -1, least, true},
		{least, -1, 0, false},
		{least, least, 0, false},
		{least / 2, least / 2, least, true},
		{least / 2, least/2 - 1, 0, false},
		{least, most, -1, true},
	} {
		checkAdd(t, x.a, x.b, x.want, x.ok)
		checkAdd(t, x.b, x.a, x.want, x.ok)
	}
}

func TestAddIsThatOfWholeNumbers(t *testing.T) {
	for _, a := range append(edges(), numbers(200)...) {
		for _, b := range append(edges(), numbers(200)...) {
			want, ok := wholeSum([]int64{a, b})
			checkAdd(t, a, b, want, ok)
		}
	}
}

// P1.1: Sum.
func TestSum(t *testing.T) {
	checkSum(t, nil, 0, true)
	checkSum(t, []int64{}, 0, true)
	for _, n := range edges() {
		checkSum(t, []int64{n}, n, true)
	}
	for _, x := range []struct {
		l    []int64
		want int64
		ok   bool
	}{
		{[]int64{1, 2, 3, 4}, 10, true},
		{[]int64{-1, -2, -3}, -6, true},
		{[]int64{most - 3, 1, 1, 1}, most, true},
		{[]int64{most - 3, 1, 1, 1, 1}, 0, false},
		{[]int64{least + 3, -1, -1, -1}, least, true},
		{[]int64{least + 3, -1, -1, -1, -1}, 0, false},
		{[]int64{most, most, least, least}, -2, true},
		{[]int64{most, most, most, least, least, least}, -3, true},
		{[]int64{most, most, -most}, most, true},
		{[]int64{least, least, most, 1}, least, true},
		{[]int64{least, least, most}, 0, false},
		{[]int64{most, most, -most, 1}, 0, false},
	} {
		checkSum(t, x.l, x.want, x.ok)
	}
}

// A sum of 2^64 and its like would look small if it wrapped.
func TestSumThatWouldWrapToALittleOne(t *testing.T) {
	quarter := int64(1 << 62)
	for _, l := range [][]int64{
		{quarter, quarter, quarter, quarter},
		{quarter, quarter, quarter, quarter, 5},
		{least, least},
		{least, least, 5},
		{least, least, least, least},
		{most, most, 2},
		{most, most, 7},
	} {
		checkSum(t, l, 0, false)
	}
}

func TestSumOfALongList(t *testing.T) {
	const many = 100000
	up, down := make([]int64, many), make([]int64, many)
	for i := range many {
		up[i], down[i] = most, least
	}
	checkSum(t, append(slices.Clone(up), down...), -many, true)
	checkSum(t, append(slices.Clone(down), up...), -many, true)
	if n, ok := Sum(up...); n != 0 || ok {
		t.Error("the sum of many of the greatest:", n, ok)
	}
	if n, ok := Sum(down...); n != 0 || ok {
		t.Error("the sum of many of the least:", n, ok)
	}
}

func TestSumIsThatOfWholeNumbers(t *testing.T) {
	l := numbers(6000)
	for i := range l {
		part := l[i:min(i+i%9, len(l))]
		want, ok := wholeSum(part)
		checkSum(t, part, want, ok)
	}
}

func TestSumLeavesItsListAsItIs(t *testing.T) {
	all := []int64{5, -3, most, 11, 13}
	kept := slices.Clone(all)
	Sum(all[:3]...)
	if !slices.Equal(all, kept) {
		t.Error("the list, or the room behind it, was changed:", all)
	}
}

// P1.1: Less.
func TestLess(t *testing.T) {
	for _, x := range []struct {
		n, cut, want int64
		ok           bool
	}{
		{10001, 1, 9999, true},
		{10000, 1, 9999, true},
		{9999, 1, 9998, true},
		{1, 0, 1, true},
		{1, 1, 0, true},
		{1, 9999, 0, true},
		{9999, 9999, 0, true},
		{10000, 9999, 1, true},
		{19999, 9999, 1, true},
		{0, 0, 0, true},
		{0, 10000, 0, true},
		{7, 10000, 0, true},
		{most, 0, most, true},
		{most, 1, 9222449699651090329, true},
		{most, 5000, most / 2, true},
		{most, 9999, most / 10000, true},
		{most, 10000, 0, true},
		{-1, 0, 0, false},
		{-1, 10000, 0, false},
		{-10000, 5000, 0, false},
		{least, 0, 0, false},
		{least, 10000, 0, false},
		{5, -1, 0, false},
		{5, 10001, 0, false},
		{5, least, 0, false},
		{5, most, 0, false},
		{0, -1, 0, false},
		{0, 10001, 0, false},
		{-5, 20000, 0, false},
	} {
		checkLess(t, x.n, x.cut, x.want, x.ok)
	}
}

func TestLessIsThatOfWholeNumbers(t *testing.T) {
	for _, n := range append(edges(), numbers(500)...) {
		for _, cut := range cuts() {
			want, ok := wholeWorth(n, 1, cut)
			checkLess(t, n, cut, want, ok)
		}
	}
	for cut := int64(-2); cut <= 10002; cut++ {
		for _, n := range []int64{0, 1, 9999, 10000, 12345, most - 1, most} {
			want, ok := wholeWorth(n, 1, cut)
			checkLess(t, n, cut, want, ok)
		}
	}
}

// P1.1: Worth.
func TestWorth(t *testing.T) {
	for _, x := range []struct {
		price, many, cut, want int64
		ok                     bool
	}{
		{10, 100, 1000, 900, true},
		{3, 3, 1, 8, true},
		{3, 3, 0, 9, true},
		{0, 0, 0, 0, true},
		{0, most, 0, 0, true},
		{most, 1, 0, most, true},
		{-1, 1, 0, 0, false},
		{1, -1, 0, 0, false},
		{-1, -1, 0, 0, false},
		{-1, 0, 0, 0, false},
		{-1, 1, 10000, 0, false},
		{1, -1, 10000, 0, false},
		{least, least, 0, 0, false},
		{1, 1, -1, 0, false},
		{1, 1, 10001, 0, false},
		{0, 0, -1, 0, false},
		{0, 0, 10001, 0, false},
		{1, 1, least, 0, false},
		{1, 1, most, 0, false},
	} {
		checkWorth(t, x.price, x.many, x.cut, x.want, x.ok)
		checkWorth(t, x.many, x.price, x.cut, x.want, x.ok)
	}
}

// P1.1: it is the Less that must be held, not the product.
func TestWorthOfAProductThatIsNotHeld(t *testing.T) {
	for _, x := range []struct {
		price, many, cut, want int64
		ok                     bool
	}{
		{most, 2, 0, 0, false},
		{most, 2, 4999, 0, false},
		{most, 2, 5000, most, true},
		{1 << 62, 2, 0, 0, false},
		{1 << 62, 2, 1, 9222449699651090330, true},
		{most, 10000, 9998, 0, false},
		{most, 10000, 9999, most, true},
		{most, 10001, 9999, 0, false},
		{most, 10001, 10000, 0, true},
		{most, most, 9999, 0, false},
		{most, most, 10000, 0, true},
		{1 << 32, 1 << 32, 9999, 1844674407370955, true},
		// 10000 times 2^63: the first product of which not even a 10000th is held; and a product just below it.
		{625 << 33, 1 << 34, 9999, 0, false},
		{1<<31 - 1, 20000 * (1<<31 + 1), 9999, most - 1, true},
		// 10000 times 2^64: the first whose quotient needs more than a word.
		{625 << 34, 1 << 34, 9999, 0, false},
		{625 << 34, 1 << 34, 10000, 0, true},
	} {
		checkWorth(t, x.price, x.many, x.cut, x.want, x.ok)
		checkWorth(t, x.many, x.price, x.cut, x.want, x.ok)
	}
}

func TestWorthIsThatOfWholeNumbers(t *testing.T) {
	l := append(edges(), numbers(150)...)
	for _, price := range l {
		for _, many := range l {
			for _, cut := range cuts() {
				want, ok := wholeWorth(price, many, cut)
				checkWorth(t, price, many, cut, want, ok)
			}
		}
	}
}

// orders goes through all orders of l.
func orders(l []int64, from int, do func([]int64)) {
	if from == len(l) {
		do(l)
		return
	}
	for i := from; i < len(l); i++ {
		l[from], l[i] = l[i], l[from]
		orders(l, from+1, do)
		l[from], l[i] = l[i], l[from]
	}
}

// P1.2: it does not matter in which order sums are made.
func TestSumInAnyOrder(t *testing.T) {
	for _, l := range [][]int64{
		{1, 2, 3, 4, 5},
		{most, 1, -1},
		{least, -1, 1},
		{most, most, least, least, 7},
		{most, most, most, least, least, least},
		{1 << 62, 1 << 62, -1, least, most},
		{most, 1, 1, -1},
		{least, most, -1, -1, 0},
		{1 << 62, 1 << 62, 1 << 62, 1 << 62, 3},
	} {
		want, ok := wholeSum(l)
		orders(l, 0, func(l []int64) { checkSum(t, l, want, ok) })
	}
}

// P1.2: parts that are held, summed, are what all are.
func TestSumOfSums(t *testing.T) {
	l := numbers(3000)
	for i := range len(l) - 8 {
		part := l[i : i+2+i%6]
		want, ok := wholeSum(part)
		for cut := range part {
			a, heldA := Sum(part[:cut]...)
			b, heldB := Sum(part[cut:]...)
			if heldA && heldB {
				checkAdd(t, a, b, want, ok)
				checkSum(t, []int64{b, a}, want, ok)
			}
		}
	}
}
