package pool

import (
	"math"
	"math/big"
	"slices"
	"testing"

	"giro/api"
)

const (
	most  = math.MaxInt64
	least = math.MinInt64
)

// held is a pool: its assets, and a price and a hold of each.
type held struct {
	assets        []api.Asset
	prices, holds []int64
}

// one is a pool of one asset, whose own Price is far from its price.
func one(price, many, cut int64) held {
	return held{cuts(cut), []int64{price}, []int64{many}}
}

// cuts are assets with these cuts.
func cuts(l ...int64) []api.Asset {
	assets := make([]api.Asset, len(l))
	for i, cut := range l {
		assets[i] = api.Asset{Price: 777, Cut: cut}
	}
	return assets
}

// three is a pool that is worth 900, 30 and 5, new at each call.
func three() held {
	return held{cuts(1000, 5000, 0), []int64{10, 20, 5}, []int64{100, 3, 1}}
}

// copied is a pool that shares nothing with p.
func (p held) copied() held {
	return held{slices.Clone(p.assets), slices.Clone(p.prices), slices.Clone(p.holds)}
}

// numbers is a source of numbers that are the same in each run.
type numbers uint64

func (s *numbers) next() uint64 {
	*s ^= *s << 13
	*s ^= *s >> 7
	*s ^= *s << 17
	return uint64(*s)
}

// below is 0 to n-1.
func (s *numbers) below(n int) int {
	return int(s.next() % uint64(n))
}

// of is one of l.
func (s *numbers) of(l []int64) int64 {
	return l[s.below(len(l))]
}

// edges are prices and quantities at which something begins or ceases to be held, those about them, and wrong ones.
func edges() []int64 {
	return []int64{
		least, least + 1, -1 << 32, -1, 0, 1, 2, 3, 7, 9999, 10000, 10001,
		api.MaxPrice - 1, api.MaxPrice, api.MaxPrice + 1, api.MaxAmount - 1, api.MaxAmount, api.MaxAmount + 1,
		3037000499, 3037000500, 1 << 32, most / 10000, most/10000 + 1, most / 2, most/2 + 1, most - 1, most,
	}
}

// edgeCuts are cuts at the ends and some between them, and wrong ones.
func edgeCuts() []int64 {
	return []int64{least, -10000, -1, 0, 1, 2, 1000, 3333, 4999, 5000, 5001, 9998, 9999, 10000, 10001, 10002, 20000, most}
}

// right is l without what is below 0 or above high.
func right(l []int64, high int64) []int64 {
	return slices.DeleteFunc(l, func(n int64) bool { return n < 0 || n > high })
}

// manyPools are pools that may be and that may not be, the same in each run.
func manyPools(many int) []held {
	s := numbers(20261118)
	pools := make([]held, many)
	for k := range pools {
		prices, rates := edges(), edgeCuts()
		// Of pools with a wrong number somewhere there are enough with one in three.
		if k%3 != 0 {
			prices, rates = right(prices, most), right(rates, 10000)
		}
		var p held
		for range s.below(6) {
			p.assets = append(p.assets, api.Asset{Price: s.of(edges()), Cut: s.of(rates)})
			p.prices = append(p.prices, s.of(prices)>>s.below(40))
			p.holds = append(p.holds, s.of(prices)>>s.below(40))
		}
		pools[k] = p
	}
	return pools
}

// whole is what a pool is worth in whole numbers of any size.
func (p held) whole() (int64, bool) {
	if len(p.assets) != len(p.prices) || len(p.assets) != len(p.holds) {
		return 0, false
	}
	all := new(big.Int)
	for i, a := range p.assets {
		if p.prices[i] < 0 || p.holds[i] < 0 || a.Cut < 0 || a.Cut > 10000 {
			return 0, false
		}
		n := new(big.Int).Mul(big.NewInt(p.prices[i]), big.NewInt(p.holds[i]))
		n.Mul(n, big.NewInt(10000-a.Cut))
		all.Add(all, n.Quo(n, big.NewInt(10000)))
	}
	if !all.IsInt64() {
		return 0, false
	}
	return all.Int64(), true
}

func (p held) check(t *testing.T, want int64, ok bool) {
	t.Helper()
	if n, is := Value(p.assets, p.prices, p.holds); n != want || is != ok {
		t.Errorf("Value(%v, %v, %v) = %d, %v; want %d, %v", p.assets, p.prices, p.holds, n, is, want, ok)
	}
}

func (p held) checkWhole(t *testing.T) {
	t.Helper()
	want, ok := p.whole()
	p.check(t, want, ok)
}

func checkSet(t *testing.T, l []int64, i int, v int64, want []int64) {
	t.Helper()
	if is := Set(l, i, v); !slices.Equal(is, want) {
		t.Errorf("Set(%v, %d, %d) = %v; want %v", l, i, v, is, want)
	}
}

// P8.1: the document's example: 10 of 100, cut 1000.
func TestValueExample(t *testing.T) {
	one(10, 100, 1000).check(t, 900, true)
	one(100, 10, 1000).check(t, 900, true)
}

// P8.1, W5: no assets at all are worth nothing, whether the lists are nil or empty.
func TestValueOfNothing(t *testing.T) {
	for _, assets := range [][]api.Asset{nil, {}} {
		for _, prices := range [][]int64{nil, {}} {
			for _, holds := range [][]int64{nil, {}} {
				held{assets, prices, holds}.check(t, 0, true)
			}
		}
	}
}

// P8.1: one asset, and several: each with its own price, its own hold and its own Cut, each rounded down by itself.
func TestValue(t *testing.T) {
	three().check(t, 935, true)
	for _, x := range []struct {
		p    held
		want int64
	}{
		{one(0, 0, 0), 0},
		{one(0, 5, 0), 0},
		{one(5, 0, 0), 0},
		{one(1, 1, 0), 1},
		{one(1, 1, 1), 0},
		{one(3, 7, 0), 21},
		{one(3, 7, 10000), 0},
		{one(10001, 1, 1), 9999},
		{one(api.MaxPrice, api.MaxAmount, 0), 1 << 60},
		{one(api.MaxPrice+1, 1, 0), api.MaxPrice + 1},
		{one(1, api.MaxAmount+1, 0), api.MaxAmount + 1},
		{held{cuts(0, 0), []int64{2, 3}, []int64{5, 7}}, 31},
		{held{cuts(10000, 0), []int64{2, 3}, []int64{5, 7}}, 21},
		{held{cuts(0, 10000), []int64{2, 3}, []int64{5, 7}}, 10},
		{held{cuts(5000, 5000), []int64{1, 1}, []int64{1, 1}}, 0},
		{held{cuts(5000, 5000), []int64{1, 1}, []int64{3, 3}}, 2},
		{held{cuts(0, 0, 0, 0, 0), []int64{1, 10, 100, 1000, 10000}, []int64{1, 2, 3, 4, 5}}, 54321},
		{held{cuts(0, 0, 0), []int64{4, 0, 6}, []int64{0, 5, 1}}, 6},
	} {
		x.p.check(t, x.want, true)
	}
}

// P8.1: there may be more assets than rules have.
func TestValueOfManyAssets(t *testing.T) {
	for _, many := range []int{3, 4, 7, 255, 256, 257, 70000} {
		var p held
		for i := range many {
			p.assets = append(p.assets, api.Asset{Price: 1, Cut: 5000})
			p.prices = append(p.prices, 2)
			p.holds = append(p.holds, int64(i))
		}
		p.check(t, int64(many)*int64(many-1)/2, true)
		p.prices[many-1] = -1
		p.check(t, 0, false)
	}
}

// P8.1: the price is the one that is handed in, whatever the asset's own is.
func TestValueAsksNoPriceOfTheAsset(t *testing.T) {
	for _, own := range edges() {
		p := one(10, 100, 1000)
		p.assets[0].Price = own
		p.check(t, 900, true)
		for i := range 3 {
			p = three()
			p.assets[i].Price = own
			p.check(t, 935, true)
		}
	}
}

// P8.1: with fewer or more prices or holds than assets there is no value.
func TestValueNotAsManyOfEach(t *testing.T) {
	l := []int64{1, 1, 1, 1}
	for assets := range 5 {
		for prices := range 5 {
			for holds := range 5 {
				p := held{cuts(0, 0, 0, 0)[:assets], l[:prices], l[:holds]}
				if assets == prices && assets == holds {
					p.check(t, int64(assets), true)
				} else {
					p.check(t, 0, false)
				}
			}
		}
	}
	held{nil, []int64{0}, []int64{0}}.check(t, 0, false)
	held{cuts(10000), nil, nil}.check(t, 0, false)
	held{cuts(10000), []int64{0}, nil}.check(t, 0, false)
	held{cuts(10000), nil, []int64{0}}.check(t, 0, false)
}

// P8.1: what is below 0 is no price and no hold, and a cut is 0 to 10000, of whichever asset, also of the last alone.
func TestValueOneIsNone(t *testing.T) {
	for _, wrong := range []int64{-1, -2, -10000, least + 1, least} {
		one(wrong, 1, 0).check(t, 0, false)
		one(1, wrong, 0).check(t, 0, false)
		one(1, 1, wrong).check(t, 0, false)
		one(wrong, wrong, 0).check(t, 0, false)
		one(wrong, 0, 10000).check(t, 0, false)
		one(0, wrong, 10000).check(t, 0, false)
		one(0, 0, wrong).check(t, 0, false)
		for i := range 3 {
			p := three()
			p.prices[i] = wrong
			p.check(t, 0, false)
			p = three()
			p.holds[i] = wrong
			p.check(t, 0, false)
			p = three()
			p.assets[i].Cut = wrong
			p.check(t, 0, false)
		}
	}
	for _, wrong := range []int64{10001, 10002, 20000, 1<<32 + 1, most} {
		one(1, 1, wrong).check(t, 0, false)
		one(0, 0, wrong).check(t, 0, false)
		for i := range 3 {
			p := three()
			p.assets[i].Cut = wrong
			p.check(t, 0, false)
		}
	}
}

// P8.1: one that is none isn't made up for by another, nor by a worth of nothing.
func TestValueTwoAreNone(t *testing.T) {
	held{cuts(0, 0), []int64{-1, -1}, []int64{1, 1}}.check(t, 0, false)
	held{cuts(0, 0), []int64{-5, 5}, []int64{1, 1}}.check(t, 0, false)
	held{cuts(0, 0), []int64{-5, 5}, []int64{-1, 1}}.check(t, 0, false)
	held{cuts(-1, 10001), []int64{1, 1}, []int64{1, 1}}.check(t, 0, false)
	held{cuts(0, 0), []int64{most, -most}, []int64{2, 2}}.check(t, 0, false)
	held{cuts(10001, 0), []int64{0, 1}, []int64{0, 1}}.check(t, 0, false)
}

// P8.1: a Cut of 0 leaves all, one of 10000 nothing, each next to the edge of what may be.
func TestValueCuts(t *testing.T) {
	for _, x := range []struct {
		cut, want int64
		ok        bool
	}{
		{-1, 0, false}, {0, 10000, true}, {1, 9999, true}, {5000, 5000, true},
		{9999, 1, true}, {10000, 0, true}, {10001, 0, false},
	} {
		one(100, 100, x.cut).check(t, x.want, x.ok)
		for i := range 3 {
			p := held{cuts(10000, 10000, 10000), []int64{100, 100, 100}, []int64{100, 100, 100}}
			p.assets[i].Cut = x.cut
			p.check(t, x.want, x.ok)
		}
	}
}

// P8.1: a price times a hold may be more than an int64 holds, if only its Worth is not.
func TestValueOfAGreatProduct(t *testing.T) {
	one(most, 10000, 9999).check(t, most, true)
	one(10000, most, 9999).check(t, most, true)
	one(most, 2, 5000).check(t, most, true)
	one(most, most, 10000).check(t, 0, true)
	held{cuts(10000, 9999, 0), []int64{most, most - 7, 7}, []int64{most, 10000, 1}}.check(t, most, true)
	held{cuts(5000, 9999), []int64{1 << 62, 1<<62 - 1}, []int64{2, 10000}}.check(t, most, true)
}

// P8.1: there is no value, if an int64 doesn't hold the Worth of one, wherever it stands.
func TestValueOfAWorthTooGreat(t *testing.T) {
	one(most, 1, 0).check(t, most, true)
	one(most, 2, 0).check(t, 0, false)
	one(most, 2, 4999).check(t, 0, false)
	one(1<<62, 2, 0).check(t, 0, false)
	one(1<<32, 1<<32, 0).check(t, 0, false)
	one(most, most, 0).check(t, 0, false)
	one(most, most, 9999).check(t, 0, false)
	one(most, 10001, 9999).check(t, 0, false)
	for i := range 3 {
		p := held{cuts(0, 0, 0), []int64{0, 0, 0}, []int64{0, 0, 0}}
		p.prices[i], p.holds[i] = 1<<32, 1<<32
		p.check(t, 0, false)
	}
}

// P8.1: Worths that an int64 only just holds in all, and by one no more.
func TestValueAtTheGreatest(t *testing.T) {
	for _, x := range []struct {
		holds []int64
		ok    bool
	}{
		{[]int64{most}, true},
		{[]int64{most, 0}, true},
		{[]int64{0, most}, true},
		{[]int64{most - 1, 1}, true},
		{[]int64{most, 1}, false},
		{[]int64{1, most}, false},
		{[]int64{1 << 62, 1<<62 - 1}, true},
		{[]int64{1 << 62, 1 << 62}, false},
		{[]int64{most - 5, 2, 3}, true},
		{[]int64{most - 5, 3, 3}, false},
		{[]int64{2, most - 5, 4}, false},
		{[]int64{2, 4, most - 5}, false},
		// Twice the way round would be a number again, were it to wrap.
		{[]int64{most, most, 2}, false},
		{[]int64{most, most, most, 3}, false},
		{[]int64{1 << 62, 1 << 62, 1 << 62, 1 << 62, 7}, false},
	} {
		p := held{make([]api.Asset, len(x.holds)), slices.Repeat([]int64{1}, len(x.holds)), x.holds}
		want := int64(0)
		if x.ok {
			want = most
		}
		p.check(t, want, x.ok)
		held{p.assets, p.holds, p.prices}.check(t, want, x.ok)
	}
}

// P8.1: an error ahead of, or behind, what is too great in all is none either.
func TestValueTooGreatAndWrong(t *testing.T) {
	for i := range 3 {
		p := held{cuts(0, 0, 0), []int64{1, 1, 1}, []int64{most, most, most}}
		p.prices[i] = -1
		p.check(t, 0, false)
	}
}

// P8.1, W10: one asset at all the edges, as whole numbers have it.
func TestValueOfOneAtAllEdges(t *testing.T) {
	for _, price := range edges() {
		for _, many := range edges() {
			for _, cut := range edgeCuts() {
				one(price, many, cut).checkWhole(t)
			}
		}
	}
}

// P8.1, W10: many pools, as whole numbers have them.
func TestValueIsThatOfWholeNumbers(t *testing.T) {
	values := 0
	for _, p := range manyPools(30000) {
		p.checkWhole(t)
		if n, ok := p.whole(); ok && n > 0 {
			values++
		}
	}
	if values < 5000 || values > 25000 {
		t.Errorf("%d of the pools are worth something: too few of one kind", values)
	}
}

// P1.2, P8.1: it doesn't matter in which order assets stand.
func TestValueInAnyOrder(t *testing.T) {
	for _, p := range manyPools(3000) {
		want, ok := Value(p.assets, p.prices, p.holds)
		p = p.copied()
		slices.Reverse(p.assets)
		slices.Reverse(p.prices)
		slices.Reverse(p.holds)
		p.check(t, want, ok)
	}
}

// checkNoLess checks that a pool is worth no less than another one that may be; beyond what an int64 holds is most of all.
func checkNoLess(t *testing.T, p, than held) {
	t.Helper()
	n, ok := Value(p.assets, p.prices, p.holds)
	m, is := Value(than.assets, than.prices, than.holds)
	if ok && !is || ok && is && n < m {
		t.Errorf("%v is worth %d, %v; %v is worth %d, %v", p, n, ok, than, m, is)
	}
}

// P8.2: a higher price, more that is held and a lesser Cut are worth no less, whichever asset's they are.
func TestMoreIsWorthNoLess(t *testing.T) {
	steps := []int64{1, 2, 9999, 10000, 1 << 20, 1 << 40, most}
	for _, p := range append(manyPools(6000), three()) {
		for i := range p.assets {
			if p.prices[i] < 0 || p.holds[i] < 0 || p.assets[i].Cut < 0 {
				continue
			}
			for _, step := range steps {
				more := p.copied()
				more.prices[i] += min(step, most-p.prices[i])
				checkNoLess(t, more, p)
				more = p.copied()
				more.holds[i] += min(step, most-p.holds[i])
				checkNoLess(t, more, p)
				more = p.copied()
				more.assets[i].Cut -= min(step, p.assets[i].Cut)
				if p.assets[i].Cut <= 10000 {
					checkNoLess(t, more, p)
				}
			}
		}
	}
}

// P8.2: step by step, from a price, a hold, a Cut to the next.
func TestEachStepIsWorthNoLess(t *testing.T) {
	for n := int64(0); n < 10000; n++ {
		checkNoLess(t, one(n+1, 3, 3333), one(n, 3, 3333))
		checkNoLess(t, one(3, n+1, 3333), one(3, n, 3333))
		checkNoLess(t, one(7, 11, n), one(7, 11, n+1))
	}
}

// P8.1, W3: beside false the number is 0.
func TestNoNumberBesideFalse(t *testing.T) {
	nones := 0
	for _, p := range manyPools(10000) {
		for _, prices := range [][]int64{p.prices, append(slices.Clone(p.prices), 1)} {
			n, ok := Value(p.assets, prices, p.holds)
			if ok {
				continue
			}
			nones++
			if n != 0 {
				t.Errorf("Value(%v, %v, %v) = %d, false", p.assets, prices, p.holds, n)
			}
		}
	}
	if nones < 10000 {
		t.Errorf("only %d pools have no value", nones)
	}
}

// P8.1: Set at each place, the first and the last among them.
func TestSet(t *testing.T) {
	l := []int64{1, 2, 3}
	checkSet(t, l, 0, 9, []int64{9, 2, 3})
	checkSet(t, l, 1, 9, []int64{1, 9, 3})
	checkSet(t, l, 2, 9, []int64{1, 2, 9})
	checkSet(t, []int64{1}, 0, 9, []int64{9})
	for _, v := range append(edges(), 3, 0) {
		checkSet(t, l, 2, v, []int64{1, 2, v})
		checkSet(t, l, 0, v, []int64{v, 2, 3})
	}
}

// P8.1: Set with no such place: one behind the last, far behind, below 0.
func TestSetNoSuchPlace(t *testing.T) {
	for _, i := range []int{3, 4, 8, 255, 256, 1 << 31, 1 << 32, 1<<32 + 1, 1 << 40, most - 1, most, -1, -2, -3, -4, -1 << 32, least + 1, least} {
		checkSet(t, []int64{1, 2, 3}, i, 9, []int64{1, 2, 3})
	}
	// A place within a list's spare room is none of the list.
	wide := []int64{1, 2, 3, 4, 5}
	for i := 3; i < 6; i++ {
		checkSet(t, wide[:3], i, 9, []int64{1, 2, 3})
	}
}

// P8.1, W5: a list without an element has no place at all, whether it is nil or empty.
func TestSetInNothing(t *testing.T) {
	for _, l := range [][]int64{nil, {}, make([]int64, 0, 4), three().prices[:0]} {
		for _, i := range []int{least, -1, 0, 1, 3, most} {
			checkSet(t, l, i, 9, nil)
		}
	}
}

// P8.1: Set at each place of lists of many lengths.
func TestSetEachPlace(t *testing.T) {
	for _, many := range []int{1, 2, 3, 4, 5, 8, 9, 16, 17, 300} {
		l := make([]int64, many)
		for i := range l {
			l[i] = int64(i) - 3
		}
		for i := -2; i < many+3; i++ {
			is := Set(l, i, 1<<40)
			if len(is) != many {
				t.Fatalf("%d long, from %d", len(is), many)
			}
			for j, n := range is {
				if want := int64(j) - 3; j == i && n != 1<<40 || j != i && n != want {
					t.Errorf("Set of %d at %d: %d at %d", many, i, n, j)
				}
			}
		}
	}
}

// P8.2, W6: Value leaves what it is handed as it was, the spare room behind each list's end too, and doesn't read that.
func TestValueChangesNothing(t *testing.T) {
	for _, p := range append(manyPools(2000), three(), one(1, 1, -1), one(-1, 1, 0)) {
		want, ok := p.whole()
		wide := held{
			append(slices.Clone(p.assets), api.Asset{Price: -3, Cut: -4}, api.Asset{Price: -5, Cut: -6}),
			append(slices.Clone(p.prices), -7, -8),
			append(slices.Clone(p.holds), -9, -10),
		}
		was, many := wide.copied(), len(p.assets)
		held{wide.assets[:many], wide.prices[:many], wide.holds[:many]}.check(t, want, ok)
		held{wide.assets[:many+1], wide.prices[:many], wide.holds[:many]}.check(t, 0, false)
		held{wide.assets[:many], wide.prices[:many+1], wide.holds[:many]}.check(t, 0, false)
		held{wide.assets[:many], wide.prices[:many], wide.holds[:many+1]}.check(t, 0, false)
		if !slices.Equal(wide.assets, was.assets) || !slices.Equal(wide.prices, was.prices) || !slices.Equal(wide.holds, was.holds) {
			t.Errorf("%v became %v", was, wide)
		}
	}
}

// W2, W6: prices and holds may be one list, and what becomes of a list later, or was asked ahead, does not matter.
func TestValueKeepsNothing(t *testing.T) {
	l := []int64{3, 4}
	held{cuts(0, 0), l, l}.check(t, 25, true)
	p := three()
	for range 3 {
		p.check(t, 935, true)
		p.prices[1] = 40
		p.check(t, 965, true)
		p.holds[2] = -1
		p.check(t, 0, false)
		p.holds[2] = 1
		p.assets[0].Cut = 10000
		p.check(t, 65, true)
		p = held{cuts(1000, 5000, 0), p.prices, p.holds}
		p.prices[1] = 20
	}
}

// places are those of a list of many, and some that it has not.
func places(many int) []int {
	l := []int{least, -1, many, many + 1, many + 2, most}
	for i := range many {
		l = append(l, i)
	}
	return l
}

// P8.2, W6: Set leaves its list as it was, and shares no memory with it, also where it has no such place.
func TestSetIsNewMemory(t *testing.T) {
	for many := range 6 {
		for spare := range 4 {
			for _, i := range places(many) {
				room := make([]int64, many+spare)
				for j := range room {
					room[j] = int64(j) + 1
				}
				was := slices.Clone(room)
				is := Set(room[:many], i, -5)
				if !slices.Equal(room, was) {
					t.Errorf("Set of %d at %d: %v became %v", many, i, was, room)
				}
				told := slices.Clone(is)
				fill(room, -6)
				if !slices.Equal(is, told) {
					t.Errorf("Set of %d at %d: its answer changed with its list", many, i)
				}
				fill(is[:cap(is)], -7)
				if slices.Contains(room, -7) {
					t.Errorf("Set of %d at %d: its list changed with its answer", many, i)
				}
			}
		}
	}
}

// fill sets all of l to n.
func fill(l []int64, n int64) {
	for i := range l {
		l[i] = n
	}
}

// W6, W7: two answers share no memory, spare room neither, and what was answered stays.
func TestSetAnswersStay(t *testing.T) {
	for many := range 6 {
		l := slices.Repeat([]int64{1}, many)
		for _, i := range places(many) {
			first, second := Set(l, i, 2), Set(l, i, 2)
			told := slices.Clone(second)
			fill(first[:cap(first)], -7)
			if !slices.Equal(second, told) || slices.Contains(second[:cap(second)], -7) {
				t.Errorf("Set of %d at %d: two answers share memory", many, i)
			}
			checkSet(t, second, i, 2, told)
		}
	}
}

// P8.1: what is Set as a price or a hold is what Value then asks.
func TestSetAndValue(t *testing.T) {
	p := three()
	held{p.assets, Set(p.prices, 0, 20), p.holds}.check(t, 1835, true)
	held{p.assets, p.prices, Set(p.holds, 2, 8)}.check(t, 970, true)
	held{p.assets, Set(p.prices, 2, -1), p.holds}.check(t, 0, false)
	held{p.assets, Set(p.prices, 3, -1), Set(p.holds, -1, -1)}.check(t, 935, true)
	p.check(t, 935, true)
}
