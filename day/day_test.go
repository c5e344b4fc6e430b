package day

import (
	"math"
	"math/big"
	"slices"
	"testing"

	"giro/api"
)

const (
	most  = math.MaxInt64
	least = math.MinInt64
)

// rules are rules that may be, new ones at each call.
func rules() api.Rules {
	return api.Rules{
		Parties: 3,
		Assets:  []api.Asset{{Price: 10, Cut: 500}, {Price: 20, Cut: 1000}},
		Cutoff:  60,
		Close:   100,
		Period:  7,
	}
}

// changed is rules with something changed.
func changed(change func(r *api.Rules)) api.Rules {
	r := rules()
	change(&r)
	return r
}

// hours are rules of which only the hours are asked, whether they may be or not.
func hours(cutoff, end, period int64) api.Rules {
	return changed(func(r *api.Rules) { r.Cutoff, r.Close, r.Period = cutoff, end, period })
}

// assets are so many assets that may be.
func assets(many int) []api.Asset {
	return slices.Repeat([]api.Asset{{Price: 10, Cut: 500}}, many)
}

// edges are numbers at which something begins or ceases to be, and those about them.
func edges() []int64 {
	return []int64{
		least, least + 1, -1 << 32, -10001, -10000, -101, -100, -99, -8, -7, -6, -2, -1,
		0, 1, 2, 3, 6, 7, 8, 13, 14, 15, 59, 60, 61, 98, 99, 100, 101, 105, 9999, 10000, 10001,
		api.MaxTick - 1, api.MaxTick, api.MaxTick + 1, 1 << 32, 1<<32 + 7, most - 1, most,
	}
}

// classes are all three, and some that are none.
func classes() []int {
	return []int{api.Top, api.Urgent, api.Normal, 0, 4, 5, -1, -api.Normal, 1<<32 + api.Normal, most, least}
}

func checkIs(t *testing.T, r api.Rules, want bool) {
	t.Helper()
	if got := Is(r); got != want {
		t.Errorf("Is(%+v) = %v, want %v", r, got, want)
	}
}

func checkMay(t *testing.T, r api.Rules, tick int64, class int, want api.Errno) {
	t.Helper()
	if got := May(r, tick, class); got != want {
		t.Errorf("May(%+v, %d, %d) = %d, want %d", r, tick, class, got, want)
	}
}

func checkSolves(t *testing.T, r api.Rules, tick int64, want bool) {
	t.Helper()
	if got := Solves(r, tick); got != want {
		t.Errorf("Solves(%+v, %d) = %v, want %v", r, tick, got, want)
	}
}

func checkCloses(t *testing.T, r api.Rules, tick int64, want bool) {
	t.Helper()
	if got := Closes(r, tick); got != want {
		t.Errorf("Closes(%+v, %d) = %v, want %v", r, tick, got, want)
	}
}

// span is which of some numbers may be: low to high.
type span struct{ low, high int64 }

// numbers are the ends of a span, those about them, some between, some far off.
func (s span) numbers() []int64 {
	l := []int64{s.low - 1, s.low, s.low + 1, s.low + (s.high-s.low)/2, s.high - 1, s.high, s.high + 1}
	// Those far off look like ones within, if they are cut to 32 bits.
	return append(l, least, least+1, -s.high, -1, 0, s.low+1<<32, s.high+1<<32, s.low-1<<32, most-1, most)
}

// checkSpan checks that Is takes what lies within a span, and nothing else; set lays a number into rules that may be else.
func checkSpan(t *testing.T, s span, set func(r *api.Rules, n int64)) {
	t.Helper()
	for _, n := range s.numbers() {
		checkIs(t, changed(func(r *api.Rules) { set(r, n) }), s.low <= n && n <= s.high)
	}
}

// P7.1: rules that may be.
func TestIs(t *testing.T) {
	checkIs(t, rules(), true)
	checkIs(t, api.Rules{Parties: 1, Close: 1, Period: 1}, true)
	checkIs(t, api.Rules{
		Parties: 6,
		Assets:  slices.Repeat([]api.Asset{{Price: 1 << 20, Cut: 10000}}, 3),
		Cutoff:  1 << 20,
		Close:   1 << 20,
		Period:  1 << 20,
	}, true)
	checkIs(t, api.Rules{}, false)
	checkIs(t, api.Rules{Parties: least, Cutoff: least, Close: least, Period: least}, false)
	checkIs(t, api.Rules{Parties: most, Cutoff: most, Close: most, Period: most}, false)
}

// P7.1: Parties is 1 to MaxParties.
func TestIsParties(t *testing.T) {
	checkSpan(t, span{1, api.MaxParties}, func(r *api.Rules, n int64) { r.Parties = int(n) })
	for _, x := range []struct {
		parties int
		want    bool
	}{{least, false}, {-1, false}, {0, false}, {1, true}, {2, true}, {5, true}, {6, true}, {7, false}, {most, false}} {
		checkIs(t, changed(func(r *api.Rules) { r.Parties = x.parties }), x.want)
	}
}

// P7.1: there are at most MaxAssets Assets; none may be, whether the list is nil or empty.
func TestIsManyAssets(t *testing.T) {
	checkIs(t, changed(func(r *api.Rules) { r.Assets = nil }), true)
	checkIs(t, changed(func(r *api.Rules) { r.Assets = []api.Asset{} }), true)
	for _, many := range []int{0, 1, 2, 3, 4, 5, 6, 7, 255, 256, 259, 65536, 65539} {
		checkIs(t, changed(func(r *api.Rules) { r.Assets = assets(many) }), many <= 3)
	}
	// What stands in the room behind the list's end is no asset.
	wide := append(assets(3), api.Asset{Price: -1, Cut: -1}, api.Asset{Price: -1, Cut: -1})
	for many := range 4 {
		checkIs(t, changed(func(r *api.Rules) { r.Assets = wide[:many] }), true)
	}
}

// P7.1: each Price is 0 to MaxPrice, each Cut 0 to 10000, wherever in the list, also of the last alone.
func TestIsEachAsset(t *testing.T) {
	for many := 1; many <= api.MaxAssets; many++ {
		for at := range many {
			checkSpan(t, span{0, api.MaxPrice}, func(r *api.Rules, n int64) {
				r.Assets = assets(many)
				r.Assets[at].Price = n
			})
			checkSpan(t, span{0, 10000}, func(r *api.Rules, n int64) {
				r.Assets = assets(many)
				r.Assets[at].Cut = n
			})
		}
	}
}

// P7.1: a Price and a Cut are held against their own limits, not against each other's.
func TestIsPriceAndCut(t *testing.T) {
	for _, x := range []struct {
		a    api.Asset
		want bool
	}{
		{api.Asset{}, true},
		{api.Asset{Price: 1 << 20}, true},
		{api.Asset{Price: 1<<20 + 1}, false},
		{api.Asset{Price: -1}, false},
		{api.Asset{Cut: 10000}, true},
		{api.Asset{Cut: 10001}, false},
		{api.Asset{Cut: -1}, false},
		{api.Asset{Price: 10001, Cut: 10000}, true},
		{api.Asset{Price: 10000, Cut: 10001}, false},
		{api.Asset{Price: 1 << 20, Cut: 10000}, true},
		{api.Asset{Price: 1<<20 + 1, Cut: 10001}, false},
		{api.Asset{Price: -1, Cut: -1}, false},
	} {
		checkIs(t, changed(func(r *api.Rules) { r.Assets = []api.Asset{x.a} }), x.want)
		checkIs(t, changed(func(r *api.Rules) { r.Assets = append(assets(2), x.a) }), x.want)
	}
}

// P7.1: Close is 1 to MaxTick, whatever else the hours are.
func TestIsClose(t *testing.T) {
	checkSpan(t, span{1, api.MaxTick}, func(r *api.Rules, n int64) { r.Cutoff, r.Close = 0, n })
	checkSpan(t, span{1, api.MaxTick}, func(r *api.Rules, n int64) { r.Cutoff, r.Close = n, n })
	for _, x := range []struct {
		cutoff, end int64
		want        bool
	}{
		{0, 0, false}, {0, 1, true}, {1, 1, true}, {0, 1 << 20, true}, {0, 1<<20 + 1, false},
		{-1, -1, false}, {-2, -1, false}, {0, -1, false}, {1 << 20, 1<<20 + 1, false},
	} {
		checkIs(t, hours(x.cutoff, x.end, 1), x.want)
	}
}

// P7.1: Cutoff is 0 to Close.
func TestIsCutoff(t *testing.T) {
	for _, end := range []int64{1, 2, 7, 100, api.MaxTick - 1, api.MaxTick} {
		checkSpan(t, span{0, end}, func(r *api.Rules, n int64) { r.Cutoff, r.Close = n, end })
	}
}

// P7.1: Period is 1 to MaxTick; it may be beyond the close.
func TestIsPeriod(t *testing.T) {
	checkSpan(t, span{1, api.MaxTick}, func(r *api.Rules, n int64) { r.Period = n })
	for _, x := range []struct {
		period int64
		want   bool
	}{{-1, false}, {0, false}, {1, true}, {99, true}, {100, true}, {101, true}, {1 << 20, true}, {1<<20 + 1, false}} {
		checkIs(t, hours(60, 100, x.period), x.want)
	}
}

// P7.1: one wrong thing is enough, and none makes up for another.
func TestIsTwoWrong(t *testing.T) {
	wrong := []func(r *api.Rules){
		func(r *api.Rules) { r.Parties = 0 },
		func(r *api.Rules) { r.Parties = 7 },
		func(r *api.Rules) { r.Assets = assets(4) },
		func(r *api.Rules) { r.Assets = append(assets(2), api.Asset{Price: -1}) },
		func(r *api.Rules) { r.Assets = append(assets(2), api.Asset{Cut: 10001}) },
		func(r *api.Rules) { r.Close = 1<<20 + 1 },
		func(r *api.Rules) { r.Cutoff = -1 },
		func(r *api.Rules) { r.Cutoff = r.Close + 1 },
		func(r *api.Rules) { r.Period = 0 },
		func(r *api.Rules) { r.Period = 1<<20 + 1 },
	}
	for _, one := range wrong {
		checkIs(t, changed(one), false)
		for _, two := range wrong {
			checkIs(t, changed(func(r *api.Rules) { one(r); two(r) }), false)
		}
	}
}

// P7.1: the document's example: Cutoff 5, tick 5, Normal.
func TestMayExample(t *testing.T) {
	checkMay(t, hours(5, 9, 2), 5, api.Normal, api.ErrPhase)
}

// P7.1: a Normal one may ahead of Cutoff, every other ahead of Close, also of a class that is none of the three.
func TestMay(t *testing.T) {
	const ok, late = api.OK, api.ErrPhase
	for _, x := range []struct {
		tick        int64
		normal, all api.Errno
	}{
		{least, ok, ok}, {-100, ok, ok}, {-1, ok, ok}, {0, ok, ok}, {1, ok, ok}, {58, ok, ok},
		{59, ok, ok}, {60, late, ok}, {61, late, ok}, {98, late, ok},
		{99, late, ok}, {100, late, late}, {101, late, late}, {api.MaxTick, late, late}, {most, late, late},
	} {
		for _, class := range classes() {
			want := x.all
			if class == api.Normal {
				want = x.normal
			}
			checkMay(t, rules(), x.tick, class, want)
		}
	}
}

// P7.1: with a Cutoff of 0 a Normal one may at no tick of the day, the others may.
func TestMayCutoffOfNothing(t *testing.T) {
	r := hours(0, 3, 1)
	for tick := int64(0); tick < 6; tick++ {
		checkMay(t, r, tick, api.Normal, api.ErrPhase)
	}
	checkMay(t, r, -1, api.Normal, api.OK)
	for _, class := range []int{api.Top, api.Urgent} {
		checkMay(t, r, 0, class, api.OK)
		checkMay(t, r, 2, class, api.OK)
		checkMay(t, r, 3, class, api.ErrPhase)
	}
}

// P7.1: with a Cutoff that is Close all classes have the same hours.
func TestMayCutoffOfClose(t *testing.T) {
	r := hours(3, 3, 1)
	for _, class := range classes() {
		for _, tick := range []int64{least, -1, 0, 1, 2} {
			checkMay(t, r, tick, class, api.OK)
		}
		for _, tick := range []int64{3, 4, most} {
			checkMay(t, r, tick, class, api.ErrPhase)
		}
	}
}

// P7.1: no other part of the rules is asked, and of rules that may not be the words hold as well.
func TestMayAnyRules(t *testing.T) {
	for _, cutoff := range edges() {
		for _, end := range edges() {
			r := api.Rules{Cutoff: cutoff, Close: end}
			for _, tick := range edges() {
				for _, class := range classes() {
					first := end
					if class == api.Normal {
						first = min(cutoff, end)
					}
					want := api.ErrPhase
					if tick < first {
						want = api.OK
					}
					checkMay(t, r, tick, class, want)
				}
			}
		}
	}
}

// P7.2: at the close and behind it nothing may, whatever its class and whatever the cutoff is.
func TestBehindTheCloseNothingMay(t *testing.T) {
	for _, end := range edges() {
		for _, cutoff := range append(edges(), end) {
			r := hours(cutoff, end, 7)
			for _, tick := range append(edges(), end) {
				if tick < end {
					continue
				}
				for _, class := range classes() {
					checkMay(t, r, tick, class, api.ErrPhase)
				}
				checkSolves(t, r, tick, false)
			}
		}
	}
}

// P7.2: of whatever rules may be, no tick from the close on is one at which something may.
func TestBehindTheCloseOfEachDay(t *testing.T) {
	for end := int64(1); end <= 12; end++ {
		for cutoff := int64(0); cutoff <= end; cutoff++ {
			r := hours(cutoff, end, 1)
			checkIs(t, r, true)
			for tick := end; tick <= end+20; tick++ {
				for _, class := range classes() {
					checkMay(t, r, tick, class, api.ErrPhase)
				}
			}
		}
	}
}

// P7.1: a tick solves that is above 0, ahead of Close, and a multiple of Period.
func TestSolves(t *testing.T) {
	r := hours(60, 98, 7)
	for _, tick := range []int64{7, 14, 21, 56, 63, 84, 91} {
		checkSolves(t, r, tick, true)
	}
	for _, tick := range []int64{least, -98, -14, -7, -1, 0, 1, 6, 8, 13, 15, 60, 90, 92, 97, 98, 99, 105, 7 << 40, most} {
		checkSolves(t, r, tick, false)
	}
}

// P7.1: with a Period of 1 each tick within the day solves; with one of Close, or beyond it, none.
func TestSolvesPeriodAtTheEdges(t *testing.T) {
	for tick := int64(-3); tick < 13; tick++ {
		checkSolves(t, hours(5, 9, 1), tick, tick > 0 && tick < 9)
		checkSolves(t, hours(5, 9, 8), tick, tick == 8)
		checkSolves(t, hours(5, 9, 9), tick, false)
		checkSolves(t, hours(5, 9, 10), tick, false)
		checkSolves(t, hours(0, 1, 1), tick, false)
	}
	checkSolves(t, hours(0, api.MaxTick, api.MaxTick), api.MaxTick, false)
	checkSolves(t, hours(0, api.MaxTick, api.MaxTick-1), api.MaxTick-1, true)
	checkSolves(t, hours(0, api.MaxTick, 1), api.MaxTick-1, true)
}

// P7.1: of each day, each period and each tick: counted on from 0 by Period.
func TestSolvesEachTick(t *testing.T) {
	for end := int64(1); end <= 30; end++ {
		for period := int64(1); period <= 32; period++ {
			r := hours(0, end, period)
			next := period
			for tick := int64(-40); tick <= 70; tick++ {
				due := tick == next
				if due {
					next += period
				}
				checkSolves(t, r, tick, due && tick < end)
			}
		}
	}
}

// P7.1, W1: with a Period of 0 nothing solves, and nothing panics.
func TestSolvesPeriodOfNothing(t *testing.T) {
	for _, end := range edges() {
		for _, tick := range edges() {
			checkSolves(t, hours(0, end, 0), tick, false)
		}
	}
}

// P7.1, W10: of whatever rules, also those that may not be, a multiple is one of whole numbers.
func TestSolvesAnyRules(t *testing.T) {
	for _, end := range edges() {
		for _, period := range edges() {
			r := api.Rules{Close: end, Period: period}
			for _, tick := range edges() {
				multiple := tick == 0
				if period != 0 {
					multiple = new(big.Int).Rem(big.NewInt(tick), big.NewInt(period)).Sign() == 0
				}
				checkSolves(t, r, tick, 0 < tick && tick < end && multiple)
			}
		}
	}
}

// P7.1: the tick that is Close closes, and no other.
func TestCloses(t *testing.T) {
	for _, x := range []struct {
		tick int64
		want bool
	}{
		{least, false}, {-100, false}, {-1, false}, {0, false}, {1, false}, {60, false},
		{99, false}, {100, true}, {101, false}, {200, false}, {1<<32 + 100, false}, {most, false},
	} {
		checkCloses(t, rules(), x.tick, x.want)
	}
}

// P7.1: nothing else of the rules is asked.
func TestClosesAnyRules(t *testing.T) {
	for _, end := range edges() {
		for _, tick := range edges() {
			checkCloses(t, api.Rules{Close: end}, tick, tick == end)
			checkCloses(t, hours(tick, end, tick), tick, tick == end)
		}
	}
}

// P7.1: a day closes once, solves only ahead of that, and something may till then.
func TestADay(t *testing.T) {
	for end := int64(1); end <= 20; end++ {
		r := hours(end/2, end, 3)
		closed := 0
		for tick := int64(0); tick <= 2*end+3; tick++ {
			if Closes(r, tick) {
				closed++
			}
			if open := closed == 0; open != (May(r, tick, api.Urgent) == api.OK) || !open && Solves(r, tick) {
				t.Errorf("close %d, tick %d", end, tick)
			}
		}
		if closed != 1 {
			t.Errorf("close %d: closed %d times", end, closed)
		}
	}
}

// same tells whether two rules are the same, also in the room behind their assets.
func same(a, b api.Rules) bool {
	return a.Parties == b.Parties && a.Cutoff == b.Cutoff && a.Close == b.Close && a.Period == b.Period &&
		len(a.Assets) == len(b.Assets) && slices.Equal(a.Assets[:cap(a.Assets)], b.Assets[:cap(b.Assets)])
}

// askAll asks everything of rules, and is all that is answered.
func askAll(r api.Rules) (bools []bool, errs []api.Errno) {
	bools = append(bools, Is(r))
	for _, tick := range edges() {
		bools = append(bools, Solves(r, tick), Closes(r, tick))
		for _, class := range classes() {
			errs = append(errs, May(r, tick, class))
		}
	}
	return bools, errs
}

// W6: what is handed in stays as it was, and so does the room behind it.
func TestNothingIsChanged(t *testing.T) {
	for _, many := range []int{0, 1, 3, 4} {
		for _, a := range []api.Asset{{Price: 10, Cut: 500}, {Price: -1, Cut: 500}, {Price: 10, Cut: 10001}} {
			made := func() api.Rules {
				wide := make([]api.Asset, 6)
				for i := range wide {
					wide[i] = api.Asset{Price: a.Price, Cut: a.Cut - int64(i)}
				}
				return changed(func(r *api.Rules) { r.Assets = wide[:many] })
			}
			r := made()
			askAll(r)
			if !same(r, made()) {
				t.Errorf("%+v became %+v", made(), r)
			}
		}
	}
}

// W2, W6: what was asked ahead does not matter, nor what becomes of a list that was handed in.
func TestNothingIsKept(t *testing.T) {
	bools, errs := askAll(rules())
	r := rules()
	for range 3 {
		askAll(r)
		r.Assets[1].Price = -1
		checkIs(t, r, false)
		askAll(api.Rules{Parties: -1, Cutoff: -5, Close: -3, Period: -2, Assets: r.Assets})
		r.Assets[1].Price = 20
		checkIs(t, r, true)
		b, e := askAll(r)
		if !slices.Equal(b, bools) || !slices.Equal(e, errs) {
			t.Error("asked once more, other answers came")
		}
	}
}
