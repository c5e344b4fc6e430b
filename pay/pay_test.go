package pay

import (
	"math"
	"slices"
	"testing"

	"giro/api"
)

const (
	most  = math.MaxInt64
	least = math.MinInt64
	// now is a tick at which each class may.
	now = 10
)

// rules are rules that may be, new ones at each call.
func rules() api.Rules {
	return api.Rules{
		Parties: 4,
		Assets:  []api.Asset{{Price: 10, Cut: 500}, {Price: 20, Cut: 1000}},
		Cutoff:  60,
		Close:   100,
		Period:  7,
	}
}

// ordinary is a payment that may be asked at now.
func ordinary() api.Pay {
	return api.Pay{ID: 7, From: 1, To: 2, Amount: 50, Class: api.Normal, Start: 5, Till: 20}
}

// changed is an ordinary payment with something changed.
func changed(changes ...func(p *api.Pay)) api.Pay {
	p := ordinary()
	for _, change := range changes {
		change(&p)
	}
	return p
}

// timed is an ordinary payment with a time.
func timed(start, till int64) api.Pay {
	return changed(func(p *api.Pay) { p.Start, p.Till = start, till })
}

// field is one number of a payment.
type field struct {
	name string
	set  func(p *api.Pay, n int64)
	get  func(p api.Pay) int64
}

// fields are all numbers of a payment.
func fields() []field {
	return []field{
		{"ID", func(p *api.Pay, n int64) { p.ID = n }, func(p api.Pay) int64 { return p.ID }},
		{"From", func(p *api.Pay, n int64) { p.From = int(n) }, func(p api.Pay) int64 { return int64(p.From) }},
		{"To", func(p *api.Pay, n int64) { p.To = int(n) }, func(p api.Pay) int64 { return int64(p.To) }},
		{"Amount", func(p *api.Pay, n int64) { p.Amount = n }, func(p api.Pay) int64 { return p.Amount }},
		{"Class", func(p *api.Pay, n int64) { p.Class = int(n) }, func(p api.Pay) int64 { return int64(p.Class) }},
		{"Start", func(p *api.Pay, n int64) { p.Start = n }, func(p api.Pay) int64 { return p.Start }},
		{"Till", func(p *api.Pay, n int64) { p.Till = n }, func(p api.Pay) int64 { return p.Till }},
	}
}

// edges are numbers at which something begins or ceases to be, and those about them.
func edges() []int64 {
	return []int64{
		least, least + 1, -1 << 40, -1 << 32, -101, -2, -1,
		0, 1, 2, 3, 4, 5, 6, 9, 10, 11, 19, 20, 21, 59, 60, 61, 99, 100, 101,
		api.MaxTick - 1, api.MaxTick, api.MaxTick + 1, 1 << 32, 1<<32 + 2, 1<<32 + 10,
		api.MaxAmount - 1, api.MaxAmount, api.MaxAmount + 1, most - 1, most,
	}
}

func checkCheck(t *testing.T, r api.Rules, tick int64, p api.Pay, want api.Errno) {
	t.Helper()
	if got := Check(r, tick, p); got != want {
		t.Errorf("Check(%+v, %d, %+v) = %d, want %d", r, tick, p, got, want)
	}
}

func checkTime(t *testing.T, p api.Pay, tick int64, ready, late bool) {
	t.Helper()
	if got := Ready(p, tick); got != ready {
		t.Errorf("Ready(%+v, %d) = %v, want %v", p, tick, got, ready)
	}
	if got := Late(p, tick); got != late {
		t.Errorf("Late(%+v, %d) = %v, want %v", p, tick, got, late)
	}
}

// checkSame checks both ways round.
func checkSame(t *testing.T, a, b []api.Pay, want bool) {
	t.Helper()
	if got := Same(a, b); got != want {
		t.Errorf("Same(%+v, %+v) = %v, want %v", a, b, got, want)
	}
	if got := Same(b, a); got != want {
		t.Errorf("Same(%+v, %+v) = %v, want %v", b, a, got, want)
	}
}

// may is OK, or ErrArg if it may not be.
func may(ok bool) api.Errno {
	if ok {
		return api.OK
	}
	return api.ErrArg
}

// P11.1: ordinary payments.
func TestCheck(t *testing.T) {
	checkCheck(t, rules(), now, ordinary(), api.OK)
	checkCheck(t, rules(), now, api.Pay{ID: 1, From: 0, To: 3, Amount: 1, Class: api.Top, Start: 0, Till: now}, api.OK)
	checkCheck(t, rules(), now, api.Pay{ID: most, From: 3, To: 0, Amount: 1 << 40, Class: api.Urgent, Start: 1 << 20, Till: 1 << 20}, api.OK)
	checkCheck(t, rules(), now, api.Pay{}, api.ErrArg)
	checkCheck(t, api.Rules{}, 0, ordinary(), api.ErrArg)
	checkCheck(t, api.Rules{}, 0, api.Pay{}, api.ErrArg)
}

// P11.1: an ID is 1 or more, to the greatest.
func TestCheckID(t *testing.T) {
	for _, x := range []struct {
		id   int64
		want bool
	}{
		{least, false}, {least + 1, false}, {-1 << 32, false}, {-7, false}, {-1, false}, {0, false},
		{1, true}, {2, true}, {7, true}, {200, true}, {201, true}, {1 << 31, true}, {1 << 32, true}, {1 << 62, true}, {most - 1, true}, {most, true},
	} {
		checkCheck(t, rules(), now, changed(func(p *api.Pay) { p.ID = x.id }), may(x.want))
	}
}

// P11.1: From and To are parties of r, whatever count of them r has, and not one.
func TestCheckParties(t *testing.T) {
	for parties := 0; parties <= api.MaxParties; parties++ {
		r := rules()
		r.Parties = parties
		for from := -3; from <= parties+3; from++ {
			for to := -3; to <= parties+3; to++ {
				ok := from >= 0 && from < parties && to >= 0 && to < parties && from != to
				checkCheck(t, r, now, changed(func(p *api.Pay) { p.From, p.To = from, to }), may(ok))
			}
		}
	}
}

// P11.1: the same at the edges, each told alone.
func TestCheckFromAndTo(t *testing.T) {
	for _, x := range []struct {
		from, to int
		want     bool
	}{
		{0, 1, true}, {1, 0, true}, {0, 3, true}, {3, 0, true}, {2, 3, true}, {3, 2, true},
		{0, 0, false}, {1, 1, false}, {3, 3, false}, {4, 4, false}, {-1, -1, false},
		{4, 0, false}, {0, 4, false}, {5, 1, false}, {1, 5, false}, {api.MaxParties, 0, false}, {0, api.MaxParties, false},
		{-1, 0, false}, {0, -1, false}, {-1, 3, false}, {3, -1, false}, {api.Host, 1, false}, {1, api.Host, false},
		{most, 0, false}, {0, most, false}, {least, 0, false}, {0, least, false}, {least, most, false},
		{1 << 32, 1, false}, {1, 1 << 32, false}, {1<<32 + 2, 1, false}, {1, 1<<32 + 2, false},
	} {
		checkCheck(t, rules(), now, changed(func(p *api.Pay) { p.From, p.To = x.from, x.to }), may(x.want))
	}
}

// P11.1: where there is one party, or none, nobody can pay anybody.
func TestCheckTooFewParties(t *testing.T) {
	for _, parties := range []int{1, 0, -1, -4, least} {
		r := rules()
		r.Parties = parties
		for from := -5; from <= 5; from++ {
			for to := -5; to <= 5; to++ {
				checkCheck(t, r, now, changed(func(p *api.Pay) { p.From, p.To = from, to }), api.ErrArg)
			}
		}
	}
}

// P11.1: an Amount is 1 to MaxAmount.
func TestCheckAmount(t *testing.T) {
	for _, x := range []struct {
		amount int64
		want   bool
	}{
		{least, false}, {-1 << 40, false}, {-50, false}, {-1, false}, {0, false},
		{1, true}, {2, true}, {1 << 32, true}, {1<<40 - 1, true}, {1 << 40, true}, {api.MaxAmount, true},
		{1<<40 + 1, false}, {1 << 41, false}, {1 << 62, false}, {most, false},
	} {
		checkCheck(t, rules(), now, changed(func(p *api.Pay) { p.Amount = x.amount }), may(x.want))
	}
}

// P11.1: a Class is one of three.
func TestCheckClass(t *testing.T) {
	for _, x := range []struct {
		class int
		want  bool
	}{
		{api.Top, true}, {api.Urgent, true}, {api.Normal, true},
		{0, false}, {4, false}, {5, false}, {-1, false}, {-2, false}, {-3, false}, {257, false},
		{1<<32 + 1, false}, {1<<32 + 2, false}, {1<<32 + 3, false}, {most, false}, {least, false},
	} {
		checkCheck(t, rules(), now, changed(func(p *api.Pay) { p.Class = x.class }), may(x.want))
	}
}

// P11.1: a Start is 0 to Till; it may be ahead of the tick and behind it.
func TestCheckStart(t *testing.T) {
	for _, x := range []struct {
		start, till int64
		want        bool
	}{
		{least, 20, false}, {-20, 20, false}, {-1, 20, false}, {0, 20, true}, {1, 20, true},
		{now - 1, 20, true}, {now, 20, true}, {now + 1, 20, true}, {19, 20, true}, {20, 20, true}, {21, 20, false}, {most, 20, false},
		{0, now, true}, {now, now, true}, {now + 1, now, false},
		{0, 1 << 20, true}, {1 << 20, 1 << 20, true}, {1<<20 + 1, 1 << 20, false}, {1<<32 + 5, 20, false},
	} {
		checkCheck(t, rules(), now, timed(x.start, x.till), may(x.want))
	}
	checkCheck(t, rules(), 0, timed(0, 0), api.OK)
	checkCheck(t, rules(), 0, timed(1, 0), api.ErrArg)
	checkCheck(t, rules(), 0, timed(-1, 0), api.ErrArg)
}

// P11.1: a Till is the tick to MaxTick; it may be behind the close.
func TestCheckTill(t *testing.T) {
	for _, x := range []struct {
		tick, till int64
		want       bool
	}{
		{now, now, true}, {now, now - 1, false}, {now, now + 1, true}, {now, 0, false}, {now, -1, false}, {now, least, false},
		{now, 60, true}, {now, 99, true}, {now, 100, true}, {now, 101, true},
		{now, 1<<20 - 1, true}, {now, 1 << 20, true}, {now, api.MaxTick, true}, {now, 1<<20 + 1, false}, {now, 1<<32 + 20, false}, {now, most, false},
		{0, 0, true}, {0, -1, false}, {1, 0, false}, {1, 1, true}, {59, 59, true}, {59, 58, false},
		{-1, 0, true}, {-1, -1, false}, {-5, 20, true}, {least, 0, true}, {least, 20, true}, {least, least, false}, {least, -1, false},
	} {
		checkCheck(t, rules(), x.tick, timed(0, x.till), may(x.want))
	}
}

// P11.1: each class may ahead of its own hour alone, in whatever time of its own.
func TestCheckHours(t *testing.T) {
	const ok, off = api.OK, api.ErrPhase
	for _, x := range []struct {
		tick                int64
		top, urgent, normal api.Errno
	}{
		{least, ok, ok, ok}, {-1, ok, ok, ok}, {0, ok, ok, ok}, {1, ok, ok, ok},
		{59, ok, ok, ok}, {60, ok, ok, off}, {61, ok, ok, off},
		{99, ok, ok, off}, {100, off, off, off}, {101, off, off, off}, {1<<20 - 1, off, off, off}, {1 << 20, off, off, off},
	} {
		for class, want := range map[int]api.Errno{api.Top: x.top, api.Urgent: x.urgent, api.Normal: x.normal} {
			p := changed(func(p *api.Pay) { p.Class, p.Start, p.Till = class, 0, 1<<20 })
			checkCheck(t, rules(), x.tick, p, want)
			p.Start = 1 << 20
			checkCheck(t, rules(), x.tick, p, want)
			if x.tick >= 0 {
				p.Start, p.Till = x.tick, x.tick
				checkCheck(t, rules(), x.tick, p, want)
			}
		}
	}
}

// P11.1: the hours are those of the tick it is asked at, not of the payment's own time.
func TestCheckTimeIsNotTheHour(t *testing.T) {
	for _, class := range []int{api.Top, api.Urgent, api.Normal} {
		for _, at := range []int64{60, 99, 100, 101, 200} {
			p := changed(func(p *api.Pay) { p.Class, p.Start, p.Till = class, at, at })
			checkCheck(t, rules(), 59, p, api.OK)
		}
	}
}

// P11.1: with a Cutoff of 0 no Normal one may, with one that is Close each may as long as the others.
func TestCheckCutoff(t *testing.T) {
	r := rules()
	r.Cutoff = 0
	for _, tick := range []int64{0, 1, 59, 99, 100} {
		checkCheck(t, r, tick, timed(0, 200), api.ErrPhase)
	}
	checkCheck(t, r, 99, changed(func(p *api.Pay) { p.Class, p.Till = api.Urgent, 200 }), api.OK)
	r.Cutoff = r.Close
	checkCheck(t, r, 99, timed(0, 200), api.OK)
	checkCheck(t, r, 100, timed(0, 200), api.ErrPhase)
}

// P11.1: a day may close at MaxTick: the last tick ahead of it is one at which a payment may, and past it none has a Till.
func TestCheckLastTicks(t *testing.T) {
	r := rules()
	r.Cutoff, r.Close = api.MaxTick, api.MaxTick
	for _, class := range []int{api.Top, api.Urgent, api.Normal} {
		p := changed(func(p *api.Pay) { p.Class, p.Till = class, api.MaxTick })
		checkCheck(t, r, api.MaxTick-1, p, api.OK)
		checkCheck(t, r, api.MaxTick, p, api.ErrPhase)
		checkCheck(t, r, api.MaxTick+1, p, api.ErrArg)
		checkCheck(t, r, most, p, api.ErrArg)
		p.Till = api.MaxTick + 1
		checkCheck(t, r, api.MaxTick, p, api.ErrArg)
		checkCheck(t, r, api.MaxTick+1, p, api.ErrArg)
	}
}

// fault makes a payment one that may not be, whatever the tick from 1 on.
type fault struct {
	name string
	make func(p *api.Pay)
}

// faults are one of each kind at least.
func faults() []fault {
	return []fault{
		{"ID 0", func(p *api.Pay) { p.ID = 0 }},
		{"ID below 0", func(p *api.Pay) { p.ID = least }},
		{"From below 0", func(p *api.Pay) { p.From = -1 }},
		{"From beyond", func(p *api.Pay) { p.From = 4 }},
		{"To below 0", func(p *api.Pay) { p.To = -1 }},
		{"To beyond", func(p *api.Pay) { p.To = 4 }},
		{"both one", func(p *api.Pay) { p.To = p.From }},
		{"Amount 0", func(p *api.Pay) { p.Amount = 0 }},
		{"Amount below 0", func(p *api.Pay) { p.Amount = -1 }},
		{"Amount beyond", func(p *api.Pay) { p.Amount = api.MaxAmount + 1 }},
		{"Class 0", func(p *api.Pay) { p.Class = 0 }},
		{"Class 4", func(p *api.Pay) { p.Class = 4 }},
		{"Start below 0", func(p *api.Pay) { p.Start = -1 }},
		{"Start above Till", func(p *api.Pay) { p.Start = p.Till + 1 }},
		{"Till below tick", func(p *api.Pay) { p.Start, p.Till = 0, 0 }},
		{"Till beyond", func(p *api.Pay) { p.Till = api.MaxTick + 1 }},
	}
}

// P11.1: one fault is enough, two don't make up for each other, and ErrArg is ahead of ErrPhase: at each hour, of each class.
func TestCheckFaults(t *testing.T) {
	for _, tick := range []int64{1, 59, 60, 99, 100, 1000} {
		for _, class := range []int{api.Top, api.Urgent, api.Normal} {
			base := func(p *api.Pay) { p.Class, p.Start, p.Till = class, 0, 2000 }
			if e := Check(rules(), tick, changed(base)); e == api.ErrArg {
				t.Errorf("tick %d, class %d: without a fault it is %d", tick, class, e)
			}
			for _, one := range faults() {
				if e := Check(rules(), tick, changed(base, one.make)); e != api.ErrArg {
					t.Errorf("tick %d, class %d, %s: %d", tick, class, one.name, e)
				}
				for _, two := range faults() {
					if e := Check(rules(), tick, changed(base, one.make, two.make)); e != api.ErrArg {
						t.Errorf("tick %d, class %d, %s and %s: %d", tick, class, one.name, two.name, e)
					}
				}
			}
		}
	}
}

// P11.1: several faults at once are one error.
func TestCheckSeveralFaults(t *testing.T) {
	for _, tick := range []int64{0, now, 60, 100, api.MaxTick, most} {
		for _, n := range []int64{least, -1, most} {
			var p api.Pay
			for i, f := range fields() {
				f.set(&p, n)
				if i > 0 {
					checkCheck(t, rules(), tick, p, api.ErrArg)
				}
			}
		}
	}
}

// wants is what the document's words ask of Check, told without the package.
func wants(r api.Rules, tick int64, p api.Pay) api.Errno {
	party := func(i int) bool { return 0 <= i && i <= r.Parties-1 }
	switch {
	case p.ID <= 0, !party(p.From), !party(p.To), p.From == p.To:
		return api.ErrArg
	case p.Amount <= 0, p.Amount > 1<<40, p.Class != 1 && p.Class != 2 && p.Class != 3:
		return api.ErrArg
	case p.Start < 0, p.Start > p.Till, p.Till < tick, p.Till > 1<<20:
		return api.ErrArg
	case tick >= r.Close, p.Class == 3 && tick >= r.Cutoff:
		return api.ErrPhase
	}
	return api.OK
}

// P11.1: each field at each edge, two fields at a time, at each tick.
func TestCheckTwoFields(t *testing.T) {
	ticks := []int64{least, -1, 0, 4, 5, 9, 10, 20, 21, 59, 60, 99, 100, 101, api.MaxTick, api.MaxTick + 1, most}
	r := rules()
	for i, one := range fields() {
		for _, two := range fields()[i+1:] {
			for _, n := range edges() {
				for _, m := range edges() {
					p := changed(func(p *api.Pay) { one.set(p, n); two.set(p, m) })
					for _, tick := range ticks {
						checkCheck(t, r, tick, p, wants(r, tick, p))
					}
				}
			}
		}
	}
}

// P11.1: the whole of a small place: each time, each tick, each class, each hour.
func TestCheckSmallDays(t *testing.T) {
	for end := int64(1); end <= 4; end++ {
		for cutoff := int64(0); cutoff <= end; cutoff++ {
			r := api.Rules{Parties: 2, Cutoff: cutoff, Close: end, Period: 1}
			for class := 0; class <= 4; class++ {
				for start := int64(-1); start <= 6; start++ {
					for till := int64(-1); till <= 6; till++ {
						p := api.Pay{ID: 1, To: 1, Amount: 1, Class: class, Start: start, Till: till}
						for tick := int64(-1); tick <= 7; tick++ {
							checkCheck(t, r, tick, p, wants(r, tick, p))
						}
					}
				}
			}
		}
	}
}

// P11.1: of the rules nothing but the parties and the hours is asked.
func TestCheckOtherRules(t *testing.T) {
	for _, assets := range [][]api.Asset{nil, {}, {{Price: -1, Cut: -1}}, make([]api.Asset, 9)} {
		for _, period := range []int64{least, -1, 0, 1, now, most} {
			r := rules()
			r.Assets, r.Period = assets, period
			checkCheck(t, r, now, ordinary(), api.OK)
			checkCheck(t, r, 60, timed(0, 60), api.ErrPhase)
			checkCheck(t, r, now, timed(0, now-1), api.ErrArg)
		}
	}
}

// P11.1: the document's example: from 3 till 5, at 6.
func TestLateExample(t *testing.T) {
	checkTime(t, timed(3, 5), 6, false, true)
}

// P11.1: it is ready from Start to Till, both with it, and late from there on.
func TestReadyAndLate(t *testing.T) {
	for _, x := range []struct {
		start, till, tick int64
		ready, late       bool
	}{
		{3, 5, least, false, false}, {3, 5, -1, false, false}, {3, 5, 0, false, false}, {3, 5, 2, false, false},
		{3, 5, 3, true, false}, {3, 5, 4, true, false}, {3, 5, 5, true, false},
		{3, 5, 6, false, true}, {3, 5, 7, false, true}, {3, 5, 1 << 20, false, true}, {3, 5, 1<<32 + 4, false, true}, {3, 5, most, false, true},
		{3, 3, 2, false, false}, {3, 3, 3, true, false}, {3, 3, 4, false, true},
		{0, 0, -1, false, false}, {0, 0, 0, true, false}, {0, 0, 1, false, true},
		{0, 1 << 20, 0, true, false}, {0, 1 << 20, 1 << 20, true, false}, {0, 1 << 20, 1<<20 + 1, false, true},
		{least, most, least, true, false}, {least, most, 0, true, false}, {least, most, most, true, false},
		{least, least, least, true, false}, {least, least, least + 1, false, true}, {least, least, most, false, true},
		{most, most, most, true, false}, {most, most, most - 1, false, false}, {most, most, least, false, false},
		{least, most - 1, most, false, true}, {least + 1, most, least, false, false},
	} {
		checkTime(t, timed(x.start, x.till), x.tick, x.ready, x.late)
	}
}

// P11.1: one whose Start is above its Till is never ready, and is late above its Till alone.
func TestReadyAndLateTurnedRound(t *testing.T) {
	for _, tick := range []int64{least, 0, 2, 3} {
		checkTime(t, timed(5, 3), tick, false, false)
	}
	for _, tick := range []int64{4, 5, 6, most} {
		checkTime(t, timed(5, 3), tick, false, true)
	}
	checkTime(t, timed(most, least), least, false, false)
	checkTime(t, timed(most, least), 0, false, true)
	checkTime(t, timed(most, least), most, false, true)
}

// P11.1: no other number of a payment is asked.
func TestReadyAndLateTimeAlone(t *testing.T) {
	for _, f := range fields()[:5] {
		for _, n := range edges() {
			p := changed(func(p *api.Pay) { f.set(p, n) })
			checkTime(t, p, 4, false, false)
			checkTime(t, p, 5, true, false)
			checkTime(t, p, 20, true, false)
			checkTime(t, p, 21, false, true)
		}
	}
	checkTime(t, api.Pay{}, -1, false, false)
	checkTime(t, api.Pay{}, 0, true, false)
	checkTime(t, api.Pay{}, 1, false, true)
}

// P11.2: one is not ready and late at once, whatever its time; and both are as the words say.
func TestNotReadyAndLateAtOnce(t *testing.T) {
	for _, start := range edges() {
		for _, till := range edges() {
			p := timed(start, till)
			for _, tick := range edges() {
				if Ready(p, tick) && Late(p, tick) {
					t.Errorf("%+v is ready and late at %d", p, tick)
				}
				checkTime(t, p, tick, tick >= start && tick <= till, tick > till)
			}
		}
	}
}

// P11.2: what may be asked goes through its time once: it waits, is ready, is late, and never comes back.
func TestATimeIsGoneThroughOnce(t *testing.T) {
	for start := int64(0); start <= 6; start++ {
		for till := start; till <= 6; till++ {
			p, ready, late := timed(start, till), int64(0), false
			checkCheck(t, rules(), 0, p, api.OK)
			for tick := int64(0); tick <= 9; tick++ {
				if Ready(p, tick) {
					ready++
				}
				if late && (!Late(p, tick) || Ready(p, tick)) {
					t.Errorf("%+v was late, and at %d it is not", p, tick)
				}
				late = Late(p, tick)
			}
			if ready != till-start+1 || !late {
				t.Errorf("%+v was ready at %d ticks, late at last: %v", p, ready, late)
			}
		}
	}
}

// P11.1: a payment that is late at a tick can't be asked at it.
func TestCheckOfALateOne(t *testing.T) {
	for _, till := range edges() {
		for _, tick := range edges() {
			if p := timed(0, till); Late(p, tick) {
				checkCheck(t, rules(), tick, p, api.ErrArg)
			}
		}
	}
}

// rowOf is so many payments, no two of them alike in a number, new at each call.
func rowOf(many int) []api.Pay {
	l := make([]api.Pay, many)
	for i := range l {
		n := int64(10 * i)
		l[i] = api.Pay{ID: n + 1, From: 10*i + 2, To: 10*i + 3, Amount: n + 4, Class: 10*i + 5, Start: n + 6, Till: n + 7}
	}
	return l
}

// P11.1: a row is the same as one of the same payments, in other memory or in its own.
func TestSame(t *testing.T) {
	for _, many := range []int{0, 1, 2, 3, api.MaxPays, api.MaxPays + 1, 1000} {
		l := rowOf(many)
		checkSame(t, l, rowOf(many), true)
		checkSame(t, l, l, true)
	}
	checkSame(t, []api.Pay{{}}, []api.Pay{{}}, true)
	wild := api.Pay{ID: least, From: most, To: least, Amount: most, Class: least, Start: most, Till: least}
	checkSame(t, []api.Pay{wild, wild}, []api.Pay{wild, wild}, true)
	checkSame(t, []api.Pay{wild}, []api.Pay{{}}, false)
}

// P11.1: rows are not the same if one number of one payment differs, whichever and wherever.
func TestSameOneField(t *testing.T) {
	for _, many := range []int{1, 2, 3, api.MaxPays} {
		for at := range many {
			for _, f := range fields() {
				was := f.get(rowOf(many)[at])
				for _, n := range []int64{was + 1, was - 1, -was, was + 1<<32, was ^ least, 0, least, most} {
					b := rowOf(many)
					f.set(&b[at], n)
					checkSame(t, rowOf(many), b, false)
				}
			}
		}
	}
}

// P11.1: numbers that stand in one another's places are not the same ones.
func TestSameChangedAbout(t *testing.T) {
	for i, one := range fields() {
		for _, two := range fields()[i+1:] {
			b := rowOf(2)
			n, m := one.get(b[1]), two.get(b[1])
			one.set(&b[1], m)
			two.set(&b[1], n)
			checkSame(t, rowOf(2), b, false)
			one.set(&b[1], n+1)
			two.set(&b[1], m-1)
			checkSame(t, rowOf(2), b, false)
		}
	}
}

// P11.1: rows of unlike length are not the same, also where one is the beginning or the end of the other.
func TestSameLength(t *testing.T) {
	for _, many := range []int{1, 2, 3, api.MaxPays} {
		l := rowOf(many)
		for cut := range many {
			checkSame(t, l, l[:cut], false)
			checkSame(t, l, rowOf(many)[:cut], false)
			checkSame(t, l, l[many-cut:], false)
		}
	}
	checkSame(t, []api.Pay{{}}, nil, false)
	checkSame(t, []api.Pay{{}}, []api.Pay{{}, {}}, false)
}

// P11.1: the same payments in another order are another row.
func TestSameOrder(t *testing.T) {
	for _, many := range []int{2, 3, 5} {
		for i := range many {
			for j := range i {
				b := rowOf(many)
				b[i], b[j] = b[j], b[i]
				checkSame(t, rowOf(many), b, false)
			}
		}
	}
	l := rowOf(2)
	checkSame(t, []api.Pay{l[0], l[0], l[1]}, []api.Pay{l[0], l[1], l[1]}, false)
	checkSame(t, []api.Pay{l[0], l[0]}, []api.Pay{l[0], l[0]}, true)
}

// W5: a nil row and an empty one are the same, and so is one with room behind its end.
func TestSameOfNothing(t *testing.T) {
	empty := [][]api.Pay{nil, {}, make([]api.Pay, 0, 5), rowOf(3)[:0], rowOf(3)[3:]}
	for _, a := range empty {
		for _, b := range empty {
			checkSame(t, a, b, true)
		}
		checkSame(t, a, rowOf(1), false)
	}
}

// P11.1: what stands in the room behind a row's end is no part of it.
func TestSameSpareRoom(t *testing.T) {
	a, b := rowOf(4), rowOf(4)
	b[2], b[3] = api.Pay{}, api.Pay{ID: -1}
	checkSame(t, a, b, false)
	checkSame(t, a[:2], b[:2], true)
	checkSame(t, a[:2], b[:3], false)
	checkSame(t, a[:2], slices.Clip(b[:2]), true)
}

// P11.1: rows that share memory are held against each other as any others.
func TestSameSharedMemory(t *testing.T) {
	l := slices.Repeat(rowOf(1), 4)
	checkSame(t, l[:3], l[1:], true)
	l[3].Till++
	checkSame(t, l[:3], l[1:], false)
	checkSame(t, l[:2], l[1:3], true)
}

// W6: what is handed in stays as it was, and so does the room behind it.
func TestNothingIsChanged(t *testing.T) {
	r := rules()
	wide := append(r.Assets, api.Asset{Price: 30, Cut: 1}, api.Asset{Price: 40, Cut: 2})
	r.Assets = wide[:2]
	assets := slices.Clone(wide)
	for _, tick := range edges() {
		for _, f := range fields() {
			for _, n := range edges() {
				Check(r, tick, changed(func(p *api.Pay) { f.set(p, n) }))
			}
		}
	}
	if !slices.Equal(wide, assets) || len(r.Assets) != 2 {
		t.Errorf("assets %+v became %+v", assets, wide)
	}
	for _, change := range []func(p *api.Pay){func(*api.Pay) {}, func(p *api.Pay) { p.Till++ }} {
		a, b, was := rowOf(6), rowOf(6), rowOf(6)
		change(&b[1])
		change(&was[1])
		for n := range 6 {
			Same(a[:n], b[:3])
			Same(b[:3], a[:n])
		}
		if !slices.Equal(a, rowOf(6)) || !slices.Equal(b, was) {
			t.Errorf("rows became %+v and %+v", a, b)
		}
	}
}

// answers are those to many questions.
func answers(r api.Rules, l []api.Pay) (errs []api.Errno, bools []bool) {
	for _, p := range l {
		for _, tick := range edges() {
			errs = append(errs, Check(r, tick, p))
			bools = append(bools, Ready(p, tick), Late(p, tick))
		}
	}
	return errs, append(bools, Same(l, rowOf(3)), Same(l, nil))
}

// W2, W6: what was asked ahead does not matter, nor what becomes of a list that was handed in.
func TestNothingIsKept(t *testing.T) {
	l := rowOf(3)
	l[2] = ordinary()
	errs, bools := answers(rules(), l)
	r := rules()
	for range 3 {
		r.Parties, r.Cutoff, r.Close, r.Assets[0] = 1, 3, 4, api.Asset{}
		checkCheck(t, r, now, ordinary(), api.ErrArg)
		other := slices.Clone(l)
		checkSame(t, l, other, true)
		other[1].To++
		checkSame(t, l, other, false)
		other[1].To--
		checkSame(t, l, other, true)
		e, b := answers(rules(), l)
		if !slices.Equal(e, errs) || !slices.Equal(b, bools) {
			t.Error("asked once more, other answers came")
		}
	}
}
