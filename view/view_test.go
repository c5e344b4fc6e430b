package view

import (
	"math"
	"slices"
	"testing"

	"giro/api"
	"giro/row"
)

const (
	most     = math.MaxInt64
	least    = math.MinInt64
	mostInt  = math.MaxInt
	leastInt = math.MinInt
)

// timed is a payment of that time, whose other numbers hang on its ID, so that none may be lost or changed about unseen.
func timed(id int64, from, class int, start, till int64) api.Pay {
	return api.Pay{ID: id, From: from, To: from + 1, Amount: id ^ 1<<20, Class: class, Start: start, Till: till}
}

// now, later and over are payments that are ready from 3 to 9, behind that, and ahead of that.
func now(id int64, from, class int) api.Pay { return timed(id, from, class, 3, 9) }

func later(id int64, from, class int) api.Pay { return timed(id, from, class, 10, 20) }

func over(id int64, from, class int) api.Pay { return timed(id, from, class, 0, 2) }

// built is so many payments, told one by one by their place and an ID: the IDs of 40 rise and fall, none comes twice.
func built(many int, one func(i int, id int64) api.Pay) (l []api.Pay) {
	for i := range many {
		// 41 is a prime: it has no part with 7.
		l = append(l, one(i, int64(10*((i+1)*7%41)+1000*(i/40))))
	}
	return l
}

// upTo is a row of so many payments: 3 senders, of each all classes, with times that come and go. It is new at each call.
func upTo(many int) []api.Pay {
	return built(many, func(i int, id int64) api.Pay {
		group, start := 9*i/many, int64(i*7%11)
		return timed(id, group/3, 1+group%3, start, start+int64(i*5%4))
	})
}

// alike is so many payments of one From and Class.
func alike(many, from, class int) []api.Pay {
	return built(many, func(_ int, id int64) api.Pay { return now(id, from, class) })
}

// apart is so many payments, no two of one From and Class, their times one behind another.
func apart(many int) []api.Pay {
	return built(many, func(i int, id int64) api.Pay {
		return timed(id, i/3, 1+i%3, int64(i/5), int64(i/3+2))
	})
}

// normals is so many Normal payments of each of so many senders.
func normals(senders, each int) []api.Pay {
	return built(senders*each, func(i int, id int64) api.Pay { return now(id, i/each, api.Normal) })
}

// rows are lists that are rows, new ones at each call.
func rows() [][]api.Pay {
	l := [][]api.Pay{
		nil, {}, {{}}, {now(0, 0, 0)}, {now(5, 0, 1)}, {now(5, 0, 2)}, {now(5, 0, 3)}, {later(5, 0, 3)}, {over(5, 0, 3)},
		{timed(-1, -1, -1, -1, -1)}, {timed(most, mostInt, mostInt, most, most)}, {timed(least, leastInt, leastInt, least, least)},
		{timed(1, 0, 3, least, most)}, {timed(1, 0, 3, most, least)}, {timed(1, 0, 3, 5, 4)}, {timed(1, 1, 2, 1<<32, 1<<33)},
		{now(5, 1, 1), now(3, 1, 2)}, {now(3, 1, 2), now(5, 1, 3)}, {now(5, 1, 3), now(3, 1, 3)}, {now(5, 1, 3), now(3, 2, 1)},
		{now(3, 1, 2), now(5, 1, 3), now(4, 1, 3)}, {later(3, 1, 2), now(5, 1, 3), now(4, 1, 3)}, {over(3, 1, 1), later(6, 1, 2), now(5, 1, 3), over(7, 1, 3), now(4, 1, 3)},
		{now(1, leastInt, mostInt), now(2, -1, 3), now(3, 0, leastInt), now(4, 0, mostInt), now(5, mostInt, leastInt)},
		{now(6, leastInt, 3), now(7, leastInt, 3), now(8, -1, 3), now(9, -1, 3), now(4, mostInt, 3), now(5, mostInt, 3)},
		{now(1, 0, 3), now(2, 0, 3), now(3, 0, 4)}, {now(1, 0, 0), now(2, 0, 3), now(3, 0, 3)}, {now(1, 0, 4), now(2, 0, 4)}, {now(1, 0, 1<<32+3), now(2, 0, 1<<32+3)},
		normals(1, 40), normals(40, 1), normals(4, 10), normals(2, 3), append(normals(1, 39), now(5, 0, 4)), append(normals(3, 13), now(5, 2, 4)),
		{now(6, 39, 3), now(7, 40, 3), now(8, 41, 3), now(9, 41, 3), now(4, 299, 3), now(5, 299, 3), now(3, 300, 3)},
	}
	for _, many := range []int{1, 2, 3, 4, 5, 8, 9, 17, 18, 27, api.MaxPays - 1, api.MaxPays} {
		l = append(l, upTo(many), alike(many, 2, api.Urgent), alike(many, 0, api.Normal), apart(many))
	}
	return l
}

// ticks are those that payments' times hang on, and those at the edges.
func ticks() []int64 {
	l := []int64{least, least + 1, most - 1, most, 1<<32 + 5, 1<<33 + 1}
	for tick := int64(-2); tick < 23; tick++ {
		l = append(l, tick)
	}
	return l
}

// froms are those that the rows have, those beside them, and those at the edges.
func froms() []int {
	l := []int{leastInt, leastInt + 1, mostInt - 1, mostInt, 1 << 32, 1<<32 + 1}
	for from := -2; from < 42; from++ {
		l = append(l, from)
	}
	return l
}

// manys are numbers for Heads: none, few, as many as there may be, and more.
func manys() [][]int {
	return [][]int{
		nil, {}, {0}, {1}, {2}, {3}, {4}, {39}, {40}, {41}, {-1}, {mostInt}, {leastInt}, {1 << 32}, {1<<32 + 1}, {-1 << 32},
		{1, 1}, {0, 1}, {1, 0}, {0, 0}, {-1, 1}, {1, -1}, {2, 3}, {mostInt, mostInt}, {leastInt, mostInt}, {mostInt, leastInt},
		{1, 2, 3}, {3, 2, 1}, {0, 0, 1}, {0, 0, 2}, {0, 1, 0}, {1, 0, 1}, {5, 0, 5}, {-5, 9, -5}, {9, -9, 9}, {2, 2, 2}, {4, 4, 4}, {40, 40, 40},
		{0, 0, 0, 7}, {1, 1, 1, 1}, {1, 1, 1, 1, 1, 1, 1}, {0, 2, 0, 2, 0, 2}, {9, 9, 9, 9, 9, 9, 9, 9, 9, 9, 9, 9, 9, 9},
		slices.Repeat([]int{1}, 39), slices.Repeat([]int{1}, 40), slices.Repeat([]int{2}, 41), slices.Repeat([]int{mostInt}, 300), slices.Repeat([]int{-1}, 300),
	}
}

// What follows is what the document's words ask, told without the package: of each payment all others are gone through.

// count is how many payments of a list are such.
func count(l []api.Pay, is func(p api.Pay) bool) int {
	n := 0
	for _, p := range l {
		if is(p) {
			n++
		}
	}
	return n
}

// kept is all payments of a list that are such, each told with those ahead of it.
func kept(l []api.Pay, is func(p api.Pay, ahead []api.Pay) bool) (all []api.Pay) {
	for i, p := range l {
		if is(p, l[:i]) {
			all = append(all, p)
		}
	}
	return all
}

func readyOf(l []api.Pay, tick int64) []api.Pay {
	return kept(l, func(p api.Pay, _ []api.Pay) bool { return tick >= p.Start && tick <= p.Till })
}

func ofOf(l []api.Pay, from int) []api.Pay {
	return kept(l, func(p api.Pay, _ []api.Pay) bool { return p.From == from })
}

func mayOf(l []api.Pay, tick int64) []api.Pay {
	ready := readyOf(l, tick)
	return kept(ready, func(p api.Pay, ahead []api.Pay) bool {
		first := count(ahead, func(q api.Pay) bool { return q.From == p.From }) == 0
		others := count(ready, func(q api.Pay) bool { return q.From == p.From && q.Class != 3 })
		return first || p.Class == 3 && others == 0
	})
}

func headsOf(l []api.Pay, many []int) []api.Pay {
	return kept(l, func(p api.Pay, ahead []api.Pay) bool {
		if p.From < 0 || p.From >= len(many) {
			return false
		}
		return count(ahead, func(q api.Pay) bool { return q.From == p.From }) < many[p.From]
	})
}

// call is one of the package's calls, and what the words ask of it; its one argument left is the row.
type call struct {
	name string
	do   func(l []api.Pay) []api.Pay
	want func(l []api.Pay) []api.Pay
}

func callReady(tick int64) call {
	return call{"Ready",
		func(l []api.Pay) []api.Pay { return Ready(l, tick) },
		func(l []api.Pay) []api.Pay { return readyOf(l, tick) }}
}

func callOf(from int) call {
	return call{"Of",
		func(l []api.Pay) []api.Pay { return Of(l, from) },
		func(l []api.Pay) []api.Pay { return ofOf(l, from) }}
}

func callMay(tick int64) call {
	return call{"May",
		func(l []api.Pay) []api.Pay { return May(l, tick) },
		func(l []api.Pay) []api.Pay { return mayOf(l, tick) }}
}

func callHeads(many ...int) call {
	return call{"Heads",
		func(l []api.Pay) []api.Pay { return Heads(l, many...) },
		func(l []api.Pay) []api.Pay { return headsOf(l, many) }}
}

// calls are all calls, of all ticks, senders and numbers.
func calls() (l []call) {
	for _, tick := range ticks() {
		l = append(l, callReady(tick), callMay(tick))
	}
	for _, from := range froms() {
		l = append(l, callOf(from))
	}
	for _, many := range manys() {
		l = append(l, callHeads(many...))
	}
	return l
}

// fewCalls are some calls of each kind.
func fewCalls() []call {
	return []call{
		callReady(0), callReady(5), callReady(99), callMay(0), callMay(5), callMay(99), callOf(0), callOf(2), callOf(-1), callOf(77),
		callHeads(), callHeads(1), callHeads(1, 2, 3), callHeads(99, 99, 99), callHeads(0, -1, 40), callHeads(slices.Repeat([]int{1}, 40)...),
	}
}

// check holds what a call answers against payments that the test names.
func check(t *testing.T, l []api.Pay, c call, want []api.Pay) {
	t.Helper()
	was := slices.Clone(l)
	if got := c.do(l); !slices.Equal(got, want) {
		t.Errorf("%s of %v = %v, want %v", c.name, was, got, want)
	}
	if !slices.Equal(l, was) {
		t.Errorf("%s of %v changed it to %v", c.name, was, l)
	}
}

// checkTold holds what a call answers against the document's words.
func checkTold(t *testing.T, l []api.Pay, c call) {
	t.Helper()
	check(t, l, c, c.want(l))
}

// named is the payments of a row that have those IDs, in that order.
func named(l []api.Pay, ids ...int64) []api.Pay {
	picked := make([]api.Pay, 0, len(ids))
	for _, id := range ids {
		picked = append(picked, l[row.Find(l, id)])
	}
	return picked
}

// checkNamed holds what a call answers against the payments of the row that have those IDs.
func checkNamed(t *testing.T, l []api.Pay, c call, ids ...int64) {
	t.Helper()
	check(t, l, c, named(l, ids...))
}

// What the tests take as rows are rows.
func TestRowsAreRows(t *testing.T) {
	for _, l := range rows() {
		if !row.Is(l) {
			t.Errorf("%v is no row", l)
		}
	}
}

// P14.1: each call of each row.
func TestCallsAreAsTold(t *testing.T) {
	for _, l := range rows() {
		for _, c := range calls() {
			checkTold(t, l, c)
		}
	}
}

// P14.1, W5: of no payment there are none, whether the list is nil or empty.
func TestOfNothing(t *testing.T) {
	for _, l := range [][]api.Pay{nil, {}, make([]api.Pay, 0, 5), upTo(3)[:0], upTo(3)[3:]} {
		for _, c := range calls() {
			check(t, l, c, nil)
		}
	}
}

// P14.1: one is ready from the tick of its Start to that of its Till, not one ahead, not one behind.
func TestReadyInItsTime(t *testing.T) {
	for _, x := range []struct{ start, between, till int64 }{
		{0, 0, 0}, {0, 0, 1}, {3, 3, 3}, {3, 4, 5}, {-5, -4, -3}, {-1, 0, 1}, {0, 9, api.MaxTick}, {1 << 32, 1<<32 + 1, 1<<32 + 2},
		{least + 1, 0, most - 1}, {most - 1, most - 1, most - 1}, {least + 1, least + 1, least + 1},
	} {
		l := []api.Pay{timed(1, 0, 3, x.start, x.till)}
		check(t, l, callReady(x.start-1), nil)
		check(t, l, callReady(x.start), l)
		check(t, l, callReady(x.between), l)
		check(t, l, callReady(x.till), l)
		check(t, l, callReady(x.till+1), nil)
		check(t, l, callMay(x.start-1), nil)
		check(t, l, callMay(x.start), l)
		check(t, l, callMay(x.till), l)
		check(t, l, callMay(x.till+1), nil)
	}
	for _, tick := range ticks() {
		check(t, []api.Pay{timed(1, 0, 3, least, most)}, callReady(tick), []api.Pay{timed(1, 0, 3, least, most)})
		check(t, []api.Pay{timed(1, 0, 3, 5, 4)}, callReady(tick), nil)
		check(t, []api.Pay{timed(1, 0, 3, most, least)}, callReady(tick), nil)
	}
}

// P14.1: none that is ready, all, some in order, whoever sends them and of whatever class.
func TestReady(t *testing.T) {
	l := []api.Pay{
		timed(9, 0, 1, 2, 4), timed(2, 0, 3, 0, 9), timed(7, 0, 3, 5, 5), timed(1, 1, 2, 4, 6),
		timed(8, 1, 2, 2, 4), timed(3, 3, 1, 0, 3), timed(6, 3, 3, 3, 7), timed(4, 5, 3, 4, 4),
	}
	for tick, ids := range map[int64][]int64{
		-1: nil, 0: {2, 3}, 1: {2, 3}, 2: {9, 2, 8, 3}, 3: {9, 2, 8, 3, 6}, 4: {9, 2, 1, 8, 6, 4}, 5: {2, 7, 1, 6}, 6: {2, 1, 6}, 7: {2, 6}, 8: {2}, 9: {2}, 10: nil, 1 << 32: nil,
	} {
		checkNamed(t, l, callReady(tick), ids...)
	}
	for _, many := range []int{1, 2, 9, 40} {
		for _, l := range [][]api.Pay{alike(many, 0, 1), alike(many, 3, 3), normals(many, 1), normals(1, many)} {
			check(t, l, callReady(2), nil)
			check(t, l, callReady(3), l)
			check(t, l, callReady(9), l)
			check(t, l, callReady(10), nil)
			for i := range l {
				some := slices.Clone(l)
				some[i].Start = 4
				check(t, some, callReady(3), slices.Delete(slices.Clone(l), i, i+1))
				some[i].Start, some[i].Till = 3, 8
				check(t, some, callReady(9), slices.Delete(slices.Clone(l), i, i+1))
			}
		}
	}
}

// P14.1: none of that From, all, some in order, ready or not; a From below 0, one beyond all.
func TestOf(t *testing.T) {
	l := []api.Pay{
		now(5, -3, 1), now(9, 0, 1), over(2, 0, 3), later(7, 0, 3), now(1, 1, 2), now(8, 3, 2), now(3, 3, 2), now(6, 3, 3), now(4, 7, 3),
	}
	for from, ids := range map[int][]int64{
		-3: {5}, 0: {9, 2, 7}, 1: {1}, 3: {8, 3, 6}, 7: {4},
		-4: nil, -2: nil, -1: nil, 2: nil, 4: nil, 6: nil, 8: nil, mostInt: nil, leastInt: nil, 1 << 32: nil, 1<<32 + 1: nil, 1<<32 - 3: nil, -7: nil,
	} {
		checkNamed(t, l, callOf(from), ids...)
	}
	for _, from := range []int{leastInt, -1, 0, 1, 5, mostInt} {
		for _, many := range []int{1, 2, 40} {
			l := alike(many, from, api.Urgent)
			check(t, l, callOf(from), l)
			check(t, l, callOf(from^1), nil)
			check(t, l, callOf(from^1<<32), nil)
			check(t, l, callOf(from^leastInt), nil)
		}
	}
}

// P14.1: the document's example: an Urgent, a Normal one of 0.
func TestMayExample(t *testing.T) {
	check(t, []api.Pay{now(2, 0, api.Urgent), now(1, 0, api.Normal)}, callMay(5), []api.Pay{now(2, 0, api.Urgent)})
}

// P14.1: of one From all Normal ones, if there are no others that are ready; else the first one alone.
func TestMayOfOne(t *testing.T) {
	for _, x := range []struct {
		l   []api.Pay
		ids []int64
	}{
		{[]api.Pay{now(1, 0, 3)}, []int64{1}}, {[]api.Pay{now(1, 0, 2)}, []int64{1}}, {[]api.Pay{now(1, 0, 1)}, []int64{1}},
		{[]api.Pay{now(2, 0, 3), now(1, 0, 3)}, []int64{2, 1}}, {[]api.Pay{now(2, 0, 3), now(1, 0, 3), now(3, 0, 3)}, []int64{2, 1, 3}},
		{[]api.Pay{now(2, 0, 2), now(1, 0, 2)}, []int64{2}}, {[]api.Pay{now(2, 0, 1), now(1, 0, 1), now(3, 0, 1)}, []int64{2}},
		{[]api.Pay{now(2, 0, 2), now(1, 0, 3)}, []int64{2}}, {[]api.Pay{now(2, 0, 2), now(1, 0, 3), now(3, 0, 3)}, []int64{2}},
		{[]api.Pay{now(2, 0, 1), now(1, 0, 3), now(3, 0, 3)}, []int64{2}}, {[]api.Pay{now(2, 0, 1), now(1, 0, 2), now(3, 0, 3), now(4, 0, 3)}, []int64{2}},
		{[]api.Pay{now(2, 0, 1), now(1, 0, 2)}, []int64{2}},
		// What is not ready holds nothing back, and is not told.
		{[]api.Pay{later(2, 0, 1), now(1, 0, 3), now(3, 0, 3)}, []int64{1, 3}}, {[]api.Pay{over(2, 0, 2), now(1, 0, 3), now(3, 0, 3)}, []int64{1, 3}},
		{[]api.Pay{over(5, 0, 1), later(2, 0, 2), now(1, 0, 3), over(6, 0, 3), now(3, 0, 3)}, []int64{1, 3}},
		{[]api.Pay{later(2, 0, 1), now(1, 0, 2), now(3, 0, 3)}, []int64{1}}, {[]api.Pay{over(2, 0, 1), now(4, 0, 1), now(1, 0, 2), now(3, 0, 3)}, []int64{4}},
		{[]api.Pay{now(2, 0, 1), later(1, 0, 2), now(3, 0, 3)}, []int64{2}}, {[]api.Pay{now(2, 0, 2), later(1, 0, 3), over(3, 0, 3)}, []int64{2}},
		{[]api.Pay{later(2, 0, 1), later(1, 0, 2), over(3, 0, 3)}, nil}, {[]api.Pay{later(1, 0, 3), over(3, 0, 3)}, nil},
		{[]api.Pay{later(1, 0, 3), now(2, 0, 3), over(3, 0, 3), now(4, 0, 3), later(5, 0, 3)}, []int64{2, 4}},
		// A row takes any class (13): another than Normal is another, also behind it.
		{[]api.Pay{now(1, 0, 0), now(2, 0, 3), now(3, 0, 3)}, []int64{1}}, {[]api.Pay{now(1, 0, 3), now(2, 0, 3), now(3, 0, 4)}, []int64{1}},
		{[]api.Pay{now(1, 0, 3), now(2, 0, 3), later(3, 0, 4)}, []int64{1, 2}}, {[]api.Pay{now(1, 0, 4), now(2, 0, 4)}, []int64{1}},
		{[]api.Pay{now(1, 0, leastInt), now(2, 0, 3)}, []int64{1}}, {[]api.Pay{now(1, 0, 3), now(2, 0, 3), now(3, 0, mostInt)}, []int64{1}},
		{[]api.Pay{now(1, 0, -3), now(2, 0, -3)}, []int64{1}}, {[]api.Pay{now(1, 0, 1<<32+3), now(2, 0, 1<<32+3)}, []int64{1}},
	} {
		for _, from := range []int{0, 1, 5, -1, mostInt, leastInt} {
			l := slices.Clone(x.l)
			for i := range l {
				l[i].From = from
			}
			for _, tick := range []int64{3, 6, 9} {
				checkNamed(t, l, callMay(tick), x.ids...)
			}
		}
	}
}

// P14.1: several senders, each of another kind, in order, each once.
func TestMayOfSeveral(t *testing.T) {
	l := []api.Pay{
		now(31, 0, 1), now(12, 0, 2), now(13, 0, 3), // the Top one alone
		now(22, 1, 3), now(21, 1, 3), now(29, 1, 3), // all
		later(6, 2, 1), now(37, 2, 2), now(32, 2, 3), // the Urgent one alone
		later(41, 3, 1), over(48, 3, 2), now(42, 3, 3), later(43, 3, 3), now(40, 3, 3), // 42, 40
		later(51, 4, 2), over(52, 4, 3), // none
		now(61, 6, 2), now(60, 6, 2), // the first
		now(71, 7, 3), // it
	}
	checkNamed(t, l, callMay(5), 31, 22, 21, 29, 37, 42, 40, 61, 71)
	checkNamed(t, l, callMay(15), 6, 41, 51)
	checkNamed(t, l, callMay(1), 48, 52)
	checkNamed(t, l, callMay(25))
	checkNamed(t, l, callMay(-1))
	for _, many := range []int{1, 2, 3, 20} {
		all := normals(many, 2)
		check(t, all, callMay(5), all)
		for i := range many {
			// One sender's first one is Urgent: it alone loses its second.
			some := slices.Clone(all)
			some[2*i].Class = api.Urgent
			check(t, some, callMay(5), slices.Delete(slices.Clone(some), 2*i+1, 2*i+2))
		}
	}
}

// P14.1: no number at all: none; 0, and below 0: none of that From.
func TestHeadsOfNone(t *testing.T) {
	l := []api.Pay{now(5, 0, 1), now(3, 0, 3), now(4, 1, 3), now(2, 1, 3)}
	check(t, l, callHeads(), nil)
	if got := Heads(l); len(got) != 0 {
		t.Errorf("Heads without a number = %v", got)
	}
	for _, n := range []int{0, -1, -2, -40, leastInt, leastInt + 1, -1 << 32} {
		check(t, l, callHeads(n), nil)
		check(t, l, callHeads(n, n), nil)
		check(t, l, callHeads(n, n, n, n), nil)
		checkNamed(t, l, callHeads(n, 1), 4)
		checkNamed(t, l, callHeads(n, 9), 4, 2)
		checkNamed(t, l, callHeads(1, n), 5)
		checkNamed(t, l, callHeads(9, n), 5, 3)
	}
}

// P14.1: fewer than there are, as many, more: the first ones, ready or not, of whatever class.
func TestHeadsOfOne(t *testing.T) {
	for from := range 7 {
		for _, l := range [][]api.Pay{
			{now(8, from, 1)}, {now(8, from, 1), over(9, from, 2), later(2, from, 3), now(1, from, 3), now(5, from, 3)},
			alike(5, from, 3), alike(40, from, 2), alike(40, from, 1),
		} {
			for _, n := range []int{-1, 0, 1, 2, 3, 4, 5, 6, 39, 40, 41, 1 << 32, mostInt} {
				want := l[:min(max(n, 0), len(l))]
				many := append(make([]int, from), n)
				check(t, l, callHeads(many...), want)
				check(t, l, callHeads(append(many, 7)...), want)
				check(t, l, callHeads(append(many, 0, 0, -1)...), want)
				check(t, l, callHeads(append(slices.Repeat([]int{9}, from), n)...), want)
			}
		}
	}
}

// P14.1: a From beyond the numbers and one below 0 have none; a From in between with none takes no number from the next.
func TestHeadsOfSeveral(t *testing.T) {
	l := []api.Pay{
		now(91, leastInt, 3), now(92, -2, 3), now(93, -1, 3), now(94, -1, 3), now(3, 0, 1), now(1, 0, 3), now(2, 0, 3),
		now(15, 1, 2), now(12, 1, 3), now(39, 3, 3), now(32, 3, 3), now(31, 3, 3), now(38, 3, 3), now(51, 5, 1), now(99, 1<<32, 3), now(98, mostInt, 3),
	}
	for _, x := range []struct{ many, ids []int64 }{
		{[]int64{1}, []int64{3}}, {[]int64{2, 1}, []int64{3, 1, 15}}, {[]int64{9, 9}, []int64{3, 1, 2, 15, 12}}, {[]int64{0, 2}, []int64{15, 12}},
		{[]int64{1, 1, 1}, []int64{3, 15}}, {[]int64{1, 1, 1, 1}, []int64{3, 15, 39}}, {[]int64{0, 0, 9, 2}, []int64{39, 32}}, {[]int64{0, 0, 0, 4}, []int64{39, 32, 31, 38}},
		{[]int64{3, 2, 0, 3}, []int64{3, 1, 2, 15, 12, 39, 32, 31}}, {[]int64{2, 0, 0, 1, 1}, []int64{3, 1, 39}}, {[]int64{2, 0, 0, 1, 1, 1}, []int64{3, 1, 39, 51}},
		{[]int64{-1, -1, -1, -1, -1, 1, 5}, []int64{51}}, {[]int64{9, 9, 9, 9, 9, 9, 9, 9}, []int64{3, 1, 2, 15, 12, 39, 32, 31, 38, 51}},
	} {
		var many []int
		for _, n := range x.many {
			many = append(many, int(n))
		}
		checkNamed(t, l, callHeads(many...), x.ids...)
	}
}

// Ways: Heads takes its numbers one by one, or as a list.
func TestHeadsIsVariadic(t *testing.T) {
	l := []api.Pay{now(3, 0, 1), now(1, 0, 3), now(15, 1, 2), now(12, 1, 3), now(25, 2, 3)}
	for _, x := range []struct {
		got []api.Pay
		ids []int64
	}{
		{Heads(l), nil}, {Heads(l, nil...), nil}, {Heads(l, []int{}...), nil}, {Heads(l, 1), []int64{3}}, {Heads(l, []int{1}...), []int64{3}},
		{Heads(l, 1, 2), []int64{3, 15, 12}}, {Heads(l, []int{1, 2}...), []int64{3, 15, 12}}, {Heads(l, 2, 0, 1), []int64{3, 1, 25}}, {Heads(l, []int{2, 0, 1}...), []int64{3, 1, 25}},
		// What stands in the room behind the numbers is none of them.
		{Heads(l, []int{2, 0, 1}[:1]...), []int64{3, 1}}, {Heads(l, []int{9, 1, 1}[1:]...), []int64{3, 15}}, {Heads(l, []int{9, 9}[:0]...), nil},
	} {
		if want := named(l, x.ids...); !slices.Equal(x.got, want) {
			t.Errorf("%v, want %v", x.got, want)
		}
	}
}

// lists is all lists of up to so many of what is handed in.
func lists[T any](many int, of ...T) [][]T {
	all, last := [][]T{nil}, [][]T{nil}
	for range many {
		var longer [][]T
		for _, l := range last {
			for _, x := range of {
				longer = append(longer, append(slices.Clone(l), x))
			}
		}
		all, last = append(all, longer...), longer
	}
	return all
}

// small is all rows of up to so many payments of 2 senders, 4 classes and 3 times: at 5 they are over, ready, or not yet ready. Their IDs fall.
func small(many int) (l [][]api.Pay) {
	var of []api.Pay
	for n := range 8 {
		from, class := n/4, 1+n%4
		of = append(of, over(0, from, class), now(0, from, class), later(0, from, class))
	}
	for _, such := range lists(many, of...) {
		for i := range such {
			such[i].ID = int64(9 - i)
		}
		if row.Is(such) {
			l = append(l, such)
		}
	}
	return l
}

// P14.1: all short rows, with all calls.
func TestSmallRows(t *testing.T) {
	var each []call
	for _, tick := range []int64{2, 5, 10} {
		each = append(each, callReady(tick), callMay(tick))
	}
	for from := -1; from < 3; from++ {
		each = append(each, callOf(from))
	}
	for _, l := range small(4) {
		for _, c := range each {
			checkTold(t, l, c)
		}
	}
	for _, l := range small(3) {
		for _, many := range lists(3, -1, 0, 1, 2, 3) {
			checkTold(t, l, callHeads(many...))
		}
	}
}

// P14.1: what stands in the room behind the end is none of them.
func TestSpareRoom(t *testing.T) {
	l := []api.Pay{now(1, 0, 3), now(2, 0, 3), now(3, 0, 4), now(4, 1, 3)}
	checkNamed(t, l, callMay(5), 1, 4)
	for n, ids := range [][]int64{nil, {1}, {1, 2}} {
		for _, c := range []call{callReady(5), callMay(5), callOf(0), callHeads(9, 9)} {
			check(t, l[:n], c, named(l, ids...))
		}
	}
	check(t, l[3:], callMay(5), l[3:])
	check(t, l[1:], callHeads(1), l[1:2])
}

// P14.1, P14.2: of each row, at each tick: what may go is ready, in order, and each once; who has one that is ready has one that may go.
func TestMayIsReady(t *testing.T) {
	for _, l := range rows() {
		for _, tick := range ticks() {
			ready, may := Ready(l, tick), May(l, tick)
			last := -1
			for _, p := range may {
				at := row.Find(l, p.ID)
				if at <= last || l[at] != p || tick < p.Start || tick > p.Till || !slices.Contains(ready, p) {
					t.Errorf("May(%v, %d) = %v: not so of %v", l, tick, may, p)
				}
				last = at
			}
			for _, p := range ready {
				if len(Of(may, p.From)) == 0 {
					t.Errorf("May(%v, %d) = %v: none of %d", l, tick, may, p.From)
				}
			}
			if !row.Is(ready) || !row.Is(may) || !slices.Equal(Ready(ready, tick), ready) || !slices.Equal(May(may, tick), may) {
				t.Errorf("%v at %d: %v, %v", l, tick, ready, may)
			}
		}
	}
}

// P14.1: what is Of each From, one behind another, is all; and so are enough Heads.
func TestAllTogether(t *testing.T) {
	for _, such := range rows() {
		l := slices.DeleteFunc(slices.Clone(such), func(p api.Pay) bool { return p.From < 0 || p.From > 40 })
		var all []api.Pay
		many := make([]int, 41)
		for from := range many {
			of := Of(l, from)
			all = append(all, of...)
			many[from] = len(of)
		}
		if !slices.Equal(all, l) || !slices.Equal(Heads(l, many...), l) {
			t.Errorf("of %v: %v, %v", l, all, Heads(l, many...))
		}
		for from := range many {
			if many[from] > 0 {
				many[from]--
				lacks := row.Find(l, Of(l, from)[many[from]].ID)
				check(t, l, callHeads(many...), slices.Delete(slices.Clone(l), lacks, lacks+1))
				many[from]++
			}
		}
	}
}

// P14.1: rows that are put one by one, by a rule that goes through senders, classes and times.
func TestManyRows(t *testing.T) {
	n := uint64(1)
	next := func(below uint64) int64 {
		n = n*6364136223846793005 + 1442695040888963407
		return int64(n >> 33 % below)
	}
	for range 1500 {
		var l []api.Pay
		classes := 1 + next(3)
		for range next(41) {
			start := next(12)
			p := timed(next(1000), int(next(6)), int(3-next(uint64(classes))), start, start+next(12))
			l, _ = row.Put(l, p)
		}
		for _, tick := range []int64{0, next(24), next(24), 5, 11} {
			checkTold(t, l, callReady(tick))
			checkTold(t, l, callMay(tick))
		}
		for from := range 6 {
			checkTold(t, l, callOf(from))
		}
		many := make([]int, next(8))
		for i := range many {
			many[i] = int(next(10)) - 1
		}
		checkTold(t, l, callHeads(many...))
	}
}

// spare is l with room behind its end, filled, and all of that memory.
func spare(l []api.Pay, room int) (with, whole []api.Pay) {
	whole = slices.Concat(l, slices.Repeat([]api.Pay{now(-77, 0, 2)}, room))
	return whole[:len(l)], whole
}

// fill sets all of l's memory, the room behind its end too.
func fill(l []api.Pay) {
	l = l[:cap(l)]
	for i := range l {
		l[i] = now(-99, -9, -9)
	}
}

// eachCall goes through few calls of each row, with each room behind the row's end.
func eachCall(do func(such []api.Pay, room int, c call)) {
	for _, such := range rows() {
		for _, room := range []int{0, 1, 2, 50} {
			for _, c := range fewCalls() {
				do(such, room, c)
			}
		}
	}
}

// P14.2, W6: what is handed in stays as it was, and so does the room behind its end.
func TestNothingIsChanged(t *testing.T) {
	eachCall(func(such []api.Pay, room int, c call) {
		l, whole := spare(such, room)
		was := slices.Clone(whole)
		c.do(l)
		if !slices.Equal(whole, was) {
			t.Fatalf("%s of %v made %v of %v", c.name, such, whole, was)
		}
	})
}

// W6: the numbers that Heads is handed as a list stay as they were, and so does the room behind their end.
func TestNumbersAreNotChanged(t *testing.T) {
	for _, l := range rows() {
		for _, such := range manys() {
			whole := slices.Concat(such, []int{7, 7, 7})
			was := slices.Clone(whole)
			got := Heads(l, whole[:len(such)]...)
			if !slices.Equal(whole, was) {
				t.Fatalf("Heads of %v made %v of %v", l, whole, was)
			}
			clear(whole)
			if want := headsOf(l, such); !slices.Equal(got, want) {
				t.Fatalf("Heads(%v, %v) became %v, want %v", l, such, got, want)
			}
		}
	}
}

// P14.2, W6: what is answered is new memory, spare room too: what is done to it is not to be seen in what was handed in.
func TestAnswersAreNewMemory(t *testing.T) {
	eachCall(func(such []api.Pay, room int, c call) {
		l, whole := spare(such, room)
		was := slices.Clone(whole)
		fill(c.do(l))
		if !slices.Equal(whole, was) {
			t.Fatalf("%s of %v: what is done to the answer made %v of %v", c.name, such, whole, was)
		}
	})
}

// P14.2, W6, W7: what is handed in is not kept: what is done to it later is not to be seen in what was answered.
func TestNothingIsKept(t *testing.T) {
	eachCall(func(such []api.Pay, room int, c call) {
		l, whole := spare(such, room)
		want := c.want(such)
		got := c.do(l)
		fill(whole)
		if !slices.Equal(got, want) {
			t.Fatalf("%s of %v became %v, want %v", c.name, such, got, want)
		}
	})
}

// W2, W6, W7: two answers share nothing, and stay what they are whatever is called later.
func TestAnswersShareNothing(t *testing.T) {
	eachCall(func(such []api.Pay, _ int, c call) {
		want := c.want(such)
		one, two := c.do(such), c.do(such)
		fill(one)
		three := c.do(such)
		for _, later := range fewCalls() {
			fill(later.do(two))
		}
		for _, got := range [][]api.Pay{two, three} {
			if !slices.Equal(got, want) {
				t.Fatalf("%s of %v became %v, want %v", c.name, such, got, want)
			}
		}
	})
}

// W2: an answer doesn't hang on the room behind a row's end, nor on what was asked ahead.
func TestAnswersHangOnTheArguments(t *testing.T) {
	eachCall(func(such []api.Pay, room int, c call) {
		l, _ := spare(such, room)
		checkTold(t, l, c)
		checkTold(t, l[:len(l)/2], c)
		checkTold(t, l[len(l)/2:], c)
	})
}

// W1, W6: lists that are no rows are asked without a panic, of any length, and stay as they were.
func TestListsThatAreNoRows(t *testing.T) {
	back := upTo(9)
	slices.Reverse(back)
	for _, such := range [][]api.Pay{
		{now(1, 1, 1), now(2, 0, 1)}, {now(1, 1, 2), now(2, 1, 1)}, {now(1, 1, 1), now(1, 1, 1)}, {now(1, 0, 3), now(2, 1, 3), now(1, 0, 2)},
		{{}, {}}, {now(most, mostInt, 1), now(least, leastInt, 1)}, back, upTo(41), alike(41, 0, 3), alike(1000, 0, 1), upTo(1 << 16),
		alike(1<<16, 0, 3), normals(1<<16, 1), slices.Repeat([]api.Pay{now(7, 1, 1)}, 40), slices.Repeat(upTo(3), 30),
	} {
		if row.Is(such) {
			t.Errorf("%v is a row", such)
		}
		l, whole := spare(such, 3)
		was := slices.Clone(whole)
		for _, c := range append(fewCalls(), callReady(least), callReady(most), callMay(least), callMay(most), callOf(leastInt), callOf(mostInt), callHeads(leastInt, mostInt), callHeads(make([]int, 1<<17)...)) {
			fill(c.do(l))
		}
		if !slices.Equal(whole, was) {
			t.Errorf("a list of %d became another", len(such))
		}
	}
}
