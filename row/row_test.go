package row

import (
	"math"
	"slices"
	"testing"

	"giro/api"
)

const (
	most     = math.MaxInt64
	least    = math.MinInt64
	mostInt  = math.MaxInt
	leastInt = math.MinInt
)

// pay is a payment whose other numbers hang on its ID, so that none may be lost or changed about unseen.
func pay(id int64, from, class int) api.Pay {
	return api.Pay{ID: id, From: from, To: from + 1, Amount: id ^ 1<<20, Class: class, Start: id + 3, Till: id ^ 1<<30}
}

// classed is p with another class.
func classed(p api.Pay, class int) api.Pay {
	p.Class = class
	return p
}

// upTo is a row of so many payments, their IDs 10 apart, falling and rising by turns: 3 senders, of each all classes. It is new at each call.
func upTo(many int) []api.Pay {
	l := make([]api.Pay, many)
	for i := range l {
		group := 9 * i / many
		id := int64(10 * (i + 1))
		if group%2 == 1 {
			id = int64(10 * (1000 - i))
		}
		l[i] = pay(id, group/3, 1+group%3)
	}
	return l
}

// alike is so many payments of one From and Class, their IDs falling.
func alike(many, from, class int) []api.Pay {
	l := make([]api.Pay, many)
	for i := range l {
		l[i] = pay(int64(10*(many-i)), from, class)
	}
	return l
}

// apart is so many payments, no two of one From and Class.
func apart(many int) []api.Pay {
	l := make([]api.Pay, many)
	for i := range l {
		// 41 is a prime: each of 1 to 40 comes once.
		l[i] = pay(int64(10*((i+1)*7%41)), i/3, 1+i%3)
	}
	return l
}

// sizes are counts of payments that there may be: none, few, and as many as may be.
func sizes() []int {
	return []int{0, 1, 2, 3, 4, 5, 8, 9, 17, 18, 27, api.MaxPays - 2, api.MaxPays - 1, api.MaxPays}
}

// rows are lists that are rows, new ones at each call.
func rows() [][]api.Pay {
	l := [][]api.Pay{
		nil, {}, {{}}, {pay(0, 0, 0)}, {pay(-1, -1, -1)}, {pay(most, mostInt, mostInt)}, {pay(least, leastInt, leastInt)},
		{pay(5, 1, 1), pay(3, 1, 2)}, {pay(3, 1, 1), pay(5, 1, 1)}, {pay(5, 1, 1), pay(3, 1, 1)}, {pay(5, 1, 3), pay(3, 2, 1)},
		{pay(1, leastInt, mostInt), pay(2, -1, 3), pay(3, 0, leastInt), pay(4, 0, mostInt), pay(5, mostInt, leastInt)},
		{pay(least, 0, 1), pay(0, 0, 1), pay(most, 0, 1), pay(-1, 0, 1)},
		{pay(1, 1, leastInt), pay(2, 1, -1), pay(1<<32, 1, 0), pay(1<<32+1, 1, 1), pay(4, 1, mostInt)},
	}
	for _, many := range sizes() {
		l = append(l, upTo(many), alike(many, 2, api.Urgent), apart(many))
	}
	return l
}

// ids are numbers that are there, first, between and last, those beside them, and numbers at the edges.
func ids(l []api.Pay) []int64 {
	ids := []int64{least, -1, 0, 1, 7, 1 << 32, most}
	if many := len(l); many > 0 {
		for _, at := range []int{0, 1 % many, many / 3, many / 2, many - 1} {
			ids = append(ids, l[at].ID, l[at].ID+1, -l[at].ID)
		}
	}
	return ids
}

// froms and classes are those that the rows have, and those at the edges.
func froms() []int { return []int{leastInt, -1, 0, 1, 2, 3, 13, mostInt} }

func classes() []int { return []int{leastInt, -1, 0, 1, 2, 3, 4, mostInt} }

// What follows is what the document's words ask, told without the package: payments are gone through one by one.

// before tells whether a stands ahead of b by From and Class alone.
func before(a, b api.Pay) bool {
	return a.From < b.From || a.From == b.From && a.Class < b.Class
}

func isOf(l []api.Pay) bool {
	for i, p := range l {
		for _, ahead := range l[:i] {
			if ahead.ID == p.ID || before(p, ahead) {
				return false
			}
		}
	}
	return len(l) <= 40
}

func findOf(l []api.Pay, id int64) int {
	for i, p := range l {
		if p.ID == id {
			return i
		}
	}
	return -1
}

// filter is all payments of a list that are such.
func filter(l []api.Pay, is func(p api.Pay) bool) (such []api.Pay) {
	for _, p := range l {
		if is(p) {
			such = append(such, p)
		}
	}
	return such
}

// laid is l with p, ahead or behind all others of its From and Class.
func laid(l []api.Pay, p api.Pay, front bool) []api.Pay {
	ahead := filter(l, func(q api.Pay) bool { return before(q, p) })
	same := filter(l, func(q api.Pay) bool { return q.From == p.From && q.Class == p.Class })
	behind := filter(l, func(q api.Pay) bool { return before(p, q) })
	if front {
		return slices.Concat(ahead, []api.Pay{p}, same, behind)
	}
	return slices.Concat(ahead, same, []api.Pay{p}, behind)
}

func putOf(l []api.Pay, p api.Pay) ([]api.Pay, api.Errno) {
	if findOf(l, p.ID) >= 0 {
		return l, api.ErrHas
	}
	if len(l) >= 40 {
		return l, api.ErrFull
	}
	return laid(l, p, false), api.OK
}

func dropOf(l []api.Pay, id int64) ([]api.Pay, api.Pay, api.Errno) {
	at := findOf(l, id)
	if at < 0 {
		return l, api.Pay{}, api.ErrNone
	}
	return filter(l, func(p api.Pay) bool { return p.ID != id }), l[at], api.OK
}

// laidAnew is l with one of it, changed, laid among the others.
func laidAnew(l []api.Pay, id int64, front bool, change func(p api.Pay) api.Pay) ([]api.Pay, api.Errno) {
	rest, p, e := dropOf(l, id)
	if e != api.OK {
		return l, e
	}
	return laid(rest, change(p), front), api.OK
}

func asItIs(p api.Pay) api.Pay { return p }

func frontOf(l []api.Pay, id int64) ([]api.Pay, api.Errno) { return laidAnew(l, id, true, asItIs) }

func backOf(l []api.Pay, id int64) ([]api.Pay, api.Errno) { return laidAnew(l, id, false, asItIs) }

func classOf(l []api.Pay, id int64, class int) ([]api.Pay, api.Errno) {
	return laidAnew(l, id, false, func(p api.Pay) api.Pay { return classed(p, class) })
}

// call is one of the package's calls that answers a row, and what the words ask of it.
type call struct {
	name string
	do   func(l []api.Pay) ([]api.Pay, api.Errno)
	want func(l []api.Pay) ([]api.Pay, api.Errno)
}

// callPut, callDrop, callFront, callBack and callClass are calls whose one argument left is the row.
func callPut(p api.Pay) call {
	return call{"Put",
		func(l []api.Pay) ([]api.Pay, api.Errno) { return Put(l, p) },
		func(l []api.Pay) ([]api.Pay, api.Errno) { return putOf(l, p) }}
}

func callDrop(id int64) call {
	return call{"Drop",
		func(l []api.Pay) ([]api.Pay, api.Errno) { rest, _, e := Drop(l, id); return rest, e },
		func(l []api.Pay) ([]api.Pay, api.Errno) { rest, _, e := dropOf(l, id); return rest, e }}
}

func callFront(id int64) call {
	return call{"Front",
		func(l []api.Pay) ([]api.Pay, api.Errno) { return Front(l, id) },
		func(l []api.Pay) ([]api.Pay, api.Errno) { return frontOf(l, id) }}
}

func callBack(id int64) call {
	return call{"Back",
		func(l []api.Pay) ([]api.Pay, api.Errno) { return Back(l, id) },
		func(l []api.Pay) ([]api.Pay, api.Errno) { return backOf(l, id) }}
}

func callClass(id int64, class int) call {
	return call{"Class",
		func(l []api.Pay) ([]api.Pay, api.Errno) { return Class(l, id, class) },
		func(l []api.Pay) ([]api.Pay, api.Errno) { return classOf(l, id, class) }}
}

// calls are all calls of a row with an ID, with several senders and classes.
func calls(id int64) []call {
	l := []call{callDrop(id), callFront(id), callBack(id)}
	for _, class := range classes() {
		l = append(l, callClass(id, class))
		for _, from := range froms() {
			l = append(l, callPut(pay(id, from, class)))
		}
	}
	return l
}

// fewCalls are one call of each kind, and two where a place matters.
func fewCalls(id int64) []call {
	return []call{
		callDrop(id), callFront(id), callBack(id), callClass(id, api.Top), callClass(id, api.Normal),
		callPut(pay(id, -1, 1)), callPut(pay(id, 1, api.Urgent)), callPut(pay(id, 2, api.Urgent)), callPut(pay(id, 99, 3)),
	}
}

func checkIs(t *testing.T, l []api.Pay, want bool) {
	t.Helper()
	if got := Is(l); got != want {
		t.Errorf("Is(%v) = %v, want %v", l, got, want)
	}
}

func checkFind(t *testing.T, l []api.Pay, id int64, want int) {
	t.Helper()
	if got := Find(l, id); got != want {
		t.Errorf("Find(%v, %d) = %d, want %d", l, id, got, want)
	}
}

func checkDrop(t *testing.T, l []api.Pay, id int64, want []api.Pay, p api.Pay, e api.Errno) {
	t.Helper()
	if got, q, err := Drop(l, id); !slices.Equal(got, want) || q != p || err != e {
		t.Errorf("Drop(%v, %d) = %v, %v, %d; want %v, %v, %d", l, id, got, q, err, want, p, e)
	}
}

// check holds what a call answers against a row and an error that the test names.
func check(t *testing.T, l []api.Pay, c call, want []api.Pay, e api.Errno) {
	t.Helper()
	was := slices.Clone(l)
	if got, err := c.do(l); !slices.Equal(got, want) || err != e {
		t.Errorf("%s of %v = %v, %d; want %v, %d", c.name, was, got, err, want, e)
	}
	if !slices.Equal(l, was) {
		t.Errorf("%s of %v changed it to %v", c.name, was, l)
	}
}

// checkTold holds what a call answers against the document's words.
func checkTold(t *testing.T, l []api.Pay, c call) {
	t.Helper()
	want, e := c.want(l)
	check(t, l, c, want, e)
}

// checkRefused: an error answers l (P13.2).
func checkRefused(t *testing.T, l []api.Pay, c call, e api.Errno) {
	t.Helper()
	check(t, l, c, slices.Clone(l), e)
}

// named is the payments of a list that have certain IDs, in the order of these.
func named(l []api.Pay, ids ...int64) (picked []api.Pay) {
	for _, id := range ids {
		picked = append(picked, l[findOf(l, id)])
	}
	return picked
}

// P13.1: no payment, a nil list, one payment whatever its numbers, several as they stand.
func TestIs(t *testing.T) {
	for _, l := range rows() {
		checkIs(t, l, true)
	}
	for _, from := range froms() {
		for _, class := range classes() {
			for _, id := range ids(nil) {
				checkIs(t, []api.Pay{pay(id, from, class)}, true)
			}
		}
	}
}

// P13.1: there are at most MaxPays of them, 40.
func TestIsHowMany(t *testing.T) {
	for many := range api.MaxPays + 30 {
		checkIs(t, upTo(many), many <= 40)
		checkIs(t, alike(many, 0, 1), many <= 40)
		checkIs(t, apart(min(many, 40)), true)
	}
	checkIs(t, append(apart(40), pay(900, 99, 3)), false)
	for _, many := range []int{40 + 256, 1 << 16, 1<<16 + 40} {
		checkIs(t, alike(many, 0, 1), false)
	}
}

// P13.1: no two are of one ID, side by side and far apart, whoever sends them and of whatever class.
func TestIsOneOfEachID(t *testing.T) {
	for _, many := range sizes() {
		for _, build := range []func(int) []api.Pay{upTo, apart, func(n int) []api.Pay { return alike(n, 0, 1) }} {
			for i := range many {
				for j := range i {
					l := build(many)
					l[i].ID = l[j].ID
					checkIs(t, l, false)
					l[i].ID = -77
					checkIs(t, l, true)
				}
			}
		}
	}
	for _, id := range []int64{least, -1, 0, 1, 1 << 32, most} {
		checkIs(t, []api.Pay{pay(id, 0, 1), pay(id, 0, 1)}, false)
		checkIs(t, []api.Pay{pay(id, 0, 1), pay(id, 0, 2)}, false)
		checkIs(t, []api.Pay{pay(id, 0, 1), pay(id, 1, 1)}, false)
		checkIs(t, []api.Pay{pay(id, 0, 1), pay(5, 0, 1), pay(id, 0, 1)}, false)
		checkIs(t, []api.Pay{pay(id, 0, 1), pay(id^1<<32, 0, 1)}, true)
		checkIs(t, []api.Pay{pay(id, 0, 1), pay(id^least, 0, 1)}, true)
	}
}

// P13.1: a lesser From is ahead of a greater, whatever their classes; of one From a lesser Class.
func TestIsOrder(t *testing.T) {
	for _, x := range []struct {
		a, b api.Pay
		want bool
	}{
		{pay(1, 0, 1), pay(2, 1, 1), true}, {pay(1, 1, 1), pay(2, 0, 1), false}, {pay(2, 0, 3), pay(1, 1, 1), true}, {pay(1, 1, 1), pay(2, 0, 3), false},
		{pay(1, 1, 1), pay(2, 1, 2), true}, {pay(1, 1, 2), pay(2, 1, 1), false}, {pay(1, 1, 3), pay(2, 1, 1), false}, {pay(2, 1, 1), pay(1, 1, 3), true},
		{pay(1, 1, 2), pay(2, 1, 2), true}, {pay(2, 1, 2), pay(1, 1, 2), true},
		{pay(1, leastInt, 1), pay(2, mostInt, 1), true}, {pay(1, mostInt, 1), pay(2, leastInt, 1), false}, {pay(1, 1, leastInt), pay(2, 1, mostInt), true}, {pay(1, 1, mostInt), pay(2, 1, leastInt), false},
		{pay(1, 1<<32, 1), pay(2, 1, 1), false}, {pay(1, 1, 1<<32), pay(2, 1, 1), false}, {pay(1, -1, 1), pay(2, 0, 1), true}, {pay(1, 0, 1), pay(2, -1, 1), false},
	} {
		checkIs(t, []api.Pay{x.a, x.b}, x.want)
		checkIs(t, []api.Pay{pay(9, leastInt, leastInt), x.a, x.b, pay(8, mostInt, mostInt)}, x.want)
	}
	for _, many := range sizes() {
		for i := range many {
			for j := range i {
				l := upTo(many)
				l[i], l[j] = l[j], l[i]
				checkIs(t, l, l[i].From == l[j].From && l[i].Class == l[j].Class)
			}
		}
	}
}

// P13.1: nothing is asked of a payment but its ID, From and Class.
func TestIsOtherNumbers(t *testing.T) {
	for _, n := range []int64{least, -1, 0, 1, most} {
		a, b := pay(1, 0, 1), pay(2, 0, 1)
		a.To, a.Amount, a.Start, a.Till = int(n), n, n, n
		checkIs(t, []api.Pay{a, b}, true)
		checkIs(t, []api.Pay{b, a}, true)
		b = a
		checkIs(t, []api.Pay{a, b}, false)
		b.ID++
		checkIs(t, []api.Pay{a, b}, true)
		b.Class--
		checkIs(t, []api.Pay{a, b}, false)
	}
}

// small is all lists of up to so many payments of few IDs, senders and classes.
func small(many int) [][]api.Pay {
	if many == 0 {
		return [][]api.Pay{nil}
	}
	var l [][]api.Pay
	for _, shorter := range small(many - 1) {
		l = append(l, shorter)
		if len(shorter) < many-1 {
			continue
		}
		for n := range 12 {
			l = append(l, append(slices.Clone(shorter), pay(int64(n/4+1), n/2%2, n%2+1)))
		}
	}
	return l
}

// P13.1: all short lists; and of the rows among them, all calls.
func TestSmallLists(t *testing.T) {
	for _, l := range small(4) {
		checkIs(t, l, isOf(l))
		if !isOf(l) {
			continue
		}
		for id := int64(0); id < 5; id++ {
			checkFind(t, l, id, findOf(l, id))
			rest, p, e := dropOf(l, id)
			checkDrop(t, l, id, rest, p, e)
			for _, c := range calls(id) {
				checkTold(t, l, c)
			}
		}
	}
}

// P13.1: what stands in the room behind the end is none of them.
func TestSpareRoom(t *testing.T) {
	l := append(upTo(3), pay(10, -1, 0), pay(900, 9, 1))
	checkIs(t, l, false)
	checkIs(t, l[:4], false)
	checkIs(t, l[:3], true)
	checkIs(t, alike(60, 0, 1)[:40], true)
	checkIs(t, alike(60, 0, 1)[:41], false)
	checkIs(t, alike(60, 0, 1)[20:], true)
	checkFind(t, l[:4], 900, -1)
	checkFind(t, l, 900, 4)
	checkRefused(t, l[:3], callDrop(900), api.ErrNone)
	check(t, l[:3], callPut(pay(900, 9, 1)), append(upTo(3), pay(900, 9, 1)), api.OK)
}

// P13.1: one that is there, first, last or between, is at its place; one that is not is at none.
func TestFind(t *testing.T) {
	for _, l := range rows() {
		for at, p := range l {
			checkFind(t, l, p.ID, at)
			for _, id := range []int64{p.ID + 1, p.ID - 1, -p.ID, p.ID ^ 1<<32, p.ID ^ least} {
				checkFind(t, l, id, findOf(l, id))
			}
		}
		for _, id := range ids(l) {
			checkFind(t, l, id, findOf(l, id))
		}
	}
	l := []api.Pay{pay(5, 1, 1), pay(-7, 1, 2), pay(2, 3, 1)}
	for id, want := range map[int64]int{5: 0, -7: 1, 2: 2, 7: -1, 1: -1, 3: -1, 0: -1, 1<<32 + 5: -1} {
		checkFind(t, l, id, want)
	}
}

// P13.1, W5: of no payment nothing is found, dropped or moved, whether the list is nil or empty.
func TestOfNothing(t *testing.T) {
	for _, l := range [][]api.Pay{nil, {}, make([]api.Pay, 0, 5), upTo(3)[:0], upTo(3)[3:]} {
		checkIs(t, l, true)
		for _, id := range []int64{least, -1, 0, 1, 10, 20, 30, most} {
			checkFind(t, l, id, -1)
			checkDrop(t, l, id, nil, api.Pay{}, api.ErrNone)
			checkRefused(t, l, callFront(id), api.ErrNone)
			checkRefused(t, l, callBack(id), api.ErrNone)
			for _, class := range classes() {
				checkRefused(t, l, callClass(id, class), api.ErrNone)
				check(t, l, callPut(pay(id, 1, class)), []api.Pay{pay(id, 1, class)}, api.OK)
			}
		}
	}
}

// P13.1: the document's example: a Normal one, then an Urgent one of the same.
func TestPutExample(t *testing.T) {
	l, _ := Put(nil, pay(1, 0, api.Normal))
	check(t, l, callPut(pay(2, 0, api.Urgent)), []api.Pay{pay(2, 0, api.Urgent), pay(1, 0, api.Normal)}, api.OK)
}

// P13.1: one comes ahead of all, behind all, between, behind all of its From and Class.
func TestPut(t *testing.T) {
	l := []api.Pay{pay(8, 1, 1), pay(3, 1, 2), pay(9, 1, 2), pay(2, 3, 1), pay(7, 3, 3), pay(6, 3, 3)}
	for _, x := range []struct {
		from, class int
		place       int
	}{
		{0, 3, 0}, {0, 1, 0}, {-1, 1, 0}, {1, 0, 0}, {leastInt, mostInt, 0},
		{1, 1, 1}, {1, 2, 3}, {1, 3, 3}, {1, mostInt, 3}, {2, 1, 3}, {2, 3, 3}, {3, 0, 3}, {3, leastInt, 3},
		{3, 1, 4}, {3, 2, 4}, {3, 3, 6}, {3, 4, 6}, {4, 1, 6}, {4, 0, 6}, {mostInt, leastInt, 6},
	} {
		for _, id := range []int64{least, -5, 0, 1, 5, 10, 1 << 40, most} {
			p := pay(id, x.from, x.class)
			check(t, l, callPut(p), slices.Insert(slices.Clone(l), x.place, p), api.OK)
		}
	}
}

// P13.1: of one From and Class the one that was put first is ahead, whatever the IDs.
func TestPutOneByOne(t *testing.T) {
	// 41 is a prime: each of 1 to 40 comes once on the way round.
	for step := 1; step < 41; step++ {
		var l, same []api.Pay
		for i := range api.MaxPays {
			n := step * (i + 1) % 41
			p := pay(int64(n), n%4, n%3)
			want := laid(l, p, false)
			check(t, l, callPut(p), want, api.OK)
			l, _ = Put(l, p)
			checkIs(t, l, true)
			checkRefused(t, l, callPut(p), api.ErrHas)
			q := pay(int64(n), 2, api.Urgent)
			check(t, same, callPut(q), append(slices.Clone(same), q), api.OK)
			same, _ = Put(same, q)
		}
		for _, p := range []api.Pay{pay(41, 0, 0), pay(0, 9, 9), pay(-1, -1, -1)} {
			checkRefused(t, l, callPut(p), api.ErrFull)
			checkRefused(t, same, callPut(p), api.ErrFull)
		}
	}
}

// P13.1, P13.2: one whose ID is there is ErrHas beside l, first, last or between, whoever sends it and of whatever class.
func TestPutTwice(t *testing.T) {
	for _, l := range rows() {
		for _, p := range l {
			checkRefused(t, l, callPut(p), api.ErrHas)
			for _, from := range froms() {
				checkRefused(t, l, callPut(pay(p.ID, from, p.Class)), api.ErrHas)
			}
			for _, class := range classes() {
				checkRefused(t, l, callPut(pay(p.ID, p.From, class)), api.ErrHas)
			}
			checkRefused(t, l, callPut(api.Pay{ID: p.ID}), api.ErrHas)
		}
	}
}

// P13.1, P13.2: to MaxPays less one there is room for one, to MaxPays for none; one whose ID is there is ErrHas ahead of ErrFull.
func TestPutToFull(t *testing.T) {
	for _, build := range []func(int) []api.Pay{upTo, apart, func(n int) []api.Pay { return alike(n, 1, 2) }} {
		full := build(api.MaxPays)
		for _, from := range froms() {
			for _, class := range classes() {
				p := pay(-5, from, class)
				checkRefused(t, full, callPut(p), api.ErrFull)
				for _, there := range full {
					checkRefused(t, full, callPut(pay(there.ID, from, class)), api.ErrHas)
				}
				l := build(api.MaxPays - 1)
				check(t, l, callPut(p), laid(l, p, false), api.OK)
				with, _ := Put(l, p)
				checkRefused(t, with, callPut(p), api.ErrHas)
				checkRefused(t, with, callPut(pay(-6, from, class)), api.ErrFull)
				checkDrop(t, with, -5, l, p, api.OK)
			}
		}
	}
}

// P13.1: the first, the last, one between, the only one: the row without it, and it.
func TestDrop(t *testing.T) {
	l := []api.Pay{pay(8, 1, 1), pay(3, 1, 2), pay(9, 1, 2), pay(2, 3, 1)}
	checkDrop(t, l, 8, named(l, 3, 9, 2), pay(8, 1, 1), api.OK)
	checkDrop(t, l, 3, named(l, 8, 9, 2), pay(3, 1, 2), api.OK)
	checkDrop(t, l, 9, named(l, 8, 3, 2), pay(9, 1, 2), api.OK)
	checkDrop(t, l, 2, named(l, 8, 3, 9), pay(2, 3, 1), api.OK)
	checkDrop(t, l[:1], 8, nil, pay(8, 1, 1), api.OK)
	checkDrop(t, l, 1, l, api.Pay{}, api.ErrNone)
	checkDrop(t, l[:1], 3, l[:1], api.Pay{}, api.ErrNone)
	for _, l := range rows() {
		for at, p := range l {
			rest := slices.Delete(slices.Clone(l), at, at+1)
			checkDrop(t, l, p.ID, rest, p, api.OK)
			checkDrop(t, rest, p.ID, rest, api.Pay{}, api.ErrNone)
			checkIs(t, rest, true)
		}
		for _, id := range ids(l) {
			rest, p, e := dropOf(l, id)
			checkDrop(t, l, id, rest, p, e)
		}
	}
}

// P13.1: one at a time, in any order, till nothing is there.
func TestDropOneByOne(t *testing.T) {
	for step := 1; step < 41; step++ {
		l := apart(api.MaxPays)
		for i := range api.MaxPays {
			id := int64(10 * (step * (i + 1) % 41))
			rest, p, e := dropOf(l, id)
			checkDrop(t, l, id, rest, p, e)
			l, _, _ = Drop(l, id)
			checkIs(t, l, true)
			checkDrop(t, l, id, l, api.Pay{}, api.ErrNone)
		}
		if len(l) != 0 {
			t.Errorf("step %d: %v is left", step, l)
		}
	}
}

// P13.1: one stands ahead of, or behind, all others of its From and Class, and of no others.
func TestFrontAndBack(t *testing.T) {
	// Of From 1 and Class 2 there are four, beside others of another Class and of another From.
	l := []api.Pay{
		pay(1, 0, 2), pay(11, 1, 1), pay(25, 1, 2), pay(21, 1, 2), pay(29, 1, 2), pay(23, 1, 2),
		pay(31, 1, 3), pay(41, 2, 1), pay(51, 2, 2),
	}
	for id, want := range map[int64][]int64{
		25: {1, 11, 25, 21, 29, 23, 31, 41, 51}, 21: {1, 11, 21, 25, 29, 23, 31, 41, 51},
		29: {1, 11, 29, 25, 21, 23, 31, 41, 51}, 23: {1, 11, 23, 25, 21, 29, 31, 41, 51},
	} {
		check(t, l, callFront(id), named(l, want...), api.OK)
	}
	for id, want := range map[int64][]int64{
		25: {1, 11, 21, 29, 23, 25, 31, 41, 51}, 21: {1, 11, 25, 29, 23, 21, 31, 41, 51},
		29: {1, 11, 25, 21, 23, 29, 31, 41, 51}, 23: {1, 11, 25, 21, 29, 23, 31, 41, 51},
	} {
		check(t, l, callBack(id), named(l, want...), api.OK)
	}
	for _, id := range []int64{1, 11, 31, 41, 51} {
		check(t, l, callFront(id), l, api.OK)
		check(t, l, callBack(id), l, api.OK)
	}
	for _, id := range []int64{0, 2, 22, 52, -25, most, least} {
		checkRefused(t, l, callFront(id), api.ErrNone)
		checkRefused(t, l, callBack(id), api.ErrNone)
	}
}

// P13.1: one that stands there already stays, the only one too; and moved to and fro it is where it was.
func TestFrontAndBackAgain(t *testing.T) {
	for _, l := range rows() {
		for at, p := range l {
			checkTold(t, l, callFront(p.ID))
			checkTold(t, l, callBack(p.ID))
			front, _ := Front(l, p.ID)
			check(t, front, callFront(p.ID), front, api.OK)
			back, _ := Back(l, p.ID)
			check(t, back, callBack(p.ID), back, api.OK)
			check(t, front, callBack(p.ID), back, api.OK)
			check(t, back, callFront(p.ID), front, api.OK)
			if at == 0 || before(l[at-1], p) {
				check(t, l, callFront(p.ID), l, api.OK)
			}
			if at == len(l)-1 || before(p, l[at+1]) {
				check(t, l, callBack(p.ID), l, api.OK)
			}
		}
		for _, id := range ids(l) {
			checkTold(t, l, callFront(id))
			checkTold(t, l, callBack(id))
		}
	}
}

// P13.1: a lesser class, a greater one, the same: it stands behind all of that class.
func TestClass(t *testing.T) {
	l := []api.Pay{
		pay(1, 0, 3), pay(12, 1, 1), pay(11, 1, 1), pay(25, 1, 2), pay(21, 1, 2), pay(29, 1, 2),
		pay(33, 1, 3), pay(31, 1, 3), pay(41, 2, 1),
	}
	for _, x := range []struct {
		id    int64
		class int
		want  []int64
	}{
		{25, 1, []int64{1, 12, 11, 25, 21, 29, 33, 31, 41}}, {29, 1, []int64{1, 12, 11, 29, 25, 21, 33, 31, 41}},
		{21, 2, []int64{1, 12, 11, 25, 29, 21, 33, 31, 41}}, {29, 2, []int64{1, 12, 11, 25, 21, 29, 33, 31, 41}},
		{25, 3, []int64{1, 12, 11, 21, 29, 33, 31, 25, 41}}, {21, 3, []int64{1, 12, 11, 25, 29, 33, 31, 21, 41}},
		{12, 2, []int64{1, 11, 25, 21, 29, 12, 33, 31, 41}}, {12, 3, []int64{1, 11, 25, 21, 29, 33, 31, 12, 41}},
		{31, 1, []int64{1, 12, 11, 31, 25, 21, 29, 33, 41}}, {33, 3, []int64{1, 12, 11, 25, 21, 29, 31, 33, 41}},
		{25, 0, []int64{1, 25, 12, 11, 21, 29, 33, 31, 41}}, {25, 9, []int64{1, 12, 11, 21, 29, 33, 31, 25, 41}},
		{1, 1, []int64{1, 12, 11, 25, 21, 29, 33, 31, 41}}, {41, 3, []int64{1, 12, 11, 25, 21, 29, 33, 31, 41}},
		{1, mostInt, []int64{1, 12, 11, 25, 21, 29, 33, 31, 41}}, {41, leastInt, []int64{1, 12, 11, 25, 21, 29, 33, 31, 41}},
	} {
		want := named(l, x.want...)
		want[findOf(want, x.id)].Class = x.class
		check(t, l, callClass(x.id, x.class), want, api.OK)
	}
	for _, id := range []int64{0, 2, 30, -25, most, least} {
		for _, class := range classes() {
			checkRefused(t, l, callClass(id, class), api.ErrNone)
		}
	}
}

// P13.1: the only one, and each of each row with each class: also of MaxPays, where a Put has no room.
func TestClassOfEachRow(t *testing.T) {
	for _, class := range classes() {
		check(t, []api.Pay{pay(5, 1, 2)}, callClass(5, class), []api.Pay{pay(5, 1, class)}, api.OK)
	}
	for _, l := range rows() {
		for _, p := range l {
			for _, class := range classes() {
				want := laid(filter(l, func(q api.Pay) bool { return q.ID != p.ID }), classed(p, class), false)
				check(t, l, callClass(p.ID, class), want, api.OK)
			}
			back, _ := Back(l, p.ID)
			check(t, l, callClass(p.ID, p.Class), back, api.OK)
		}
		for _, id := range ids(l) {
			for _, class := range classes() {
				checkTold(t, l, callClass(id, class))
			}
		}
	}
}

// P13.1: each row, with all calls of IDs that are there and that are not.
func TestCallsAreAsTold(t *testing.T) {
	for _, l := range rows() {
		for _, id := range ids(l) {
			for _, c := range calls(id) {
				checkTold(t, l, c)
			}
		}
	}
}

// P13.2: a row stays one, whatever is called, well or not.
func TestARowStaysOne(t *testing.T) {
	for _, l := range rows() {
		for _, id := range ids(l) {
			for _, c := range calls(id) {
				got, e := c.do(l)
				if !isOf(got) {
					t.Errorf("%s of %v, error %d: %v is no row", c.name, l, e, got)
				}
				checkIs(t, got, true)
			}
		}
	}
}

// P13.1, P13.2: many calls, one behind another, by a rule that goes through IDs, senders, classes and kinds.
func TestManyCalls(t *testing.T) {
	var l []api.Pay
	counts := map[string]int{}
	n := uint64(1)
	for range 40000 {
		n = n*6364136223846793005 + 1442695040888963407
		id, from, class := int64(n>>33%60), int(n>>43%6), int(1+n>>50%3)
		c := []call{
			callPut(pay(id, from, class)), callPut(pay(id, from, class)), callPut(pay(id, from, class)),
			callDrop(id), callFront(id), callBack(id), callClass(id, class),
		}[n>>57%7]
		want, e := c.want(l)
		got, err := c.do(l)
		if !slices.Equal(got, want) || err != e || !isOf(got) || !Is(got) {
			t.Fatalf("%s of %v = %v, %d; want %v, %d", c.name, l, got, err, want, e)
		}
		counts[c.name+" "+err.Error()]++
		l = got
	}
	for _, name := range []string{"Drop", "Front", "Back", "Class"} {
		for _, e := range []api.Errno{api.OK, api.ErrNone} {
			if counts[name+" "+e.Error()] < 100 {
				t.Errorf("%s, error %d, came too seldom", name, e)
			}
		}
	}
	for _, e := range []api.Errno{api.OK, api.ErrHas, api.ErrFull} {
		if counts["Put "+e.Error()] < 100 {
			t.Errorf("Put, error %d, came too seldom", e)
		}
	}
}

// P13.1: what is answered may be gone on with at once, each way from the same row.
func TestBranches(t *testing.T) {
	l, _ := Put([]api.Pay{pay(1, 0, 1), pay(3, 2, 1)}, pay(2, 1, 1))
	ahead, _ := Put(l, pay(4, -1, 1))
	behind, _ := Put(l, pay(5, 9, 1))
	between, _ := Put(l, pay(6, 1, 1))
	rest, _, _ := Drop(l, 2)
	other, _ := Class(l, 1, 3)
	same, _ := Put(l, pay(2, 1, 1))
	for _, x := range []struct{ got, want []api.Pay }{
		{l, []api.Pay{pay(1, 0, 1), pay(2, 1, 1), pay(3, 2, 1)}},
		{ahead, []api.Pay{pay(4, -1, 1), pay(1, 0, 1), pay(2, 1, 1), pay(3, 2, 1)}},
		{behind, []api.Pay{pay(1, 0, 1), pay(2, 1, 1), pay(3, 2, 1), pay(5, 9, 1)}},
		{between, []api.Pay{pay(1, 0, 1), pay(2, 1, 1), pay(6, 1, 1), pay(3, 2, 1)}},
		{rest, []api.Pay{pay(1, 0, 1), pay(3, 2, 1)}},
		{other, []api.Pay{pay(1, 0, 3), pay(2, 1, 1), pay(3, 2, 1)}},
		{same, l},
	} {
		if !slices.Equal(x.got, x.want) {
			t.Errorf("%v, want %v", x.got, x.want)
		}
	}
}

// spare is l with room behind its end, filled, and all of that memory.
func spare(l []api.Pay, room int) (with, whole []api.Pay) {
	whole = slices.Concat(l, slices.Repeat([]api.Pay{pay(-77, -7, -7)}, room))
	return whole[:len(l)], whole
}

// rooms are how many payments have room behind a row's end.
func rooms() []int { return []int{0, 1, 2, 50} }

// fill sets all of l's memory, the room behind its end too.
func fill(l []api.Pay) {
	l = l[:cap(l)]
	for i := range l {
		l[i] = pay(-99, -9, -9)
	}
}

// eachCall goes through few calls of each row, with each room behind the row's end.
func eachCall(do func(such []api.Pay, room int, c call)) {
	for _, such := range rows() {
		for _, room := range rooms() {
			for _, id := range ids(such) {
				for _, c := range fewCalls(id) {
					do(such, room, c)
				}
			}
		}
	}
}

// P13.2, W6: what is handed in stays as it was, and so does the room behind its end.
func TestNothingIsChanged(t *testing.T) {
	eachCall(func(such []api.Pay, room int, c call) {
		l, whole := spare(such, room)
		was := slices.Clone(whole)
		Is(l)
		Find(l, 10)
		c.do(l)
		if !slices.Equal(whole, was) {
			t.Fatalf("%s of %v made %v of %v", c.name, such, whole, was)
		}
	})
}

// P13.2, W6: what is answered is new memory, spare room too, also on an error: what is done to it is not to be seen in what was handed in.
func TestAnswersAreNewMemory(t *testing.T) {
	eachCall(func(such []api.Pay, room int, c call) {
		l, whole := spare(such, room)
		was := slices.Clone(whole)
		got, e := c.do(l)
		fill(got)
		if !slices.Equal(whole, was) {
			t.Fatalf("%s of %v, error %d: what is done to the answer made %v of %v", c.name, such, e, whole, was)
		}
	})
}

// P13.2, W6, W7: what is handed in is not kept: what is done to it later is not to be seen in what was answered.
func TestNothingIsKept(t *testing.T) {
	eachCall(func(such []api.Pay, room int, c call) {
		l, whole := spare(such, room)
		want, e := c.want(such)
		got, err := c.do(l)
		fill(whole)
		if !slices.Equal(got, want) || err != e {
			t.Fatalf("%s of %v became %v, %d; want %v, %d", c.name, such, got, err, want, e)
		}
	})
}

// W6, W7: two answers share nothing, and stay what they are whatever is called later.
func TestAnswersShareNothing(t *testing.T) {
	eachCall(func(such []api.Pay, _ int, c call) {
		want, e := c.want(such)
		one, _ := c.do(such)
		two, _ := c.do(such)
		fill(one)
		three, err := c.do(such)
		for _, later := range fewCalls(10) {
			later.do(two)
		}
		for _, got := range [][]api.Pay{two, three} {
			if !slices.Equal(got, want) || err != e {
				t.Fatalf("%s of %v became %v, %d; want %v, %d", c.name, such, got, err, want, e)
			}
		}
	})
}

// W2: an answer doesn't hang on what was asked ahead, nor on the room behind a row's end.
func TestAnswersHangOnTheArguments(t *testing.T) {
	eachCall(func(such []api.Pay, room int, c call) {
		l, _ := spare(such, room)
		checkTold(t, l, c)
		checkIs(t, l, true)
		more := append(l, pay(-78, -8, -8))
		checkIs(t, more, isOf(more))
		for _, id := range []int64{-77, -99, 10} {
			checkFind(t, l, id, findOf(such, id))
		}
		half := such[:len(such)/2]
		checkFind(t, l[:len(l)/2], 10, findOf(half, 10))
	})
}

// odd are lists that are no rows.
func odd() [][]api.Pay {
	back := upTo(9)
	slices.Reverse(back)
	return [][]api.Pay{
		{pay(1, 1, 1), pay(2, 0, 1)}, {pay(1, 1, 2), pay(2, 1, 1)}, {pay(1, 1, 1), pay(1, 1, 1)}, {pay(1, 0, 1), pay(2, 1, 1), pay(1, 2, 1)},
		{{}, {}}, {pay(most, mostInt, 1), pay(least, leastInt, 1)}, back,
		upTo(41), alike(41, 0, 1), alike(1000, 0, 1), upTo(1 << 16), slices.Repeat([]api.Pay{pay(7, 1, 1)}, 40), slices.Repeat(upTo(3), 30),
	}
}

// W1, W6: lists that are no rows are asked without a panic, of any length, and stay as they were.
func TestListsThatAreNoRows(t *testing.T) {
	for _, such := range odd() {
		checkIs(t, such, false)
		l, whole := spare(such, 3)
		was := slices.Clone(whole)
		for _, id := range []int64{least, -1, 0, 1, 2, 7, 10, 20, 410, most} {
			Find(l, id)
			for _, c := range fewCalls(id) {
				got, _ := c.do(l)
				fill(got)
			}
		}
		if !slices.Equal(whole, was) {
			t.Errorf("%v became %v", was, whole)
		}
	}
}
