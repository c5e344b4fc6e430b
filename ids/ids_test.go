package ids

import (
	"math"
	"slices"
	"testing"

	"giro/api"
)

const (
	most  = math.MaxInt64
	least = math.MinInt64
)

// upTo is so many numbers, 10 apart from 10 on, new at each call.
func upTo(many int) []int64 {
	l := make([]int64, many)
	for i := range l {
		l[i] = int64(10 * (i + 1))
	}
	return l
}

// sizes are counts of numbers that there may be: none, few, and as many as may be.
func sizes() []int {
	return []int{0, 1, 2, 3, 4, 5, 7, 8, 9, 16, 17, 100, api.MaxIDs - 2, api.MaxIDs - 1, api.MaxIDs}
}

// edges are numbers at which something begins or ceases to be, and those about them.
func edges() []int64 {
	return []int64{
		least, least + 1, -1 << 32, -11, -10, -9, -1, 0, 1, 2, 9, 10, 11, 15, 19, 20, 21,
		1990, 1999, 2000, 2001, 1<<31 - 1, 1 << 31, 1 << 32, 1<<32 + 10, 1 << 53, 1<<53 + 1, 1 << 62, most - 1, most,
	}
}

// suchAs are lists that are such, new ones at each call.
func suchAs() [][]int64 {
	l := [][]int64{nil, {}, {1}, {most}, {1, 2}, {1, most}, {most - 1, most}, {1, 5}, {1, 2, 3, 4, 5}, {2, 4, 6, 8}, {1, 1 << 32, 1 << 33, 1 << 62}}
	for _, many := range sizes() {
		l = append(l, upTo(many))
	}
	// As many as may be, at the least of numbers and at the greatest.
	low, high := upTo(api.MaxIDs), upTo(api.MaxIDs)
	for i := range low {
		low[i], high[i] = int64(i+1), most-int64(api.MaxIDs-1-i)
	}
	return append(l, low, high)
}

// hasOf and withOf are what the document's words ask, told without the package: numbers are gone through one by one.
func hasOf(l []int64, id int64) bool {
	for _, n := range l {
		if n == id {
			return true
		}
	}
	return false
}

func withOf(l []int64, id int64) []int64 {
	var with []int64
	for _, n := range l {
		if n < id {
			with = append(with, n)
		}
	}
	with = append(with, id)
	for _, n := range l {
		if n > id {
			with = append(with, n)
		}
	}
	return with
}

func addOf(l []int64, id int64) ([]int64, api.Errno) {
	if hasOf(l, id) {
		return l, api.ErrHas
	}
	if len(l) >= 200 {
		return l, api.ErrFull
	}
	return withOf(l, id), api.OK
}

func checkIs(t *testing.T, l []int64, want bool) {
	t.Helper()
	if got := Is(l); got != want {
		t.Errorf("Is(%v) = %v, want %v", l, got, want)
	}
}

func checkHas(t *testing.T, l []int64, id int64, want bool) {
	t.Helper()
	if got := Has(l, id); got != want {
		t.Errorf("Has(%v, %d) = %v, want %v", l, id, got, want)
	}
}

func checkAdd(t *testing.T, l []int64, id int64, want []int64, e api.Errno) {
	t.Helper()
	was := slices.Clone(l)
	if got, err := Add(l, id); !slices.Equal(got, want) || err != e {
		t.Errorf("Add(%v, %d) = %v, %d; want %v, %d", was, id, got, err, want, e)
	}
	if !slices.Equal(l, was) {
		t.Errorf("Add(%v, %d) changed it to %v", was, id, l)
	}
}

// P12.1, P12.2: an error answers l.
func checkRefused(t *testing.T, l []int64, id int64, e api.Errno) {
	t.Helper()
	checkAdd(t, l, id, slices.Clone(l), e)
}

// P12.1: no number, one, and several that rise.
func TestIs(t *testing.T) {
	for _, l := range suchAs() {
		checkIs(t, l, true)
	}
}

// P12.1: there are at most MaxIDs of them, 200.
func TestIsHowMany(t *testing.T) {
	for many := range api.MaxIDs + 60 {
		checkIs(t, upTo(many), many <= 200)
	}
	for _, many := range []int{200 + 256, 1 << 16, 1<<16 + 1, 1<<16 + 200} {
		checkIs(t, upTo(many), false)
	}
}

// P12.1: each is from 1 on.
func TestIsFromOneOn(t *testing.T) {
	for _, first := range edges() {
		checkIs(t, []int64{first}, first >= 1)
		checkIs(t, []int64{first, most}, first >= 1 && first < most)
		checkIs(t, []int64{least, first}, false)
	}
	checkIs(t, []int64{-3, -2, -1}, false)
	checkIs(t, []int64{-1, 0, 1}, false)
	checkIs(t, []int64{0, 1, 2}, false)
	checkIs(t, []int64{least, -1, 5, most}, false)
	for _, many := range sizes()[1:] {
		l := upTo(many)
		for _, first := range []int64{0, -1, least} {
			l[0] = first
			checkIs(t, l, false)
		}
		l[0] = 1
		checkIs(t, l, true)
	}
}

// P12.1: they rise: no two are the same, and none falls, wherever it stands.
func TestIsRising(t *testing.T) {
	for _, many := range sizes() {
		for at := 1; at < many; at++ {
			for _, x := range []struct {
				step int64
				want bool
			}{{1, true}, {2, true}, {0, false}, {-1, false}, {-5, false}, {-10, false}} {
				l := upTo(many)
				l[at] = l[at-1] + x.step
				checkIs(t, l, x.want)
			}
			for _, n := range []int64{least, -1, 0, 1} {
				l := upTo(many)
				l[at] = n
				checkIs(t, l, false)
			}
		}
	}
	checkIs(t, []int64{2, 1}, false)
	checkIs(t, []int64{1, 1}, false)
	checkIs(t, []int64{1, 2, 1}, false)
	checkIs(t, []int64{1, 3, 2, 4}, false)
	checkIs(t, []int64{3, 2, 1}, false)
	checkIs(t, []int64{most, most}, false)
	checkIs(t, []int64{most, least}, false)
	checkIs(t, []int64{most, 1}, false)
}

// P12.1: any two at the edges.
func TestIsOfTwo(t *testing.T) {
	for _, a := range edges() {
		for _, b := range edges() {
			checkIs(t, []int64{a, b}, a >= 1 && b > a)
			for _, c := range edges() {
				checkIs(t, []int64{a, b, c}, a >= 1 && b > a && c > b)
			}
		}
	}
}

// P12.1: all short lists of small numbers.
func TestIsOfSmallLists(t *testing.T) {
	for n := range 6 * 6 * 6 * 6 {
		l := []int64{int64(n%6) - 1, int64(n/6%6) - 1, int64(n/36%6) - 1, int64(n/216) - 1}
		checkIs(t, l, l[0] > 0 && l[1] > l[0] && l[2] > l[1] && l[3] > l[2])
		checkIs(t, l[:3], l[0] > 0 && l[1] > l[0] && l[2] > l[1])
	}
}

// P12.1: what stands in the room behind the end is none of them.
func TestIsSpareRoom(t *testing.T) {
	l := append(upTo(3), -5, 0, 7)
	checkIs(t, l, false)
	checkIs(t, l[:3], true)
	checkIs(t, l[:4], false)
	checkIs(t, upTo(300)[:200], true)
	checkIs(t, upTo(300)[100:], true)
	checkIs(t, upTo(300)[99:], false)
}

// P12.1: one is there, whether first, last or between; one is not, ahead of all, between, behind all.
func TestHas(t *testing.T) {
	for _, many := range sizes() {
		l := upTo(many)
		for _, id := range l {
			checkHas(t, l, id, true)
			for _, off := range []int64{-9, -5, -1, 1, 5, 9} {
				checkHas(t, l, id+off, false)
			}
			checkHas(t, l, -id, false)
			checkHas(t, l, id+1<<32, false)
			checkHas(t, l, id^least, false)
		}
		checkHas(t, l, int64(10*many+10), false)
	}
}

// P12.1: of one number, and of lists that have the least and the greatest.
func TestHasFew(t *testing.T) {
	for _, x := range []struct {
		l    []int64
		id   int64
		want bool
	}{
		{[]int64{1}, 1, true}, {[]int64{1}, 0, false}, {[]int64{1}, 2, false}, {[]int64{1}, -1, false},
		{[]int64{most}, most, true}, {[]int64{most}, most - 1, false}, {[]int64{most}, least, false}, {[]int64{most}, -most, false}, {[]int64{most}, -1, false},
		{[]int64{1, 5}, 1, true}, {[]int64{1, 5}, 3, false}, {[]int64{1, 5}, 5, true}, {[]int64{1, 5}, 6, false},
		{[]int64{1, most}, 1, true}, {[]int64{1, most}, most, true}, {[]int64{1, most}, 1 << 62, false}, {[]int64{1, most}, 0, false}, {[]int64{1, most}, least, false},
		{[]int64{most - 1, most}, most - 1, true}, {[]int64{most - 1, most}, most, true}, {[]int64{most - 1, most}, most - 2, false},
		{[]int64{1<<53 + 1}, 1 << 53, false}, {[]int64{1 << 53}, 1<<53 + 1, false}, {[]int64{1 << 32}, 0, false},
	} {
		checkHas(t, x.l, x.id, x.want)
	}
}

// P12.1, W5: without a number none was, whether the list is nil or empty.
func TestHasOfNothing(t *testing.T) {
	for _, l := range [][]int64{nil, {}, upTo(3)[:0], upTo(3)[3:]} {
		for _, id := range append(edges(), 30) {
			checkHas(t, l, id, false)
		}
	}
}

// P12.1: an id of 0 and one below 0 never were, and no other that is not there.
func TestHasAtEdges(t *testing.T) {
	for _, l := range suchAs() {
		for _, id := range edges() {
			checkHas(t, l, id, hasOf(l, id))
			if id < 1 {
				checkHas(t, l, id, false)
			}
		}
	}
}

// P12.1: what stands in the room behind the end is none of them.
func TestHasSpareRoom(t *testing.T) {
	l := upTo(9)
	for many := range 10 {
		for i, id := range l {
			checkHas(t, l[:many], id, i < many)
			checkHas(t, l[many:], id, i >= many)
		}
	}
}

// P12.1: the document's example: 3 to 1 and 5.
func TestAddExample(t *testing.T) {
	checkAdd(t, []int64{1, 5}, 3, []int64{1, 3, 5}, api.OK)
}

// P12.1: one that was not comes in its place: ahead of all, between, behind all.
func TestAdd(t *testing.T) {
	for _, x := range []struct {
		l    []int64
		id   int64
		want []int64
	}{
		{[]int64{5}, 1, []int64{1, 5}}, {[]int64{5}, 4, []int64{4, 5}}, {[]int64{5}, 6, []int64{5, 6}}, {[]int64{5}, most, []int64{5, most}},
		{[]int64{1, 5}, 2, []int64{1, 2, 5}}, {[]int64{1, 5}, 4, []int64{1, 4, 5}}, {[]int64{1, 5}, 6, []int64{1, 5, 6}}, {[]int64{2, 5}, 1, []int64{1, 2, 5}},
		{[]int64{1, most}, 2, []int64{1, 2, most}}, {[]int64{1, most}, most - 1, []int64{1, most - 1, most}}, {[]int64{1 << 32, 1 << 40}, 1, []int64{1, 1 << 32, 1 << 40}},
		{[]int64{10, 20, 30}, 5, []int64{5, 10, 20, 30}}, {[]int64{10, 20, 30}, 15, []int64{10, 15, 20, 30}},
		{[]int64{10, 20, 30}, 25, []int64{10, 20, 25, 30}}, {[]int64{10, 20, 30}, 35, []int64{10, 20, 30, 35}},
		{[]int64{1<<53 + 1, 1<<53 + 3}, 1<<53 + 2, []int64{1<<53 + 1, 1<<53 + 2, 1<<53 + 3}},
	} {
		checkAdd(t, x.l, x.id, x.want, api.OK)
	}
}

// P12.1, W5: to no number it is the only one, whether the list is nil or empty.
func TestAddToNothing(t *testing.T) {
	for _, l := range [][]int64{nil, {}, make([]int64, 0, 5), upTo(3)[:0], upTo(3)[3:]} {
		for _, id := range []int64{1, 2, 10, 30, 200, 1 << 32, most - 1, most} {
			checkAdd(t, l, id, []int64{id}, api.OK)
		}
	}
}

// P12.1: each place of lists of all lengths with room, to the last.
func TestAddAtEachPlace(t *testing.T) {
	for _, many := range sizes() {
		if many == api.MaxIDs {
			continue
		}
		for at := range many + 1 {
			for _, off := range []int64{1, 5, 9} {
				l := upTo(many)
				id := int64(10*at) + off
				checkAdd(t, l, id, slices.Insert(slices.Clone(l), at, id), api.OK)
			}
		}
	}
}

// P12.1, P12.2: one that is there is ErrHas beside l, whether first, last or between.
func TestAddTwice(t *testing.T) {
	for _, many := range sizes() {
		for _, id := range upTo(many) {
			checkRefused(t, upTo(many), id, api.ErrHas)
		}
	}
	checkRefused(t, []int64{1}, 1, api.ErrHas)
	checkRefused(t, []int64{most}, most, api.ErrHas)
	checkRefused(t, []int64{1, most}, 1, api.ErrHas)
	checkRefused(t, []int64{1, most}, most, api.ErrHas)
	checkRefused(t, []int64{1, 3, 5}, 3, api.ErrHas)
}

// P12.1, P12.2: to MaxIDs less one there is room for one, to MaxIDs for none; one that is there is ErrHas ahead of ErrFull.
func TestAddToFull(t *testing.T) {
	for at := range api.MaxIDs + 1 {
		id := int64(10*at + 5)
		checkRefused(t, upTo(api.MaxIDs), id, api.ErrFull)
		if at < api.MaxIDs {
			checkRefused(t, upTo(api.MaxIDs), int64(10*at+10), api.ErrHas)
			with := slices.Insert(upTo(api.MaxIDs-1), at, id)
			checkAdd(t, upTo(api.MaxIDs-1), id, with, api.OK)
			checkRefused(t, with, id, api.ErrHas)
			checkRefused(t, with, id+1, api.ErrFull)
		}
	}
	for _, id := range []int64{1, 9, 11, 1999, 2001, 1 << 62, most - 1, most} {
		checkRefused(t, upTo(api.MaxIDs), id, api.ErrFull)
	}
}

// P12.1: each list that is such, with each number from 1 on at the edges and about those that are there.
func TestAddIsAsTold(t *testing.T) {
	for _, l := range suchAs() {
		for _, id := range slices.Concat(edges(), l) {
			for _, near := range []int64{id, id / 2, id/2 + id/4, id ^ 1} {
				if near >= 1 {
					want, e := addOf(l, near)
					checkAdd(t, l, near, want, e)
				}
			}
		}
	}
}

// P12.1: Add has no error for an id below 1: it comes in its place too, though what comes of it is not such any more.
func TestAddBelowOne(t *testing.T) {
	for _, id := range []int64{0, -1, -10, least} {
		checkAdd(t, nil, id, []int64{id}, api.OK)
		checkAdd(t, []int64{1, 5}, id, []int64{id, 1, 5}, api.OK)
		checkRefused(t, upTo(api.MaxIDs), id, api.ErrFull)
		with, _ := Add([]int64{1, 5}, id)
		checkIs(t, with, false)
	}
}

// P12.1: numbers to which one was added are such again; it is there then, and all that were there, and nothing else.
func TestAddedAreSuch(t *testing.T) {
	for _, l := range suchAs() {
		for _, id := range edges() {
			with, e := Add(l, id)
			if id < 1 || e != api.OK {
				continue
			}
			checkIs(t, with, true)
			checkHas(t, with, id, true)
			checkRefused(t, with, id, api.ErrHas)
			for _, n := range slices.Concat(edges(), l) {
				checkHas(t, with, n, n == id || hasOf(l, n))
			}
		}
	}
}

// P12.1, P12.2: what an error answers is such as well.
func TestRefusedAreSuch(t *testing.T) {
	for _, l := range suchAs() {
		for _, id := range slices.Concat(edges(), l) {
			if same, e := Add(l, id); e != api.OK {
				checkIs(t, same, true)
				checkHas(t, same, id, e == api.ErrHas)
			}
		}
	}
}

// P12.1: from nothing to MaxIDs, in whatever order they come: falling, rising, and by steps.
func TestAddOneByOne(t *testing.T) {
	for step := 1; step < 201; step++ {
		var l []int64
		for i := range api.MaxIDs {
			// 211 is a prime: each of 1 to 210 comes once on the way round.
			id := int64(step*(i+1)%211) * 10
			want := withOf(l, id)
			checkAdd(t, l, id, want, api.OK)
			l, _ = Add(l, id)
			if !Is(l) || !Has(l, id) || len(l) != i+1 {
				t.Fatalf("step %d: with %d it is %v", step, id, l)
			}
			checkRefused(t, l, id, api.ErrHas)
		}
		checkRefused(t, l, 1, api.ErrFull)
		checkRefused(t, l, most, api.ErrFull)
	}
}

// P12.1: what is answered may be added to at once, each way from the same list.
func TestAddBranches(t *testing.T) {
	l, _ := Add([]int64{10, 30}, 20)
	low, _ := Add(l, 5)
	high, _ := Add(l, 35)
	mid, _ := Add(l, 25)
	same, e := Add(l, 20)
	for _, x := range []struct{ got, want []int64 }{
		{l, []int64{10, 20, 30}}, {low, []int64{5, 10, 20, 30}}, {high, []int64{10, 20, 30, 35}}, {mid, []int64{10, 20, 25, 30}}, {same, []int64{10, 20, 30}},
	} {
		if !slices.Equal(x.got, x.want) {
			t.Errorf("%v, want %v", x.got, x.want)
		}
	}
	if e != api.ErrHas {
		t.Errorf("20 twice: %d", e)
	}
}

// spare is l with room behind its end, filled, and all of that memory.
func spare(l []int64, room int) (with, whole []int64) {
	whole = slices.Concat(l, slices.Repeat([]int64{-77}, room))
	return whole[:len(l)], whole
}

// asked are ids that come ahead of all, between, behind all, and that are there, first, between and last.
func asked(l []int64) []int64 {
	ids := []int64{1, 2, 5, most - 1, most}
	if many := len(l); many > 0 {
		ids = append(ids, l[0], l[many/2], l[many/2]+1, l[many-1], l[many-1]/2+1)
	}
	return ids
}

// P12.2, W6: what is handed in stays as it was, and so does the room behind its end.
func TestNothingIsChanged(t *testing.T) {
	for _, such := range suchAs() {
		for _, room := range []int{0, 1, 2, 5, 300} {
			l, whole := spare(such, room)
			was := slices.Clone(whole)
			for _, id := range asked(such) {
				Is(l)
				Has(l, id)
				Add(l, id)
				if !slices.Equal(whole, was) {
					t.Fatalf("%v of %v with %d became %v", such, was, id, whole)
				}
			}
		}
	}
	// Nor is a list that is not such.
	for _, odd := range [][]int64{{3, 1, 2}, {0, 0, 0}, {5, 5}, {most, least, 0}, slices.Repeat([]int64{9, 1}, 150)} {
		l, whole := spare(odd, 3)
		was := slices.Clone(whole)
		for _, id := range edges() {
			Is(l)
			Has(l, id)
			Add(l, id)
		}
		if !slices.Equal(whole, was) {
			t.Errorf("%v became %v", was, whole)
		}
	}
}

// fill sets all of l's memory, the room behind its end too.
func fill(l []int64, n int64) {
	l = l[:cap(l)]
	for i := range l {
		l[i] = n
	}
}

// P12.2, W6: what is answered is new memory, spare room too, also on an error: what is done to it is not to be seen in what was handed in.
func TestAnswersAreNewMemory(t *testing.T) {
	for _, such := range suchAs() {
		for _, room := range []int{0, 1, 2, 5, 300} {
			for _, id := range asked(such) {
				l, whole := spare(such, room)
				was := slices.Clone(whole)
				got, e := Add(l, id)
				fill(got, -99)
				if !slices.Equal(whole, was) {
					t.Fatalf("%v with %d, error %d: what is done to the answer made %v of %v", such, id, e, whole, was)
				}
			}
		}
	}
}

// P12.2, W6, W7: what is handed in is not kept: what is done to it later is not to be seen in what was answered.
func TestNothingIsKept(t *testing.T) {
	for _, such := range suchAs() {
		for _, room := range []int{0, 1, 5, 300} {
			for _, id := range asked(such) {
				l, whole := spare(such, room)
				want, e := addOf(such, id)
				got, err := Add(l, id)
				fill(whole, -99)
				if !slices.Equal(got, want) || err != e {
					t.Fatalf("%v with %d became %v, %d; want %v, %d", such, id, got, err, want, e)
				}
			}
		}
	}
}

// W6, W7: two answers share nothing, and stay what they are whatever is asked later.
func TestAnswersShareNothing(t *testing.T) {
	for _, such := range suchAs() {
		for _, id := range asked(such) {
			want, e := addOf(such, id)
			one, _ := Add(such, id)
			two, _ := Add(such, id)
			fill(one, -99)
			three, err := Add(such, id)
			Add(two, 3)
			Add(two, most-3)
			for _, got := range [][]int64{two, three} {
				if !slices.Equal(got, want) || err != e {
					t.Fatalf("%v with %d became %v, %d; want %v, %d", such, id, got, err, want, e)
				}
			}
		}
	}
}

// W2: an answer doesn't hang on what was asked ahead, nor on the room behind a list's end.
func TestAnswersHangOnTheArguments(t *testing.T) {
	for _, such := range suchAs() {
		for _, id := range asked(such) {
			want, e := addOf(such, id)
			for _, room := range []int{0, 1, 2, 5, 300} {
				l, _ := spare(such, room)
				checkIs(t, l, true)
				checkHas(t, l, id, hasOf(such, id))
				checkAdd(t, l, id, want, e)
				checkIs(t, append(l, 0), false)
				checkHas(t, l[:len(l)/2], id, hasOf(such[:len(such)/2], id))
			}
		}
	}
}

// W1: lists that are not such are asked without a panic, of any length.
func TestListsThatAreNotSuch(t *testing.T) {
	lists := [][]int64{{2, 1}, {1, 1}, {0}, {-1}, {most, least}, {least, least}, {5, 3, 4, 1, 2}, slices.Repeat([]int64{1}, 200), slices.Repeat([]int64{7}, 201), upTo(201), upTo(1 << 16)}
	for _, l := range lists {
		checkIs(t, l, false)
		for _, id := range edges() {
			Has(l, id)
			Add(l, id)
		}
	}
}
