package tape

import (
	"bytes"
	"math"
	"slices"
	"strings"
	"testing"

	"giro/api"
)

const (
	most  = math.MaxInt
	least = math.MinInt
)

func noSides() []int { return []int{-1, 2, 3, -2, 255, 256, 1 << 32, least, least + 1, most - 1, most} }

// look is all that a deck tells.
type look struct {
	a, b      string
	down      bool
	ops, room int
}

func lookAt(d *Deck) look {
	return look{string(d.Read(0)), string(d.Read(1)), d.Down(), d.Ops(), d.Room()}
}

// expect holds all that a deck tells against what it should.
func expect(t *testing.T, d *Deck, want look) {
	t.Helper()
	if got := lookAt(d); got != want {
		t.Errorf("got %+v, want %+v", got, want)
	}
}

// answers holds an errno against what it should be.
func answers(t *testing.T, got, want api.Errno) {
	t.Helper()
	if got != want {
		t.Errorf("got %d, want %d", got, want)
	}
}

// put appends a text, which must be well.
func put(t *testing.T, d *Deck, side int, s string) {
	t.Helper()
	answers(t, d.Append(side, []byte(s)), api.OK)
}

// mixed is a deck of room 9 whose sides both have bytes that are synced and bytes that are not: AB|cd and XY|zw, after five operations.
func mixed(t *testing.T) *Deck {
	t.Helper()
	d := New(9)
	put(t, d, 0, "AB")
	put(t, d, 1, "XY")
	answers(t, d.Sync(), api.OK)
	// Side 1 ahead of side 0: what a crash leaves goes by side, not by time.
	put(t, d, 1, "zw")
	put(t, d, 0, "cd")
	return d
}

// operations are all kinds of operations that are well on a deck of mixed.
func operations(d *Deck) map[string]func() api.Errno {
	return map[string]func() api.Errno{
		"Append 0":       func() api.Errno { return d.Append(0, []byte("k")) },
		"Append 1":       func() api.Errno { return d.Append(1, []byte("k")) },
		"Append nothing": func() api.Errno { return d.Append(0, nil) },
		"Append empty":   func() api.Errno { return d.Append(1, []byte{}) },
		"Sync":           d.Sync,
		"Wipe 0":         func() api.Errno { return d.Wipe(0) },
		"Wipe 1":         func() api.Errno { return d.Wipe(1) },
	}
}

// refusals are all kinds of operations that are refused on a deck of mixed that is not Down.
func refusals(d *Deck) []struct {
	do   func() api.Errno
	want api.Errno
} {
	out := []struct {
		do   func() api.Errno
		want api.Errno
	}{
		{func() api.Errno { return d.Append(0, make([]byte, 6)) }, api.ErrFull},
		{func() api.Errno { return d.Append(1, make([]byte, 6)) }, api.ErrFull},
		{func() api.Errno { return d.Append(1, make([]byte, api.MaxTape+1)) }, api.ErrFull},
	}
	for _, side := range noSides() {
		for _, n := range []int{0, 1, 6, 99} {
			out = append(out, struct {
				do   func() api.Errno
				want api.Errno
			}{func() api.Errno { return d.Append(side, make([]byte, n)) }, api.ErrArg})
		}
		out = append(out, struct {
			do   func() api.Errno
			want api.Errno
		}{func() api.Errno { return d.Wipe(side) }, api.ErrArg})
	}
	return out
}

func TestNew(t *testing.T) {
	for _, room := range []int{0, 1, 2, 1000, api.MaxTape - 1, api.MaxTape} {
		d := New(room)
		if d == nil {
			t.Fatal("no deck of room", room)
		}
		expect(t, d, look{room: room})
	}
	for _, room := range []int{-1, -2, least, api.MaxTape + 1, 2 * api.MaxTape, 1<<32 + 1, most} {
		if New(room) != nil {
			t.Error("a deck of room", room)
		}
	}
}

func TestTwoDecksAreTwo(t *testing.T) {
	a, b := New(4), New(4)
	put(t, a, 0, "a")
	a.Arm(api.Crash{})
	put(t, b, 1, "b")
	answers(t, a.Sync(), api.ErrCrash)
	answers(t, b.Sync(), api.OK)
	expect(t, a, look{down: true, ops: 1, room: 4})
	expect(t, b, look{b: "b", ops: 2, room: 4})
}

func TestAppend(t *testing.T) {
	d := New(5)
	for i, x := range []struct {
		side int
		b    string
		err  api.Errno
		want look
	}{
		{0, "ab", api.OK, look{a: "ab", ops: 1, room: 5}},
		{1, "x", api.OK, look{a: "ab", b: "x", ops: 2, room: 5}},
		{0, "", api.OK, look{a: "ab", b: "x", ops: 3, room: 5}},
		{0, "cdef", api.ErrFull, look{a: "ab", b: "x", ops: 3, room: 5}},
		{0, "cde", api.OK, look{a: "abcde", b: "x", ops: 4, room: 5}},
		{0, "f", api.ErrFull, look{a: "abcde", b: "x", ops: 4, room: 5}},
		{0, "", api.OK, look{a: "abcde", b: "x", ops: 5, room: 5}},
		{1, "yzvwu", api.ErrFull, look{a: "abcde", b: "x", ops: 5, room: 5}},
		{1, "\x00\xff", api.OK, look{a: "abcde", b: "x\x00\xff", ops: 6, room: 5}},
		{1, "vw", api.OK, look{a: "abcde", b: "x\x00\xffvw", ops: 7, room: 5}},
		{1, "u", api.ErrFull, look{a: "abcde", b: "x\x00\xffvw", ops: 7, room: 5}},
	} {
		if err := d.Append(x.side, []byte(x.b)); err != x.err {
			t.Error(i, err)
		}
		expect(t, d, x.want)
	}
}

func TestAppendWithoutRoom(t *testing.T) {
	d := New(0)
	answers(t, d.Append(0, nil), api.OK)
	answers(t, d.Append(1, []byte{}), api.OK)
	answers(t, d.Append(0, []byte("a")), api.ErrFull)
	answers(t, d.Append(1, []byte("a")), api.ErrFull)
	expect(t, d, look{ops: 2})
}

func TestAppendToTheGreatestRoom(t *testing.T) {
	for side := range sides {
		d := New(api.MaxTape)
		all := bytes.Repeat([]byte("01234567"), api.MaxTape/8)
		answers(t, d.Append(side, append(all, 'x')), api.ErrFull)
		expect(t, d, look{room: api.MaxTape})
		answers(t, d.Append(side, all), api.OK)
		answers(t, d.Append(side, []byte("x")), api.ErrFull)
		if !bytes.Equal(d.Read(side), all) || len(d.Read(1-side)) != 0 {
			t.Error("Read", side)
		}
	}
}

func TestAppendByteByByte(t *testing.T) {
	d := New(300)
	var want strings.Builder
	for i := range 300 {
		want.WriteByte(byte(i))
		answers(t, d.Append(1, []byte{byte(i)}), api.OK)
		expect(t, d, look{b: want.String(), ops: i + 1, room: 300})
	}
	answers(t, d.Append(1, []byte{0}), api.ErrFull)
}

func TestRoomIsOfEachSideAndComesBack(t *testing.T) {
	d := New(3)
	put(t, d, 0, "abc")
	put(t, d, 1, "xyz")
	answers(t, d.Append(0, []byte("d")), api.ErrFull)
	answers(t, d.Wipe(0), api.OK)
	put(t, d, 0, "def")
	answers(t, d.Append(1, []byte("w")), api.ErrFull)
	expect(t, d, look{a: "def", b: "xyz", ops: 4, room: 3})
	d.Restart()
	put(t, d, 1, "xyz")
	expect(t, d, look{b: "xyz", ops: 1, room: 3})
}

func TestNoSuchSide(t *testing.T) {
	for _, side := range noSides() {
		d := mixed(t)
		before := lookAt(d)
		answers(t, d.Append(side, nil), api.ErrArg)
		answers(t, d.Append(side, []byte("a")), api.ErrArg)
		answers(t, d.Append(side, make([]byte, 99)), api.ErrArg)
		answers(t, d.Wipe(side), api.ErrArg)
		if d.Read(side) != nil {
			t.Error("Read", side)
		}
		expect(t, d, before)
		d.Restart()
		expect(t, d, look{a: "AB", b: "XY", room: 9})
	}
}

func TestSync(t *testing.T) {
	d := mixed(t)
	answers(t, d.Sync(), api.OK)
	expect(t, d, look{a: "ABcd", b: "XYzw", ops: 6, room: 9})
	answers(t, d.Sync(), api.OK)
	expect(t, d, look{a: "ABcd", b: "XYzw", ops: 7, room: 9})
	d.Restart()
	expect(t, d, look{a: "ABcd", b: "XYzw", room: 9})
	e := New(1)
	answers(t, e.Sync(), api.OK)
	expect(t, e, look{ops: 1, room: 1})
}

func TestWipe(t *testing.T) {
	d := mixed(t)
	answers(t, d.Wipe(0), api.OK)
	expect(t, d, look{b: "XYzw", ops: 6, room: 9})
	answers(t, d.Wipe(0), api.OK)
	expect(t, d, look{b: "XYzw", ops: 7, room: 9})
	// It is as if synced: the other side's bytes are not synced by it, and its own do not come back.
	d.Restart()
	expect(t, d, look{b: "XY", room: 9})

	d = mixed(t)
	answers(t, d.Wipe(1), api.OK)
	put(t, d, 1, "new")
	expect(t, d, look{a: "ABcd", b: "new", ops: 7, room: 9})
	d.Restart()
	expect(t, d, look{a: "AB", room: 9})

	e := New(0)
	answers(t, e.Wipe(0), api.OK)
	answers(t, e.Wipe(1), api.OK)
	expect(t, e, look{ops: 2})
}

// What is wiped and written anew is not synced by what was synced ahead of the Wipe.
func TestWipedIsNotSynced(t *testing.T) {
	for keep, want := range []look{{a: "", b: "XY"}, {a: "n", b: "XY"}, {a: "ne", b: "XY"}, {a: "new", b: "XY"}, {a: "new", b: "XYz"}, {a: "new", b: "XYzw"}, {a: "new", b: "XYzw"}} {
		d := mixed(t)
		answers(t, d.Wipe(0), api.OK)
		put(t, d, 0, "new")
		d.Arm(api.Crash{At: 0, Keep: keep})
		answers(t, d.Sync(), api.ErrCrash)
		want.down, want.ops, want.room = true, 7, 9
		expect(t, d, want)
	}
}

func TestOpsCountsWhatIsWell(t *testing.T) {
	d := mixed(t)
	for i, r := range refusals(d) {
		if err := r.do(); err != r.want {
			t.Error(i, err)
		}
		expect(t, d, look{a: "ABcd", b: "XYzw", ops: 5, room: 9})
	}
	for name := range operations(d) {
		d = mixed(t)
		answers(t, operations(d)[name](), api.OK)
		if d.Ops() != 6 {
			t.Error(name, d.Ops())
		}
	}
}

func TestWhereItCrashes(t *testing.T) {
	// A deck of mixed had five operations: whatever is At 5 or ahead of it is the next one.
	for _, at := range []int{least, -1, 0, 1, 4, 5} {
		for name := range operations(nil) {
			d := mixed(t)
			d.Arm(api.Crash{At: at})
			expect(t, d, look{a: "ABcd", b: "XYzw", ops: 5, room: 9})
			answers(t, operations(d)[name](), api.ErrCrash)
			expect(t, d, look{a: "AB", b: "XY", down: true, ops: 5, room: 9})
		}
	}
	for _, later := range []int{1, 2, 7} {
		for name := range operations(nil) {
			d := mixed(t)
			d.Arm(api.Crash{At: 5 + later})
			for range later {
				answers(t, d.Sync(), api.OK)
			}
			answers(t, operations(d)[name](), api.ErrCrash)
			expect(t, d, look{a: "ABcd", b: "XYzw", down: true, ops: 5 + later, room: 9})
		}
	}
	d := New(2)
	d.Arm(api.Crash{At: most})
	for range 1000 {
		answers(t, d.Sync(), api.OK)
	}
	expect(t, d, look{ops: 1000, room: 2})
}

func TestCrashAtTheFirstOperation(t *testing.T) {
	for _, at := range []int{least, -1, 0} {
		for name := range operations(nil) {
			d := New(9)
			d.Arm(api.Crash{At: at, Keep: 5})
			answers(t, operations(d)[name](), api.ErrCrash)
			expect(t, d, look{down: true, room: 9})
		}
	}
	// Ops is 0 again behind a Restart, and At counts from there.
	d := mixed(t)
	d.Restart()
	d.Arm(api.Crash{At: 1})
	answers(t, d.Sync(), api.OK)
	answers(t, d.Sync(), api.ErrCrash)
	expect(t, d, look{a: "AB", b: "XY", down: true, ops: 1, room: 9})
}

func TestWhatIsRefusedDoesNotCrash(t *testing.T) {
	for i, r := range refusals(nil) {
		d := mixed(t)
		d.Arm(api.Crash{At: 5, Keep: 1})
		if err := refusals(d)[i].do(); err != r.want {
			t.Error(i, err)
		}
		expect(t, d, look{a: "ABcd", b: "XYzw", ops: 5, room: 9})
		answers(t, d.Append(0, []byte("k")), api.ErrCrash)
		expect(t, d, look{a: "ABc", b: "XY", down: true, ops: 5, room: 9})
	}
	// Nor does an Arm far ahead of the next operation make it count.
	d := mixed(t)
	d.Arm(api.Crash{At: 6})
	answers(t, d.Append(2, nil), api.ErrArg)
	answers(t, d.Append(0, make([]byte, 6)), api.ErrFull)
	answers(t, d.Append(0, make([]byte, 5)), api.OK)
	answers(t, d.Sync(), api.ErrCrash)
}

func TestWhatACrashLeaves(t *testing.T) {
	for _, x := range []struct {
		keep int
		a, b string
	}{
		{least, "AB", "XY"}, {-1, "AB", "XY"}, {0, "AB", "XY"},
		{1, "ABc", "XY"}, {2, "ABcd", "XY"},
		{3, "ABcd", "XYz"}, {4, "ABcd", "XYzw"},
		{5, "ABcd", "XYzw"}, {most, "ABcd", "XYzw"},
	} {
		for name := range operations(nil) {
			d := mixed(t)
			d.Arm(api.Crash{At: 5, Keep: x.keep})
			answers(t, operations(d)[name](), api.ErrCrash)
			expect(t, d, look{a: x.a, b: x.b, down: true, ops: 5, room: 9})
			// What is left is synced.
			d.Restart()
			expect(t, d, look{a: x.a, b: x.b, room: 9})
			put(t, d, 0, "n")
			put(t, d, 1, "n")
			expect(t, d, look{a: x.a + "n", b: x.b + "n", ops: 2, room: 9})
			d.Restart()
			expect(t, d, look{a: x.a, b: x.b, room: 9})
		}
	}
}

func TestWhatACrashLeavesOfOneSide(t *testing.T) {
	for side := range sides {
		for keep, want := range []string{"S", "Su", "Suv", "Suv", "Suv"} {
			d := New(5)
			put(t, d, side, "S")
			answers(t, d.Sync(), api.OK)
			put(t, d, side, "u")
			put(t, d, side, "v")
			d.Arm(api.Crash{Keep: keep})
			answers(t, d.Wipe(side), api.ErrCrash)
			if string(d.Read(side)) != want || len(d.Read(1-side)) != 0 {
				t.Errorf("%d %d %q", side, keep, d.Read(side))
			}
		}
	}
}

func TestDown(t *testing.T) {
	d := mixed(t)
	d.Arm(api.Crash{At: 5, Keep: 3})
	answers(t, d.Sync(), api.ErrCrash)
	want := look{a: "ABcd", b: "XYz", down: true, ops: 5, room: 9}
	for range 2 {
		for name, do := range operations(d) {
			if do() != api.ErrCrash {
				t.Error(name)
			}
			expect(t, d, want)
		}
		// Down comes ahead of no such side and of no room.
		for _, r := range refusals(d) {
			answers(t, r.do(), api.ErrCrash)
			expect(t, d, want)
		}
		for _, side := range noSides() {
			if d.Read(side) != nil {
				t.Error("Read", side)
			}
		}
		// An Arm changes nothing of a deck that is Down.
		d.Arm(api.Crash{At: 1000, Keep: 0})
		expect(t, d, want)
	}
	d.Restart()
	expect(t, d, look{a: "ABcd", b: "XYz", room: 9})
	put(t, d, 0, "n")
}

func TestArm(t *testing.T) {
	// Of two the later one holds, be it for an earlier operation or a later one.
	d := mixed(t)
	d.Arm(api.Crash{At: 5, Keep: 1})
	d.Arm(api.Crash{At: 6, Keep: 3})
	put(t, d, 0, "e")
	answers(t, d.Sync(), api.ErrCrash)
	expect(t, d, look{a: "ABcde", b: "XY", down: true, ops: 6, room: 9})

	d = mixed(t)
	d.Arm(api.Crash{At: 1000, Keep: 4})
	d.Arm(api.Crash{At: 2, Keep: 0})
	answers(t, d.Sync(), api.ErrCrash)
	expect(t, d, look{a: "AB", b: "XY", down: true, ops: 5, room: 9})

	// Armed while it is Down, it is not Armed behind the Restart.
	d.Arm(api.Crash{At: 0, Keep: 0})
	d.Restart()
	for range 9 {
		answers(t, d.Sync(), api.OK)
	}
	expect(t, d, look{a: "AB", b: "XY", ops: 9, room: 9})
}

func TestRestart(t *testing.T) {
	// Neither Down nor Armed: what is not synced is gone.
	d := mixed(t)
	d.Restart()
	expect(t, d, look{a: "AB", b: "XY", room: 9})
	d.Restart()
	expect(t, d, look{a: "AB", b: "XY", room: 9})

	// Armed: not any more, and Keep leaves nothing where there was no crash.
	d = mixed(t)
	d.Arm(api.Crash{At: 7, Keep: 9})
	d.Restart()
	expect(t, d, look{a: "AB", b: "XY", room: 9})
	for range 9 {
		answers(t, d.Sync(), api.OK)
	}
	expect(t, d, look{a: "AB", b: "XY", ops: 9, room: 9})

	// Down: it goes on, and does not crash again by itself.
	d = mixed(t)
	d.Arm(api.Crash{At: 0, Keep: 1})
	answers(t, d.Wipe(1), api.ErrCrash)
	d.Restart()
	expect(t, d, look{a: "ABc", b: "XY", room: 9})
	answers(t, d.Wipe(1), api.OK)
	put(t, d, 0, "n")
	answers(t, d.Sync(), api.OK)
	d.Restart()
	expect(t, d, look{a: "ABcn", room: 9})

	// A second crash, of what came behind the first.
	put(t, d, 1, "pq")
	d.Arm(api.Crash{At: 1, Keep: 1})
	answers(t, d.Sync(), api.ErrCrash)
	expect(t, d, look{a: "ABcn", b: "p", down: true, ops: 1, room: 9})

	e := New(0)
	e.Restart()
	expect(t, e, look{})
}

func TestTheDocumentsExample(t *testing.T) {
	d := New(api.MaxTape)
	d.Arm(api.Crash{At: 1, Keep: 1})
	answers(t, d.Append(0, []byte("ab")), api.OK)
	answers(t, d.Sync(), api.ErrCrash)
	expect(t, d, look{a: "a", down: true, ops: 1, room: api.MaxTape})
}

func TestNilDeck(t *testing.T) {
	var d *Deck
	for range 2 {
		for side := -1; side <= 2; side++ {
			for _, b := range [][]byte{nil, {}, []byte("a"), make([]byte, api.MaxTape+1)} {
				answers(t, d.Append(side, b), api.ErrCrash)
			}
			answers(t, d.Wipe(side), api.ErrCrash)
			if d.Read(side) != nil {
				t.Error("Read", side)
			}
		}
		answers(t, d.Sync(), api.ErrCrash)
		expect(t, d, look{down: true})
		d.Arm(api.Crash{At: 3, Keep: 4})
		d.Restart()
	}
}

// What is handed in is neither changed nor kept, with the spare room behind it.
func TestAppendKeepsNothing(t *testing.T) {
	for _, err := range []api.Errno{api.OK, api.ErrArg, api.ErrFull, api.ErrCrash} {
		d := mixed(t)
		room := []byte("klmnopqrst")
		b, side := room[:3], 0
		switch err {
		case api.ErrArg:
			side = 2
		case api.ErrFull:
			b = room[:6]
		case api.ErrCrash:
			d.Arm(api.Crash{})
		}
		answers(t, d.Append(side, b), err)
		after := lookAt(d)
		if string(room) != "klmnopqrst" {
			t.Errorf("%d: changed to %q", err, room)
		}
		for i := range room {
			room[i] = '!'
		}
		expect(t, d, after)
		d.Append(0, []byte("e"))
		d.Wipe(0)
		d.Append(0, []byte("efg"))
		if string(room) != "!!!!!!!!!!" {
			t.Errorf("%d: changed later to %q", err, room)
		}
	}
}

// The first bytes of a tape, and of one that was wiped, are no more kept than those behind them.
func TestAppendToAnEmptyTapeKeepsNothing(t *testing.T) {
	d := New(9)
	for range 2 {
		for side := range sides {
			b := []byte("pq")
			answers(t, d.Append(side, b), api.OK)
			b[0] = '!'
			if string(d.Read(side)) != "pq" {
				t.Errorf("%q", d.Read(side))
			}
			put(t, d, side, "r")
			if string(b) != "!q" {
				t.Errorf("%q", b)
			}
			answers(t, d.Wipe(side), api.OK)
		}
	}
}

// fill lays a byte over all of a list, with the spare room behind its end.
func fill(b []byte, c byte) {
	b = b[:cap(b)]
	for i := range b {
		b[i] = c
	}
}

// What is answered is new memory: it changes nothing of the deck, of another answer, and is not changed by what is called later.
func TestReadIsNewMemory(t *testing.T) {
	d := mixed(t)
	a, again, other := d.Read(0), d.Read(0), d.Read(1)
	fill(a, '!')
	put(t, d, 0, "e")
	put(t, d, 1, "v")
	expect(t, d, look{a: "ABcde", b: "XYzwv", ops: 7, room: 9})
	if string(again) != "ABcd" || string(other) != "XYzw" {
		t.Errorf("%q %q", again, other)
	}
	fill(other, '?')
	if string(a) != "!!!!" || string(again) != "ABcd" {
		t.Errorf("%q %q", a, again)
	}
	kept := d.Read(0)
	answers(t, d.Wipe(0), api.OK)
	put(t, d, 0, "12345")
	d.Restart()
	put(t, d, 0, "67890")
	if string(kept) != "ABcde" {
		t.Errorf("%q", kept)
	}
	d.Arm(api.Crash{})
	d.Sync()
	down := d.Read(1)
	fill(down, '!')
	if string(d.Read(1)) != "XY" {
		t.Errorf("%q", d.Read(1))
	}
	d.Restart()
	put(t, d, 1, "pq")
	if string(down) != "!!" {
		t.Errorf("%q", down)
	}
}

// An answer that is appended again is no way back into the deck.
func TestReadIsAppended(t *testing.T) {
	d := New(8)
	put(t, d, 0, "ab")
	x := d.Read(0)
	answers(t, d.Append(0, x), api.OK)
	answers(t, d.Append(1, x), api.OK)
	fill(x, '!')
	expect(t, d, look{a: "abab", b: "ab", ops: 3, room: 8})
}

// mark is a byte of the plain deck below, and whether it is synced.
type mark struct {
	c      byte
	synced bool
}

// plain is the deck as the chapter's words have it, byte by byte.
type plain struct {
	room  int
	tapes [2][]mark
	ops   int
	crash *api.Crash
	down  bool
}

// crashes counts an operation, or crashes ahead of it.
func (p *plain) crashes() bool {
	if p.crash == nil || p.ops < p.crash.At {
		p.ops++
		return false
	}
	p.down = true
	p.drop(p.crash.Keep)
	return true
}

// drop takes off what is not synced but the first keep bytes.
func (p *plain) drop(keep int) {
	for i, l := range p.tapes {
		var left []mark
		for _, m := range l {
			if !m.synced && keep <= 0 {
				continue
			}
			if !m.synced {
				keep--
			}
			left = append(left, mark{m.c, true})
		}
		p.tapes[i] = left
	}
}

func (p *plain) doAppend(side int, b []byte) api.Errno {
	switch {
	case p.down:
		return api.ErrCrash
	case side != 0 && side != 1:
		return api.ErrArg
	case len(p.tapes[side])+len(b) > p.room:
		return api.ErrFull
	case p.crashes():
		return api.ErrCrash
	}
	for _, c := range b {
		p.tapes[side] = append(p.tapes[side], mark{c, false})
	}
	return api.OK
}

func (p *plain) doSync() api.Errno {
	if p.down || p.crashes() {
		return api.ErrCrash
	}
	p.drop(most)
	return api.OK
}

func (p *plain) doWipe(side int) api.Errno {
	switch {
	case p.down:
		return api.ErrCrash
	case side != 0 && side != 1:
		return api.ErrArg
	case p.crashes():
		return api.ErrCrash
	}
	p.tapes[side] = nil
	return api.OK
}

func (p *plain) restart() {
	p.drop(0)
	p.down, p.crash, p.ops = false, nil, 0
}

func (p *plain) look() look {
	var s [2]string
	for i, l := range p.tapes {
		for _, m := range l {
			s[i] += string([]byte{m.c})
		}
	}
	return look{s[0], s[1], p.down, p.ops, p.room}
}

// dice is a row of numbers that is the same in every run.
type dice uint64

// roll is a number from 0 to n - 1.
func (r *dice) roll(n int) int {
	x := uint64(*r)
	x ^= x << 13
	x ^= x >> 7
	x ^= x << 17
	*r = dice(x)
	return int(x>>11) % n
}

// step does one thing, rolled by r, to both decks, and holds what they answer against each other.
func step(t *testing.T, r *dice, d *Deck, p *plain) {
	t.Helper()
	side := r.roll(2)
	if r.roll(20) == 0 {
		side = noSides()[r.roll(len(noSides()))]
	}
	switch n := r.roll(32); {
	case n < 16:
		b := make([]byte, r.roll(5))
		for i := range b {
			b[i] = byte(r.roll(256))
		}
		answers(t, d.Append(side, b), p.doAppend(side, b))
	case n < 22:
		answers(t, d.Sync(), p.doSync())
	case n < 25:
		answers(t, d.Wipe(side), p.doWipe(side))
	case n < 29:
		c := api.Crash{At: p.ops + r.roll(9) - 2, Keep: r.roll(12) - 2}
		d.Arm(c)
		p.crash = &c
	default:
		d.Restart()
		p.restart()
	}
}

func TestAgainstThePlainDeck(t *testing.T) {
	r := dice(0x9e3779b97f4a7c15)
	for range 2000 {
		room := []int{0, 1, 2, 3, 5, 8, 20, 100}[r.roll(8)]
		d, p := New(room), &plain{room: room}
		for range 60 {
			step(t, &r, d, p)
			if got, want := lookAt(d), p.look(); got != want {
				t.Fatalf("got %+v, want %+v", got, want)
			}
		}
	}
}

// What was synced stays, whatever crashes, till it is wiped.
func TestWhatWasSyncedStays(t *testing.T) {
	r := dice(0x2545f4914f6cdd1d)
	for range 500 {
		d := New(60)
		var synced [2]string
		for range 80 {
			switch n := r.roll(12); {
			case n < 5:
				d.Append(r.roll(2), []byte{byte(r.roll(256))})
			case n < 7:
				if d.Sync() == api.OK {
					synced = [2]string{string(d.Read(0)), string(d.Read(1))}
				}
			case n < 8:
				if side := r.roll(2); d.Wipe(side) == api.OK {
					synced[side] = ""
				}
			case n < 10:
				d.Arm(api.Crash{At: d.Ops() + r.roll(4), Keep: r.roll(4)})
			default:
				d.Restart()
			}
			for side, s := range synced {
				if !strings.HasPrefix(string(d.Read(side)), s) {
					t.Fatalf("side %d: %q does not begin with %q", side, d.Read(side), s)
				}
			}
		}
	}
}

// Two decks that are asked the same answer the same.
func TestTheSameAnswersTheSame(t *testing.T) {
	run := func() []look {
		r := dice(77)
		d, p := New(30), &plain{room: 30}
		var out []look
		for range 300 {
			step(t, &r, d, p)
			out = append(out, lookAt(d))
		}
		return out
	}
	if !slices.Equal(run(), run()) {
		t.Error("not the same")
	}
}
