package log

import (
	"bytes"
	"encoding/binary"
	"math"
	"slices"
	"strings"
	"testing"

	"giro/api"
	"giro/tape"
)

// bare is a record of bytes, as it must stand on a tape, by the library.
func bare(s string) string {
	return string(binary.BigEndian.AppendUint16(nil, uint16(len(s)))) + s
}

// first is the record that a log begins with.
func first(gen int64, snap string) string {
	return bare(string(binary.BigEndian.AppendUint64(nil, uint64(gen))) + snap)
}

// whole is all bytes of a log.
func whole(gen int64, snap string, rows ...string) string {
	s := first(gen, snap)
	for _, r := range rows {
		s += bare(r)
	}
	return s
}

// deck is a deck whose sides have those bytes, synced, and that had no operations.
func deck(t *testing.T, room int, sides ...string) *tape.Deck {
	t.Helper()
	d := tape.New(room)
	for i, s := range sides {
		answers(t, d.Append(i, []byte(s)), api.OK)
	}
	answers(t, d.Sync(), api.OK)
	d.Restart()
	return d
}

// long is a text of so many bytes, each unlike its neighbours.
func long(many int) string {
	b := make([]byte, many)
	for i := range b {
		b[i] = byte(i*7 + i>>8 + 1)
	}
	return string(b)
}

// texts is what rows hold.
func texts(rows [][]byte) []string {
	var out []string
	for _, r := range rows {
		out = append(out, string(r))
	}
	return out
}

// answers holds an errno against what it should be.
func answers(t *testing.T, got, want api.Errno) {
	t.Helper()
	if got != want {
		t.Errorf("got error %d, want %d", got, want)
	}
}

// holds holds what Look answers against what it should.
func holds(t *testing.T, d *tape.Deck, gen int64, side int, snap string, rows ...string) {
	t.Helper()
	g, s, b, l, ok := Look(d)
	if !ok || g != gen || s != side || string(b) != snap || !slices.Equal(texts(l), rows) {
		t.Errorf("Look = %d, %d, %.40q, %.40q, %v; want %d, %d, %.40q, %.40q, true", g, s, b, l, ok, gen, side, snap, rows)
	}
}

// holdsNone checks that a deck holds no log.
func holdsNone(t *testing.T, d *tape.Deck) {
	t.Helper()
	if g, s, b, l, ok := Look(d); g != 0 || s != 0 || b != nil || l != nil || ok {
		t.Errorf("Look = %d, %d, %.40q, %.40q, %v; want nothing", g, s, b, l, ok)
	}
}

// face is all that a deck tells.
type face struct {
	a, b string
	down bool
	ops  int
}

func faceOf(d *tape.Deck) face {
	return face{string(d.Read(0)), string(d.Read(1)), d.Down(), d.Ops()}
}

// stays checks that a deck tells what it told.
func stays(t *testing.T, d *tape.Deck, want face) {
	t.Helper()
	if got := faceOf(d); got != want {
		t.Errorf("the deck is %.80q %.80q, down %v, %d operations; want %.80q %.80q, %v, %d", got.a, got.b, got.down, got.ops, want.a, want.b, want.down, want.ops)
	}
}

// hasRows checks how many rows a log has.
func hasRows(t *testing.T, l *Log, want int) {
	t.Helper()
	if got := l.Rows(); got != want {
		t.Errorf("Rows = %d, want %d", got, want)
	}
}

// opened is a log that Open answers, which must be well.
func opened(t *testing.T, d *tape.Deck, fresh string, snap string, rows ...string) *Log {
	t.Helper()
	l, b, r, err := Open(d, []byte(fresh))
	if l == nil || err != api.OK || string(b) != snap || !slices.Equal(texts(r), rows) {
		t.Fatalf("Open = %.40q, %.40q, %d; want %.40q, %.40q, OK", b, r, err, snap, rows)
	}
	hasRows(t, l, len(rows))
	return l
}

// begun is a log on a new deck of that room, on that side and of that generation, not stale, without rows.
func begun(t *testing.T, room int, gen int64, side int, snap string) (*Log, *tape.Deck) {
	t.Helper()
	sides := []string{"", ""}
	sides[1-side] = whole(gen-1, "")
	d := deck(t, room, sides...)
	var l *Log
	if gen == 1 {
		d = tape.New(room)
		l = opened(t, d, snap, snap)
	} else {
		l = opened(t, d, "never", "")
		answers(t, l.Save([]byte(snap)), api.OK)
	}
	holds(t, d, gen, side, snap)
	return l, d
}

// noOpen checks that Open answers an error and nothing beside it.
func noOpen(t *testing.T, d *tape.Deck, fresh string, want api.Errno) {
	t.Helper()
	l, b, r, err := Open(d, []byte(fresh))
	if l != nil || b != nil || r != nil || err != want {
		t.Errorf("Open = %v, %.40q, %.40q, %d; want nil, nothing, %d", l, b, r, err, want)
	}
}

// P6.1: what a deck holds, and on which side.
func TestLook(t *testing.T) {
	for _, x := range []struct {
		a, b string
		gen  int64
		side int
		snap string
		rows []string
	}{
		{whole(1, "s"), "", 1, 0, "s", nil},
		{"", whole(1, "s"), 1, 1, "s", nil},
		{whole(1, ""), "", 1, 0, "", nil},
		{"", whole(7, ""), 7, 1, "", nil},
		{whole(1, "s", "a", "", "bcd"), "", 1, 0, "s", []string{"a", "", "bcd"}},
		{"", whole(2, "", ""), 2, 1, "", []string{""}},
		{whole(3, "s", "a"), whole(4, "t", "b", "c"), 4, 1, "t", []string{"b", "c"}},
		{whole(4, "s", "a"), whole(3, "t", "b", "c"), 4, 0, "s", []string{"a"}},
		{whole(5, "s"), whole(5, "t", "b"), 5, 0, "s", nil},
		{whole(5, "s", "a"), whole(5, "t"), 5, 0, "s", []string{"a"}},
		{whole(1, ""), whole(1, "t", "b"), 1, 0, "", nil},
		{whole(1<<62, ""), whole(1<<62, "t"), 1 << 62, 0, "", nil},
		// Bytes are no signed or shorter number: the highest counts most.
		{whole(255, "s"), whole(256, "t"), 256, 1, "t", nil},
		{whole(1<<32, "s"), whole(1<<31, "t"), 1 << 32, 0, "s", nil},
		{whole(1<<56, "s"), whole(255, "t"), 1 << 56, 0, "s", nil},
		// A row may look like what a log begins with.
		{whole(1, "s", first(9, "x"), first(9, "x")[2:]), whole(2, "t"), 2, 1, "t", nil},
		{whole(1, first(9, "x"), first(9, "x")), "", 1, 0, first(9, "x"), []string{first(9, "x")}},
	} {
		holds(t, deck(t, 500, x.a, x.b), x.gen, x.side, x.snap, x.rows...)
	}
	long := whole(8, long(api.MaxRec-8), long(api.MaxRec), long(api.MaxRec))
	holds(t, deck(t, api.MaxTape, whole(7, "s"), long), 8, 1, long[10:api.MaxRec+2], long[api.MaxRec+4:2*api.MaxRec+4], long[2*api.MaxRec+6:])
}

// P6.1: a first record of fewer than eight bytes, one of no such generation, or one that is cut is no log's.
func TestLookOfWhatIsNone(t *testing.T) {
	cut := first(9, "snap")
	none := []string{
		"", "\x00", "\x00\x08", "\xff\xff",
		bare(""), bare("\x01"), bare("\x00\x00\x00\x00\x00\x00\x01"),
		bare("") + whole(9, "s"), bare("row") + whole(9, "s", "a"),
		first(0, ""), whole(0, "s", "a"), whole(-1, "s"), whole(-1<<62, "s"), whole(math.MinInt64, "s"),
		whole(1<<62+1, ""), whole(1<<62+1, "s", "a"), whole(math.MaxInt64, "s"),
		"\xea\x61" + long(api.MaxRec+1), "\xff\xff" + long(65535),
	}
	for end := range len(cut) {
		none = append(none, cut[:end])
	}
	for _, s := range none {
		d := deck(t, api.MaxTape, s, s)
		holdsNone(t, d)
		holds(t, deck(t, api.MaxTape, s, whole(1, "t", "b")), 1, 1, "t", "b")
		holds(t, deck(t, api.MaxTape, whole(1, "t", "b"), s), 1, 0, "t", "b")
	}
	holdsNone(t, deck(t, 0))
	holdsNone(t, nil)
}

// P6.1: generations go from 1 to 2^62, and eight bytes are enough.
func TestLookOfGenerations(t *testing.T) {
	for _, gen := range []int64{1, 2, 127, 128, 255, 256, 1<<32 - 1, 1 << 32, 1 << 61, 1<<62 - 1, 1 << 62} {
		for side := range 2 {
			sides := []string{"", ""}
			sides[side] = first(gen, "")
			holds(t, deck(t, 30, sides...), gen, side, "")
			sides[1-side] = whole(gen+1, "other")
			if gen < 1<<62 {
				holds(t, deck(t, 30, sides...), gen+1, 1-side, "other")
			} else {
				holds(t, deck(t, 30, sides...), gen, side, "")
			}
		}
	}
}

// P6.1: rows end at the first that is cut.
func TestLookOfRowsThatAreCut(t *testing.T) {
	rows := []string{"a", "", "bcd", "efghij"}
	all := whole(3, "snap", rows...)
	for end := len(first(3, "snap")); end <= len(all); end++ {
		many, at := 0, len(first(3, "snap"))
		for many < len(rows) && at+2+len(rows[many]) <= end {
			at += 2 + len(rows[many])
			many++
		}
		holds(t, deck(t, 200, all[:end]), 3, 0, "snap", rows[:many]...)
		holds(t, deck(t, 200, whole(2, "old"), all[:end]), 3, 1, "snap", rows[:many]...)
	}
	holds(t, deck(t, 200, whole(3, "snap", "a")+"\xea\x61"+bare("b")), 3, 0, "snap", "a")
}

// P6.1: Look reads what is not synced too, and a deck that is Down.
func TestLookOfADeckAsItIs(t *testing.T) {
	d := tape.New(100)
	d.Append(1, []byte(whole(2, "s")))
	holds(t, d, 2, 1, "s")
	d.Arm(api.Crash{Keep: 3})
	answers(t, d.Sync(), api.ErrCrash)
	holdsNone(t, d)
	e := deck(t, 100, whole(2, "s", "a"))
	e.Arm(api.Crash{})
	answers(t, e.Wipe(0), api.ErrCrash)
	before := faceOf(e)
	holds(t, e, 2, 0, "s", "a")
	stays(t, e, before)
}

// P6.2: where no log is held, fresh is saved with generation 1 on side 0, by three operations.
func TestOpenOfNone(t *testing.T) {
	for _, fresh := range []string{"", "f", "fresh", long(181)} {
		for _, x := range [][2]string{{"", ""}, {"torn", ""}, {first(4, "s")[:9], ""}, {whole(0, "s"), ""}, {"", "other"}, {"torn", whole(-3, "t", "b")}} {
			d := deck(t, 191, x[0], x[1])
			l := opened(t, d, fresh, fresh)
			stays(t, d, face{first(1, fresh), x[1], false, 3})
			holds(t, d, 1, 0, fresh)
			d.Restart()
			stays(t, d, face{first(1, fresh), x[1], false, 0})
			// It is not stale.
			if len(fresh) < 100 {
				answers(t, l.Add([]byte("row")), api.OK)
				hasRows(t, l, 1)
				holds(t, d, 1, 0, fresh, "row")
			}
		}
	}
	if l, _, _, err := Open(tape.New(10), nil); l == nil || err != api.OK {
		t.Error(err)
	}
}

// P6.2: where a log is held, it is what Look has, nothing is done, and it takes no row till it is Saved.
func TestOpenOfALog(t *testing.T) {
	for _, x := range []struct {
		a, b string
		gen  int64
		side int
		snap string
		rows []string
	}{
		{whole(1, "s", "a", ""), "", 1, 0, "s", []string{"a", ""}},
		{"", whole(1, ""), 1, 1, "", nil},
		{whole(3, "s"), whole(9, "t", "b"), 9, 1, "t", []string{"b"}},
		{whole(5, "s", "a"), whole(4, "t", "b"), 5, 0, "s", []string{"a"}},
		{whole(5, "s"), whole(5, "t", "b"), 5, 0, "s", nil},
		{whole(2, "s", "a") + "\x00\x05cu", "torn", 2, 0, "s", []string{"a"}},
		{first(6, "s")[:10], whole(5, "t", "b") + "\x00", 5, 1, "t", []string{"b"}},
	} {
		d := deck(t, 300, x.a, x.b)
		l := opened(t, d, "never", x.snap, x.rows...)
		stays(t, d, face{x.a, x.b, false, 0})
		for _, row := range []string{"", "a", long(api.MaxRec + 1)} {
			answers(t, l.Add([]byte(row)), api.ErrDisk)
			hasRows(t, l, len(x.rows))
			stays(t, d, face{x.a, x.b, false, 0})
		}
		answers(t, l.Save([]byte("next")), api.OK)
		hasRows(t, l, 0)
		want := face{x.a, x.b, false, 3}
		if x.side == 0 {
			want.b = first(x.gen+1, "next")
		} else {
			want.a = first(x.gen+1, "next")
		}
		stays(t, d, want)
		answers(t, l.Add([]byte("row")), api.OK)
		hasRows(t, l, 1)
		holds(t, d, x.gen+1, 1-x.side, "next", "row")
	}
}

// P6.2: fresh is nothing where a log is held, be it ever so long.
func TestOpenOfALogWithAnyFresh(t *testing.T) {
	for _, fresh := range []string{"", "never", long(50), long(api.MaxRec + 1), long(api.MaxTape + 1)} {
		d := deck(t, 20, whole(2, "s", "a"))
		opened(t, d, fresh, "s", "a")
		stays(t, d, face{whole(2, "s", "a"), "", false, 0})
	}
}

// P6.2: a deck that is Down is opened too, if it holds a log: what it is asked then fails.
func TestOpenOfADeckThatIsDown(t *testing.T) {
	d := deck(t, 50, whole(2, "s", "a"))
	d.Arm(api.Crash{})
	answers(t, d.Sync(), api.ErrCrash)
	before := faceOf(d)
	l := opened(t, d, "never", "s", "a")
	answers(t, l.Add(nil), api.ErrDisk)
	answers(t, l.Save([]byte(long(41))), api.ErrDisk)
	answers(t, l.Save([]byte("x")), api.ErrCrash)
	hasRows(t, l, 1)
	stays(t, d, before)
	e := tape.New(50)
	e.Arm(api.Crash{})
	answers(t, e.Sync(), api.ErrCrash)
	noOpen(t, e, "x", api.ErrCrash)
	noOpen(t, e, long(41), api.ErrDisk)
}

// P6.1, P6.2: what there is no record of, or no room for on an empty tape, is not saved, and nothing is done.
func TestOpenThatCanNotSave(t *testing.T) {
	for _, x := range []struct {
		room, many int
		want       api.Errno
	}{
		{10, 0, api.OK}, {9, 0, api.ErrDisk}, {0, 0, api.ErrDisk}, {1, 0, api.ErrDisk},
		{13, 3, api.OK}, {12, 3, api.ErrDisk}, {13, 4, api.ErrDisk}, {11, 3, api.ErrDisk}, {3, 3, api.ErrDisk},
		{api.MaxRec + 2, api.MaxRec - 8, api.OK}, {api.MaxRec + 1, api.MaxRec - 8, api.ErrDisk},
		{api.MaxTape, api.MaxRec - 9, api.OK}, {api.MaxTape, api.MaxRec - 8, api.OK},
		{api.MaxTape, api.MaxRec - 7, api.ErrDisk}, {api.MaxTape, api.MaxRec, api.ErrDisk}, {api.MaxTape, api.MaxRec + 1, api.ErrDisk},
		{api.MaxTape, 65536 - 8, api.ErrDisk}, {api.MaxTape, 65536, api.ErrDisk}, {api.MaxTape, api.MaxTape, api.ErrDisk},
	} {
		fresh := long(x.many)
		torn := "torn"[:min(x.room, 4)]
		d := deck(t, x.room, torn, torn)
		if x.want == api.OK {
			opened(t, d, fresh, fresh)
			stays(t, d, face{first(1, fresh), torn, false, 3})
			continue
		}
		// Not even a crash that is near comes by it.
		d.Arm(api.Crash{})
		noOpen(t, d, fresh, x.want)
		stays(t, d, face{torn, torn, false, 0})
	}
}

// P6.1, P6.2: Open that crashes at any of its operations answers no log.
func TestOpenThatCrashes(t *testing.T) {
	record := first(1, "fresh")
	for at, want := range []face{{"torn", "T", true, 0}, {"", "T", true, 1}, {"", "T", true, 2}} {
		d := deck(t, 100, "torn", "T")
		d.Arm(api.Crash{At: at})
		noOpen(t, d, "fresh", api.ErrCrash)
		stays(t, d, want)
		noOpen(t, d, "fresh", api.ErrCrash)
		d.Restart()
		opened(t, d, "anew", "anew")
	}
	for keep := range len(record) + 3 {
		d := deck(t, 100, "torn", "T")
		d.Arm(api.Crash{At: 2, Keep: keep})
		noOpen(t, d, "fresh", api.ErrCrash)
		stays(t, d, face{record[:min(keep, len(record))], "T", true, 2})
		d.Restart()
		if keep < len(record) {
			holdsNone(t, d)
			opened(t, d, "anew", "anew")
			holds(t, d, 1, 0, "anew")
		} else {
			answers(t, opened(t, d, "anew", "fresh").Add(nil), api.ErrDisk)
		}
	}
}

// P6.2: rows stand one behind the other, in order, each synced by two operations.
func TestAdd(t *testing.T) {
	for _, x := range []struct {
		gen  int64
		side int
	}{{1, 0}, {2, 1}, {7, 0}, {1 << 62, 1}} {
		l, d := begun(t, api.MaxTape, x.gen, x.side, "s")
		d.Restart()
		other := string(d.Read(1 - x.side))
		var rows []string
		for i, row := range []string{"a", "", "bcd", "", "\x00\x01", "\xff\xff", first(99, "x"), long(255), long(256), long(api.MaxRec - 1), long(api.MaxRec)} {
			answers(t, l.Add([]byte(row)), api.OK)
			rows = append(rows, row)
			hasRows(t, l, i+1)
			holds(t, d, x.gen, x.side, "s", rows...)
			if d.Ops() != 2*(i+1) || string(d.Read(x.side)) != whole(x.gen, "s", rows...) || string(d.Read(1-x.side)) != other {
				t.Error(x, i, d.Ops())
			}
		}
		answers(t, l.Add(nil), api.OK)
		rows = append(rows, "")
		d.Restart()
		holds(t, d, x.gen, x.side, "s", rows...)
		opened(t, d, "never", "s", rows...)
	}
}

// P6.2: a row of which there is no record, or that has no room, is ErrDisk, and nothing is done.
func TestAddWithoutRoom(t *testing.T) {
	for side := range 2 {
		l, d := begun(t, 30, int64(1+side), side, "s")
		answers(t, l.Add([]byte("abc")), api.OK)
		before := faceOf(d)
		// 16 bytes stand there: a row of 12 has just room.
		for _, many := range []int{13, 14, 28, 29, 30, 31, api.MaxRec, api.MaxRec + 1, 65536, 65537, api.MaxTape} {
			answers(t, l.Add([]byte(long(many))), api.ErrDisk)
			hasRows(t, l, 1)
			stays(t, d, before)
		}
		answers(t, l.Add([]byte(long(12))), api.OK)
		hasRows(t, l, 2)
		// Not even one of no bytes.
		answers(t, l.Add(nil), api.ErrDisk)
		hasRows(t, l, 2)
		holds(t, d, int64(1+side), side, "s", "abc", long(12))
		// One byte of room is none for a record, two are.
		l, d = begun(t, 14, int64(1+side), side, "s")
		answers(t, l.Add([]byte("a")), api.OK)
		answers(t, l.Add(nil), api.ErrDisk)
		l, d = begun(t, 13, int64(1+side), side, "s")
		answers(t, l.Add([]byte{}), api.OK)
		answers(t, l.Add([]byte{}), api.ErrDisk)
		holds(t, d, int64(1+side), side, "s", "")
	}
	l, d := begun(t, api.MaxTape, 1, 0, "")
	before := faceOf(d)
	d.Arm(api.Crash{})
	for _, many := range []int{api.MaxRec + 1, 65535, 65536, 65537, 65536 + 3, api.MaxTape, api.MaxTape + 1} {
		answers(t, l.Add([]byte(long(many))), api.ErrDisk)
		stays(t, d, before)
	}
	hasRows(t, l, 0)
}

// P6.2, P6.3: an Add that crashes is there whole, or not at all, and is not counted.
func TestAddThatCrashes(t *testing.T) {
	for side := range 2 {
		for at := range 2 {
			for keep := range 8 {
				l, d := begun(t, 60, int64(1+side), side, "s")
				answers(t, l.Add([]byte("a")), api.OK)
				d.Arm(api.Crash{At: d.Ops() + at, Keep: keep})
				answers(t, l.Add([]byte("bcd")), api.ErrCrash)
				hasRows(t, l, 1)
				// Whatever comes while it is Down is ErrCrash, but what is refused ahead of any operation.
				answers(t, l.Add([]byte("e")), api.ErrCrash)
				answers(t, l.Add([]byte(long(60))), api.ErrCrash)
				answers(t, l.Add([]byte(long(api.MaxRec+1))), api.ErrDisk)
				answers(t, l.Save([]byte("t")), api.ErrCrash)
				hasRows(t, l, 1)
				d.Restart()
				if at == 1 && keep >= 5 {
					holds(t, d, int64(1+side), side, "s", "a", "bcd")
				} else {
					holds(t, d, int64(1+side), side, "s", "a")
				}
			}
		}
	}
}

// P6.2: Save takes turns of the sides, the generation is one more each time, the log ahead of it stays as it was.
func TestSave(t *testing.T) {
	d := tape.New(100)
	l := opened(t, d, "0", "0")
	for i := range 9 {
		gen, side := int64(i+1), i%2
		for many := range i % 3 {
			answers(t, l.Add([]byte("r")), api.OK)
			hasRows(t, l, many+1)
		}
		was, ops := string(d.Read(side)), d.Ops()
		snap := strings.Repeat("s", i*i)
		answers(t, l.Save([]byte(snap)), api.OK)
		hasRows(t, l, 0)
		holds(t, d, gen+1, 1-side, snap)
		if d.Ops() != ops+3 || string(d.Read(side)) != was || string(d.Read(1-side)) != first(gen+1, snap) {
			t.Error(i, d.Ops())
		}
		d.Restart()
		holds(t, d, gen+1, 1-side, snap)
	}
	answers(t, l.Save(nil), api.OK)
	holds(t, d, 11, 0, "")
}

// P6.1, P6.2: what can't be saved is ErrDisk: nothing is done, and the log goes on as it was.
func TestSaveThatCanNotBe(t *testing.T) {
	for _, x := range []struct{ room, most int }{{60, 50}, {61, 51}, {api.MaxRec + 1, api.MaxRec - 9}, {api.MaxRec + 2, api.MaxRec - 8}, {api.MaxRec + 3, api.MaxRec - 8}, {api.MaxTape, api.MaxRec - 8}} {
		for side := range 2 {
			gen := int64(1 + side)
			l, d := begun(t, x.room, gen, side, "s")
			answers(t, l.Add([]byte("a")), api.OK)
			before := faceOf(d)
			for _, many := range []int{x.most + 1, x.most + 2, x.most + 8, x.most + 9, x.most + 10, x.most + 11, 65536 - 8, 65536, 65536 + 3, api.MaxTape + 1} {
				d.Arm(api.Crash{})
				answers(t, l.Save([]byte(long(many))), api.ErrDisk)
				hasRows(t, l, 1)
				stays(t, d, before)
			}
			d.Restart()
			answers(t, l.Add([]byte("b")), api.OK)
			hasRows(t, l, 2)
			holds(t, d, gen, side, "s", "a", "b")
			answers(t, l.Save([]byte(long(x.most))), api.OK)
			holds(t, d, gen+1, 1-side, long(x.most))
			hasRows(t, l, 0)
		}
	}
}

// P6.2: a log that was stale is stale still when it could not be Saved.
func TestSaveThatCanNotBeStaysStale(t *testing.T) {
	d := deck(t, 30, whole(3, "s", "a", "b"), "torn")
	l := opened(t, d, "never", "s", "a", "b")
	before := faceOf(d)
	answers(t, l.Save([]byte(long(21))), api.ErrDisk)
	answers(t, l.Add(nil), api.ErrDisk)
	hasRows(t, l, 2)
	stays(t, d, before)
	d.Arm(api.Crash{At: 1})
	answers(t, l.Save([]byte("t")), api.ErrCrash)
	hasRows(t, l, 2)
	d.Restart()
	answers(t, l.Add(nil), api.ErrDisk)
	answers(t, l.Save([]byte(long(20))), api.OK)
	holds(t, d, 4, 1, long(20))
	// It has no room, but it is not stale: behind a smaller one it takes rows.
	answers(t, l.Add(nil), api.ErrDisk)
	answers(t, l.Save([]byte("u")), api.OK)
	answers(t, l.Add(nil), api.OK)
	holds(t, d, 5, 0, "u", "")
}

// P6.1: no generation is above 2^62.
func TestSaveOfTheLastGeneration(t *testing.T) {
	for side := range 2 {
		sides := []string{"torn", "torn"}
		sides[side] = whole(1<<62-1, "s")
		d := deck(t, 50, sides...)
		l := opened(t, d, "never", "s")
		answers(t, l.Save([]byte("t")), api.OK)
		holds(t, d, 1<<62, 1-side, "t")
		answers(t, l.Add([]byte("a")), api.OK)
		before := faceOf(d)
		for range 2 {
			for _, snap := range []string{"", "u", long(41), long(api.MaxRec + 1)} {
				d.Arm(api.Crash{})
				answers(t, l.Save([]byte(snap)), api.ErrDisk)
				hasRows(t, l, 1)
				stays(t, d, before)
			}
		}
		d.Restart()
		answers(t, l.Add([]byte("b")), api.OK)
		holds(t, d, 1<<62, 1-side, "t", "a", "b")
		l = opened(t, d, "never", "t", "a", "b")
		answers(t, l.Save([]byte("u")), api.ErrDisk)
		answers(t, l.Add([]byte("c")), api.ErrDisk)
		holds(t, d, 1<<62, 1-side, "t", "a", "b")
	}
}

// P6.1 to P6.3: a Save that crashes at any of its operations is there whole, or not at all, and the log goes on as it was.
func TestSaveThatCrashes(t *testing.T) {
	record := len(first(2, "next"))
	for side := range 2 {
		gen := int64(1 + side)
		for at := range 3 {
			for keep := range record + 3 {
				l, d := begun(t, 60, gen, side, "s")
				answers(t, l.Add([]byte("a")), api.OK)
				was, ops := string(d.Read(side)), d.Ops()
				d.Arm(api.Crash{At: ops + at, Keep: keep})
				answers(t, l.Save([]byte("next")), api.ErrCrash)
				hasRows(t, l, 1)
				if d.Ops() != ops+at || !d.Down() || string(d.Read(side)) != was {
					t.Error(side, at, keep)
				}
				answers(t, l.Add([]byte("b")), api.ErrCrash)
				answers(t, l.Save([]byte("more")), api.ErrCrash)
				d.Restart()
				if at == 2 && keep >= record {
					holds(t, d, gen+1, 1-side, "next")
					continue
				}
				holds(t, d, gen, side, "s", "a")
				answers(t, l.Add([]byte("b")), api.OK)
				hasRows(t, l, 2)
				holds(t, d, gen, side, "s", "a", "b")
				answers(t, l.Save([]byte("later")), api.OK)
				holds(t, d, gen+1, 1-side, "later")
				hasRows(t, l, 0)
			}
		}
	}
}

// P6.3: of a nil Log, or a nil Deck, ErrCrash, nothing, 0.
func TestNil(t *testing.T) {
	for _, l := range []*Log{nil, {}} {
		for _, many := range []int{0, 1, api.MaxRec, api.MaxRec + 1, api.MaxTape + 1} {
			answers(t, l.Add([]byte(long(many))), api.ErrCrash)
			answers(t, l.Save([]byte(long(many))), api.ErrCrash)
			hasRows(t, l, 0)
			noOpen(t, nil, long(many), api.ErrCrash)
		}
		answers(t, l.Add(nil), api.ErrCrash)
		answers(t, l.Save(nil), api.ErrCrash)
	}
	if l, b, r, err := Open(nil, nil); l != nil || b != nil || r != nil || err != api.ErrCrash {
		t.Error(l, b, r, err)
	}
	holdsNone(t, nil)
}

// Ways: the deck that a log embeds is the one it was opened on, and the log has its calls.
func TestTheDeckIsTheLogs(t *testing.T) {
	d := tape.New(77)
	l := opened(t, d, "s", "s")
	if l.Deck != d || l.Room() != 77 || l.Ops() != 3 || l.Down() || !bytes.Equal(l.Read(0), []byte(first(1, "s"))) {
		t.Error("not its deck")
	}
	d.Arm(api.Crash{})
	answers(t, l.Sync(), api.ErrCrash)
	if !l.Down() || !d.Down() {
		t.Error("not its deck")
	}
	e := deck(t, 77, whole(2, "s"))
	if l = opened(t, e, "", "s"); l.Deck != e {
		t.Error("not its deck")
	}
}

// The document's example.
func TestTheExample(t *testing.T) {
	d := tape.New(100)
	l := opened(t, d, "", "")
	answers(t, l.Add([]byte("a")), api.OK)
	holds(t, d, 1, 0, "", "a")
}

// wide is a text's bytes at the front of more room, which is filled.
func wide(s string) (narrow, all []byte) {
	all = append([]byte(s), bytes.Repeat([]byte{0xa5}, 64)...)
	return all[:len(s)], all
}

// fill lays a byte over all of a list, with the spare room behind its end.
func fill(b []byte, c byte) {
	b = b[:cap(b)]
	for i := range b {
		b[i] = c
	}
}

// P6.3: what is handed in stays as it was, with the room behind it, and is not kept.
func TestWhatIsHandedIn(t *testing.T) {
	for _, s := range []string{"", "s", "a text", long(300)} {
		d := tape.New(1000)
		b, all := wide(s)
		before := bytes.Clone(all)
		same := func() {
			t.Helper()
			if !bytes.Equal(all, before) {
				t.Errorf("%.20q was changed", s)
			}
			fill(all, '?')
		}
		l, snap, _, err := Open(d, b)
		answers(t, err, api.OK)
		same()
		if string(snap) != s {
			t.Error("snap is fresh's memory")
		}
		holds(t, d, 1, 0, s)
		copy(all, before)
		answers(t, l.Add(b), api.OK)
		same()
		holds(t, d, 1, 0, s, s)
		copy(all, before)
		answers(t, l.Save(b), api.OK)
		same()
		holds(t, d, 2, 1, s)
		copy(all, before)
		if _, _, _, err := Open(d, b); err != api.OK {
			t.Error(err)
		}
		same()
		holds(t, d, 2, 1, s)
	}
}

// P6.3: nor is it changed by what is refused.
func TestWhatIsHandedInAndRefused(t *testing.T) {
	for _, many := range []int{0, 20, api.MaxRec - 8, api.MaxRec + 1} {
		b, all := wide(long(many))
		before := bytes.Clone(all)
		l, d := begun(t, 15, 1, 0, "s")
		answers(t, l.Add([]byte("aa")), api.OK)
		Open(tape.New(9), b)
		Open(nil, b)
		l.Add(b)
		if many > 5 {
			l.Save(b)
		}
		d.Arm(api.Crash{})
		d.Sync()
		l.Save(b)
		l.Add(b)
		if !bytes.Equal(all, before) {
			t.Error(many, "bytes were changed")
		}
	}
}

// spoil lays other bytes over all of an answer, and checks that no list of it shares with another.
func spoil(t *testing.T, snap []byte, rows [][]byte) {
	t.Helper()
	lists := append([][]byte{snap}, rows...)
	want := append([]string{string(snap)}, texts(rows)...)
	for i, b := range lists {
		if string(b) != want[i] {
			t.Errorf("list %d shares with one ahead of it", i)
		}
		_ = append(b, "!!!"...)
		fill(b, '!')
	}
	rows = rows[:cap(rows)]
	for i := range rows {
		rows[i] = []byte("?")
	}
}

// P6.3: what is answered is new memory: it shares nothing with the deck, the log, another answer or itself.
func TestWhatIsAnswered(t *testing.T) {
	for _, x := range []struct {
		snap string
		rows []string
	}{{"", nil}, {"s", nil}, {"", []string{""}}, {"snap", []string{"a", "", "bcd", "efghijkl", ""}}, {long(300), []string{long(17), long(200), "z"}}} {
		d := deck(t, 1000, whole(2, x.snap, x.rows...), whole(1, "old", "o"))
		l, snap, rows, err := Open(d, []byte("never"))
		answers(t, err, api.OK)
		_, _, snap2, rows2, _ := Look(d)
		spoil(t, snap, rows)
		holds(t, d, 2, 0, x.snap, x.rows...)
		if string(snap2) != x.snap || !slices.Equal(texts(rows2), x.rows) {
			t.Error("two answers share")
		}
		// W7: an answer stays what it is, whatever is called later.
		answers(t, l.Save([]byte("new")), api.OK)
		answers(t, l.Save([]byte(long(600))), api.OK)
		answers(t, l.Add([]byte(long(300))), api.OK)
		if string(snap2) != x.snap || !slices.Equal(texts(rows2), x.rows) {
			t.Error("an answer changed")
		}
		spoil(t, snap2, rows2)
		hasRows(t, l, 1)
		holds(t, d, 4, 0, long(600), long(300))
		opened(t, d, "never", long(600), long(300))
	}
	d := tape.New(100)
	l, snap, rows, _ := Open(d, []byte("fresh"))
	spoil(t, snap, rows)
	answers(t, l.Add([]byte("a")), api.OK)
	holds(t, d, 1, 0, "fresh", "a")
}

// Two logs on two decks are two.
func TestTwoLogsAreTwo(t *testing.T) {
	c, d := tape.New(100), tape.New(100)
	k, l := opened(t, c, "c", "c"), opened(t, d, "d", "d")
	answers(t, k.Add([]byte("a")), api.OK)
	answers(t, l.Save([]byte("e")), api.OK)
	answers(t, l.Add([]byte("b")), api.OK)
	answers(t, l.Add([]byte("c")), api.OK)
	holds(t, c, 1, 0, "c", "a")
	holds(t, d, 2, 1, "e", "b", "c")
	hasRows(t, k, 1)
	hasRows(t, l, 2)
}

// tale is what a log should hold: a snapshot and rows, as one text.
func tale(snap string, rows ...string) string {
	return strings.Join(append([]string{snap}, rows...), ",")
}

// noLog is told of a deck that holds none: no tale is like it.
const noLog = "(none)"

// told is what a deck holds, as tale has it.
func told(d *tape.Deck) string {
	_, _, snap, rows, ok := Look(d)
	if !ok {
		return noLog
	}
	return tale(string(snap), texts(rows)...)
}

// act asks a log for what a word says: "!x" is Save of x, all else is Add; it answers what the log should hold if that is well.
func act(l *Log, was, word string) (string, api.Errno) {
	if s, ok := strings.CutPrefix(word, "!"); ok {
		return s, l.Save([]byte(s))
	}
	return was + "," + word, l.Add([]byte(word))
}

// work opens a deck's log, Saves it if it was there, and asks it word by word till one fails: what it held when all was well last, what it should hold if the one in flight is there too, and the last error.
func work(t *testing.T, d *tape.Deck, words []string) (was, is string, err api.Errno) {
	t.Helper()
	was = told(d)
	l, snap, rows, err := Open(d, []byte("fresh"))
	if err != api.OK {
		return was, "fresh", err
	}
	is = tale(string(snap), texts(rows)...)
	if was != noLog {
		if is != was {
			t.Fatalf("opened with %q, it held %q", is, was)
		}
		// Saved with other marks, so that the snapshot is not told as the rows it is made of.
		words = append([]string{"!" + strings.ReplaceAll(was, ",", "+")}, words...)
	}
	was = is
	for _, w := range words {
		if is, err = act(l, was, w); err != api.OK {
			return was, is, err
		}
		was = is
	}
	return was, is, api.OK
}

// P6.3: with a crash at any operation, however much is left, what was well is there, and of what crashed all or nothing; and so again when it is opened anew and crashes again.
func TestCrashesAnywhere(t *testing.T) {
	words := []string{"a", "bc", "!two", "", "d", "!", "e", "!three", "!four", "fg"}
	first := func(at, keep int) *tape.Deck {
		d := tape.New(100)
		d.Arm(api.Crash{At: at, Keep: keep})
		was, is, err := work(t, d, words)
		if err != api.OK && err != api.ErrCrash {
			t.Fatal(at, keep, err)
		}
		d.Restart()
		if got := told(d); got != was && got != is {
			t.Fatalf("crash at %d, %d left: %q, not %q or %q", at, keep, got, was, is)
		}
		return d
	}
	for at := range 28 {
		for keep := range 20 {
			first(at, keep)
			for again := range 11 {
				for left := range 24 {
					d := first(at, keep)
					d.Arm(api.Crash{At: again, Keep: left})
					was, is, err := work(t, d, []string{"x", "!y", "z"})
					if err != api.OK && err != api.ErrCrash {
						t.Fatal(at, keep, again, left, err)
					}
					d.Restart()
					if got := told(d); got != was && got != is {
						t.Fatalf("crashes at %d and %d, %d and %d left: %q, not %q or %q", at, again, keep, left, got, was, is)
					}
				}
			}
		}
	}
}

// dice is a row of numbers, the same one for each seed.
type dice uint64

func (r *dice) roll(n int) int {
	x := uint64(*r)
	x ^= x << 13
	x ^= x >> 7
	x ^= x << 17
	*r = dice(x)
	return int(x >> 11 % uint64(n))
}

// plain is a log told in the document's words: what stands on each side is whole texts, not bytes.
type plain struct {
	room  int
	gen   [2]int64
	snap  [2]string
	rows  [2][]string
	side  int
	stale bool
}

// size is how many bytes a side has.
func (p *plain) size(side int) int { return len(whole(p.gen[side], p.snap[side], p.rows[side]...)) }

func (p *plain) add(row string) api.Errno {
	if p.stale || len(row) > api.MaxRec || p.size(p.side)+2+len(row) > p.room {
		return api.ErrDisk
	}
	p.rows[p.side] = append(p.rows[p.side], row)
	return api.OK
}

func (p *plain) save(snap string) api.Errno {
	if len(snap)+8 > api.MaxRec || len(snap)+10 > p.room {
		return api.ErrDisk
	}
	gen := p.gen[p.side] + 1
	p.side, p.stale = 1-p.side, false
	p.gen[p.side], p.snap[p.side], p.rows[p.side] = gen, snap, nil
	return api.OK
}

// Whatever is asked in whatever order: a log is what the document's words make of it.
func TestAgainstPlainWords(t *testing.T) {
	for seed := range 300 {
		r := dice(seed*7919 + 20261118)
		p := &plain{room: 10 + r.roll(90)}
		if seed%30 == 0 {
			p.room = api.MaxTape
		}
		d := tape.New(p.room)
		l := opened(t, d, "", "")
		p.gen[0] = 1
		for step := range 60 {
			many := r.roll(25)
			if seed%30 == 0 && r.roll(3) == 0 {
				many = api.MaxRec - 10 + r.roll(12)
			}
			s := long(many)
			switch n := r.roll(10); {
			case n < 6:
				answers(t, l.Add([]byte(s)), p.add(s))
			case n < 9:
				answers(t, l.Save([]byte(s)), p.save(s))
			default:
				l = opened(t, d, s, p.snap[p.side], p.rows[p.side]...)
				p.stale = true
			}
			hasRows(t, l, len(p.rows[p.side]))
			holds(t, d, p.gen[p.side], p.side, p.snap[p.side], p.rows[p.side]...)
			if t.Failed() {
				t.Fatal("seed", seed, "step", step)
			}
		}
	}
}

// W2: two decks that are asked the same hold the same.
func TestTheSameAnswersTheSame(t *testing.T) {
	run := func() face {
		d := tape.New(300)
		d.Arm(api.Crash{At: 17, Keep: 2})
		work(t, d, []string{"a", "!b", "c", "d", "!e", "f", "g", "h", "i"})
		return faceOf(d)
	}
	if run() != run() {
		t.Error("not the same")
	}
}

// No bytes on the tapes make it panic, and whatever stands there, what is Added and Saved behind the Open is there.
func FuzzOpen(f *testing.F) {
	f.Add([]byte(whole(1, "s", "a")), []byte(whole(2, "t")), []byte("x"))
	f.Add([]byte(first(1<<62, "")), []byte("torn"), []byte(""))
	f.Add([]byte(first(-1, "")), []byte(first(1<<62+1, "")), []byte("snap"))
	f.Fuzz(func(t *testing.T, a, b, x []byte) {
		if max(len(a), len(b), len(x)) > 1000 {
			return
		}
		d := deck(t, 3000, string(a), string(b))
		gen, side, snap, rows, ok := Look(d)
		l, snap2, rows2, err := Open(d, x)
		if l == nil || err != api.OK || l.Rows() != len(rows) {
			t.Fatal(err)
		}
		if !ok {
			holds(t, d, 1, 0, string(x))
			answers(t, l.Add(x), api.OK)
			holds(t, d, 1, 0, string(x), string(x))
			return
		}
		if !bytes.Equal(snap, snap2) || !slices.EqualFunc(rows, rows2, bytes.Equal) || gen < 1 || gen > 1<<62 {
			t.Fatal("Open is not what Look is")
		}
		holds(t, d, gen, side, string(snap), texts(rows)...)
		answers(t, l.Add(x), api.ErrDisk)
		if gen == 1<<62 {
			answers(t, l.Save(x), api.ErrDisk)
			return
		}
		answers(t, l.Save(x), api.OK)
		answers(t, l.Add(x), api.OK)
		holds(t, d, gen+1, 1-side, string(x), string(x))
	})
}
