package rec

import (
	"bytes"
	"encoding/binary"
	"slices"
	"testing"

	"giro/api"
)

// some is so many bytes, each unlike its neighbours, the same ones in each run.
func some(many int) []byte {
	b := make([]byte, many)
	for i := range b {
		b[i] = byte(i*7 + i>>8 + many + 1)
	}
	return b
}

// record is a count and bytes behind it, whether they are so many or not, by the library.
func record(count int, b []byte) []byte {
	return append(binary.BigEndian.AppendUint16(nil, uint16(count)), b...)
}

// whole is what Put must be of bytes that are not too many.
func whole(b []byte) []byte { return record(len(b), b) }

// fitting are counts that a record may have: the edges, and those at which one byte or the other is 0 or 255.
func fitting() []int {
	return []int{0, 1, 2, 3, 127, 128, 254, 255, 256, 257, 258, 511, 512, 513, 32767, 32768, 59903, 59904, api.MaxRec - 1, api.MaxRec}
}

// tooLong are counts that two bytes can tell and no record may have.
func tooLong() []int {
	return []int{api.MaxRec + 1, api.MaxRec + 2, 60159, 60160, 61440, 65279, 65280, 65534, 65535}
}

// lists are lists of what records may hold, the same ones in each run, from none on.
func lists() [][][]byte {
	out := [][][]byte{nil, {}, {nil}, {{}, nil, {}}, {[]byte("abc"), nil, []byte("k"), some(300)}}
	var all [][]byte
	for _, many := range fitting() {
		out = append(out, [][]byte{some(many)})
		all = append(all, some(many))
	}
	// What they hold may look like a count, or like a record.
	return append(out, all, [][]byte{{0, 0}, {0, 1}, {0xff, 0xff}, {0, 1, 'a'}, whole(whole([]byte("in")))})
}

// joined is records one behind the other.
func joined(l [][]byte) []byte {
	var b []byte
	for _, x := range l {
		b = append(b, whole(x)...)
	}
	return b
}

// wide is b at the front of more room, which is filled.
func wide(b []byte) (narrow, all []byte) {
	all = append(bytes.Clone(b), bytes.Repeat([]byte{0xa5}, 64)...)
	return all[:len(b)], all
}

// fill lays a byte over all of a list, with the spare room behind its end.
func fill(b []byte, c byte) {
	b = b[:cap(b)]
	for i := range b {
		b[i] = c
	}
}

func checkPut(t *testing.T, b, want []byte) {
	t.Helper()
	if r, ok := Put(b); !ok || !bytes.Equal(r, want) {
		t.Errorf("Put of %d bytes = %d bytes, %v; want %d bytes, true", len(b), len(r), ok, len(want))
	}
}

func checkNoPut(t *testing.T, b []byte) {
	t.Helper()
	if r, ok := Put(b); ok || r != nil {
		t.Errorf("Put of %d bytes = %d bytes, %v; want nil, false", len(b), len(r), ok)
	}
}

func checkScan(t *testing.T, b []byte, want [][]byte, left int) {
	t.Helper()
	l, rest := Scan(b)
	if !slices.EqualFunc(l, want, bytes.Equal) || rest != left {
		t.Errorf("Scan of %d bytes = %d records, %d; want %d records, %d", len(b), len(l), rest, len(want), left)
	}
}

// P5.1: how many there are, in two bytes, the higher first, then they.
func TestPut(t *testing.T) {
	checkPut(t, []byte("a"), []byte{0, 1, 'a'})
	checkPut(t, nil, []byte{0, 0})
	checkPut(t, []byte{}, []byte{0, 0})
	checkPut(t, []byte{0}, []byte{0, 1, 0})
	checkPut(t, []byte{0xff, 0, 0xfe}, []byte{0, 3, 0xff, 0, 0xfe})
	for _, x := range []struct {
		many        int
		higher, low byte
	}{
		{0, 0, 0}, {1, 0, 1}, {255, 0, 0xff}, {256, 1, 0}, {257, 1, 1}, {32768, 0x80, 0},
		{api.MaxRec - 1, 0xea, 0x5f}, {api.MaxRec, 0xea, 0x60},
	} {
		checkPut(t, some(x.many), append([]byte{x.higher, x.low}, some(x.many)...))
	}
	for many := range 1025 {
		checkPut(t, some(many), whole(some(many)))
	}
	for _, many := range fitting() {
		checkPut(t, some(many), whole(some(many)))
	}
}

// P5.1: of more than MaxRec bytes there is no record, not even where two bytes could count them, or would count them as few.
func TestPutTooMany(t *testing.T) {
	for _, many := range append(tooLong(), 65536, 65537, 65536+api.MaxRec, 1<<17, 200000, 1<<24, 1<<24+1) {
		checkNoPut(t, some(many))
	}
}

// P5.1: the room behind the end is no part of what is put.
func TestPutOfAPart(t *testing.T) {
	b := some(api.MaxRec + 100)
	checkPut(t, b[:0], []byte{0, 0})
	checkPut(t, b[:1], record(1, b[:1]))
	checkPut(t, b[:api.MaxRec], record(api.MaxRec, b[:api.MaxRec]))
	checkPut(t, b[100:], record(api.MaxRec, b[100:]))
	checkNoPut(t, b[:api.MaxRec+1])
}

// P5.1: Scan is what the records hold, in order, and how many bytes are left behind the last.
func TestScan(t *testing.T) {
	for _, x := range []struct {
		b    []byte
		want [][]byte
		rest int
	}{
		{nil, nil, 0},
		{[]byte{}, nil, 0},
		{[]byte{0}, nil, 1},
		{[]byte{1}, nil, 1},
		{[]byte{0xff}, nil, 1},
		{[]byte{0, 0}, [][]byte{{}}, 0},
		{[]byte{0, 1}, nil, 2},
		{[]byte{1, 0}, nil, 2},
		{[]byte{0xff, 0xff}, nil, 2},
		{[]byte{0, 1, 'a'}, [][]byte{{'a'}}, 0},
		{[]byte{0, 2, 'a'}, nil, 3},
		{[]byte{0, 1, 'a', 'b'}, [][]byte{{'a'}}, 1},
		{[]byte{0, 1, 'a', 0}, [][]byte{{'a'}}, 1},
		{[]byte{0, 1, 'a', 0, 0}, [][]byte{{'a'}, {}}, 0},
		{[]byte{0, 1, 'a', 0, 1}, [][]byte{{'a'}}, 2},
		{[]byte{0, 0, 0}, [][]byte{{}}, 1},
		{[]byte{0, 0, 0, 0}, [][]byte{{}, {}}, 0},
		{[]byte{0, 0, 0, 0, 0}, [][]byte{{}, {}}, 1},
		{[]byte{0, 2, 0, 0, 0, 1, 'b'}, [][]byte{{0, 0}, {'b'}}, 0},
		{[]byte{1, 0, 'a', 'b', 'c'}, nil, 5},
	} {
		checkScan(t, x.b, x.want, x.rest)
	}
}

// P5.1: just one record, one that wants a byte, one with bytes behind it.
func TestScanOfOne(t *testing.T) {
	for _, many := range fitting() {
		b := some(many)
		r := whole(b)
		checkScan(t, r, [][]byte{b}, 0)
		checkScan(t, r[:len(r)-1], nil, len(r)-1)
		checkScan(t, bytes.Clone(r[:len(r)-1]), nil, len(r)-1)
		checkScan(t, append(bytes.Clone(r), 0), [][]byte{b}, 1)
		checkScan(t, append(bytes.Clone(r), 0xff), [][]byte{b}, 1)
		checkScan(t, append(bytes.Clone(r), 0, 3, 'x', 'y'), [][]byte{b}, 4)
		checkScan(t, record(many+1, b), nil, len(r))
	}
}

// P5.1: a record of more than MaxRec bytes is none, though all its bytes be there.
func TestScanTooLong(t *testing.T) {
	checkScan(t, record(api.MaxRec, some(api.MaxRec)), [][]byte{some(api.MaxRec)}, 0)
	checkScan(t, record(api.MaxRec+1, some(api.MaxRec+1)), nil, api.MaxRec+3)
	checkScan(t, record(65535, some(65535)), nil, 65537)
	for _, many := range tooLong() {
		for _, there := range []int{0, 1, api.MaxRec, many - 1, many, many + 1, 2 * many} {
			long := record(many, some(there))
			checkScan(t, long, nil, len(long))
			behind := append(joined([][]byte{[]byte("a"), nil}), long...)
			checkScan(t, behind, [][]byte{[]byte("a"), nil}, len(long))
		}
	}
}

// P5.1: at each count there is, what is read is what there is room for.
func TestScanEachCount(t *testing.T) {
	b := some(2 + 65535)
	for count := range 65536 {
		b[0], b[1] = byte(count>>8), byte(count)
		end := 2 + count
		if count > api.MaxRec {
			checkScan(t, b[:end], nil, end)
			continue
		}
		checkScan(t, b[:end], [][]byte{b[2:end]}, 0)
	}
}

// P5.1: behind a record that is cut or too long nothing is read, whatever stands there.
func TestScanEndsAtTheFirstThatIsNone(t *testing.T) {
	good := [][]byte{[]byte("abc"), nil, []byte("k")}
	front := joined(good)
	for _, behind := range [][]byte{nil, {0}, {0, 0}, whole([]byte("x")), joined(good)} {
		for _, none := range [][]byte{record(500, []byte("cut")), record(api.MaxRec, nil), record(api.MaxRec+1, nil), record(api.MaxRec+1, some(api.MaxRec+1)), record(65535, some(65535))} {
			left := append(bytes.Clone(none), behind...)
			checkScan(t, left, nil, len(left))
			checkScan(t, append(bytes.Clone(front), left...), good, len(left))
		}
	}
}

// P5.1: the room behind the end is no part of what is scanned.
func TestScanOfAPart(t *testing.T) {
	b := joined([][]byte{[]byte("abc"), []byte("d")})
	checkScan(t, b[:0], nil, 0)
	checkScan(t, b[:1], nil, 1)
	checkScan(t, b[:4], nil, 4)
	checkScan(t, b[:5], [][]byte{[]byte("abc")}, 0)
	checkScan(t, b[:7], [][]byte{[]byte("abc")}, 2)
}

// P5.2: Scan of what Put answers is what Put was asked.
func TestScanOfPut(t *testing.T) {
	for _, l := range lists() {
		var b []byte
		for _, x := range l {
			r, ok := Put(x)
			if !ok {
				t.Fatalf("no record of %d bytes", len(x))
			}
			checkScan(t, r, [][]byte{x}, 0)
			b = append(b, r...)
		}
		checkScan(t, b, l, 0)
	}
	// Very many, the most of them of no bytes.
	many := make([][]byte, 100000)
	many[99998] = []byte("last but one")
	checkScan(t, joined(many), many, 0)
}

// cut checks Scan of records one behind the other, cut at an end: those that are whole, and what is left of the next.
func cut(t *testing.T, l [][]byte, b []byte, end int) {
	t.Helper()
	many, at := 0, 0
	for many < len(l) && at+2+len(l[many]) <= end {
		at += 2 + len(l[many])
		many++
	}
	checkScan(t, b[:end], l[:many], end-at)
}

// P5.2: of records one behind the other, cut anywhere, Scan is those that are whole.
func TestCutAnywhere(t *testing.T) {
	for _, l := range lists() {
		b := joined(l)
		if len(b) > 2000 {
			continue
		}
		for end := range len(b) + 1 {
			cut(t, l, b, end)
			cut(t, l, bytes.Clone(b[:end]), end)
		}
	}
}

// P5.2: long ones too, about each end of a record.
func TestCutLongOnes(t *testing.T) {
	for _, l := range lists() {
		b, at := joined(l), 0
		for _, x := range l {
			for near := -3; near <= 3; near++ {
				for _, end := range []int{at + near, at + 2 + len(x)/2 + near} {
					if end >= 0 && end <= len(b) {
						cut(t, l, b, end)
					}
				}
			}
			at += 2 + len(x)
		}
		cut(t, l, b, len(b))
	}
}

// P5.2: what is handed in stays as it was, and so does the room behind it.
func TestNothingIsChanged(t *testing.T) {
	for _, want := range [][]byte{nil, {0}, {0, 0}, []byte("abc"), some(api.MaxRec), some(api.MaxRec + 1), record(5, []byte("cut")), record(api.MaxRec+1, some(api.MaxRec+1)), joined(lists()[4])} {
		b, all := wide(want)
		before := bytes.Clone(all)
		r, _ := Put(b)
		l, _ := Scan(b)
		fill(r, '!')
		for _, x := range l {
			fill(x, '!')
			_ = append(x, "!!!"...)
		}
		if !bytes.Equal(all, before) {
			t.Errorf("%d bytes were changed", len(want))
		}
	}
}

// P5.2: what Put answers shares nothing with what it was given, nor with another answer.
func TestPutIsNewMemory(t *testing.T) {
	for _, many := range fitting() {
		b, all := wide(some(many))
		one, _ := Put(b)
		two, _ := Put(b)
		fill(all, '?')
		if !bytes.Equal(one, whole(some(many))) {
			t.Errorf("Put keeps what it was given, of %d bytes", many)
		}
		fill(one, '!')
		if three, _ := Put(some(many)); !bytes.Equal(two, whole(some(many))) || !bytes.Equal(three, two) {
			t.Errorf("two answers are shared, of %d bytes", many)
		}
	}
}

// P5.2: what Scan answers shares nothing with what it was given, nor with another answer, nor one record with another.
func TestScanIsNewMemory(t *testing.T) {
	for _, want := range lists() {
		b, all := wide(append(joined(want), 0, 9, 'x'))
		one, _ := Scan(b)
		two, _ := Scan(b)
		fill(all, '?')
		for i, x := range one {
			fill(x, '!')
			_ = append(x, "!!!"...)
			if !slices.EqualFunc(one[i+1:], want[i+1:], bytes.Equal) {
				t.Errorf("record %d of %d shares with one behind it", i, len(one))
			}
			if len(x) > 0 && x[0] != '!' {
				t.Errorf("record %d was changed", i)
			}
		}
		for i := len(two) - 1; i >= 0; i-- {
			if !slices.EqualFunc(two[:i+1], want[:i+1], bytes.Equal) {
				t.Errorf("record %d or one ahead of it is shared", i)
			}
			fill(two[i], '!')
			_ = append(two[i], "!!!"...)
		}
		clear(one[:cap(one)])
		if again, _ := Scan(joined(want)); !slices.EqualFunc(again, want, bytes.Equal) {
			t.Error("an answer is kept")
		}
	}
}

// What is answered does not hang on what was asked ahead of it.
func TestNothingIsKept(t *testing.T) {
	checkScan(t, []byte{0, 3, 'a'}, nil, 3)
	checkScan(t, []byte{0, 1, 'b'}, [][]byte{{'b'}}, 0)
	checkNoPut(t, some(api.MaxRec+1))
	checkPut(t, []byte("a"), []byte{0, 1, 'a'})
	checkScan(t, []byte{0, 3, 'a'}, nil, 3)
}

// No bytes at all make it panic, and records and rest are always the whole of them.
func FuzzScan(f *testing.F) {
	for _, l := range lists() {
		f.Add(joined(l))
	}
	f.Add(record(api.MaxRec+1, nil))
	f.Fuzz(func(t *testing.T, b []byte) {
		l, rest := Scan(b)
		front := joined(l)
		if rest < 0 || len(front)+rest != len(b) || !bytes.HasPrefix(b, front) {
			t.Fatalf("%d records, %d left, of %d bytes", len(l), rest, len(b))
		}
		checkScan(t, b[len(front):], nil, rest)
	})
}
