package word

import (
	"bytes"
	"encoding/binary"
	"math"
	"slices"
	"testing"

	"giro/api"
)

const (
	most  = math.MaxInt64
	least = math.MinInt64
)

// edges are numbers whose bytes differ in kind: all alike, one set, each another, those at which one more byte is needed.
func edges() []int64 {
	return []int64{
		0, 1, -1, 2, -2, 127, 128, -128, -129, 255, 256, -255, -256, -257, 1 << 31, -1 << 31, 1<<32 - 1, 1 << 32,
		1<<55 - 1, 1 << 55, 1<<56 - 1, 1 << 56, -1 << 56, 1 << 60, 1<<61 - 1, 1 << 61, 1 << 62,
		0x0102030405060708, -0x0102030405060708, most - 1, most, least + 1, least,
	}
}

// lists are lists of numbers, the same ones in each run, from none on.
func lists() [][]int64 {
	out := [][]int64{nil, {}, edges()}
	for _, n := range edges() {
		out = append(out, []int64{n})
	}
	x := uint64(20261118)
	for many := range 40 {
		l := make([]int64, many)
		for i := range l {
			x ^= x << 13
			x ^= x >> 7
			x ^= x << 17
			l[i] = int64(x) >> (x % 64)
		}
		out = append(out, l)
	}
	return out
}

// asBytes is what Put must be, by the library.
func asBytes(l []int64) []byte {
	var b []byte
	for _, n := range l {
		b = binary.BigEndian.AppendUint64(b, uint64(n))
	}
	return b
}

// asRow is what Row must be, by the library.
func asRow(l []int64) []byte {
	return append(asBytes([]int64{int64(len(l))}), asBytes(l)...)
}

// wide is b at the front of more room, which is filled.
func wide(b []byte) (narrow, whole []byte) {
	whole = append(bytes.Clone(b), bytes.Repeat([]byte{0xa5}, 64)...)
	return whole[:len(b)], whole
}

func checkGet(t *testing.T, b []byte, want []int64) {
	t.Helper()
	if l, e := Get(b); e != api.OK || !slices.Equal(l, want) {
		t.Errorf("Get(%x) = %v, %v; want %v", b, l, e, want)
	}
}

func checkForm(t *testing.T, b []byte) {
	t.Helper()
	if l, e := Get(b); e != api.ErrForm || l != nil {
		t.Errorf("Get(%x) = %v, %v; want nil, ErrForm", b, l, e)
	}
}

func checkNext(t *testing.T, b []byte, want []int64, behind []byte) {
	t.Helper()
	l, rest, ok := Next(b)
	if !ok || !slices.Equal(l, want) || !bytes.Equal(rest, behind) {
		t.Errorf("Next(%x) = %v, %x, %v; want %v, %x, true", b, l, rest, ok, want, behind)
	}
}

func checkNoRow(t *testing.T, b []byte) {
	t.Helper()
	if l, rest, ok := Next(b); l != nil || rest != nil || ok {
		t.Errorf("Next(%x) = %v, %x, %v; want nil, nil, false", b, l, rest, ok)
	}
}

// P2.1: each number is eight bytes, its two's complement, the highest byte first.
func TestPut(t *testing.T) {
	for _, x := range []struct {
		l    []int64
		want []byte
	}{
		{nil, nil},
		{[]int64{}, nil},
		{[]int64{0}, make([]byte, 8)},
		{[]int64{-2}, []byte{0xff, 0xff, 0xff, 0xff, 0xff, 0xff, 0xff, 0xfe}},
		{[]int64{-1}, []byte{0xff, 0xff, 0xff, 0xff, 0xff, 0xff, 0xff, 0xff}},
		{[]int64{least}, []byte{0x80, 0, 0, 0, 0, 0, 0, 0}},
		{[]int64{most}, []byte{0x7f, 0xff, 0xff, 0xff, 0xff, 0xff, 0xff, 0xff}},
		{[]int64{0x0102030405060708, 1}, []byte{1, 2, 3, 4, 5, 6, 7, 8, 0, 0, 0, 0, 0, 0, 0, 1}},
	} {
		if b := Put(x.l...); !bytes.Equal(b, x.want) {
			t.Errorf("Put(%v) = %x; want %x", x.l, b, x.want)
		}
	}
	if b := Put(); len(b) != 0 {
		t.Errorf("Put() = %x; want no byte", b)
	}
	for _, l := range lists() {
		if b := Put(l...); !bytes.Equal(b, asBytes(l)) {
			t.Errorf("Put(%v) = %x; want %x", l, b, asBytes(l))
		}
	}
}

// P2.1: Get is the numbers whose Put it is given.
func TestGet(t *testing.T) {
	checkGet(t, nil, nil)
	checkGet(t, []byte{}, nil)
	checkGet(t, []byte{0xff, 0xff, 0xff, 0xff, 0xff, 0xff, 0xff, 0xfe}, []int64{-2})
	checkGet(t, []byte{0x80, 0, 0, 0, 0, 0, 0, 0}, []int64{least})
	for _, l := range lists() {
		checkGet(t, asBytes(l), l)
		checkGet(t, Put(l...), l)
	}
}

// P2.1: bytes that are no multiple of eight are no numbers.
func TestGetForm(t *testing.T) {
	for many := range 100 {
		b := bytes.Repeat([]byte{0xc3}, many)
		if many%8 != 0 {
			checkForm(t, b)
			continue
		}
		if l, e := Get(b); e != api.OK || len(l) != many/8 {
			t.Errorf("Get of %d bytes = %v, %v", many, l, e)
		}
	}
	// The room behind the end is no part of what is given.
	checkForm(t, make([]byte, 7, 8))
	checkForm(t, make([]byte, 9, 16))
}

// P2.1: Row is how many there are, then they.
func TestRow(t *testing.T) {
	if b := Row(nil); !bytes.Equal(b, make([]byte, 8)) {
		t.Errorf("Row(nil) = %x", b)
	}
	if b := Row([]int64{-2}); !bytes.Equal(b, []byte{0, 0, 0, 0, 0, 0, 0, 1, 0xff, 0xff, 0xff, 0xff, 0xff, 0xff, 0xff, 0xfe}) {
		t.Errorf("Row(-2) = %x", b)
	}
	long := make([]int64, 300)
	for i := range long {
		long[i] = int64(i) - 150
	}
	for _, l := range append(lists(), long) {
		if b := Row(l); !bytes.Equal(b, asRow(l)) {
			t.Errorf("Row(%v) = %x; want %x", l, b, asRow(l))
		}
	}
}

// P2.1: Next is the row's numbers and what is behind it, be that a row or not.
func TestNext(t *testing.T) {
	for _, l := range lists() {
		b := asRow(l)
		checkNext(t, b, l, nil)
		for many := range 20 {
			behind := bytes.Repeat([]byte{0x5a}, many)
			checkNext(t, append(bytes.Clone(b), behind...), l, behind)
		}
	}
	// Fewer are told than stand behind: the others are behind the row.
	checkNext(t, asBytes([]int64{2, 5, 6, 7}), []int64{5, 6}, asBytes([]int64{7}))
	checkNext(t, asBytes([]int64{0, 5, 6, 7}), nil, asBytes([]int64{5, 6, 7}))
}

// P2.1: rows one behind the other are read one by one, to the last byte.
func TestNextOfMany(t *testing.T) {
	var b []byte
	for _, l := range lists() {
		b = append(b, Row(l)...)
	}
	rest, ok := b, true
	for i, want := range lists() {
		var l []int64
		l, rest, ok = Next(rest)
		if !ok || !slices.Equal(l, want) {
			t.Fatalf("row %d is %v, %v; want %v", i, l, ok, want)
		}
	}
	if len(rest) != 0 {
		t.Errorf("behind the last row: %x", rest)
	}
	checkNoRow(t, rest)
}

// P2.1: what is cut short at any byte begins with no row.
func TestNextShort(t *testing.T) {
	for _, l := range lists() {
		b := asRow(l)
		for end := range b {
			checkNoRow(t, b[:end])
			checkNoRow(t, bytes.Clone(b[:end]))
		}
	}
}

// P2.1: how many there are may be no number below 0, and none above what stands behind, however great.
func TestNextWrong(t *testing.T) {
	checkNoRow(t, nil)
	checkNoRow(t, []byte{})
	// Times eight, these are small numbers again where the product wraps.
	wrapped := []int64{1 << 60, 1<<60 + 1, 1 << 61, 1<<61 + 1, 1<<61 + 2, 1 << 62, 1<<62 + 1, least, least + 1, least + 2, -1 << 61, 2 - 1<<61}
	for _, behind := range []int{0, 7, 8, 15, 16, 23, 24} {
		room := make([]byte, behind)
		for _, many := range append(wrapped, -1, -2, -3, 4, 5, 255, 256, 1<<31, 1<<32, most-1, most) {
			checkNoRow(t, append(asBytes([]int64{many}), room...))
		}
		fit := int64(behind / 8)
		checkNoRow(t, append(asBytes([]int64{fit + 1}), room...))
		checkNext(t, append(asBytes([]int64{fit}), room...), make([]int64, fit), room[8*fit:])
	}
}

// P2.2: what is handed in stays as it was, and so does the room behind it.
func TestNothingIsChanged(t *testing.T) {
	l := edges()
	many := len(l) / 2
	Put(l[:many]...)
	Row(l[:many])
	if !slices.Equal(l, edges()) {
		t.Errorf("numbers changed: %v", l)
	}
	for _, want := range [][]byte{nil, asBytes(edges()), asRow(edges()), append(asRow([]int64{7, -7}), 1, 2, 3), make([]byte, 13)} {
		b, whole := wide(want)
		_, before := wide(want)
		Get(b)
		Next(b)
		if !bytes.Equal(whole, before) {
			t.Errorf("bytes changed: %x; were %x", whole, before)
		}
	}
}

// P2.2: answers share nothing with what was handed in, nor with each other, to the end of their room.
func TestNewMemory(t *testing.T) {
	l := edges()
	put, row := Put(l...), Row(l)
	other, otherRow := Put(l...), Row(l)
	clear(l)
	clear(put[:cap(put)])
	clear(row[:cap(row)])
	if !bytes.Equal(other, asBytes(edges())) || !bytes.Equal(otherRow, asRow(edges())) {
		t.Error("bytes are shared")
	}
	b := asBytes(edges())
	got, _ := Get(b)
	again, _ := Get(b)
	clear(got[:cap(got)])
	if !bytes.Equal(b, asBytes(edges())) {
		t.Error("Get shares with what it was given")
	}
	clear(b)
	if !slices.Equal(again, edges()) {
		t.Error("Get's numbers are shared")
	}
}

// P2.2: rest alone may be part of b, and the room behind b's end is none of it.
func TestNextMemory(t *testing.T) {
	for _, behind := range [][]byte{nil, {1, 2, 3}, asRow([]int64{9})} {
		b, whole := wide(append(asRow(edges()), behind...))
		_, before := wide(b)
		l, rest, ok := Next(b)
		if !ok {
			t.Fatal("no row")
		}
		clear(l[:cap(l)])
		_ = append(rest, 0x77, 0x77, 0x77)
		if !bytes.Equal(whole, before) {
			t.Errorf("what is answered reaches into the row, or behind b: %x; was %x", whole, before)
		}
		again, _, _ := Next(b)
		clear(whole)
		if !slices.Equal(again, edges()) {
			t.Error("Next's numbers are part of b")
		}
	}
}
