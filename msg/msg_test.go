package msg

import (
	"bytes"
	"encoding/binary"
	"math"
	"testing"

	"giro/api"
)

const (
	most  = math.MaxInt64
	least = math.MinInt64
)

// kinds are all kinds, each with its number and how many numbers package api names behind it.
func kinds() []struct{ kind, code, many int } {
	return []struct{ kind, code, many int }{
		{api.CPay, 0x01, 6},
		{api.CRevoke, 0x02, 1},
		{api.CMove, 0x03, 2},
		{api.CClass, 0x04, 2},
		{api.CBil, 0x05, 2},
		{api.CMul, 0x06, 1},
		{api.CReserve, 0x07, 1},
		{api.CHold, 0x08, 2},
		{api.CQuery, 0x09, 0},
		{api.CIn, 0x0a, 2},
		{api.COut, 0x0b, 2},
		{api.CPrice, 0x0c, 2},
		{api.CSolve, 0x0d, 0},
		{api.CTick, 0x0e, 0},
		{api.ROk, 0x0f, 0},
		{api.RErr, 0x10, 1},
		{api.RState, 0x11, 5},
		{api.NSettled, 0x12, 4},
		{api.NQueued, 0x13, 1},
		{api.NRevoked, 0x14, 1},
		{api.NLate, 0x15, 1},
		{api.NReject, 0x16, 1},
		{api.NClose, 0x17, 1},
	}
}

// noKinds are numbers that are no kind: around the first and the last one, those whose lowest byte is a kind, the ends.
func noKinds() []int {
	return []int{
		0, -1, -2, -14, -23, 24, 25, 127, 128, 255, 256,
		256 + api.CPay, 256 + api.CTick, 256 + api.NClose, api.CTick - 256, 1<<32 + api.CTick, 1<<40 + 1,
		least, least + 1, least + api.CTick, most - 1, most,
	}
}

func numbers() []int64 {
	return []int64{0, 1, -1, 2, -2, 127, 128, 255, 256, 1 << 31, 1 << 32, -1 << 32, 0x0102030405060708, most - 1, most, least + 1, least}
}

// messages are of every kind: each number at each of its places, alone and with all the others.
func messages() []api.Msg {
	var out []api.Msg
	for _, k := range kinds() {
		out = append(out, api.Msg{Kind: k.kind})
		for _, n := range numbers() {
			all := api.Msg{Kind: k.kind}
			for i := range k.many {
				one := api.Msg{Kind: k.kind}
				one.F[i] = n
				all.F[i] = n - int64(i)
				out = append(out, one)
			}
			out = append(out, all)
		}
	}
	return out
}

// noMessages are of no kind, or have a number behind those of their kind.
func noMessages() []api.Msg {
	var out []api.Msg
	for _, kind := range noKinds() {
		out = append(out, api.Msg{Kind: kind}, api.Msg{Kind: kind, F: [api.Fields]int64{1, 2, 3, 4, 5, 6}})
	}
	for _, k := range kinds() {
		for i := k.many; i < api.Fields; i++ {
			for _, n := range []int64{1, -1, 1 << 8, 1 << 32, most, least} {
				m := api.Msg{Kind: k.kind}
				m.F[i] = n
				out = append(out, m)
				for j := range k.many {
					m.F[j] = 7
				}
				out = append(out, m)
			}
		}
	}
	return out
}

func whos() []int {
	return []int{api.Host, 0, 1, 5, 6, -2, 255, 256, 1 << 31, -1 << 31, 1 << 40, math.MaxInt - 1, math.MaxInt, math.MinInt + 1, math.MinInt}
}

func manyOf(kind int) int {
	for _, k := range kinds() {
		if k.kind == kind {
			return k.many
		}
	}
	return -1
}

// asBytes is what Bytes of a message must be, by the library.
func asBytes(m api.Msg) []byte {
	b := []byte{byte(m.Kind)}
	for _, n := range m.F[:manyOf(m.Kind)] {
		b = binary.BigEndian.AppendUint64(b, uint64(n))
	}
	return b
}

// asCmd is what Cmd of a command must be, by the library.
func asCmd(c api.Cmd) []byte {
	return append(binary.BigEndian.AppendUint64(nil, uint64(int64(c.Who))), asBytes(c.Msg)...)
}

// wide is b at the front of more room, which is filled.
func wide(b []byte) (narrow, whole []byte) {
	whole = append(bytes.Clone(b), bytes.Repeat([]byte{0xa5}, 64)...)
	return whole[:len(b)], whole
}

func checkRead(t *testing.T, b []byte, want api.Msg) {
	t.Helper()
	if m, e := Read(b); m != want || e != api.OK {
		t.Errorf("Read(%x) = %v, %v; want %v", b, m, e, want)
	}
}

func checkNoMsg(t *testing.T, b []byte) {
	t.Helper()
	if m, e := Read(b); m != (api.Msg{}) || e != api.ErrForm {
		t.Errorf("Read(%x) = %v, %v; want nothing, ErrForm", b, m, e)
	}
}

func checkReadCmd(t *testing.T, b []byte, want api.Cmd) {
	t.Helper()
	if c, e := ReadCmd(b); c != want || e != api.OK {
		t.Errorf("ReadCmd(%x) = %v, %v; want %v", b, c, e, want)
	}
}

func checkNoCmd(t *testing.T, b []byte) {
	t.Helper()
	if c, e := ReadCmd(b); c != (api.Cmd{}) || e != api.ErrForm {
		t.Errorf("ReadCmd(%x) = %v, %v; want nothing, ErrForm", b, c, e)
	}
}

// checkNone holds that bytes are neither a message nor, behind any Who, one of a command.
func checkNone(t *testing.T, b []byte) {
	t.Helper()
	checkNoMsg(t, b)
	for _, who := range whos() {
		checkNoCmd(t, append(binary.BigEndian.AppendUint64(nil, uint64(int64(who))), b...))
	}
}

// P3.1: Many is how many numbers are named behind a kind, -1 where there is no such kind.
func TestMany(t *testing.T) {
	for i, k := range kinds() {
		if k.kind != k.code || k.kind != i+1 {
			t.Errorf("kind %d is %d", i+1, k.kind)
		}
		if n := Many(k.kind); n != k.many {
			t.Errorf("Many(%d) = %d; want %d", k.kind, n, k.many)
		}
	}
	for _, kind := range noKinds() {
		if n := Many(kind); n != -1 {
			t.Errorf("Many(%d) = %d; want -1", kind, n)
		}
	}
	for kind := -1000; kind < 1000; kind++ {
		if n := Many(kind); n != manyOf(kind) {
			t.Errorf("Many(%d) = %d; want %d", kind, n, manyOf(kind))
		}
	}
}

// P3.1: a message is of a kind, and has nothing behind the numbers of its kind.
func TestIs(t *testing.T) {
	for _, m := range messages() {
		if !Is(m) {
			t.Errorf("%v is none", m)
		}
	}
	for _, m := range noMessages() {
		if Is(m) {
			t.Errorf("%v is one", m)
		}
	}
}

// P3.1: what is asked is CPay to CTick, of which CIn to CTick are the host's.
func TestAskedAndHost(t *testing.T) {
	for kind := -1000; kind < 1000; kind++ {
		if Asked(kind) != (kind >= 1 && kind <= 14) {
			t.Errorf("Asked(%d) = %v", kind, Asked(kind))
		}
		if Host(kind) != (kind >= 10 && kind <= 14) {
			t.Errorf("Host(%d) = %v", kind, Host(kind))
		}
	}
	for _, kind := range noKinds() {
		if Asked(kind) || Host(kind) {
			t.Errorf("%d is no kind, but asked or the host's", kind)
		}
	}
	for _, x := range []struct {
		kind        int
		asked, host bool
	}{
		{api.CPay - 1, false, false},
		{api.CPay, true, false},
		{api.CQuery, true, false},
		{api.CIn, true, true},
		{api.COut, true, true},
		{api.CPrice, true, true},
		{api.CSolve, true, true},
		{api.CTick, true, true},
		{api.ROk, false, false},
		{api.NClose, false, false},
	} {
		if Asked(x.kind) != x.asked || Host(x.kind) != x.host {
			t.Errorf("%d: Asked %v, Host %v", x.kind, Asked(x.kind), Host(x.kind))
		}
	}
}

// P3.1: Bytes is the kind's byte, then the numbers of the kind.
func TestBytes(t *testing.T) {
	for _, x := range []struct {
		m    api.Msg
		want []byte
	}{
		{api.Msg{Kind: api.CTick}, []byte{0x0e}},
		{api.Msg{Kind: api.CRevoke}, []byte{2, 0, 0, 0, 0, 0, 0, 0, 0}},
		{api.Msg{Kind: api.CMul, F: [api.Fields]int64{-1}}, []byte{6, 0xff, 0xff, 0xff, 0xff, 0xff, 0xff, 0xff, 0xff}},
		{api.Msg{Kind: api.NClose, F: [api.Fields]int64{least}}, []byte{0x17, 0x80, 0, 0, 0, 0, 0, 0, 0}},
		{api.Msg{Kind: api.CMove, F: [api.Fields]int64{258, 1}}, []byte{3, 0, 0, 0, 0, 0, 0, 1, 2, 0, 0, 0, 0, 0, 0, 0, 1}},
	} {
		if b := Bytes(x.m); !bytes.Equal(b, x.want) {
			t.Errorf("Bytes(%v) = %x; want %x", x.m, b, x.want)
		}
	}
	for _, m := range messages() {
		if b := Bytes(m); !bytes.Equal(b, asBytes(m)) {
			t.Errorf("Bytes(%v) = %x; want %x", m, b, asBytes(m))
		}
	}
}

// P3.1: what is no message has no bytes, nor has a command with it.
func TestBytesOfNone(t *testing.T) {
	for _, m := range noMessages() {
		if b := Bytes(m); b != nil {
			t.Errorf("Bytes(%v) = %x; want nil", m, b)
		}
		for _, who := range whos() {
			if b := Cmd(api.Cmd{Who: who, Msg: m}); b != nil {
				t.Errorf("Cmd of %v by %d = %x; want nil", m, who, b)
			}
		}
	}
}

// P3.1, P3.2: Read is the message whose Bytes it is given.
func TestRead(t *testing.T) {
	checkRead(t, []byte{0x0e}, api.Msg{Kind: api.CTick})
	checkRead(t, []byte{6, 0xff, 0xff, 0xff, 0xff, 0xff, 0xff, 0xff, 0xff}, api.Msg{Kind: api.CMul, F: [api.Fields]int64{-1}})
	for _, m := range messages() {
		checkRead(t, asBytes(m), m)
		checkRead(t, Bytes(m), m)
	}
}

// P3.1: no bytes, and bytes that begin with no kind, are no message.
func TestReadNoKind(t *testing.T) {
	checkNone(t, nil)
	checkNone(t, []byte{})
	for first := range 256 {
		if manyOf(first) >= 0 {
			continue
		}
		for behind := range 8*api.Fields + 10 {
			checkNone(t, append([]byte{byte(first)}, make([]byte, behind)...))
		}
	}
}

// P3.1: of each kind, bytes of its own length alone are a message.
func TestReadLength(t *testing.T) {
	for _, k := range kinds() {
		for behind := range 8*api.Fields + 20 {
			for _, fill := range []byte{0, 0xff, 1} {
				b := append([]byte{byte(k.kind)}, bytes.Repeat([]byte{fill}, behind)...)
				if behind != 8*k.many {
					checkNone(t, b)
					continue
				}
				if m, e := Read(b); e != api.OK || !bytes.Equal(Bytes(m), b) {
					t.Errorf("Read(%x) = %v, %v", b, m, e)
				}
			}
		}
	}
}

// P3.1: what is cut short at any byte is none, though the rest stands in the room behind; nor is what has more behind it.
func TestReadCut(t *testing.T) {
	for _, m := range messages() {
		b := asBytes(m)
		for end := range b {
			checkNoMsg(t, b[:end])
			checkNoMsg(t, bytes.Clone(b[:end]))
		}
		for more := 1; more <= 17; more++ {
			checkNoMsg(t, append(asBytes(m), make([]byte, more)...))
		}
	}
}

// P3.1, P3.2: Cmd is Who, then the message; ReadCmd is the command whose Cmd it is given.
func TestCmd(t *testing.T) {
	if b := Cmd(api.Cmd{Who: api.Host, Msg: api.Msg{Kind: api.CTick}}); !bytes.Equal(b, []byte{0xff, 0xff, 0xff, 0xff, 0xff, 0xff, 0xff, 0xff, 0x0e}) {
		t.Errorf("Cmd of the host's CTick = %x", b)
	}
	checkReadCmd(t, []byte{0, 0, 0, 0, 0, 0, 1, 2, 9}, api.Cmd{Who: 258, Msg: api.Msg{Kind: api.CQuery}})
	for _, who := range whos() {
		for _, m := range messages() {
			c := api.Cmd{Who: who, Msg: m}
			b := Cmd(c)
			if !bytes.Equal(b, asCmd(c)) {
				t.Errorf("Cmd(%v) = %x; want %x", c, b, asCmd(c))
			}
			checkReadCmd(t, asCmd(c), c)
			checkReadCmd(t, b, c)
		}
	}
}

// P3.1: a command that is cut short at any byte is none, nor is one with more behind it.
func TestReadCmdCut(t *testing.T) {
	for _, who := range whos() {
		for _, k := range kinds() {
			c := api.Cmd{Who: who, Msg: api.Msg{Kind: k.kind}}
			b := asCmd(c)
			for end := range b {
				checkNoCmd(t, b[:end])
				checkNoCmd(t, bytes.Clone(b[:end]))
			}
			for more := 1; more <= 17; more++ {
				checkNoCmd(t, append(asCmd(c), make([]byte, more)...))
			}
		}
	}
	checkNoCmd(t, nil)
	checkNoCmd(t, []byte{})
	// A message of no numbers is too short to be a command.
	for _, m := range messages() {
		if manyOf(m.Kind) == 0 {
			checkNoCmd(t, asBytes(m))
		}
	}
}

// P3.1: bytes that are read have the bytes that were given, whatever those are.
func TestReadAnyBytes(t *testing.T) {
	x := uint64(20261118)
	for i := range 20000 {
		b := make([]byte, i%70)
		for j := range b {
			x ^= x << 13
			x ^= x >> 7
			x ^= x << 17
			b[j] = byte(x >> 32)
		}
		if len(b) > 0 {
			b[0] %= 26
		}
		if len(b) == 0 || len(b) != 1+8*manyOf(int(b[0])) {
			checkNoMsg(t, b)
			continue
		}
		m, e := Read(b)
		if e != api.OK || !bytes.Equal(asBytes(m), b) {
			t.Errorf("Read(%x) = %v, %v", b, m, e)
		}
	}
}

// W6: what is handed in stays as it was, and so does the room behind it.
func TestNothingIsChanged(t *testing.T) {
	pay := api.Msg{Kind: api.CPay, F: [api.Fields]int64{1, 2, 3, 4, 5, 6}}
	c := api.Cmd{Who: 3, Msg: pay}
	for _, want := range [][]byte{nil, {0x0e}, {0xff}, asBytes(pay), asCmd(c), asCmd(c)[:20], append(asCmd(c), 1, 2, 3)} {
		b, whole := wide(want)
		_, before := wide(want)
		Read(b)
		ReadCmd(b)
		if !bytes.Equal(whole, before) {
			t.Errorf("bytes changed: %x; were %x", whole, before)
		}
	}
}

// W6: each answer is memory of its own, to the end of its room.
func TestNewMemory(t *testing.T) {
	for _, k := range kinds() {
		c := api.Cmd{Who: 3, Msg: api.Msg{Kind: k.kind}}
		for i := range k.many {
			c.Msg.F[i] = int64(i) + 1
		}
		for _, made := range []func() []byte{func() []byte { return Bytes(c.Msg) }, func() []byte { return Cmd(c) }} {
			one, other := made(), made()
			want := bytes.Clone(other)
			clear(one[:cap(one)])
			if !bytes.Equal(other, want) || !bytes.Equal(made(), want) {
				t.Errorf("kind %d: bytes are shared", k.kind)
			}
		}
		b := asCmd(c)
		got, _ := ReadCmd(b)
		m, _ := Read(b[8:])
		clear(b)
		if got != c || m != c.Msg {
			t.Errorf("kind %d: what was read hangs on its bytes", k.kind)
		}
	}
}
