package words

import (
	"math"
	"math/bits"
	"slices"
	"strings"
	"testing"

	"cromlech/api"
)

// octets is v in n bytes by the chapter's words, by division alone.
func octets(v uint64, n int) string {
	b := make([]byte, n)
	for i := range b {
		b[i] = byte(v % 256)
		v /= 256
	}
	return string(b)
}

// worth is the number of these bytes, by multiplication alone.
func worth(s string) uint64 {
	v := uint64(0)
	for i := len(s) - 1; i >= 0; i-- {
		v = v*256 + uint64(s[i])
	}
	return v
}

// edges are the numbers about each power of two, in order, and some whose bytes all differ.
func edges() []uint64 {
	l := []uint64{0, 1, 2, 3, 5, 258, 0x0102030405060708, 0x8090a0b0c0d0e0f0, 0xfffefdfcfbfaf9f8, 0x7f80}
	for k := 2; k < 64; k++ {
		p := uint64(1) << k
		l = append(l, p-1, p, p+1, p+p/2)
	}
	l = append(l, math.MaxUint64-1, math.MaxUint64)
	slices.Sort(l)
	return slices.Compact(l)
}

// B1: bytes that are written out by hand.
func TestPut(t *testing.T) {
	for _, x := range []struct {
		l []uint64
		s string
	}{
		{nil, ""},
		{[]uint64{}, ""},
		{[]uint64{0}, "\x00\x00\x00\x00\x00\x00\x00\x00"},
		{[]uint64{1}, "\x01\x00\x00\x00\x00\x00\x00\x00"},
		{[]uint64{1, 256}, "\x01\x00\x00\x00\x00\x00\x00\x00\x00\x01\x00\x00\x00\x00\x00\x00"},
		{[]uint64{256, 1}, "\x00\x01\x00\x00\x00\x00\x00\x00\x01\x00\x00\x00\x00\x00\x00\x00"},
		{[]uint64{0x0102030405060708}, "\x08\x07\x06\x05\x04\x03\x02\x01"},
		{[]uint64{1 << 32}, "\x00\x00\x00\x00\x01\x00\x00\x00"},
		{[]uint64{math.MaxUint32}, "\xff\xff\xff\xff\x00\x00\x00\x00"},
		{[]uint64{1 << 63}, "\x00\x00\x00\x00\x00\x00\x00\x80"},
		{[]uint64{math.MaxUint64, 0, 127, 128}, strings.Repeat("\xff", 8) + strings.Repeat("\x00", 8) + "\x7f\x00\x00\x00\x00\x00\x00\x00\x80\x00\x00\x00\x00\x00\x00\x00"},
	} {
		if s := Put(x.l...); s != x.s {
			t.Errorf("Put(%d): %x, not %x", x.l, s, x.s)
		}
	}
	if s := Put(); s != "" {
		t.Errorf("of nothing: %x", s)
	}
	for _, x := range []struct {
		v uint32
		s string
	}{
		{0, "\x00\x00\x00\x00"},
		{1, "\x01\x00\x00\x00"},
		{258, "\x02\x01\x00\x00"},
		{0x01020304, "\x04\x03\x02\x01"},
		{1 << 31, "\x00\x00\x00\x80"},
		{math.MaxUint32, "\xff\xff\xff\xff"},
	} {
		if s := PutHalf(x.v); s != x.s {
			t.Errorf("PutHalf(%d): %x, not %x", x.v, s, x.s)
		}
	}
}

// B1: about each power of two, alone and all in one row.
func TestPutEdges(t *testing.T) {
	all := ""
	for _, v := range edges() {
		all += octets(v, 8)
		if s := Put(v); s != octets(v, 8) {
			t.Errorf("Put(%d): %x, not %x", v, s, octets(v, 8))
		}
		if s := PutHalf(uint32(v)); s != octets(v%(1<<32), 4) {
			t.Errorf("PutHalf(%d): %x, not %x", uint32(v), s, octets(v%(1<<32), 4))
		}
	}
	if s := Put(edges()...); s != all {
		t.Errorf("of all edges: %x, not %x", s, all)
	}
}

// B2: what is there, at places ahead of which, and behind which, other bytes stand.
func TestTake(t *testing.T) {
	s := "z" + octets(1, 8) + octets(256, 8) + octets(math.MaxUint64, 8) + "y"
	for _, x := range []struct {
		at, n int
		l     []uint64
		next  int
	}{
		{0, 0, nil, 0},
		{1, 0, nil, 1},
		{25, 0, nil, 25},
		{26, 0, nil, 26},
		{1, 1, []uint64{1}, 9},
		{1, 2, []uint64{1, 256}, 17},
		{1, 3, []uint64{1, 256, math.MaxUint64}, 25},
		{9, 1, []uint64{256}, 17},
		{9, 2, []uint64{256, math.MaxUint64}, 25},
		{17, 1, []uint64{math.MaxUint64}, 25},
		{0, 1, []uint64{'z' + 1<<8}, 8},
		{10, 1, []uint64{1 + 255<<56}, 18},
		{18, 1, []uint64{'y'<<56 + 1<<56 - 1}, 26},
		{2, 3, []uint64{0, 1 + 255<<56, 'y'<<56 + 1<<56 - 1}, 26},
	} {
		if l, next, e := Take(s, x.at, x.n); !slices.Equal(l, x.l) || next != x.next || e != api.OK {
			t.Errorf("Take(%x, %d, %d): %d %d %d, not %d %d", s, x.at, x.n, l, next, e, x.l, x.next)
		}
	}
	if l, next, e := Take("", 0, 0); len(l) != 0 || next != 0 || e != api.OK {
		t.Errorf("none of nothing: %d %d %d", l, next, e)
	}
	for _, x := range []struct {
		s    string
		at   int
		v    uint32
		next int
	}{
		{"\x00\x00\x00\x00", 0, 0, 4},
		{"\x02\x01\x00\x00", 0, 258, 4},
		{"\x02\x01\x00\x00\x07", 1, 1 + 7<<24, 5},
		{"z\x04\x03\x02\x01y", 1, 0x01020304, 5},
		{"\xff\xff\xff\xff\xff", 0, math.MaxUint32, 4},
		{"\x00\x00\x00\x80\x01", 0, 1 << 31, 4},
	} {
		if v, next, e := TakeHalf(x.s, x.at); v != x.v || next != x.next || e != api.OK {
			t.Errorf("TakeHalf(%x, %d): %d %d %d, not %d %d", x.s, x.at, v, next, e, x.v, x.next)
		}
	}
}

// B2: what is not there, with the first error that applies, and nothing beside it.
func TestTakeWrong(t *testing.T) {
	two := octets(1, 8) + octets(2, 8)
	for _, x := range []struct {
		s     string
		at, n int
		e     api.Errno
	}{
		{"", 0, 1, api.ErrShort},
		{"", 1, 0, api.ErrShort},
		{"", math.MaxInt, 0, api.ErrShort},
		{"abcdefg", 0, 1, api.ErrShort},
		{"abcdefgh", 1, 1, api.ErrShort},
		{"abcdefgh", 8, 1, api.ErrShort},
		{"abcdefgh", 9, 0, api.ErrShort},
		{"abcdefgh", 9, 1, api.ErrShort},
		{two, 0, 3, api.ErrShort},
		{two, 1, 2, api.ErrShort},
		{two, 9, 1, api.ErrShort},
		{two, 16, 1, api.ErrShort},
		{two, 17, 0, api.ErrShort},
		{two, math.MaxInt, 0, api.ErrShort},
		{two, math.MaxInt, 1, api.ErrShort},
		{two, math.MaxInt - 7, 1, api.ErrShort},
		{two, math.MaxInt, math.MaxInt, api.ErrShort},
		{two, 0, math.MaxInt, api.ErrShort},
		{two, 0, math.MaxInt / 8, api.ErrShort},
		{two, 0, math.MaxInt/8 + 1, api.ErrShort},
		{two, 0, 1 << 61, api.ErrShort},
		{two, 0, 1<<61 + 1, api.ErrShort},
		{two, 8, 1 << 61, api.ErrShort},
		{two, 16, 1 << 61, api.ErrShort},
		{two, 0, 1 << 62, api.ErrShort},
		{two, -1, 1, api.ErrArg},
		{two, -1, 0, api.ErrArg},
		{two, 0, -1, api.ErrArg},
		{two, 16, -1, api.ErrArg},
		{two, 17, -1, api.ErrArg},
		{two, -1, -1, api.ErrArg},
		{"", -1, 9, api.ErrArg},
		{"", 9, -1, api.ErrArg},
		{two, -8, 1, api.ErrArg},
		{two, math.MinInt, 1, api.ErrArg},
		{two, 0, math.MinInt, api.ErrArg},
		{two, math.MaxInt, math.MinInt, api.ErrArg},
		{two, math.MinInt, math.MinInt, api.ErrArg},
	} {
		if l, next, e := Take(x.s, x.at, x.n); len(l) != 0 || next != 0 || e != x.e {
			t.Errorf("Take(%x, %d, %d): %d %d %d, not %d", x.s, x.at, x.n, l, next, e, x.e)
		}
	}
	for _, x := range []struct {
		s  string
		at int
		e  api.Errno
	}{
		{"", 0, api.ErrShort},
		{"", 1, api.ErrShort},
		{"abc", 0, api.ErrShort},
		{"abcd", 1, api.ErrShort},
		{"abcd", 4, api.ErrShort},
		{"abcd", 5, api.ErrShort},
		{"abcd", math.MaxInt, api.ErrShort},
		{"abcd", math.MaxInt - 3, api.ErrShort},
		{"", -1, api.ErrArg},
		{"abcd", -1, api.ErrArg},
		{"abcdefgh", -4, api.ErrArg},
		{"abcd", math.MinInt, api.ErrArg},
	} {
		if v, next, e := TakeHalf(x.s, x.at); v != 0 || next != 0 || e != x.e {
			t.Errorf("TakeHalf(%x, %d): %d %d %d, not %d", x.s, x.at, v, next, e, x.e)
		}
	}
}

// tell is what Take has to answer, of numbers of width w, by the chapter's words, for places and counts that are small.
func tell(s string, at, n, w int) (l []uint64, next int, e api.Errno) {
	if at < 0 || n < 0 {
		return nil, 0, api.ErrArg
	}
	if at > len(s) || at+n*w > len(s) {
		return nil, 0, api.ErrShort
	}
	for i := range n {
		l = append(l, worth(s[at+i*w:at+(i+1)*w]))
	}
	return l, at + n*w, api.OK
}

// B2: all places and all counts about bytes that are cut off anywhere.
func TestTakeCutOff(t *testing.T) {
	whole := ""
	for i := range 34 {
		whole += string([]byte{byte(i*37 + 200)})
	}
	for size := range len(whole) + 1 {
		s := whole[:size]
		for at := -3; at < size+10; at++ {
			for n := -3; n < 6; n++ {
				l, next, e := Take(s, at, n)
				if m, k, f := tell(s, at, n, 8); !slices.Equal(l, m) || next != k || e != f {
					t.Errorf("Take(%x, %d, %d): %d %d %d, not %d %d %d", s, at, n, l, next, e, m, k, f)
				}
			}
			v, next, e := TakeHalf(s, at)
			m, k, f := tell(s, at, 1, 4)
			if next != k || e != f || e == api.OK && uint64(v) != m[0] || e != api.OK && v != 0 {
				t.Errorf("TakeHalf(%x, %d): %d %d %d, not %d %d %d", s, at, v, next, e, m, k, f)
			}
		}
	}
}

// B3: Take undoes Put; what is taken, put, is the bytes that were read; bytes turned round are the number turned round.
func TestTheorem(t *testing.T) {
	all := edges()
	s := Put(all...)
	if l, next, e := Take(s, 0, len(all)); !slices.Equal(l, all) || next != len(s) || e != api.OK {
		t.Errorf("all edges: %d %d %d", l, next, e)
	}
	for i, v := range all {
		if l, next, e := Take(s, i*8, len(all)-i); !slices.Equal(l, all[i:]) || next != len(s) || e != api.OK {
			t.Errorf("edges from %d on: %d %d %d", i, l, next, e)
		}
		h := PutHalf(uint32(v))
		if w, next, e := TakeHalf(h, 0); w != uint32(v) || next != 4 || e != api.OK {
			t.Errorf("half of %d: %d %d %d", v, w, next, e)
		}
		if turned(Put(v)) != Put(bits.ReverseBytes64(v)) || turned(h) != PutHalf(bits.ReverseBytes32(uint32(v))) {
			t.Errorf("%d turned round: %x %x", v, turned(Put(v)), turned(h))
		}
	}
	// From any byte on, not only from where a number was put.
	for at := range len(s) - 7 {
		n := (len(s) - at) / 8
		l, next, e := Take(s, at, n)
		if e != api.OK || Put(l...) != s[at:next] || next != at+8*n {
			t.Errorf("taken from %d on and put: %d %d", at, next, e)
		}
		v, next, e := TakeHalf(s, at)
		if e != api.OK || PutHalf(v) != s[at:next] || next != at+4 {
			t.Errorf("a half from %d on: %d %d %d", at, v, next, e)
		}
		back, _, e := Take(turned(s[at:at+8]), 0, 1)
		if e != api.OK || len(back) != 1 || back[0] != bits.ReverseBytes64(l[0]) {
			t.Errorf("turned round from %d on: %d %d", at, back, e)
		}
	}
}

// B3: each byte of a number alone makes the number that the chapter tells.
func TestEachByte(t *testing.T) {
	for i := range 8 {
		for c := range 256 {
			b := make([]byte, 8)
			b[i] = byte(c)
			v := uint64(c)
			for range i {
				v *= 256
			}
			if l, next, e := Take(string(b), 0, 1); !slices.Equal(l, []uint64{v}) || next != 8 || e != api.OK || Put(v) != string(b) {
				t.Errorf("%x: %d %d %d, not %d", b, l, next, e, v)
			}
			if i > 3 {
				continue
			}
			if w, next, e := TakeHalf(string(b[:4]), 0); uint64(w) != v || next != 4 || e != api.OK || PutHalf(uint32(v)) != string(b[:4]) {
				t.Errorf("%x: %d %d %d, not %d", b[:4], w, next, e, v)
			}
		}
	}
}

func turned(s string) string {
	b := []byte(s)
	slices.Reverse(b)
	return string(b)
}

// R3: what is handed in is as it was, spare room too; what comes out is shared with no other answer.
func TestMemory(t *testing.T) {
	l := []uint64{1, 256, 7, 9}
	if s := Put(l[:2]...); s != octets(1, 8)+octets(256, 8) {
		t.Errorf("%x", s)
	}
	if !slices.Equal(l, []uint64{1, 256, 7, 9}) {
		t.Errorf("written into: %d", l)
	}
	s := Put(l...)
	a, _, _ := Take(s, 0, 3)
	b, _, _ := Take(s, 0, 3)
	a[0] = 77
	a = append(a[:1], 78, 79, 80, 81)
	if !slices.Equal(b, []uint64{1, 256, 7}) || !slices.Equal(a, []uint64{77, 78, 79, 80, 81}) {
		t.Errorf("shared: %d %d", a, b)
	}
	if c, _, _ := Take(s, 0, 4); !slices.Equal(c, l) || s != Put(l...) {
		t.Errorf("kept: %d", c)
	}
}
