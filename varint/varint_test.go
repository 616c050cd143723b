package varint

import (
	"math"
	"slices"
	"strings"
	"testing"

	"cromlech/api"
)

// digits is Put by the chapter's words, by division alone.
func digits(v uint64) string {
	s := ""
	for v/128 > 0 {
		s += string([]byte{byte(v%128) + 128})
		v /= 128
	}
	return s + string([]byte{byte(v)})
}

// edges are the numbers about each power of two, in order: so about each one at which a byte is added, too.
func edges() []uint64 {
	l := []uint64{0, 1, 2, 3, 5, 300}
	for k := 2; k < 64; k++ {
		p := uint64(1) << k
		l = append(l, p-1, p, p+1, p+p/2)
	}
	l = append(l, math.MaxUint64-1, math.MaxUint64)
	slices.Sort(l)
	return slices.Compact(l)
}

// A1: bytes that are written out by hand.
func TestPut(t *testing.T) {
	for _, x := range []struct {
		v uint64
		s string
	}{
		{0, "\x00"},
		{1, "\x01"},
		{5, "\x05"},
		{127, "\x7f"},
		{128, "\x80\x01"},
		{255, "\xff\x01"},
		{256, "\x80\x02"},
		{300, "\xac\x02"},
		{16383, "\xff\x7f"},
		{16384, "\x80\x80\x01"},
		{1<<56 - 1, strings.Repeat("\xff", 7) + "\x7f"},
		{1 << 56, strings.Repeat("\x80", 8) + "\x01"},
		{1<<63 - 1, strings.Repeat("\xff", 8) + "\x7f"},
		{1 << 63, strings.Repeat("\x80", 9) + "\x01"},
		{math.MaxUint64, strings.Repeat("\xff", 9) + "\x01"},
	} {
		if s := Put(x.v); s != x.s {
			t.Errorf("Put(%d): %x, not %x", x.v, s, x.s)
		}
		if n := Len(x.v); n != len(x.s) {
			t.Errorf("Len(%d): %d, not %d", x.v, n, len(x.s))
		}
	}
}

// A1: about each power of two.
func TestPutEdges(t *testing.T) {
	for _, v := range edges() {
		if s := Put(v); s != digits(v) || Len(v) != len(s) {
			t.Errorf("%d: %x of %d, not %x", v, s, Len(v), digits(v))
		}
	}
}

// A1: Row is Put of each; of no number it is nothing.
func TestRow(t *testing.T) {
	if s := Row(); s != "" {
		t.Errorf("of nothing: %x", s)
	}
	if s := Row([]uint64{}...); s != "" {
		t.Errorf("of an empty list: %x", s)
	}
	if s := Row(1, 128, 0, 300); s != "\x01\x80\x01\x00\xac\x02" {
		t.Errorf("of four: %x", s)
	}
	all := ""
	for _, v := range edges() {
		all += digits(v)
		if s := Row(v); s != digits(v) {
			t.Errorf("of %d alone: %x", v, s)
		}
	}
	if s := Row(edges()...); s != all {
		t.Errorf("of all edges: %x, not %x", s, all)
	}
}

// A2: what is a number, ahead of and behind other bytes.
func TestTake(t *testing.T) {
	for _, v := range edges() {
		for _, ahead := range []string{"", "z", "\x80\x80", strings.Repeat("\xff", 12)} {
			for _, behind := range []string{"", "\x00", "\x80", "\xff\xff", "\x02"} {
				s := ahead + digits(v) + behind
				got, next, e := Take(s, len(ahead))
				if got != v || next != len(s)-len(behind) || e != api.OK {
					t.Errorf("Take(%x, %d): %d %d %d", s, len(ahead), got, next, e)
				}
			}
		}
	}
}

// A2: what is none, with the first error that applies.
func TestTakeWrong(t *testing.T) {
	low, high := strings.Repeat("\x80", 9), strings.Repeat("\xff", 9)
	for _, x := range []struct {
		s  string
		at int
		e  api.Errno
	}{
		{"", 0, api.ErrShort},
		{"", 1, api.ErrShort},
		{"\x05", 1, api.ErrShort},
		{"\x05", 2, api.ErrShort},
		{"\x05", math.MaxInt, api.ErrShort},
		{"\x80", 0, api.ErrShort},
		{"\x05\xff", 1, api.ErrShort},
		{"\x80\x80", 0, api.ErrShort},
		{low, 0, api.ErrShort},
		{high, 0, api.ErrShort},
		{high + "\x01", 10, api.ErrShort},
		{"\x80\x00", 0, api.ErrForm},
		{"\xff\x00", 0, api.ErrForm},
		{"\x00\x80\x00", 1, api.ErrForm},
		{"\x80\x80\x00", 0, api.ErrForm},
		{"\x81\x80\x00\x01", 0, api.ErrForm},
		{low + "\x00", 0, api.ErrForm},
		{high + "\x00", 0, api.ErrForm},
		{low + "\x02", 0, api.ErrForm},
		{high + "\x02", 0, api.ErrForm},
		{high + "\x03", 0, api.ErrForm},
		{high + "\x7f", 0, api.ErrForm},
		{low + "\x80", 0, api.ErrForm},
		{low + "\x81", 0, api.ErrForm},
		{high + "\xff", 0, api.ErrForm},
		{low + "\x80\x00", 0, api.ErrForm},
		{high + "\xff\x01", 0, api.ErrForm},
		{"", -1, api.ErrArg},
		{"\x05", -1, api.ErrArg},
		{"\x80\x00", -1, api.ErrArg},
		{"\x05", math.MinInt, api.ErrArg},
	} {
		if v, next, e := Take(x.s, x.at); v != 0 || next != 0 || e != x.e {
			t.Errorf("Take(%x, %d): %d %d %d, not %d", x.s, x.at, v, next, e, x.e)
		}
	}
}

// A3: as many numbers as are asked for, and the place behind them.
func TestTakeRow(t *testing.T) {
	s := "\x01\x80\x01\x00\xac\x02"
	for _, x := range []struct {
		at, n int
		l     []uint64
		next  int
	}{
		{0, 0, nil, 0},
		{0, 1, []uint64{1}, 1},
		{0, 2, []uint64{1, 128}, 3},
		{0, 4, []uint64{1, 128, 0, 300}, 6},
		{1, 2, []uint64{128, 0}, 4},
		{2, 2, []uint64{1, 0}, 4},
		{4, 1, []uint64{300}, 6},
		{3, 0, nil, 3},
		{6, 0, nil, 6},
		{7, 0, nil, 7},
		{math.MaxInt, 0, nil, math.MaxInt},
	} {
		if l, next, e := TakeRow(s, x.at, x.n); !slices.Equal(l, x.l) || next != x.next || e != api.OK {
			t.Errorf("TakeRow(%x, %d, %d): %d %d %d", s, x.at, x.n, l, next, e)
		}
	}
	if l, next, e := TakeRow("", 0, 0); len(l) != 0 || next != 0 || e != api.OK {
		t.Errorf("none of nothing: %d %d %d", l, next, e)
	}
	all := edges()
	for from := range all {
		s, at := Row(all...), len(Row(all[:from]...))
		if l, next, e := TakeRow(s, at, len(all)-from); !slices.Equal(l, all[from:]) || next != len(s) || e != api.OK {
			t.Errorf("edges from %d on: %d %d %d", from, l, next, e)
		}
	}
}

// A3: the first error, and nothing of what stands ahead of it.
func TestTakeRowWrong(t *testing.T) {
	high := strings.Repeat("\xff", 9)
	for _, x := range []struct {
		s     string
		at, n int
		e     api.Errno
	}{
		{"", 0, 1, api.ErrShort},
		{"\x01", 1, 1, api.ErrShort},
		{"\x01", 9, 1, api.ErrShort},
		{"\x01", math.MaxInt, 1, api.ErrShort},
		{"\x01\x02", 0, 3, api.ErrShort},
		{"\x01\x02", 0, math.MaxInt, api.ErrShort},
		{"\x01\x02\x80", 0, 3, api.ErrShort},
		{"\x01\x80\x00", 0, 2, api.ErrForm},
		{"\x80\x00\x80", 0, 2, api.ErrForm},
		{"\x01" + high + "\x02\x80", 0, 3, api.ErrForm},
		{"\x01\x80", 0, math.MaxInt, api.ErrShort},
		{"\x01", -1, 1, api.ErrArg},
		{"\x01", -1, 0, api.ErrArg},
		{"\x01", 0, -1, api.ErrArg},
		{"\x80\x00", 0, -1, api.ErrArg},
		{"", 5, -1, api.ErrArg},
		{"\x01", -1, -1, api.ErrArg},
		{"\x01", math.MinInt, math.MinInt, api.ErrArg},
	} {
		if l, next, e := TakeRow(x.s, x.at, x.n); len(l) != 0 || next != 0 || e != x.e {
			t.Errorf("TakeRow(%x, %d, %d): %d %d %d, not %d", x.s, x.at, x.n, l, next, e, x.e)
		}
	}
}

// What stands behind a number that was read does not matter, but what stands behind a row that is too long does.
func TestTakeRowStopsAtN(t *testing.T) {
	s := "\x05\x80\x00"
	if l, next, e := TakeRow(s, 0, 1); !slices.Equal(l, []uint64{5}) || next != 1 || e != api.OK {
		t.Errorf("one: %d %d %d", l, next, e)
	}
	if l, next, e := TakeRow(s, 0, 2); len(l) != 0 || next != 0 || e != api.ErrForm {
		t.Errorf("two: %d %d %d", l, next, e)
	}
}

// tell is what Take has to answer of s from its beginning on, by the chapter's words.
func tell(s string) (v uint64, next int, e api.Errno) {
	last := 0
	for last < 9 && last < len(s) && s[last] >= 128 {
		last++
	}
	switch {
	case last == len(s):
		return 0, 0, api.ErrShort
	case last == 9 && s[last] >= 2, last > 0 && s[last] == 0:
		return 0, 0, api.ErrForm
	}
	for i := last; i >= 0; i-- {
		v = v*128 + uint64(s[i]%128)
	}
	return v, last + 1, api.OK
}

// A4: all texts of up to three bytes, and all ends of two behind up to eleven that go on.
func TestTheorem(t *testing.T) {
	heads := []string{""}
	for c := range 256 {
		heads = append(heads, string([]byte{byte(c)}))
	}
	for _, c := range []string{"\x80", "\xff", "\xaa"} {
		for n := 2; n < 12; n++ {
			heads = append(heads, strings.Repeat(c, n))
		}
	}
	for _, head := range heads {
		bytesRead(t, head)
		for a := range 256 {
			bytesRead(t, head+string([]byte{byte(a)}))
			for b := range 256 {
				bytesRead(t, head+string([]byte{byte(a), byte(b)}))
			}
		}
	}
}

func bytesRead(t *testing.T, s string) {
	v, next, e := Take(s, 0)
	if w, n, f := tell(s); v != w || next != n || e != f {
		t.Errorf("Take(%x): %d %d %d, not %d %d %d", s, v, next, e, w, n, f)
	}
	if e == api.OK && Put(v) != s[:next] {
		t.Errorf("%x is taken as %d, which is put as %x", s, v, Put(v))
	}
}

// A4: Take undoes Put, TakeRow Row.
func TestUndone(t *testing.T) {
	for _, v := range edges() {
		s := Put(v)
		if got, next, e := Take(s, 0); got != v || next != len(s) || e != api.OK {
			t.Errorf("%d: %d %d %d", v, got, next, e)
		}
		for n := range len(s) {
			if _, _, e := Take(s[:n], 0); e != api.ErrShort {
				t.Errorf("%d cut off behind %d: %d", v, n, e)
			}
		}
		s = Row(v, v, 0, v)
		if l, next, e := TakeRow(s, 0, 4); !slices.Equal(l, []uint64{v, v, 0, v}) || next != len(s) || e != api.OK {
			t.Errorf("%d thrice: %d %d %d", v, l, next, e)
		}
	}
}

// A4: of two numbers the lesser one has no more bytes.
func TestLesserIsNoLonger(t *testing.T) {
	l := edges()
	for i := 1; i < len(l); i++ {
		if Len(l[i-1]) > Len(l[i]) || len(Put(l[i-1])) > len(Put(l[i])) {
			t.Errorf("%d has more bytes than %d", l[i-1], l[i])
		}
	}
}

// R3: what is handed in is as it was, spare room too; what comes out is shared with no other answer.
func TestMemory(t *testing.T) {
	l := []uint64{1, 128, 300, 7, 9}
	if s := Row(l[:3]...); s != "\x01\x80\x01\xac\x02" {
		t.Errorf("%x", s)
	}
	if !slices.Equal(l, []uint64{1, 128, 300, 7, 9}) {
		t.Errorf("written into: %d", l)
	}
	s := "\x01\x02\x03"
	a, _, _ := TakeRow(s, 0, 3)
	b, _, _ := TakeRow(s, 0, 3)
	a[0] = 77
	a = append(a[:1], 78, 79, 80, 81)
	if !slices.Equal(b, []uint64{1, 2, 3}) || !slices.Equal(a, []uint64{77, 78, 79, 80, 81}) {
		t.Errorf("shared: %d %d", a, b)
	}
	if c, _, _ := TakeRow(s, 0, 3); !slices.Equal(c, []uint64{1, 2, 3}) {
		t.Errorf("kept: %d", c)
	}
}
