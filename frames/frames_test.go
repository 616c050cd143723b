package frames

import (
	"hash/crc32"
	"math"
	"slices"
	"strings"
	"sync"
	"testing"
	"unsafe"

	"cromlech/api"
)

// digits is a length as a frame has it, by the chapter's words, by division alone.
func digits(v uint64) string {
	s := ""
	for ; v/128 > 0; v /= 128 {
		s += string([]byte{byte(v%128) + 128})
	}
	return s + string([]byte{byte(v)})
}

// summed is s, and behind it its sum, by the library's reckoning.
func summed(s string) string {
	c := crc32.ChecksumIEEE([]byte(s))
	return s + string([]byte{byte(c), byte(c >> 8), byte(c >> 16), byte(c >> 24)})
}

// laid is what Put has to answer, where id may be.
func laid(id int, body string) string {
	return summed(string([]byte{byte(id)}) + digits(uint64(len(body))) + body)
}

// number is chapter 1's Take from place at on, by its words: the bytes up to the first one below 128, ten at the most.
func number(s string, at int) (v uint64, next int, e api.Errno) {
	for n := range 10 {
		if at+n >= len(s) {
			return 0, 0, api.ErrShort
		}
		c := s[at+n]
		if n == 9 && c >= 2 || n > 0 && c == 0 {
			return 0, 0, api.ErrForm
		}
		v += uint64(c%128) << (7 * n)
		if c < 128 {
			return v, at + n + 1, api.OK
		}
	}
	return 0, 0, api.ErrForm
}

// tell is what Take has to answer, by the chapter's words, error by error.
func tell(s string, at int) (api.Frame, int, api.Errno) {
	if at < 0 {
		return api.Frame{}, 0, api.ErrArg
	}
	if at >= len(s) {
		return api.Frame{}, 0, api.ErrShort
	}
	if s[at] == 0 || s[at] >= 128 {
		return api.Frame{}, 0, api.ErrForm
	}
	n, body, e := number(s, at+1)
	if e != api.OK {
		return api.Frame{}, 0, e
	}
	if n > math.MaxInt32 || body+int(n)+4 > len(s) {
		return api.Frame{}, 0, api.ErrShort
	}
	end := body + int(n)
	if summed(s[at:end]) != s[at:end+4] {
		return api.Frame{}, 0, api.ErrSum
	}
	return api.Frame{Id: int(s[at]), Body: s[body:end]}, end + 4, api.OK
}

// tellAll is what All has to answer: frame by frame.
func tellAll(s string) (l []api.Frame, e api.Errno) {
	for at := 0; at < len(s); {
		f, next, e := tell(s, at)
		if e != api.OK {
			return nil, e
		}
		l = append(l, f)
		at = next
	}
	return l, api.OK
}

// hold holds Take at each place, and All, against what they have to answer.
func hold(t *testing.T, s string) {
	t.Helper()
	for at := -1; at < len(s)+2; at++ {
		f, next, e := Take(s, at)
		if g, n, d := tell(s, at); f != g || next != n || e != d {
			t.Fatalf("Take(%.60x of %d, %d): %v %d %d, not %v %d %d", s, len(s), at, f, next, e, g, n, d)
		}
	}
	holdAll(t, s)
}

func holdAll(t *testing.T, s string) {
	t.Helper()
	l, e := All(s)
	if m, d := tellAll(s); !slices.Equal(l, m) || e != d {
		t.Fatalf("All(%.60x of %d): %v %d, not %v %d", s, len(s), l, e, m, d)
	}
}

// bodies are ordinary ones and edges: about each length at which a byte is added.
func bodies() []string {
	l := []string{"", "a", "abc", "\x00", "\xff", "\x00\x00\x00\x00", "\x80\x01", "é", "\xed\xa0\x80", laid(3, "x"), laid(127, "")}
	for _, n := range []int{4, 126, 127, 128, 129, 255, 256, 16383, 16384} {
		l = append(l, strings.Repeat("\x00", n), strings.Repeat("menhir\xfe", n)[:n])
	}
	return l
}

// some are frames of several kinds, alike ones among them.
func some() []api.Frame {
	return []api.Frame{{Id: 1}, {Id: 127, Body: "abc"}, {Id: 1}, {Id: 2, Body: "\x00"}, {Id: 64, Body: strings.Repeat("q", 130)}, {Id: 127, Body: "abc"}, {Id: 7, Body: laid(7, "in")}}
}

// joined is what Join has to answer, where all Ids may be.
func joined(l []api.Frame) string {
	s := ""
	for _, f := range l {
		s += laid(f.Id, f.Body)
	}
	return s
}

// turned is s, of which the byte at a place is put together with c by exclusive or.
func turned(s string, at int, c byte) string {
	b := []byte(s)
	b[at] ^= c
	return string(b)
}

// D1: bytes that are written out by hand, the chapter's example ahead.
func TestPut(t *testing.T) {
	for _, x := range []struct {
		id   int
		body string
		s    string
	}{
		{1, "", "\x01\x00\xbe\x23\xc2\x58"},
		{127, "", "\x7f\x00\xc6\x77\x7e\xe9"},
		{1, "\x00", "\x01\x01\x00\x64\x82\x98\xe7"},
		{2, "abc", "\x02\x03abc\x43\x93\x32\x64"},
		{7, "\x01\x00\x00", "\x07\x03\x01\x00\x00\xd4\xee\x75\x67"},
		{5, strings.Repeat("z", 127), "\x05\x7f" + strings.Repeat("z", 127) + "\x7a\x0d\xf5\xd7"},
		{5, strings.Repeat("z", 128), "\x05\x80\x01" + strings.Repeat("z", 128) + "\x79\x48\x0c\x59"},
	} {
		if s, e := Put(x.id, x.body); s != x.s || e != api.OK {
			t.Errorf("Put(%d, %q): %x %d, not %x", x.id, x.body, s, e, x.s)
		}
	}
}

// D1: each Id that may be, with each body.
func TestPutEach(t *testing.T) {
	for id := 1; id <= 127; id++ {
		for _, body := range bodies() {
			if s, e := Put(id, body); s != laid(id, body) || e != api.OK {
				t.Errorf("Put(%d, %.20x of %d): %.20x %d, not %.20x", id, body, len(body), s, e, laid(id, body))
			}
		}
	}
}

// wrongIds are those that no frame has, some of which have a byte that another one has.
func wrongIds() []int {
	return []int{0, -1, -2, -127, -128, 128, 129, 255, 256, 257, 256 + 127, 1<<32 + 1, math.MinInt, math.MinInt + 1, math.MaxInt}
}

// D1: an Id that may not be, in Put, and anywhere in Join; with the error nothing else.
func TestWrongId(t *testing.T) {
	for _, id := range wrongIds() {
		for _, body := range bodies() {
			if s, e := Put(id, body); s != "" || e != api.ErrArg {
				t.Errorf("Put(%d, %.20x): %.20x %d", id, body, s, e)
			}
		}
		for i := range some() {
			l := some()
			l[i].Id = id
			if s, e := Join(l...); s != "" || e != api.ErrArg {
				t.Errorf("Join with Id %d at %d: %.20x %d", id, i, s, e)
			}
		}
		if s, e := Join(api.Frame{Id: id}); s != "" || e != api.ErrArg {
			t.Errorf("Join of Id %d alone: %x %d", id, s, e)
		}
	}
	if s, e := Join(api.Frame{}, api.Frame{Id: 128}); s != "" || e != api.ErrArg {
		t.Errorf("Join of two wrong ones: %x %d", s, e)
	}
}

// D1: Join is Put of each; of no frame it is nothing.
func TestJoin(t *testing.T) {
	for _, l := range [][]api.Frame{nil, {}} {
		if s, e := Join(l...); s != "" || e != api.OK {
			t.Errorf("of nothing: %x %d", s, e)
		}
	}
	if s, e := Join(api.Frame{Id: 127}, api.Frame{Id: 1}, api.Frame{Id: 2, Body: "abc"}); s != "\x7f\x00\xc6\x77\x7e\xe9\x01\x00\xbe\x23\xc2\x58\x02\x03abc\x43\x93\x32\x64" || e != api.OK {
		t.Errorf("of three: %x %d", s, e)
	}
	for i := range len(some()) + 1 {
		for k := i; k <= len(some()); k++ {
			if s, e := Join(some()[i:k]...); s != joined(some()[i:k]) || e != api.OK {
				t.Errorf("of those from %d to %d: %x %d", i, k, s, e)
			}
		}
	}
}

// D2: a frame, ahead of and behind other bytes.
func TestTake(t *testing.T) {
	for _, id := range []int{1, 2, 64, 126, 127} {
		for _, body := range bodies() {
			for _, ahead := range []string{"", "z", "\x00", "\x80\xff", laid(9, "nine")} {
				for _, behind := range []string{"", "\x00", "\x80", "\x01", "\xff\xff", laid(9, "nine")} {
					s := ahead + laid(id, body) + behind
					f, next, e := Take(s, len(ahead))
					if f.Id != id || f.Body != body || next != len(s)-len(behind) || e != api.OK {
						t.Errorf("Take(%.20x of %d, %d): %.40v %d %d", s, len(s), len(ahead), f, next, e)
					}
				}
			}
		}
	}
}

// D2: what is no frame, with the error that is met first, and nothing beside it.
func TestTakeWrong(t *testing.T) {
	one, nine := laid(1, ""), strings.Repeat("\xff", 9)
	for _, x := range []struct {
		s  string
		at int
		e  api.Errno
	}{
		// The place: ahead of all else.
		{one, -1, api.ErrArg},
		{"", -1, api.ErrArg},
		{"\x00", -1, api.ErrArg},
		{one, math.MinInt, api.ErrArg},
		// No byte there.
		{"", 0, api.ErrShort},
		{"", 1, api.ErrShort},
		{one, 6, api.ErrShort},
		{one, 7, api.ErrShort},
		{one, math.MaxInt, api.ErrShort},
		{one, math.MaxInt - 3, api.ErrShort},
		// The Id: ahead of what is behind it, or is not.
		{"\x00", 0, api.ErrForm},
		{"\x80", 0, api.ErrForm},
		{"\xff", 0, api.ErrForm},
		{"\x00\x80", 0, api.ErrForm},
		{"\x80\x00", 0, api.ErrForm},
		{"\x00\x05\x01", 0, api.ErrForm},
		{summed("\x00\x00"), 0, api.ErrForm},
		{summed("\x80\x00"), 0, api.ErrForm},
		{summed("\xff\x01a"), 0, api.ErrForm},
		{"\x80\x00zzzz", 0, api.ErrForm},
		{one + "\x00", 6, api.ErrForm},
		// The length: its own error.
		{"\x01", 0, api.ErrShort},
		{"\x7f", 0, api.ErrShort},
		{"\x01\x80", 0, api.ErrShort},
		{"\x01" + nine, 0, api.ErrShort},
		{"\x01\x80\x00", 0, api.ErrForm},
		{"\x01\x81\x00", 0, api.ErrForm},
		{"\x01\xff\x80\x00", 0, api.ErrForm},
		{"\x01" + nine + "\x00", 0, api.ErrForm},
		{"\x01" + nine + "\x02", 0, api.ErrForm},
		{"\x01" + nine + "\xff", 0, api.ErrForm},
		{summed("\x01\x80\x00"), 0, api.ErrForm},
		{summed("\x01\x81\x00a"), 0, api.ErrForm},
		{"\x01\x81\x00azzzz", 0, api.ErrForm},
		// Fewer bytes than are told, and four.
		{"\x01\x00", 0, api.ErrShort},
		{"\x01\x00\xbe\x23\xc2", 0, api.ErrShort},
		{"\x01\x01", 0, api.ErrShort},
		{"\x01\x01abcd", 0, api.ErrShort},
		{"\x01\x05abcdefgh", 0, api.ErrShort},
		{"\x01\x06abcdefgh", 0, api.ErrShort},
		{"\x01\x08abcdefgh", 0, api.ErrShort},
		{"\x01\x09abcdefgh", 0, api.ErrShort},
		{"\x01\x05abcdefghi", 0, api.ErrSum},
		{"\x01\x04abcdefgh", 0, api.ErrSum},
		// The sum.
		{"\x01\x00\xbe\x23\xc2\x59", 0, api.ErrSum},
		{"\x01\x00\x58\xc2\x23\xbe", 0, api.ErrSum},
		{"\x01\x00\x00\x00\x00\x00", 0, api.ErrSum},
		{"\x01\x00\xff\xff\xff\xff", 0, api.ErrSum},
		{"\x02\x00\xbe\x23\xc2\x58", 0, api.ErrSum},
		{"\x01\x01a\xbe\x23\xc2\x58", 0, api.ErrSum},
		{"\x01\x00zzzz\x00", 0, api.ErrSum},
	} {
		if f, next, e := Take(x.s, x.at); f != (api.Frame{}) || next != 0 || e != x.e {
			t.Errorf("Take(%x, %d): %v %d %d, not %d", x.s, x.at, f, next, e, x.e)
		}
	}
}

// D2, D3: a length that tells more bytes than there are, up to the greatest ones, with which one that goes round would be small.
func TestGreatLength(t *testing.T) {
	l := []uint64{math.MaxUint64, math.MaxUint64 - 1, math.MaxUint64 - 2, math.MaxUint64 - 3, math.MaxUint64 - 4, math.MaxUint64 - 7, math.MaxUint64 - 14}
	for k := 3; k < 64; k++ {
		p := uint64(1) << k
		l = append(l, p-4, p-1, p, p+1, p+4)
	}
	for _, n := range l {
		for _, behind := range []string{"", "a", "abcd", "\x00\x00\x00\x00\x00"} {
			s := "\x01" + digits(n) + behind
			for _, b := range []string{s, summed(s)} {
				hold(t, b)
				hold(t, laid(1, "ahead")+b)
			}
			if f, next, e := Take(s, 0); f != (api.Frame{}) || next != 0 || e != api.ErrShort {
				t.Errorf("of %d bytes: %v %d %d", n, f, next, e)
			}
		}
	}
}

// D2, D3: a sum is of what stands from the frame's own place on, of nothing ahead.
func TestSumFromPlace(t *testing.T) {
	ahead := laid(1, "ahead")
	whole := summed(ahead + "\x02\x01a")
	if f, next, e := Take(whole, len(ahead)); f != (api.Frame{}) || next != 0 || e != api.ErrSum {
		t.Errorf("summed from the beginning on: %v %d %d", f, next, e)
	}
	if l, e := All(whole); len(l) != 0 || e != api.ErrSum {
		t.Errorf("summed from the beginning on: %v %d", l, e)
	}
	hold(t, whole)
}

// D2, D3: frames that are cut off at each of their places, from ahead and from behind.
func TestCutOff(t *testing.T) {
	whole := joined(some())
	for i := range len(whole) + 1 {
		hold(t, whole[:i])
		hold(t, whole[i:])
	}
	for _, body := range []string{"", "a", "abc", strings.Repeat("b", 200)} {
		s := laid(3, body)
		for i := range s {
			if f, next, e := Take(s[:i], 0); f != (api.Frame{}) || next != 0 || e != api.ErrShort {
				t.Errorf("cut off at %d of %d: %v %d %d", i, len(s), f, next, e)
			}
			want := api.ErrShort
			if i == 0 {
				want = api.OK // nothing is no frame, and none is asked for
			}
			if l, e := All(s[:i]); len(l) != 0 || e != want {
				t.Errorf("All, cut off at %d of %d: %v %d", i, len(s), l, e)
			}
			if l, e := All(laid(4, "whole") + s[:i]); i > 0 && (len(l) != 0 || e != api.ErrShort) {
				t.Errorf("All, cut off at %d of the second one's %d: %v %d", i, len(s), l, e)
			}
		}
	}
}

// D2, D3: all short texts of bytes that are an edge of something.
func TestShort(t *testing.T) {
	edges := []byte{0, 1, 2, 127, 128, 255}
	var each func(s string, n int)
	each = func(s string, n int) {
		hold(t, s)
		for _, c := range edges {
			if n > 0 {
				each(s+string([]byte{c}), n-1)
			}
		}
	}
	each("", 6)
	for _, body := range []string{"", "\x00"} {
		each(laid(127, body), 3)
	}
}

// D3: of nothing there are none; of frames there are these, in order, also if they are many.
func TestAll(t *testing.T) {
	if l, e := All(""); len(l) != 0 || e != api.OK {
		t.Errorf("of nothing: %v %d", l, e)
	}
	if l, e := All("\x7f\x00\xc6\x77\x7e\xe9\x01\x00\xbe\x23\xc2\x58\x02\x03abc\x43\x93\x32\x64"); e != api.OK || !slices.Equal(l, []api.Frame{{Id: 127}, {Id: 1}, {Id: 2, Body: "abc"}}) {
		t.Errorf("of three: %v %d", l, e)
	}
	for i := range len(some()) + 1 {
		hold(t, joined(some()[:i]))
	}
	for _, n := range []int{7, 8, 9, 15, 16, 17, 127, 1000, 20000} {
		l := many(n)
		if m, e := All(joinedMany(l)); !slices.Equal(l, m) || e != api.OK {
			t.Errorf("of %d: %d frames, %d", n, len(m), e)
		}
	}
}

// many are n frames by a short rule, few like another.
func many(n int) []api.Frame {
	l := make([]api.Frame, 0, n)
	for i := range n {
		l = append(l, api.Frame{Id: i*5%127 + 1, Body: strings.Repeat(string([]byte{byte(i), byte(i >> 8)}), i%11)})
	}
	return l
}

// joinedMany is joined, that does not slow down by how many there are.
func joinedMany(l []api.Frame) string {
	var b strings.Builder
	for _, f := range l {
		b.WriteString(laid(f.Id, f.Body))
	}
	return b.String()
}

// D3: of which error is told: the one of the frame that is met first, whatever is wrong behind it.
func TestAllFirst(t *testing.T) {
	wrong := []struct {
		s string
		e api.Errno
	}{
		{turned(laid(1, "sum"), 3, 1), api.ErrSum},
		{turned(laid(1, ""), 5, 255), api.ErrSum},
		{"\x00", api.ErrForm},
		{"\x00" + laid(2, "b"), api.ErrForm},
		{summed("\x80\x00"), api.ErrForm},
		{summed("\x03\x80\x00"), api.ErrForm},
		{"\x03", api.ErrShort},
		{"\x03\x80", api.ErrShort},
		{"\x03\x7fabc", api.ErrShort},
		{"\x03\x00abc", api.ErrShort},
	}
	for n := range 20 {
		for _, x := range wrong {
			ahead := joined(many(n)) + x.s
			if l, e := All(ahead); len(l) != 0 || e != x.e {
				t.Errorf("%x behind %d frames: %v %d, not %d", x.s, n, l, e, x.e)
			}
			holdAll(t, ahead)
			for _, y := range wrong {
				holdAll(t, ahead+y.s)
				holdAll(t, ahead+joined(some())+y.s)
			}
			// A wrong sum does not hide where the frame ends: what is behind it must not be told.
			for _, behind := range []string{"", "\x00", laid(1, ""), "\x01", "\x01\x80\x00"} {
				if l, e := All(joined(many(n)) + wrong[0].s + x.s + behind); len(l) != 0 || e != api.ErrSum {
					t.Errorf("a sum, and %x, behind %d frames: %v %d", x.s, n, l, e)
				}
			}
		}
	}
}

// D3: a byte 0, or another one that begins no frame, behind the frames.
func TestBehind(t *testing.T) {
	for _, x := range []struct {
		s string
		e api.Errno
	}{
		{"\x00", api.ErrForm},
		{"\x00\x00\x00\x00\x00\x00", api.ErrForm},
		{"\x80", api.ErrForm},
		{"\xff", api.ErrForm},
		{"\x01", api.ErrShort},
		{"\x7f", api.ErrShort},
		{"\n", api.ErrShort},
		{"\x01\x00\xbe\x23\xc2\x00", api.ErrSum},
	} {
		for i := range some() {
			l := some()[:i+1]
			if m, e := All(joined(l) + x.s); len(m) != 0 || e != x.e {
				t.Errorf("%x behind %d: %v %d, not %d", x.s, len(l), m, e, x.e)
			}
			f, next, e := Take(joined(l)+x.s, len(joined(l[:i])))
			if f != l[i] || next != len(joined(l)) || e != api.OK {
				t.Errorf("Take ahead of %x: %v %d %d", x.s, f, next, e)
			}
		}
	}
}

// D3: one wrong sum, wherever it is among many frames, and several of these.
func TestOneAmongMany(t *testing.T) {
	l := many(100)
	s, at := joined(l), 0
	for i, f := range l {
		at += len(laid(f.Id, f.Body))
		one := turned(s, at-1, 1)
		if m, e := All(one); len(m) != 0 || e != api.ErrSum {
			t.Errorf("the sum of %d of %d: %d frames, %d", i, len(l), len(m), e)
		}
		if m, e := All(turned(one, len(s)-1, 2)); len(m) != 0 || e != api.ErrSum {
			t.Errorf("the sums of %d and of the last one: %d frames, %d", i, len(m), e)
		}
		if m, e := All(one + "\x00"); len(m) != 0 || e != api.ErrSum {
			t.Errorf("the sum of %d, and a byte 0 behind all: %d frames, %d", i, len(m), e)
		}
	}
	great := joinedMany(many(20000))
	if m, e := All(turned(great, len(great)-1, 1)); len(m) != 0 || e != api.ErrSum {
		t.Errorf("the last sum of very many: %d frames, %d", len(m), e)
	}
	if m, e := All(great + "\x00"); len(m) != 0 || e != api.ErrForm {
		t.Errorf("a byte 0 behind very many: %d frames, %d", len(m), e)
	}
}

// D4: All undoes Join; what All tells, joined, is the bytes that were read.
func TestTheorem(t *testing.T) {
	var each []api.Frame
	for id := 1; id <= 127; id++ {
		for _, body := range []string{"", "a", "\x00\x00", strings.Repeat("b", id), laid(id, "in")} {
			each = append(each, api.Frame{Id: id, Body: body})
		}
	}
	var long []api.Frame
	for _, body := range bodies() {
		long = append(long, api.Frame{Id: 127, Body: body})
	}
	long = append(long, api.Frame{Id: 1, Body: strings.Repeat("cromlech", 1<<17)})
	for _, l := range [][]api.Frame{nil, {{Id: 1}}, some(), each, long, many(500)} {
		s, e := Join(l...)
		if e != api.OK {
			t.Fatalf("Join of %d: %d", len(l), e)
		}
		m, e := All(s)
		if e != api.OK || !slices.Equal(l, m) {
			t.Errorf("All of Join of %d: %d frames, %d", len(l), len(m), e)
		}
		if again, e := Join(m...); again != s || e != api.OK {
			t.Errorf("Join of All of Join of %d: another one, %d", len(l), e)
		}
	}
	// Of whatever bytes, not only of those that Join made.
	s := joined(some())
	for i := range s {
		for k := i; k <= len(s); k++ {
			if l, e := All(s[i:k]); e == api.OK {
				if b, d := Join(l...); b != s[i:k] || d != api.OK {
					t.Errorf("read from %d to %d: %v %d", i, k, l, d)
				}
			}
		}
	}
}

// D4: each byte of the body, and of the sum, turned to each other one.
func TestTurned(t *testing.T) {
	for _, body := range []string{"", "a", "abc", strings.Repeat("\x00", 9), strings.Repeat("s", 130)} {
		s := laid(6, body)
		for at := len(s) - len(body) - 4; at < len(s); at++ {
			for c := 1; c < 256; c++ {
				b := turned(s, at, byte(c))
				if f, next, e := Take(b, 0); f != (api.Frame{}) || next != 0 || e != api.ErrSum {
					t.Errorf("turned at %d of %d: %v %d %d", at, len(s), f, next, e)
				}
				if f, next, e := Take("ahead"+b+"behind", 5); f != (api.Frame{}) || next != 0 || e != api.ErrSum {
					t.Errorf("turned at %d of %d, in the midst: %v %d %d", at, len(s), f, next, e)
				}
				if l, e := All(laid(1, "x") + b + laid(1, "y")); len(l) != 0 || e != api.ErrSum {
					t.Errorf("All, turned at %d of %d: %v %d", at, len(s), l, e)
				}
			}
		}
	}
	// The Id and the length, too: told as their own errors say.
	s := joined(some()[:4])
	for at := range s {
		for c := range 256 {
			hold(t, turned(s, at, byte(c)))
		}
	}
}

// R3: what is handed in is as it was, spare room too; what comes out is shared with no argument and no other answer.
func TestMemory(t *testing.T) {
	room := some()
	if s, e := Join(room[:3]...); s != joined(some()[:3]) || e != api.OK {
		t.Errorf("Join of the first three: %x %d", s, e)
	}
	if !slices.Equal(room, some()) {
		t.Errorf("written into: %v", room)
	}
	s := joined(some())
	a, _ := All(s)
	b, _ := All(s)
	a[0] = api.Frame{Id: 99}
	a = append(a[:1], api.Frame{Id: 98}, api.Frame{Id: 97})
	if !slices.Equal(b, some()) || len(a) != 3 {
		t.Errorf("shared: %v %v", a, b)
	}
	for _, f := range b {
		if f.Body != "" && within(f.Body, s) {
			t.Errorf("%v is a part of what was read", f)
		}
	}
	if f, _, e := Take(s, 6); f != some()[1] || e != api.OK || within(f.Body, s) {
		t.Errorf("Take: %v %d", f, e)
	}
}

// within is whether a part's first byte stands among those of s.
func within(part, s string) bool {
	first, at := uintptr(unsafe.Pointer(unsafe.StringData(s))), uintptr(unsafe.Pointer(unsafe.StringData(part)))
	return first <= at && at < first+uintptr(len(s))
}

// R4: the same answers for all, however they run.
func TestAtOnce(t *testing.T) {
	l := many(40)
	s := joined(l)
	var all sync.WaitGroup
	for i := range 64 {
		all.Go(func() {
			if m, e := All(s); e != api.OK || !slices.Equal(l, m) {
				t.Errorf("%d: %d frames, %d", i, len(m), e)
			}
			if m, e := All(turned(s, len(s)-1-i%4, byte(i)+1) + "\x00"); len(m) != 0 || e != api.ErrSum {
				t.Errorf("%d, turned: %d frames, %d", i, len(m), e)
			}
		})
	}
	all.Wait()
}
