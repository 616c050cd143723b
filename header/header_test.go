package header

import (
	"math"
	"slices"
	"sync"
	"testing"

	"cromlech/api"
)

// shapes are all right ones, by the chapter's words.
func shapes() []api.Shape {
	var l []api.Shape
	for size := 0; size <= 255; size++ {
		for ptrs := 0; ptrs <= size; ptrs++ {
			l = append(l, api.Shape{Size: size, Ptrs: ptrs})
		}
	}
	return l
}

// headerOf is a right shape's header, by the chapter's words.
func headerOf(s api.Shape) uint64 { return 2 * (uint64(s.Size) + 65536*uint64(s.Ptrs)) }

// tell is what Unpack has to answer, by division alone.
func tell(w uint64) (api.Shape, api.Errno) {
	size, ptrs := w/2%65536, w/2/65536
	if w%2 != 0 || size > 255 || ptrs > size {
		return api.Shape{}, api.ErrForm
	}
	return api.Shape{Size: int(size), Ptrs: int(ptrs)}, api.OK
}

// tellAddress is what Address has to answer.
func tellAddress(w uint64) (uint64, api.Errno) {
	if w == 0 {
		return 0, api.ErrNone
	}
	if w%2 == 0 || w == 1 {
		return 0, api.ErrForm
	}
	return (w - 1) / 2, api.OK
}

// hold holds what a word is, as a header and as a pointer, against what it has to be.
func hold(t *testing.T, w uint64) {
	t.Helper()
	s, e := Unpack(w)
	if r, d := tell(w); s != r || e != d {
		t.Fatalf("Unpack(%d): %v %d, not %v %d", w, s, e, r, d)
	}
	a, e := Address(w)
	if b, d := tellAddress(w); a != b || e != d {
		t.Fatalf("Address(%d): %d %d, not %d %d", w, a, e, b, d)
	}
}

// wrongNumbers are those that no right shape has, some of which have low bits that a right one has.
func wrongNumbers() []int {
	l := []int{-1, -2, -254, -255, -256, -257, -65535, -65536, math.MinInt, math.MinInt + 1, math.MaxInt - 1, math.MaxInt}
	for k := 8; k < 63; k++ {
		p := 1 << k
		l = append(l, p, p+1, p+3, p+255, -p, -p+3)
	}
	return l
}

// wrongShapes are those with a wrong number, and all whose Ptrs are more than their Size.
func wrongShapes() []api.Shape {
	var l []api.Shape
	for _, n := range wrongNumbers() {
		l = append(l, api.Shape{Size: n, Ptrs: n}, api.Shape{Size: n, Ptrs: n - 1}, api.Shape{Size: n, Ptrs: n + 1})
		for _, m := range []int{0, 1, 3, 254, 255, 256} {
			l = append(l, api.Shape{Size: n, Ptrs: m}, api.Shape{Size: m, Ptrs: n})
		}
	}
	for size := 0; size <= 255; size++ {
		for ptrs := size + 1; ptrs <= 300; ptrs++ {
			l = append(l, api.Shape{Size: size, Ptrs: ptrs})
		}
	}
	return l
}

// E1: headers that are written out by hand, the chapter's example ahead.
func TestPack(t *testing.T) {
	for _, x := range []struct {
		s api.Shape
		w uint64
	}{
		{api.Shape{Size: 3, Ptrs: 1}, 131078},
		{api.Shape{}, 0},
		{api.Shape{Size: 1}, 2},
		{api.Shape{Size: 1, Ptrs: 1}, 131074},
		{api.Shape{Size: 2, Ptrs: 1}, 131076},
		{api.Shape{Size: 3}, 6},
		{api.Shape{Size: 3, Ptrs: 3}, 393222},
		{api.Shape{Size: 128, Ptrs: 127}, 16646400},
		{api.Shape{Size: 254, Ptrs: 254}, 33292796},
		{api.Shape{Size: 255}, 510},
		{api.Shape{Size: 255, Ptrs: 254}, 33292798},
		{api.Shape{Size: 255, Ptrs: 255}, 33423870},
	} {
		if !Right(x.s) {
			t.Errorf("Right(%v): false", x.s)
		}
		if w, e := Pack(x.s); w != x.w || e != api.OK {
			t.Errorf("Pack(%v): %d %d, not %d", x.s, w, e, x.w)
		}
		if s, e := Unpack(x.w); s != x.s || e != api.OK {
			t.Errorf("Unpack(%d): %v %d, not %v", x.w, s, e, x.s)
		}
	}
}

// E1, E3: each right shape, and its header, which Unpack undoes.
func TestEachShape(t *testing.T) {
	for _, s := range shapes() {
		if !Right(s) {
			t.Fatalf("Right(%v): false", s)
		}
		w, e := Pack(s)
		if w != headerOf(s) || e != api.OK {
			t.Fatalf("Pack(%v): %d %d, not %d", s, w, e, headerOf(s))
		}
		if r, e := Unpack(w); r != s || e != api.OK {
			t.Fatalf("Unpack(%d): %v %d, not %v", w, r, e, s)
		}
	}
}

// E1: the edges of what is right, by name.
func TestRight(t *testing.T) {
	for _, x := range []struct {
		size, ptrs int
		right      bool
	}{
		{0, 0, true}, {0, 1, false}, {0, -1, false},
		{1, 0, true}, {1, 1, true}, {1, 2, false}, {1, -1, false},
		{-1, 0, false}, {-1, -1, false}, {-1, -2, false}, {-3, 1, false},
		{255, 0, true}, {255, 254, true}, {255, 255, true}, {255, 256, false}, {255, -1, false},
		{256, 0, false}, {256, 1, false}, {256, 255, false}, {256, 256, false},
		{65536, 0, false}, {3, 65536, false}, {65536 + 3, 1, false}, {3, 65536 + 1, false}, {1<<32 + 3, 1<<32 + 1, false},
		{math.MaxInt, 0, false}, {math.MaxInt, math.MaxInt, false}, {0, math.MaxInt, false},
		{math.MinInt, 0, false}, {math.MinInt, math.MinInt, false}, {0, math.MinInt, false},
		{math.MinInt, math.MaxInt, false}, {math.MaxInt, math.MinInt, false}, {255, math.MinInt, false},
	} {
		if Right(api.Shape{Size: x.size, Ptrs: x.ptrs}) != x.right {
			t.Errorf("Size %d, Ptrs %d: not %v", x.size, x.ptrs, x.right)
		}
	}
}

// E1: a shape that is not right has no header.
func TestPackWrong(t *testing.T) {
	for _, s := range wrongShapes() {
		if Right(s) {
			t.Errorf("Right(%v): true", s)
		}
		if w, e := Pack(s); w != 0 || e != api.ErrArg {
			t.Errorf("Pack(%v): %d %d", s, w, e)
		}
	}
}

// E1: words that are no headers, each wrong in a way of its own.
func TestUnpackWrong(t *testing.T) {
	for _, w := range []uint64{
		// Odd ones: pointers, and the mark alone.
		1, 3, 11, 131079, 511, 33423871, math.MaxUint64,
		// Size 256 and more.
		512, 514, 1024, 65536, 131070, 131072 + 512, 131078 + 65536, 33423872,
		// Ptrs more than Size: with Size 0, 3, 254, and more than any shape has.
		131072, 393216, 4*131072 + 6, 255*131072 + 508, 256*131072 + 510, 257*131072 + 510, 65535*131072 + 510,
		// Size too great, and Ptrs no more than it.
		256*131072 + 512, 300*131072 + 600, 65535*131072 + 131070,
		// A bit above both parts.
		1 << 33, 1<<33 + 6, 1<<33 + 131078, 1<<34 + 131078, 1<<48 + 131078, 1<<62 + 131078, 1<<63 + 131078, 1 << 63, 1<<63 + 2,
		math.MaxUint64 - 1,
	} {
		if s, e := Unpack(w); s != (api.Shape{}) || e != api.ErrForm {
			t.Errorf("Unpack(%d): %v %d", w, s, e)
		}
		hold(t, w)
	}
}

// E1, E2: the words 0, 1 and 2, and others about them.
func TestLeastWords(t *testing.T) {
	for _, x := range []struct {
		w uint64
		s api.Shape
		e api.Errno
		a uint64
		d api.Errno
	}{
		{0, api.Shape{}, api.OK, 0, api.ErrNone},
		{1, api.Shape{}, api.ErrForm, 0, api.ErrForm},
		{2, api.Shape{Size: 1}, api.OK, 0, api.ErrForm},
		{3, api.Shape{}, api.ErrForm, 1, api.OK},
		{4, api.Shape{Size: 2}, api.OK, 0, api.ErrForm},
		{5, api.Shape{}, api.ErrForm, 2, api.OK},
		{510, api.Shape{Size: 255}, api.OK, 0, api.ErrForm},
		{512, api.Shape{}, api.ErrForm, 0, api.ErrForm},
	} {
		if s, e := Unpack(x.w); s != x.s || e != x.e {
			t.Errorf("Unpack(%d): %v %d", x.w, s, e)
		}
		if a, d := Address(x.w); a != x.a || d != x.d {
			t.Errorf("Address(%d): %d %d", x.w, a, d)
		}
	}
}

// E1, E3: just the headers of right shapes, and no other word up to beyond the greatest of them, are read back.
func TestEachWord(t *testing.T) {
	found := 0
	for w := uint64(0); w <= headerOf(api.Shape{Size: 255, Ptrs: 257}); w++ {
		s, e := Unpack(w)
		if r, d := tell(w); s != r || e != d {
			t.Fatalf("Unpack(%d): %v %d, not %v %d", w, s, e, r, d)
		}
		if e != api.OK {
			continue
		}
		found++
		if p, e := Pack(s); p != w || e != api.OK {
			t.Fatalf("%d is unpacked as %v, which is packed as %d %d", w, s, p, e)
		}
	}
	if found != len(shapes()) {
		t.Errorf("%d headers, not %d", found, len(shapes()))
	}
}

// E1, E2: each header of which one bit, or two, are turned, in each of its parts and above them.
func TestTurned(t *testing.T) {
	for _, s := range shapes() {
		w := headerOf(s)
		for k := range 64 {
			hold(t, w^1<<k)
		}
	}
	for _, s := range []api.Shape{{}, {Size: 3, Ptrs: 1}, {Size: 255}, {Size: 128, Ptrs: 128}, {Size: 255, Ptrs: 255}} {
		for k := range 64 {
			for m := range k {
				hold(t, headerOf(s)^1<<k^1<<m)
			}
		}
	}
}

// addresses are those about each power of two, from 1 to 2^63 - 1.
func addresses() []uint64 {
	l := []uint64{1, 2, 3, 5, 65539}
	for k := 2; k < 63; k++ {
		p := uint64(1) << k
		l = append(l, p-1, p, p+1, p+p/2)
	}
	return append(l, 1<<63-3, 1<<63-2, 1<<63-1)
}

// E2: pointers that are written out by hand, the chapter's example ahead.
func TestRef(t *testing.T) {
	for _, x := range []struct{ address, w uint64 }{
		{5, 11},
		{1, 3},
		{2, 5},
		{65539, 131079},
		{1<<31 - 1, 1<<32 - 1},
		{1 << 31, 1<<32 + 1},
		{1 << 32, 1<<33 + 1},
		{1 << 62, 1<<63 + 1},
		{1<<63 - 2, math.MaxUint64 - 2},
		{1<<63 - 1, math.MaxUint64},
	} {
		if w, e := Ref(x.address); w != x.w || e != api.OK {
			t.Errorf("Ref(%d): %d %d, not %d", x.address, w, e, x.w)
		}
		if a, e := Address(x.w); a != x.address || e != api.OK {
			t.Errorf("Address(%d): %d %d, not %d", x.w, a, e, x.address)
		}
	}
}

// E2: 0, and what is beyond 2^63 - 1, some with low bits that an address has.
func TestRefWrong(t *testing.T) {
	l := []uint64{0, 1 << 63, math.MaxUint64, math.MaxUint64 - 1}
	for _, a := range addresses() {
		l = append(l, a+1<<63)
	}
	for _, a := range l {
		if w, e := Ref(a); w != 0 || e != api.ErrArg {
			t.Errorf("Ref(%d): %d %d", a, w, e)
		}
	}
}

// E2: what has no address: 0 has its own error, all else is no pointer.
func TestAddressWrong(t *testing.T) {
	if a, e := Address(0); a != 0 || e != api.ErrNone {
		t.Errorf("Address(0): %d %d", a, e)
	}
	l := []uint64{1, 2, 4, 6, 510, 512, 131078, 33423870, 1 << 33, 1 << 63, 1<<63 + 2, math.MaxUint64 - 1}
	for _, a := range addresses() {
		l = append(l, 2*a)
	}
	for _, w := range l {
		if a, e := Address(w); a != 0 || e != api.ErrForm {
			t.Errorf("Address(%d): %d %d", w, a, e)
		}
	}
}

// E3: Address undoes Ref, and a word that has an address is the pointer to it.
func TestRefUndone(t *testing.T) {
	for _, a := range addresses() {
		w, e := Ref(a)
		if w != 2*a+1 || e != api.OK {
			t.Errorf("Ref(%d): %d %d", a, w, e)
		}
		if b, e := Address(w); b != a || e != api.OK {
			t.Errorf("Address(%d): %d %d, not %d", w, b, e, a)
		}
		for _, v := range []uint64{w - 2, w - 1, w, w + 1, w + 2} {
			b, e := Address(v)
			if e != api.OK {
				continue
			}
			if r, e := Ref(b); r != v || e != api.OK {
				t.Errorf("%d has the address %d, to which the pointer is %d %d", v, b, r, e)
			}
		}
	}
}

// scattered are words of all sizes, far from one another: the same ones each time.
func scattered() []uint64 {
	var l []uint64
	w := uint64(0x9E3779B97F4A7C15)
	for range 20000 {
		w = w*6364136223846793005 + 1442695040888963407
		for k := 0; k < 64; k += 7 {
			l = append(l, w>>k)
		}
	}
	return l
}

// E1 to E3: no word is both a header and a pointer, and what it is it comes from.
func TestTheorem(t *testing.T) {
	l := scattered()
	for w := range uint64(1 << 18) {
		l = append(l, w, math.MaxUint64-w, 1<<63+w, 1<<63-1-w, 1<<33+w, 1<<33-1-w)
	}
	for _, s := range shapes() {
		l = append(l, headerOf(s), headerOf(s)+1)
	}
	for _, w := range l {
		hold(t, w)
		s, e := Unpack(w)
		a, d := Address(w)
		if e == api.OK && d == api.OK {
			t.Fatalf("%d is both a header and a pointer", w)
		}
		if e == api.OK && (d == api.ErrNone) != (s == api.Shape{}) {
			t.Fatalf("%d is the header of %v, and as a pointer %d", w, s, d)
		}
		if p, f := Pack(s); e == api.OK && (p != w || f != api.OK) {
			t.Fatalf("%d is unpacked as %v, which is packed as %d %d", w, s, p, f)
		}
		if r, f := Ref(a); d == api.OK && (r != w || f != api.OK) {
			t.Fatalf("%d has the address %d, to which the pointer is %d %d", w, a, r, f)
		}
	}
}

// E3: of two right shapes no two have one header.
func TestNoTwoAlike(t *testing.T) {
	var l []uint64
	for _, s := range shapes() {
		w, _ := Pack(s)
		l = append(l, w)
	}
	slices.Sort(l)
	if n := len(slices.Compact(l)); n != len(shapes()) {
		t.Errorf("%d headers of %d shapes", n, len(shapes()))
	}
}

// R4: the same answers for all, however they run.
func TestAtOnce(t *testing.T) {
	var all sync.WaitGroup
	for i := range 16 {
		all.Go(func() {
			for k := range 1000 {
				s := api.Shape{Size: (k + i) % 256, Ptrs: k % 7}
				w, e := Pack(s)
				if s.Ptrs > s.Size {
					if w != 0 || e != api.ErrArg {
						t.Errorf("Pack(%v): %d %d", s, w, e)
					}
				} else if w != headerOf(s) || e != api.OK {
					t.Errorf("Pack(%v): %d %d", s, w, e)
				}
			}
		})
	}
	all.Wait()
}
