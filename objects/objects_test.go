package objects

import (
	"math"
	"slices"
	"sync"
	"testing"

	"cromlech/api"
)

// rightShape is whether a shape is right, by chapter 5's words.
func rightShape(s api.Shape) bool {
	return s.Size >= 0 && s.Size <= 255 && s.Ptrs >= 0 && s.Ptrs <= s.Size
}

// headerOf is a right shape's header, by chapter 5's words.
func headerOf(size, ptrs int) uint64 { return 2 * (uint64(size) + 65536*uint64(ptrs)) }

// headed is the shape whose header a word is, if it is one, by division alone.
func headed(w uint64) (api.Shape, bool) {
	size, ptrs := w/2%65536, w/2/65536
	if w%2 != 0 || size > 255 || ptrs > size {
		return api.Shape{}, false
	}
	return api.Shape{Size: int(size), Ptrs: int(ptrs)}, true
}

// addressed is whether a word has an address: whether it is twice a number from 1 on, and 1.
func addressed(w uint64) bool { return w%2 == 1 && w != 1 }

// tell is what Walk has to answer, by the chapter's words, error by error: the first object's, and what is behind it.
func tell(words []uint64) (l []api.Object, e api.Errno) {
	for at := 0; at < len(words); {
		s, ok := headed(words[at])
		if !ok {
			return nil, api.ErrForm
		}
		if len(words)-at-1 < s.Size {
			return nil, api.ErrShort
		}
		for i := range s.Ptrs {
			if w := words[at+1+i]; w != 0 && !addressed(w) {
				return nil, api.ErrForm
			}
		}
		l = append(l, api.Object{At: at, Shape: s})
		at += s.Size + 1
	}
	return l, api.OK
}

// tellOld is what WalkOld has to answer, from place at on: what one object tells, and what is behind it.
func tellOld(words []uint64, at int, shapes []api.Shape) ([]api.Object, api.Errno) {
	if at == len(words) {
		if len(shapes) > 0 {
			return nil, api.ErrForm
		}
		return nil, api.OK
	}
	var l []api.Object
	var size int
	if w := words[at]; addressed(w) {
		if len(shapes) == 0 || !rightShape(shapes[0]) {
			return nil, api.ErrForm
		}
		size = shapes[0].Size
		if len(words)-at-1 < size {
			return nil, api.ErrShort
		}
		for i := range size {
			if words[at+1+i] > 0 {
				return nil, api.ErrForm
			}
		}
		l = append(l, api.Object{At: at, Shape: shapes[0], Gone: true, Target: (w - 1) / 2})
		shapes = shapes[1:]
	} else {
		s, ok := headed(w)
		if !ok {
			return nil, api.ErrForm
		}
		size = s.Size
		// One object alone, told as Walk has to.
		one, e := tell(words[at:min(len(words), at+1+size)])
		if e != api.OK {
			return nil, e
		}
		one[0].At = at
		l = one
	}
	rest, e := tellOld(words, at+1+size, shapes)
	if e != api.OK {
		return nil, e
	}
	return append(l, rest...), api.OK
}

// holdWalk holds what Walk answers against what it has to, and holdOld what WalkOld does.
func holdWalk(t *testing.T, words []uint64) {
	t.Helper()
	l, e := Walk(words)
	if r, d := tell(words); !slices.Equal(l, r) || e != d {
		t.Fatalf("Walk(%v): %v %d, not %v %d", words, l, e, r, d)
	}
}

func holdOld(t *testing.T, words []uint64, shapes []api.Shape) {
	t.Helper()
	l, e := WalkOld(words, shapes)
	if r, d := tellOld(words, 0, shapes); !slices.Equal(l, r) || e != d {
		t.Fatalf("WalkOld(%v, %v): %v %d, not %v %d", words, shapes, l, e, r, d)
	}
}

// row is n words, which are w.
func row(n int, w uint64) []uint64 { return slices.Repeat([]uint64{w}, n) }

// live is an object that is not Gone, gone one that is.
func live(at, size, ptrs int) api.Object {
	return api.Object{At: at, Shape: api.Shape{Size: size, Ptrs: ptrs}}
}

func gone(at, size, ptrs int, target uint64) api.Object {
	return api.Object{At: at, Shape: api.Shape{Size: size, Ptrs: ptrs}, Gone: true, Target: target}
}

// F1: objects that are written out by hand, the chapter's example ahead.
func TestWalk(t *testing.T) {
	for i, x := range []struct {
		words []uint64
		l     []api.Object
	}{
		{[]uint64{131078, 11, 5, 6}, []api.Object{live(0, 3, 1)}},
		{nil, nil},
		{[]uint64{}, nil},
		{[]uint64{0}, []api.Object{live(0, 0, 0)}},
		{[]uint64{0, 0, 0}, []api.Object{live(0, 0, 0), live(1, 0, 0), live(2, 0, 0)}},
		{[]uint64{2, 6}, []api.Object{live(0, 1, 0)}},
		{[]uint64{131074, 0}, []api.Object{live(0, 1, 1)}},
		{[]uint64{131074, 3, 0, 2, 131074}, []api.Object{live(0, 1, 1), live(2, 0, 0), live(3, 1, 0)}},
		{[]uint64{4, 131074, 1, 262148, 3, math.MaxUint64}, []api.Object{live(0, 2, 0), live(3, 2, 2)}},
		{append([]uint64{510}, row(255, 1)...), []api.Object{live(0, 255, 0)}},
		{append([]uint64{33423870}, row(255, 0)...), []api.Object{live(0, 255, 255)}},
		{append(append([]uint64{0, 33423870}, row(255, 3)...), 2, 7), []api.Object{live(0, 0, 0), live(1, 255, 255), live(257, 1, 0)}},
	} {
		if l, e := Walk(x.words); !slices.Equal(l, x.l) || e != api.OK {
			t.Errorf("%d: %v %d, not %v", i, l, e, x.l)
		}
		// So, too, where objects may be gone, but none is.
		if l, e := WalkOld(x.words, nil); !slices.Equal(l, x.l) || e != api.OK {
			t.Errorf("%d: old: %v %d, not %v", i, l, e, x.l)
		}
	}
}

// F1: words that end at each place, within an object and between two.
func TestWalkCut(t *testing.T) {
	words := []uint64{131078, 11, 5, 6, 0, 2, 9, 0, 0, 262148, 0, 3, 33423870}
	words = append(words, row(255, 5)...)
	words = append(words, 510)
	words = append(words, row(255, 1)...)
	all := []api.Object{live(0, 3, 1), live(4, 0, 0), live(5, 1, 0), live(7, 0, 0), live(8, 0, 0), live(9, 2, 2), live(12, 255, 255), live(268, 255, 0)}
	ends := []int{4, 5, 7, 8, 9, 12, 268, 524}
	for n := range len(words) + 1 {
		l, e := Walk(words[:n])
		k := slices.Index(ends, n)
		if n > 0 && k < 0 {
			if l != nil || e != api.ErrShort {
				t.Errorf("the first %d: %v %d", n, l, e)
			}
		} else if !slices.Equal(l, all[:k+1]) || e != api.OK {
			t.Errorf("the first %d: %v %d, not %v", n, l, e, all[:k+1])
		}
	}
}

// notHeaders are words that are no headers, each in a way of its own: odd ones, Size or Ptrs too great, a bit beside both.
func notHeaders() []uint64 {
	return []uint64{1, 3, 11, 131079, 511, math.MaxUint64, 512, 131072, 131072 + 512, 393220, 256*131072 + 510, 256*131072 + 512, 1<<33 + 6, 1 << 63, math.MaxUint64 - 1}
}

// F1: what is no header, where an object begins: at the first place, and behind others.
func TestWalkNoHeader(t *testing.T) {
	for _, w := range notHeaders() {
		for i, words := range [][]uint64{
			{w},
			append([]uint64{w}, row(600, 0)...),
			{0, w},
			{131078, 11, 5, 6, w},
			{2, 6, 0, w, 0, 0},
			append(append([]uint64{510}, row(255, 0)...), w),
		} {
			if l, e := Walk(words); l != nil || e != api.ErrForm {
				t.Errorf("%d, %d: %v %d", w, i, l, e)
			}
		}
	}
}

// slotWords are words of all kinds, with whether each may be a pointer's.
var slotWords = []struct {
	w   uint64
	may bool
}{
	{0, true}, {3, true}, {5, true}, {11, true}, {131079, true}, {1<<63 + 1, true}, {1<<63 - 1, true}, {math.MaxUint64, true},
	{1, false}, {2, false}, {4, false}, {10, false}, {131078, false}, {512, false}, {1 << 33, false}, {1 << 63, false}, {math.MaxUint64 - 1, false},
}

// F1, F3: the first slots may be no other words than pointers', the others any.
func TestSlots(t *testing.T) {
	for _, s := range []api.Shape{{Size: 1}, {Size: 1, Ptrs: 1}, {Size: 3, Ptrs: 1}, {Size: 3, Ptrs: 2}, {Size: 3, Ptrs: 3}, {Size: 255, Ptrs: 254}, {Size: 255, Ptrs: 255}} {
		for at := range s.Size {
			for _, x := range slotWords {
				slots := row(s.Size, 7)
				slots[at] = x.w
				words := append([]uint64{headerOf(s.Size, s.Ptrs)}, slots...)
				l, e := Walk(words)
				laid, d := Lay(s, slots)
				if x.may || at >= s.Ptrs {
					if !slices.Equal(l, []api.Object{{Shape: s}}) || e != api.OK || !slices.Equal(laid, words) || d != api.OK {
						t.Errorf("%v, %d at %d: %v %d, laid %v %d", s, x.w, at, l, e, laid, d)
					}
				} else if l != nil || e != api.ErrForm || laid != nil || d != api.ErrForm {
					t.Errorf("%v, %d at %d: %v %d, laid %v %d", s, x.w, at, l, e, laid, d)
				}
			}
		}
	}
}

// F1: the first error that is met, where there could be two.
func TestWalkFirst(t *testing.T) {
	for i, x := range []struct {
		words []uint64
		e     api.Errno
	}{
		{[]uint64{131078, 2, 5}, api.ErrShort},           // too few words, one of which may not be a pointer's
		{[]uint64{393222, 1, 2}, api.ErrShort},           // two of them
		{[]uint64{131078, 2, 5, 6, 4, 0}, api.ErrForm},   // no pointer's; behind it too few words
		{[]uint64{2, 6, 4, 0}, api.ErrShort},             // too few words, though the object ahead is well
		{[]uint64{1, 131078, 11}, api.ErrForm},           // no header; behind it too few words
		{[]uint64{131078, 11, 512}, api.ErrShort},        // too few words, one of which is no header
		{[]uint64{131078, 11, 5, 512}, api.OK},           // among scalars whatever is no header
		{[]uint64{131074, 0, 131076, 3}, api.ErrShort},   // the second one has too few words
		{[]uint64{131074, 0, 131074, 4, 1}, api.ErrForm}, // no pointer's; behind it no header
		{[]uint64{131074, 4}, api.ErrForm},               // a pointer slot that is a header
		{[]uint64{4, 0}, api.ErrShort},                   // one word too few
		{[]uint64{2}, api.ErrShort},                      // no word behind
		{[]uint64{510}, api.ErrShort},                    // 255 too few
		{append([]uint64{510}, row(254, 0)...), api.ErrShort},
	} {
		l, e := Walk(x.words)
		if e != x.e || e != api.OK && l != nil {
			t.Errorf("%d: %v %d, not %d", i, l, e, x.e)
		}
		if old, d := WalkOld(x.words, nil); d != x.e || !slices.Equal(old, l) {
			t.Errorf("%d: old: %v %d, not %d", i, old, d, x.e)
		}
	}
}

// F2: objects from which some were copied, by hand.
func TestWalkOld(t *testing.T) {
	one, two, none := api.Shape{Size: 1}, api.Shape{Size: 2, Ptrs: 2}, api.Shape{}
	for i, x := range []struct {
		words  []uint64
		shapes []api.Shape
		l      []api.Object
	}{
		{nil, nil, nil},
		{[]uint64{11}, []api.Shape{none}, []api.Object{gone(0, 0, 0, 5)}},
		{[]uint64{11, 0}, []api.Shape{one}, []api.Object{gone(0, 1, 0, 5)}},
		{[]uint64{3, 0, 0}, []api.Shape{two}, []api.Object{gone(0, 2, 2, 1)}},
		{[]uint64{math.MaxUint64, 0}, []api.Shape{one}, []api.Object{gone(0, 1, 0, 1<<63-1)}},
		// The shapes go to those that are gone, in order; the others have their own.
		{[]uint64{131074, 9, 11, 0, 0, 0, 2, 6, 7, 0}, []api.Shape{two, one}, []api.Object{live(0, 1, 1), gone(2, 2, 2, 5), live(5, 0, 0), live(6, 1, 0), gone(8, 1, 0, 3)}},
		{[]uint64{11, 0, 13, 0, 0}, []api.Shape{one, two}, []api.Object{gone(0, 1, 0, 5), gone(2, 2, 2, 6)}},
		{[]uint64{11, 0, 0, 13, 0}, []api.Shape{two, one}, []api.Object{gone(0, 2, 2, 5), gone(3, 1, 0, 6)}},
		// Of one target two may be, so far; behind a shape without slots another word begins an object.
		{[]uint64{11, 11, 0}, []api.Shape{none, none}, []api.Object{gone(0, 0, 0, 5), gone(1, 0, 0, 5), live(2, 0, 0)}},
		// 0 is the header of an object without slots, and not gone: it has no address.
		{[]uint64{0, 11}, []api.Shape{none}, []api.Object{live(0, 0, 0), gone(1, 0, 0, 5)}},
		// What has an address, but stands in a slot, begins nothing.
		{[]uint64{131076, 11, 13}, nil, []api.Object{live(0, 2, 1)}},
		{append(append([]uint64{11}, row(255, 0)...), 13), []api.Shape{{Size: 255, Ptrs: 9}, none}, []api.Object{gone(0, 255, 9, 5), gone(256, 0, 0, 6)}},
	} {
		if l, e := WalkOld(x.words, x.shapes); !slices.Equal(l, x.l) || e != api.OK {
			t.Errorf("%d: %v %d, not %v", i, l, e, x.l)
		}
	}
}

// F2: what is wrong with a gone object, and which error is told where there could be two.
func TestWalkOldWrong(t *testing.T) {
	one, two, none, wrong := api.Shape{Size: 1}, api.Shape{Size: 2, Ptrs: 1}, api.Shape{}, api.Shape{Size: 1, Ptrs: 2}
	for i, x := range []struct {
		words  []uint64
		shapes []api.Shape
		e      api.Errno
	}{
		{[]uint64{11}, nil, api.ErrForm},                               // no shape
		{[]uint64{11, 0, 13, 0}, []api.Shape{one}, api.ErrForm},        // one too few
		{[]uint64{11, 0}, []api.Shape{wrong}, api.ErrForm},             // not right
		{[]uint64{11, 0, 13, 0}, []api.Shape{one, wrong}, api.ErrForm}, // the second one is not
		{[]uint64{11, 0}, []api.Shape{one, one}, api.ErrForm},          // one too many
		{[]uint64{11, 0}, []api.Shape{one, none}, api.ErrForm},         // even one without slots
		{[]uint64{11, 0}, []api.Shape{one, wrong}, api.ErrForm},        // even one that is not right
		{nil, []api.Shape{none}, api.ErrForm},                          // no words, but a shape
		{[]uint64{0, 2, 6}, []api.Shape{one}, api.ErrForm},             // none is gone, but a shape
		{[]uint64{11, 5}, []api.Shape{one}, api.ErrForm},               // a slot that is not 0
		{[]uint64{11, 1}, []api.Shape{one}, api.ErrForm},               // nor may it be odd
		{[]uint64{11, 3, 0}, []api.Shape{two}, api.ErrForm},            // nor a pointer, even among the first slots
		{[]uint64{11, 0, 1 << 63}, []api.Shape{two}, api.ErrForm},      // nor the last one
		{[]uint64{11}, []api.Shape{one}, api.ErrShort},                 // no word behind
		{[]uint64{11, 0}, []api.Shape{two}, api.ErrShort},              // one too few
		{[]uint64{0, 2, 6, 11, 0}, []api.Shape{two}, api.ErrShort},     // so, behind others
		{[]uint64{11, 5}, []api.Shape{two}, api.ErrShort},              // too few words, one of which is not 0
		{[]uint64{11}, []api.Shape{one, one}, api.ErrShort},            // too few words; at the end a shape would be left
		{[]uint64{11}, []api.Shape{{Size: 256}}, api.ErrForm},          // a shape not right, with too few words for it
		{[]uint64{11, 5, 13}, []api.Shape{one, two}, api.ErrForm},      // not 0; behind it too few words
		{[]uint64{11, 0, 13}, []api.Shape{one, two}, api.ErrShort},     // so, but 0
		{[]uint64{2, 13}, []api.Shape{none}, api.ErrForm},              // an address in a slot takes no shape
		{[]uint64{131074, 2, 11}, []api.Shape{one}, api.ErrForm},       // no pointer's; behind it too few words
		{[]uint64{2, 6, 4, 0}, []api.Shape{one}, api.ErrShort},         // too few words; a shape would be left
		{[]uint64{1}, []api.Shape{none}, api.ErrForm},                  // neither a header nor an address
		{[]uint64{512}, []api.Shape{none}, api.ErrForm},                // so, even
		{[]uint64{11, 1}, []api.Shape{none}, api.ErrForm},              // behind one that is gone
		{append([]uint64{11}, row(254, 0)...), []api.Shape{{Size: 255}}, api.ErrShort},
		{append([]uint64{11}, row(256, 0)...), []api.Shape{{Size: 256}}, api.ErrForm},
	} {
		if l, e := WalkOld(x.words, x.shapes); l != nil || e != x.e {
			t.Errorf("%d: %v %d, not %d", i, l, e, x.e)
		}
	}
}

// wrongShapes are those that are not right, some of which have low bits that a right one has.
func wrongShapes() []api.Shape {
	l := []api.Shape{{Ptrs: 1}, {Size: 1, Ptrs: 2}, {Size: 255, Ptrs: 256}, {Size: 256}, {Size: 256, Ptrs: 256}, {Size: 65536}, {Size: 3, Ptrs: 65536}}
	for _, n := range []int{-1, -2, -255, -256, math.MinInt, math.MinInt + 1, math.MaxInt - 1, math.MaxInt, 1 << 32, 1<<32 + 3, 1 << 62} {
		l = append(l, api.Shape{Size: n}, api.Shape{Size: n, Ptrs: n}, api.Shape{Size: 3, Ptrs: n}, api.Shape{Size: n, Ptrs: 1})
	}
	return slices.DeleteFunc(l, rightShape)
}

// F2, F3: a shape that is not right is refused by each call that takes one, whatever else there is.
func TestWrongShapes(t *testing.T) {
	for _, s := range wrongShapes() {
		for _, n := range []int{0, 1, 2, 3, 255, 256, 300} {
			words := append([]uint64{11}, row(n, 0)...)
			if l, e := WalkOld(words, []api.Shape{s}); l != nil || e != api.ErrForm {
				t.Errorf("WalkOld of %v with %d behind: %v %d", s, n, l, e)
			}
			if k, e := Kinds(words, []api.Object{{Shape: s}}); k != nil || e != api.ErrArg {
				t.Errorf("Kinds of %v with %d behind: %v %d", s, n, k, e)
			}
			if w, e := Lay(s, words[1:]); w != nil || e != api.ErrArg {
				t.Errorf("Lay of %v with %d: %v %d", s, n, w, e)
			}
		}
		// Behind one that is right, and with one behind that makes up for it.
		for _, l := range [][]api.Object{
			{live(0, 1, 0), {At: 2, Shape: s}},
			{{Shape: s}, live(0, 3, 0)},
			{live(0, 0, 0), {At: 1, Shape: s}, {At: 2 + s.Size, Shape: api.Shape{Size: 2}}},
		} {
			if k, e := Kinds(row(4, 0), l); k != nil || e != api.ErrArg {
				t.Errorf("Kinds of %v: %v %d", l, k, e)
			}
		}
	}
}

// some are all lists of up to n of these.
func some[T any](n int, of []T) [][]T {
	all := [][]T{nil}
	for from := 0; n > 0; n-- {
		end := len(all)
		for _, l := range all[from:end] {
			for _, v := range of {
				all = append(all, append(slices.Clone(l), v))
			}
		}
		from = end
	}
	return all
}

// F1, F2: all lists of up to five words of each kind, with all lists of up to two shapes, right and wrong.
func TestEachWalk(t *testing.T) {
	shapes := some(2, []api.Shape{{}, {Size: 1}, {Size: 1, Ptrs: 1}, {Size: 3, Ptrs: 2}, {Size: 1, Ptrs: 2}})
	for _, words := range some(5, []uint64{0, 1, 2, 11, 4, 131074, 131076, 131072}) {
		holdWalk(t, words)
		for _, l := range shapes {
			holdOld(t, words, l)
		}
	}
}

// laidOut is what each of n words is, if objects have just all of them, each once: by the place that each word has.
func laidOut(n int, l []api.Object) ([]int, bool) {
	kinds := make([]int, n)
	next := 0
	for _, o := range l {
		if !rightShape(o.Shape) || o.At != next {
			return nil, false
		}
		next += 1 + o.Shape.Size
		if next > n {
			return nil, false
		}
		for i := o.At; i < next; i++ {
			switch {
			case i == o.At:
				kinds[i] = 1
			case i <= o.At+o.Shape.Ptrs:
				kinds[i] = 2
			default:
				kinds[i] = 3
			}
		}
	}
	return kinds, next == n
}

// F3: all lists of up to three objects at places and of shapes about right, with up to five words.
func TestEachKinds(t *testing.T) {
	var objects []api.Object
	for at := -1; at < 5; at++ {
		for _, s := range []api.Shape{{}, {Size: 1}, {Size: 2, Ptrs: 1}, {Size: 1, Ptrs: 2}} {
			objects = append(objects, api.Object{At: at, Shape: s})
		}
	}
	for _, l := range some(3, objects) {
		for n := range 6 {
			kinds, e := Kinds(row(n, 1), l)
			r, ok := laidOut(n, l)
			if ok && (!slices.Equal(kinds, r) || e != api.OK) || !ok && (kinds != nil || e != api.ErrArg) {
				t.Fatalf("Kinds of %d words, %v: %v %d, not %v %v", n, l, kinds, e, r, ok)
			}
		}
	}
}

// F3: kinds by hand: words hang on nothing but the objects' At and Shape.
func TestKinds(t *testing.T) {
	for i, x := range []struct {
		words []uint64
		l     []api.Object
		kinds []int
	}{
		{[]uint64{131078, 11, 5, 6}, []api.Object{live(0, 3, 1)}, []int{1, 2, 3, 3}},
		{nil, nil, nil},
		{[]uint64{}, []api.Object{}, nil},
		{[]uint64{0}, []api.Object{live(0, 0, 0)}, []int{1}},
		{row(3, 0), []api.Object{live(0, 0, 0), live(1, 0, 0), live(2, 0, 0)}, []int{1, 1, 1}},
		{row(5, 0), []api.Object{live(0, 2, 2), live(3, 1, 0)}, []int{1, 2, 2, 1, 3}},
		// What words say may be another thing: headers of other shapes, or none; Gone and Target are not asked.
		{[]uint64{1, 2, 1, 2}, []api.Object{live(0, 3, 1)}, []int{1, 2, 3, 3}},
		{[]uint64{11, 0, 0, 0}, []api.Object{gone(0, 1, 1, 5), {At: 2, Shape: api.Shape{Size: 1}, Target: 9}}, []int{1, 2, 1, 3}},
		{row(4, math.MaxUint64), []api.Object{live(0, 3, 3)}, []int{1, 2, 2, 2}},
		{row(257, 0), []api.Object{live(0, 255, 254), live(256, 0, 0)}, append(append([]int{1}, slices.Repeat([]int{2}, 254)...), 3, 1)},
	} {
		if kinds, e := Kinds(x.words, x.l); !slices.Equal(kinds, x.kinds) || e != api.OK {
			t.Errorf("%d: %v %d, not %v", i, kinds, e, x.kinds)
		}
	}
}

// F3: objects that leave words out, have words two times, stand in another order, or of which there are too many.
func TestKindsWrong(t *testing.T) {
	for i, x := range []struct {
		n int
		l []api.Object
	}{
		{1, nil},                                                         // all words are left out
		{2, []api.Object{live(0, 0, 0)}},                                 // the last one is
		{2, []api.Object{live(1, 0, 0)}},                                 // the first one is
		{3, []api.Object{live(0, 0, 0), live(2, 0, 0)}},                  // one between two is
		{5, []api.Object{live(0, 1, 0), live(3, 1, 1)}},                  // so, behind slots
		{3, []api.Object{live(0, 1, 0), live(1, 1, 0)}},                  // a slot of one is another one's header
		{2, []api.Object{live(0, 1, 0), live(0, 1, 0)}},                  // one object, two times
		{4, []api.Object{live(0, 1, 0), live(0, 1, 0)}},                  // so, and as many words
		{1, []api.Object{live(0, 0, 0), live(0, 0, 0)}},                  // so, without slots
		{4, []api.Object{live(2, 1, 0), live(0, 1, 0)}},                  // in another order
		{2, []api.Object{live(1, 0, 0), live(0, 0, 0)}},                  // so, without slots
		{3, []api.Object{live(0, 3, 0)}},                                 // one word too few
		{3, []api.Object{live(0, 3, 3)}},                                 // so, for a pointer
		{0, []api.Object{live(0, 0, 0)}},                                 // no words
		{1, []api.Object{live(0, 0, 0), live(1, 0, 0)}},                  // an object behind the last word
		{1, []api.Object{live(0, 255, 0)}},                               // no words but the header
		{255, []api.Object{live(0, 255, 0)}},                             // one too few
		{257, []api.Object{live(0, 255, 0)}},                             // one too many
		{2, []api.Object{live(-1, 1, 0)}},                                // a place ahead of the first word
		{2, []api.Object{live(0, 1, 0), live(-2, 1, 0)}},                 // so, behind another object
		{1, []api.Object{live(math.MaxInt, 0, 0)}},                       // far behind
		{1, []api.Object{live(math.MinInt, 0, 0)}},                       // far ahead
		{2, []api.Object{live(0, 0, 0), live(math.MaxInt, 0, 0)}},        // far behind, at last
		{3, []api.Object{live(0, 1, 0), live(2, 0, 0), live(3, 0, 0)}},   // all of the words, and one more
		{4, []api.Object{live(0, 1, 0), {At: 2, Gone: true, Target: 5}}}, // gone, and a word is left
	} {
		if kinds, e := Kinds(row(x.n, 0), x.l); kinds != nil || e != api.ErrArg {
			t.Errorf("%d: %v %d", i, kinds, e)
		}
	}
}

// F3: objects that are laid by hand, and what is wrong with slots.
func TestLay(t *testing.T) {
	for i, x := range []struct {
		s     api.Shape
		slots []uint64
		words []uint64
		e     api.Errno
	}{
		{api.Shape{Size: 3, Ptrs: 1}, []uint64{11, 5, 6}, []uint64{131078, 11, 5, 6}, api.OK},
		{api.Shape{}, nil, []uint64{0}, api.OK},
		{api.Shape{}, []uint64{}, []uint64{0}, api.OK},
		{api.Shape{Size: 1}, []uint64{2}, []uint64{2, 2}, api.OK},
		{api.Shape{Size: 1, Ptrs: 1}, []uint64{0}, []uint64{131074, 0}, api.OK},
		{api.Shape{Size: 2, Ptrs: 2}, []uint64{3, math.MaxUint64}, []uint64{262148, 3, math.MaxUint64}, api.OK},
		{api.Shape{Size: 255, Ptrs: 255}, row(255, 3), append([]uint64{33423870}, row(255, 3)...), api.OK},
		{api.Shape{Size: 255}, row(255, 2), append([]uint64{510}, row(255, 2)...), api.OK},
		// A slot too few, one too many, none; so, too, where one may not be a pointer's.
		{api.Shape{Size: 3, Ptrs: 1}, []uint64{11, 5}, nil, api.ErrArg},
		{api.Shape{Size: 3, Ptrs: 1}, []uint64{11, 5, 6, 7}, nil, api.ErrArg},
		{api.Shape{Size: 3, Ptrs: 3}, nil, nil, api.ErrArg},
		{api.Shape{}, []uint64{0}, nil, api.ErrArg},
		{api.Shape{Size: 255}, row(254, 0), nil, api.ErrArg},
		{api.Shape{Size: 255}, row(256, 0), nil, api.ErrArg},
		{api.Shape{Size: 2, Ptrs: 1}, []uint64{2}, nil, api.ErrArg},
		{api.Shape{Size: 2, Ptrs: 1}, []uint64{2, 0, 0}, nil, api.ErrArg},
		{api.Shape{Size: 1, Ptrs: 2}, []uint64{2}, nil, api.ErrArg},
		{api.Shape{Size: 256, Ptrs: 1}, row(256, 2), nil, api.ErrArg},
		// What may not be a pointer's: the first one, the last one of the first, all.
		{api.Shape{Size: 3, Ptrs: 1}, []uint64{2, 5, 6}, nil, api.ErrForm},
		{api.Shape{Size: 3, Ptrs: 2}, []uint64{11, 1, 6}, nil, api.ErrForm},
		{api.Shape{Size: 3, Ptrs: 3}, []uint64{1, 2, 4}, nil, api.ErrForm},
		{api.Shape{Size: 255, Ptrs: 255}, append(row(254, 3), 2), nil, api.ErrForm},
	} {
		if words, e := Lay(x.s, x.slots); !slices.Equal(words, x.words) || e != x.e {
			t.Errorf("%d: %v %d, not %v %d", i, words, e, x.words, x.e)
		}
	}
}

// chance is a row of numbers far from one another: the same one each time.
type chance uint64

func (c *chance) below(n int) int {
	*c = *c*6364136223846793005 + 1442695040888963407
	return int((uint64(*c) >> 33) % uint64(n))
}

// word is one that may be a pointer's, or any.
func (c *chance) word(pointer bool) uint64 {
	w := uint64(c.below(1<<31))<<33 + uint64(c.below(1<<31))
	if pointer && c.below(4) == 0 {
		return 0
	}
	if pointer {
		return w*2 + 3
	}
	return w >> c.below(64)
}

// shape is a right one, seldom of all sizes.
func (c *chance) shape() api.Shape {
	most := 5
	if c.below(20) == 0 {
		most = 256
	}
	size := c.below(most)
	return api.Shape{Size: size, Ptrs: c.below(size + 1)}
}

// heaped are words of objects that were laid, some of them gone, with the objects that they have to be walked as, and the shapes of those that are gone.
func (c *chance) heaped(t *testing.T, n int, old bool) (words []uint64, l []api.Object, shapes []api.Shape) {
	for range n {
		o := api.Object{At: len(words), Shape: c.shape()}
		if old && c.below(2) == 0 {
			o.Gone, o.Target = true, uint64(1+c.below(1<<31))
			words = append(append(words, 2*o.Target+1), row(o.Shape.Size, 0)...)
			shapes = append(shapes, o.Shape)
		} else {
			slots := make([]uint64, o.Shape.Size)
			for i := range slots {
				slots[i] = c.word(i < o.Shape.Ptrs)
			}
			laid, e := Lay(o.Shape, slots)
			if e != api.OK || laid[0] != headerOf(o.Shape.Size, o.Shape.Ptrs) || !slices.Equal(laid[1:], slots) {
				t.Fatalf("Lay(%v, %v): %v %d", o.Shape, slots, laid, e)
			}
			words = append(words, laid...)
		}
		l = append(l, o)
	}
	return words, l, shapes
}

// F4: words of objects, each laid, are walked as these, and the objects have all words, each once.
func TestTheorem(t *testing.T) {
	c := chance(1)
	for n := range 400 {
		words, l, shapes := c.heaped(t, n%40, n%2 == 1)
		r, e := WalkOld(words, shapes)
		if n%2 == 0 {
			r, e = Walk(words)
		}
		if !slices.Equal(r, l) || e != api.OK {
			t.Fatalf("%v, walked: %v %d, not %v", words, r, e, l)
		}
		kinds, e := Kinds(words, r)
		want, ok := laidOut(len(words), l)
		if !ok || !slices.Equal(kinds, want) || e != api.OK {
			t.Fatalf("%v, kinds: %v %d, not %v", words, kinds, e, want)
		}
		holdWalk(t, words)
		holdOld(t, words, shapes)
	}
}

// F1, F2: words of objects of which one is another one, or some are cut off, or a shape is another one.
func TestChanged(t *testing.T) {
	c := chance(2)
	for range 300 {
		words, _, shapes := c.heaped(t, 8, true)
		for range 40 {
			changed, others := slices.Clone(words), slices.Clone(shapes)
			if len(changed) > 0 {
				changed[c.below(len(changed))] = []uint64{0, 1, 2, 3, 11, 510, 512, 131074, c.word(false)}[c.below(9)]
				changed = changed[:len(changed)-c.below(2)*c.below(len(changed))]
			}
			if len(others) > 0 && c.below(4) == 0 {
				others[c.below(len(others))] = api.Shape{Size: c.below(6), Ptrs: c.below(4)}
			}
			holdWalk(t, changed)
			holdOld(t, changed, others)
			holdOld(t, changed, others[:len(others)-c.below(2)*c.below(len(others)+1)])
		}
	}
}

// F1: a great many objects, one behind the other, and an error behind them all.
func TestMany(t *testing.T) {
	n := 1 << 20
	words := row(n, 0)
	if l, e := Walk(words); len(l) != n || e != api.OK || l[n-1] != live(n-1, 0, 0) {
		t.Errorf("%d objects, %d", len(l), e)
	}
	for _, x := range []struct {
		w uint64
		e api.Errno
	}{{1, api.ErrForm}, {11, api.ErrForm}, {2, api.ErrShort}} {
		words[n-1] = x.w
		if l, e := Walk(words); l != nil || e != x.e {
			t.Errorf("%d at last: %d objects, %d", x.w, len(l), e)
		}
	}
	targets, shapes := row(n, 11), make([]api.Shape, n)
	l, e := WalkOld(targets, shapes)
	if len(l) != n || e != api.OK || l[n-1] != gone(n-1, 0, 0, 5) {
		t.Errorf("%d gone objects, %d", len(l), e)
	}
	if kinds, e := Kinds(targets, l); e != api.OK || !slices.Equal(kinds, slices.Repeat([]int{1}, n)) {
		t.Errorf("%d kinds, %d", len(kinds), e)
	}
	if kinds, e := Kinds(targets[1:], l); kinds != nil || e != api.ErrArg {
		t.Errorf("%d kinds, %d", len(kinds), e)
	}
}

// roomy is l with room behind it, in which v stands four times.
func roomy[T any](l []T, v T) []T {
	return append(slices.Clone(l), v, v, v, v)[:len(l)]
}

// R3: neither what is handed in, nor what stands behind its length, is written into, and what is behind it is not read.
func TestHandedIn(t *testing.T) {
	good := []uint64{131078, 11, 5, 6, 11, 0, 2, 9}
	for _, words := range [][]uint64{nil, good, good[:7], {131078, 2, 5, 6}, {11, 7}, {2}, {1}} {
		for _, shapes := range [][]api.Shape{nil, {{Size: 1}}, {{Size: 1}, {Size: 3}}, {{Size: 256}}} {
			w, s, l := roomy(words, 77), roomy(shapes, api.Shape{Size: 7}), roomy([]api.Object{live(0, 3, 1), live(4, 1, 0), live(6, 1, 0)}, live(8, 0, 0))
			Walk(w)
			WalkOld(w, s)
			Kinds(w, l)
			Lay(api.Shape{Size: len(w), Ptrs: len(w) / 2}, w)
			holdWalk(t, w)
			holdOld(t, w, s)
			if !slices.Equal(w[:len(w)+4], append(slices.Clone(words), 77, 77, 77, 77)) {
				t.Errorf("words: %v, not %v", w[:len(w)+4], words)
			}
			if seven := (api.Shape{Size: 7}); !slices.Equal(s[:len(s)+4], append(slices.Clone(shapes), seven, seven, seven, seven)) {
				t.Errorf("shapes: %v, not %v", s[:len(s)+4], shapes)
			}
			if last := live(8, 0, 0); !slices.Equal(l[:7], []api.Object{live(0, 3, 1), live(4, 1, 0), live(6, 1, 0), last, last, last, last}) {
				t.Errorf("objects: %v", l[:7])
			}
		}
	}
}

// spoil writes into a list, and into all of its spare room.
func spoil[T any](l []T, v T) {
	l = l[:cap(l)]
	for i := range l {
		l[i] = v
	}
}

// R3: what comes out is new memory, spare room too: to write into it changes neither an argument nor another answer.
func TestNewMemory(t *testing.T) {
	for _, slots := range [][]uint64{{}, {11}, {11, 5, 6}} {
		s := api.Shape{Size: len(slots), Ptrs: min(1, len(slots))}
		room := roomy(slots, 77)
		first, _ := Lay(s, room)
		second, _ := Lay(s, room)
		spoil(first, 99)
		want := append([]uint64{headerOf(s.Size, s.Ptrs)}, slots...)
		if !slices.Equal(second, want) || !slices.Equal(room[:len(slots)+4], append(slices.Clone(slots), 77, 77, 77, 77)) {
			t.Errorf("laid: %v, of %v", second, room[:len(slots)+4])
		}
		third, e := Lay(s, room)
		if !slices.Equal(third, want) || e != api.OK {
			t.Errorf("laid anew: %v %d, not %v", third, e, want)
		}
	}
	words, shapes := []uint64{131078, 11, 5, 6, 11, 0, 2, 9}, []api.Shape{{Size: 1}}
	all := []api.Object{live(0, 3, 1), gone(4, 1, 0, 5), live(6, 1, 0)}
	first, _ := WalkOld(words, shapes)
	second, _ := WalkOld(words, shapes)
	spoil(first, gone(9, 9, 9, 9))
	if !slices.Equal(second, all) || !slices.Equal(words, []uint64{131078, 11, 5, 6, 11, 0, 2, 9}) || shapes[0] != (api.Shape{Size: 1}) {
		t.Errorf("walked: %v, of %v %v", second, words, shapes)
	}
	kinds, _ := Kinds(words, second)
	others, _ := Kinds(words, second)
	spoil(kinds, 9)
	if !slices.Equal(others, []int{1, 2, 3, 3, 1, 3, 1, 3}) || !slices.Equal(second, all) {
		t.Errorf("kinds: %v, of %v", others, second)
	}
}

// Objects are told one by one: who leaves early is told no more, not even what is wrong behind, and who asks anew is told the same.
func TestToldInPart(t *testing.T) {
	tell := told([]uint64{0, 11, 0, 2, 6, 1}, []api.Shape{{Size: 1}, {Size: 2}})
	all := []api.Object{live(0, 0, 0), gone(1, 1, 0, 5), live(3, 1, 0)}
	for range 2 {
		for n := range len(all) {
			var l []api.Object
			for o := range tell {
				l = append(l, o)
				if len(l) == n+1 {
					break
				}
			}
			if !slices.Equal(l, all[:n+1]) {
				t.Errorf("the first %d: %v", n+1, l)
			}
		}
	}
}

// R4: the same answers for all, however they run.
func TestAtOnce(t *testing.T) {
	words := []uint64{131078, 11, 5, 6, 11, 0, 2, 9}
	shapes := []api.Shape{{Size: 1}}
	all := []api.Object{live(0, 3, 1), gone(4, 1, 0, 5), live(6, 1, 0)}
	var group sync.WaitGroup
	for i := range 16 {
		group.Go(func() {
			for k := range 500 {
				if l, e := WalkOld(words, shapes); !slices.Equal(l, all) || e != api.OK {
					t.Errorf("%v %d", l, e)
				}
				if l, e := Walk(words[:(i+k)%4]); (i+k)%4 > 0 && (l != nil || e != api.ErrShort) {
					t.Errorf("%v %d", l, e)
				}
				if l, e := Walk(words); l != nil || e != api.ErrForm {
					t.Errorf("%v %d", l, e)
				}
			}
		})
	}
	group.Wait()
}
