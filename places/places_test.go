package places

import (
	"math"
	"math/big"
	"slices"
	"sync"
	"testing"

	"cromlech/api"
)

const highest = 1 << 63 // Base and twice Cap together are at most this

// sum is that of numbers, as great as it is.
func sum(l ...int) *big.Int {
	all := new(big.Int)
	for _, n := range l {
		all.Add(all, big.NewInt(int64(n)))
	}
	return all
}

// rightLayout is whether a layout is right, by the chapter's words.
func rightLayout(l api.Layout) bool {
	if l.Base == 0 || l.Cap < 0 || l.Cap > 4096 {
		return false
	}
	last := sum(l.Cap, l.Cap)
	last.Add(last, new(big.Int).SetUint64(l.Base))
	if last.Cmp(new(big.Int).SetUint64(highest)) > 0 {
		return false
	}
	if l.To != 0 && l.To != 1 || l.Low < 0 || l.High < 0 || l.Old < 0 || l.Far < 0 {
		return false
	}
	return sum(l.Low, l.High).Cmp(sum(l.Cap)) <= 0 && sum(l.Old, l.Far).Cmp(sum(l.Cap)) <= 0
}

// spacesOf are the addresses of both spaces of a right layout, one by one.
func spacesOf(l api.Layout) [2][]uint64 {
	var spaces [2][]uint64
	address := l.Base
	for i := range spaces {
		for range l.Cap {
			spaces[i] = append(spaces[i], address)
			address++
		}
	}
	return spaces
}

// partsOf are the addresses of each part of a right layout, by its number.
func partsOf(l api.Layout) map[int][]uint64 {
	spaces := spacesOf(l)
	to, from := spaces[l.To], spaces[1-l.To]
	return map[int][]uint64{1: to[:l.Low], 2: to[l.Cap-l.High:], 3: from[:l.Old], 4: from[l.Cap-l.Far:]}
}

// smallLayouts are all right ones with that Base and that Cap.
func smallLayouts(base uint64, words int) []api.Layout {
	var pairs [][2]int
	for a := range words + 1 {
		for b := range words - a + 1 {
			pairs = append(pairs, [2]int{a, b})
		}
	}
	var l []api.Layout
	for to := range 2 {
		for _, p := range pairs {
			for _, q := range pairs {
				l = append(l, api.Layout{Base: base, Cap: words, To: to, Low: p[0], High: p[1], Old: q[0], Far: q[1]})
			}
		}
	}
	return l
}

// eachSmall calls with each right layout whose Cap is at most five, at the least Base, at the greatest one, and between.
func eachSmall(call func(api.Layout)) {
	for words := range 6 {
		top := highest - 2*uint64(words)
		for _, base := range []uint64{1, 2, 10, 1<<32 - 3, 1<<62 - 3, top - 1, top} {
			for _, l := range smallLayouts(base, words) {
				call(l)
			}
		}
	}
}

// holdAddress and holdFind hold what a call answers against what it has to.
func holdAddress(t *testing.T, l api.Layout, p api.Place, address uint64, e api.Errno) {
	t.Helper()
	if a, d := Address(l, p); a != address || d != e {
		t.Fatalf("Address(%+v, %+v): %d %d, not %d %d", l, p, a, d, address, e)
	}
}

func holdFind(t *testing.T, l api.Layout, address uint64, p api.Place, e api.Errno) {
	t.Helper()
	if q, d := Find(l, address); q != p || d != e {
		t.Fatalf("Find(%+v, %d): %+v %d, not %+v %d", l, address, q, d, p, e)
	}
}

// holdWrong holds what all calls answer of a layout that is not right, whatever else they are asked.
func holdWrong(t *testing.T, l api.Layout) {
	t.Helper()
	if Right(l) {
		t.Fatalf("Right(%+v)", l)
	}
	if n := Room(l); n != 0 {
		t.Fatalf("Room(%+v): %d", l, n)
	}
	if f, e := Flip(l); f != (api.Layout{}) || e != api.ErrArg {
		t.Fatalf("Flip(%+v): %+v %d", l, f, e)
	}
	for _, part := range []int{math.MinInt, -1, 0, 1, 2, 3, 4, 5, math.MaxInt} {
		for _, at := range []int{math.MinInt, -1, 0, 1, math.MaxInt} {
			holdAddress(t, l, api.Place{Part: part, At: at}, 0, api.ErrArg)
		}
	}
	for _, address := range []uint64{0, 1, l.Base - 1, l.Base, l.Base + 1, l.Base + uint64(l.Cap), highest - 1, highest, math.MaxUint64} {
		holdFind(t, l, address, api.Place{}, api.ErrArg)
	}
}

// hold holds what all calls answer of a right layout against its parts, address by address.
func hold(t *testing.T, l api.Layout) {
	t.Helper()
	if !Right(l) {
		t.Fatalf("not Right(%+v)", l)
	}
	places := map[uint64]api.Place{}
	for part, addresses := range partsOf(l) {
		for at, address := range addresses {
			p := api.Place{Part: part, At: at}
			if q, twice := places[address]; twice {
				t.Fatalf("%+v: %d is %+v and %+v", l, address, p, q)
			}
			places[address] = p
			holdAddress(t, l, p, address, api.OK)
		}
		n := len(addresses)
		for _, at := range []int{-1, -2, n, n + 1, l.Cap, 2 * l.Cap, math.MinInt, math.MaxInt} {
			if at < 0 || at >= n {
				holdAddress(t, l, api.Place{Part: part, At: at}, 0, api.ErrNone)
			}
		}
	}
	for _, part := range []int{math.MinInt, -4, -1, 0, 5, 6, math.MaxInt} {
		for _, at := range []int{math.MinInt, -1, 0, 1, l.Cap, math.MaxInt} {
			holdAddress(t, l, api.Place{Part: part, At: at}, 0, api.ErrNone)
		}
	}
	behind := l.Base + 2*uint64(l.Cap)
	spaces := spacesOf(l)
	for _, address := range slices.Concat(spaces[0], spaces[1], []uint64{0, l.Base - 1, behind, behind + 1, highest, highest + l.Base, math.MaxUint64 - 1, math.MaxUint64}) {
		p, ok := places[address]
		if ok {
			holdFind(t, l, address, p, api.OK)
		} else {
			holdFind(t, l, address, api.Place{}, api.ErrNone)
		}
	}
}

// G1: layouts by name, at each edge of what is right.
func TestRight(t *testing.T) {
	for i, x := range []struct {
		l     api.Layout
		right bool
	}{
		{api.Layout{Base: 10, Cap: 5, To: 1, Low: 2, High: 1}, true},
		{api.Layout{}, false},
		// Base.
		{api.Layout{Base: 1}, true},
		{api.Layout{Base: 0, Cap: 5}, false},
		{api.Layout{Base: 1, Cap: 5}, true},
		// Cap.
		{api.Layout{Base: 10, Cap: -1}, false},
		{api.Layout{Base: 10, Cap: -1, Low: -1}, false},
		{api.Layout{Base: 10, Cap: 0}, true},
		{api.Layout{Base: 10, Cap: 4096}, true},
		{api.Layout{Base: 10, Cap: 4097}, false},
		{api.Layout{Base: 10, Cap: 1 << 32}, false},
		{api.Layout{Base: 10, Cap: math.MinInt}, false},
		{api.Layout{Base: 10, Cap: math.MaxInt}, false},
		// Base and twice Cap together.
		{api.Layout{Base: highest - 10, Cap: 5}, true},
		{api.Layout{Base: highest - 9, Cap: 5}, false},
		{api.Layout{Base: highest - 5, Cap: 5}, false},
		{api.Layout{Base: highest - 8192, Cap: 4096}, true},
		{api.Layout{Base: highest - 8191, Cap: 4096}, false},
		{api.Layout{Base: highest}, true},
		{api.Layout{Base: highest + 1}, false},
		{api.Layout{Base: highest, Cap: 1}, false},
		{api.Layout{Base: highest - 1, Cap: 1}, false},
		{api.Layout{Base: highest - 2, Cap: 1}, true},
		{api.Layout{Base: math.MaxUint64}, false},
		{api.Layout{Base: math.MaxUint64, Cap: 5}, false},
		{api.Layout{Base: math.MaxUint64 - 1, Cap: 1}, false},
		{api.Layout{Base: math.MaxUint64 - 9, Cap: 5}, false},
		{api.Layout{Base: math.MaxUint64 - 8191, Cap: 4096}, false},
		{api.Layout{Base: math.MaxUint64 - 8190, Cap: 4096}, false},
		{api.Layout{Base: 10, Cap: math.MinInt + 4}, false},
		{api.Layout{Base: 10, Cap: -5}, false},
		// To.
		{api.Layout{Base: 10, Cap: 5, To: -1}, false},
		{api.Layout{Base: 10, Cap: 5, To: 1}, true},
		{api.Layout{Base: 10, Cap: 5, To: 2}, false},
		{api.Layout{Base: 10, To: 2}, false},
		{api.Layout{Base: 10, Cap: 5, To: math.MinInt}, false},
		{api.Layout{Base: 10, Cap: 5, To: math.MaxInt}, false},
		{api.Layout{Base: 10, Cap: 5, To: 1 << 32}, false},
	} {
		if Right(x.l) != x.right || rightLayout(x.l) != x.right {
			t.Errorf("%d: %+v: not %v", i, x.l, x.right)
		}
		if x.right {
			hold(t, x.l)
		} else {
			holdWrong(t, x.l)
		}
	}
}

// twoParts are layouts whose Low and High, or whose Old and Far, are one and other, and whose other two parts are empty or full.
func twoParts(to, words, one, other int) []api.Layout {
	return []api.Layout{
		{Base: 10, Cap: words, To: to, Low: one, High: other},
		{Base: 10, Cap: words, To: to, Old: one, Far: other},
		{Base: 10, Cap: words, To: to, Low: one, High: other, Old: words},
		{Base: 10, Cap: words, To: to, Low: one, High: other, Far: words},
		{Base: 10, Cap: words, To: to, Low: words, Old: one, Far: other},
		{Base: 10, Cap: words, To: to, High: words, Old: one, Far: other},
	}
}

// G1: two parts of a space together, up to Cap and beyond it, and so great that a sum of both would go round.
func TestRightParts(t *testing.T) {
	for i, x := range []struct {
		words, one, other int
		right             bool
	}{
		{5, 0, 0, true}, {5, 5, 0, true}, {5, 0, 5, true}, {5, 2, 3, true}, {5, 4, 1, true}, {5, 2, 1, true},
		{5, 6, 0, false}, {5, 0, 6, false}, {5, 3, 3, false}, {5, 5, 1, false}, {5, 1, 5, false}, {5, 5, 5, false},
		{5, -1, 0, false}, {5, 0, -1, false}, {5, -1, -1, false}, {5, 6, -1, false}, {5, -1, 6, false}, {5, -1, 1, false},
		{0, 0, 0, true}, {0, 1, 0, false}, {0, 0, 1, false}, {0, -1, 1, false}, {0, 1, -1, false},
		{4096, 4096, 0, true}, {4096, 0, 4096, true}, {4096, 2048, 2048, true}, {4096, 2048, 2049, false}, {4096, 4097, 0, false}, {4096, 0, 4097, false},
		{5, math.MaxInt, math.MaxInt, false}, {5, math.MinInt, math.MinInt, false}, {5, math.MaxInt, 1, false}, {5, 1, math.MaxInt, false},
		{5, math.MaxInt, 0, false}, {5, 0, math.MaxInt, false}, {5, math.MinInt, 0, false}, {5, 0, math.MinInt, false},
		{5, math.MaxInt, math.MinInt, false}, {5, math.MinInt, math.MaxInt, false}, {5, 1 << 62, 1 << 62, false}, {5, -1 << 62, -1 << 62, false},
		{5, 1 << 32, 0, false}, {5, 0, 1 << 32, false}, {5, math.MaxInt, math.MaxInt - 3, false}, {5, 2, math.MinInt + 1, false},
	} {
		for to := range 2 {
			for k, l := range twoParts(to, x.words, x.one, x.other) {
				if Right(l) != x.right || rightLayout(l) != x.right {
					t.Errorf("%d, %d: %+v: not %v", i, k, l, x.right)
				}
				if x.right {
					hold(t, l)
				} else {
					holdWrong(t, l)
				}
			}
		}
	}
}

// G1: each field by each other one, within and without what may be.
func TestRightEach(t *testing.T) {
	rights := 0
	for _, base := range []uint64{0, 1, highest - 4, highest - 3, highest, highest + 1, math.MaxUint64 - 3, math.MaxUint64} {
		for words := -1; words <= 2; words++ {
			for to := -1; to <= 2; to++ {
				for i := range 625 {
					l := api.Layout{Base: base, Cap: words, To: to, Low: i%5 - 1, High: i/5%5 - 1, Old: i/25%5 - 1, Far: i/125 - 1}
					right := rightLayout(l)
					if Right(l) != right {
						t.Fatalf("Right(%+v): %v", l, !right)
					}
					if right {
						rights++
						hold(t, l)
					} else {
						holdWrong(t, l)
					}
				}
			}
		}
	}
	// Four of the Bases fit with Cap 0, three with 1, two with 2; of two parts of a space there are 1, 3 and 6 pairs.
	if want := 2 * (4*1*1 + 3*3*3 + 2*6*6); rights != want {
		t.Errorf("%d right ones, not %d", rights, want)
	}
}

// G1: words that are neither Low's nor High's, whatever the other space has.
func TestRoom(t *testing.T) {
	for i, x := range []struct {
		l api.Layout
		n int
	}{
		{api.Layout{Base: 10, Cap: 5, To: 1, Low: 2, High: 1}, 2},
		{api.Layout{Base: 10, Cap: 5}, 5},
		{api.Layout{Base: 10, Cap: 5, Low: 5}, 0},
		{api.Layout{Base: 10, Cap: 5, High: 5}, 0},
		{api.Layout{Base: 10, Cap: 5, To: 1, Low: 4, High: 1}, 0},
		{api.Layout{Base: 10, Cap: 5, Low: 3, High: 1, Old: 5}, 1},
		{api.Layout{Base: 10, Cap: 5, Old: 2, Far: 3}, 5},
		{api.Layout{Base: 10}, 0},
		{api.Layout{Base: 10, Cap: 4096}, 4096},
		{api.Layout{Base: 10, Cap: 4096, Low: 1, High: 1, Old: 7}, 4094},
		{api.Layout{Base: highest}, 0},
		// Not right, though a difference would be more than 0.
		{api.Layout{Cap: 5}, 0},
		{api.Layout{Base: 10, Cap: 4097}, 0},
		{api.Layout{Base: 10, Cap: 5, To: 2}, 0},
		{api.Layout{Base: 10, Cap: 5, Low: -1}, 0},
		{api.Layout{Base: 10, Cap: 5, Far: 6}, 0},
		{api.Layout{Base: 10, Cap: 5, Low: 3, High: 3}, 0},
		{api.Layout{Base: highest - 9, Cap: 5}, 0},
	} {
		if n := Room(x.l); n != x.n {
			t.Errorf("%d: %d, not %d", i, n, x.n)
		}
	}
	eachSmall(func(l api.Layout) {
		if n := Room(l); n != l.Cap-l.Low-l.High {
			t.Fatalf("Room(%+v): %d", l, n)
		}
	})
}

// G2: all addresses of layouts that are written out by hand, the chapter's example ahead; 0, 0 is none.
func TestFind(t *testing.T) {
	for _, x := range []struct {
		l      api.Layout
		places [][2]int // Part and At
	}{
		{api.Layout{Base: 10, Cap: 5, To: 1, Low: 2, High: 1}, [][2]int{{}, {}, {}, {}, {}, {1, 0}, {1, 1}, {}, {}, {2, 0}}},
		{api.Layout{Base: 10, Cap: 5, To: 0, Low: 2, High: 1}, [][2]int{{1, 0}, {1, 1}, {}, {}, {2, 0}, {}, {}, {}, {}, {}}},
		{api.Layout{Base: 10, Cap: 5, To: 1, Old: 2, Far: 1}, [][2]int{{3, 0}, {3, 1}, {}, {}, {4, 0}, {}, {}, {}, {}, {}}},
		{api.Layout{Base: 10, Cap: 5, To: 0, Old: 2, Far: 1}, [][2]int{{}, {}, {}, {}, {}, {3, 0}, {3, 1}, {}, {}, {4, 0}}},
		{api.Layout{Base: 1, Cap: 4, To: 0, Low: 1, High: 3, Old: 2, Far: 1}, [][2]int{{1, 0}, {2, 0}, {2, 1}, {2, 2}, {3, 0}, {3, 1}, {}, {4, 0}}},
		{api.Layout{Base: 1, Cap: 4, To: 1, Low: 1, High: 3, Old: 2, Far: 1}, [][2]int{{3, 0}, {3, 1}, {}, {4, 0}, {1, 0}, {2, 0}, {2, 1}, {2, 2}}},
		{api.Layout{Base: highest - 6, Cap: 3, To: 1, Low: 3, Far: 3}, [][2]int{{4, 0}, {4, 1}, {4, 2}, {1, 0}, {1, 1}, {1, 2}}},
		{api.Layout{Base: highest - 6, Cap: 3, To: 0, Old: 3, High: 3}, [][2]int{{2, 0}, {2, 1}, {2, 2}, {3, 0}, {3, 1}, {3, 2}}},
		{api.Layout{Base: highest - 2, Cap: 1, To: 0, High: 1, Far: 1}, [][2]int{{2, 0}, {4, 0}}},
		{api.Layout{Base: 7, Cap: 0, To: 1}, nil},
		{api.Layout{Base: highest, Cap: 0}, nil},
		{api.Layout{Base: 7, Cap: 2, To: 1}, [][2]int{{}, {}, {}, {}}},
	} {
		for i, n := range x.places {
			p := api.Place{Part: n[0], At: n[1]}
			address := x.l.Base + uint64(i)
			if p.Part == 0 {
				holdFind(t, x.l, address, p, api.ErrNone)
				continue
			}
			holdFind(t, x.l, address, p, api.OK)
			holdAddress(t, x.l, p, address, api.OK)
		}
		hold(t, x.l)
	}
}

// G2: the first and the last address of each space and of each part, and those beside, in the widest spaces, lowest and highest.
func TestEdges(t *testing.T) {
	for _, base := range []uint64{1, 10, highest - 8192} {
		for to := range 2 {
			l := api.Layout{Base: base, Cap: 4096, To: to, Low: 1000, High: 2000, Old: 4000, Far: 50}
			in, from := base+uint64(to)*4096, base+uint64(1-to)*4096
			for _, x := range []struct {
				address uint64
				p       api.Place
			}{
				{in, api.Place{Part: 1}}, {in + 999, api.Place{Part: 1, At: 999}},
				{in + 1000, api.Place{}}, {in + 2095, api.Place{}},
				{in + 2096, api.Place{Part: 2}}, {in + 4095, api.Place{Part: 2, At: 1999}},
				{from, api.Place{Part: 3}}, {from + 3999, api.Place{Part: 3, At: 3999}},
				{from + 4000, api.Place{}}, {from + 4045, api.Place{}},
				{from + 4046, api.Place{Part: 4}}, {from + 4095, api.Place{Part: 4, At: 49}},
				{base - 1, api.Place{}}, {base + 8192, api.Place{}}, {base + 8193, api.Place{}},
				{0, api.Place{}}, {highest, api.Place{}}, {math.MaxUint64, api.Place{}},
				// Addresses that differ from those of the spaces in the highest bit alone.
				{in ^ highest, api.Place{}}, {from ^ highest, api.Place{}},
			} {
				if x.p.Part == 0 {
					holdFind(t, l, x.address, x.p, api.ErrNone)
					continue
				}
				holdFind(t, l, x.address, x.p, api.OK)
				holdAddress(t, l, x.p, x.address, api.OK)
			}
			hold(t, l)
		}
	}
}

// G2: places that have no address, each in a way of its own.
func TestAddressNone(t *testing.T) {
	l := api.Layout{Base: 10, Cap: 5, To: 1, Low: 2, High: 1, Old: 3, Far: 0}
	for _, n := range [][2]int{
		{0, 0}, {5, 0}, {-1, 0}, {-4, 0}, {6, 0}, {8, 0}, {math.MinInt, 0}, {math.MaxInt, 0}, {1<<32 + 1, 0}, {1 << 62, 0},
		{0, -1}, {5, 2}, {-1, math.MaxInt},
		{1, -1}, {1, 2}, {1, 3}, {2, -1}, {2, 1}, {2, 2}, {3, -1}, {3, 3}, {4, -1}, {4, 0}, {4, 1},
		{1, math.MinInt}, {1, math.MaxInt}, {2, math.MinInt}, {2, math.MaxInt}, {3, 1 << 32}, {3, -1 << 32}, {3, 1 << 62},
	} {
		holdAddress(t, l, api.Place{Part: n[0], At: n[1]}, 0, api.ErrNone)
	}
}

// G1: what a layout that is not right is told first, even where the place or the address is none.
func TestFirstError(t *testing.T) {
	for _, l := range []api.Layout{
		{}, {Cap: 5, Low: 2}, {Base: 10, Cap: -1}, {Base: 10, Cap: 4097, Low: 2}, {Base: highest - 9, Cap: 5, Low: 2},
		{Base: math.MaxUint64, Cap: 5, Low: 2}, {Base: 10, Cap: 5, To: -1, Low: 2}, {Base: 10, Cap: 5, To: 2, Low: 2},
		{Base: 10, Cap: 5, Low: -1}, {Base: 10, Cap: 5, High: -1}, {Base: 10, Cap: 5, Old: -1}, {Base: 10, Cap: 5, Far: -1},
		{Base: 10, Cap: 5, Low: 5, High: 1}, {Base: 10, Cap: 5, Old: 1, Far: 5}, {Base: 10, Cap: 5, Low: 2, Far: 6},
	} {
		holdWrong(t, l)
	}
}

// G2, G4: of each layout with a small Cap, each address of both spaces is found as the one place that has it, or as none, and each place has the address at which it is found.
func TestEachLayout(t *testing.T) {
	eachSmall(func(l api.Layout) {
		hold(t, l)
		found := 0
		for address := l.Base - 1; address <= l.Base+2*uint64(l.Cap); address++ {
			p, e := Find(l, address)
			if e != api.OK {
				continue
			}
			found++
			holdAddress(t, l, p, address, api.OK)
		}
		if found != l.Low+l.High+l.Old+l.Far {
			t.Fatalf("%+v: %d are found", l, found)
		}
		had := 0
		for part := -1; part <= 5; part++ {
			for at := -1; at <= l.Cap; at++ {
				p := api.Place{Part: part, At: at}
				address, e := Address(l, p)
				if e != api.OK {
					continue
				}
				had++
				holdFind(t, l, address, p, api.OK)
			}
		}
		if had != found {
			t.Fatalf("%+v: %d are found, %d have an address", l, found, had)
		}
	})
}

// G3: layouts that are written out by hand, and those behind them.
func TestFlip(t *testing.T) {
	for i, x := range []struct{ l, behind api.Layout }{
		{api.Layout{Base: 10, Cap: 5, To: 1, Low: 2, High: 1}, api.Layout{Base: 10, Cap: 5, Old: 2, Far: 1}},
		{api.Layout{Base: 10, Cap: 5, Low: 2, High: 1}, api.Layout{Base: 10, Cap: 5, To: 1, Old: 2, Far: 1}},
		{api.Layout{Base: 10, Cap: 5, Low: 2, High: 3, Old: 4, Far: 1}, api.Layout{Base: 10, Cap: 5, To: 1, Old: 2, Far: 3}},
		{api.Layout{Base: 10, Cap: 5, To: 1, Old: 4, Far: 1}, api.Layout{Base: 10, Cap: 5}},
		{api.Layout{Base: 10, Cap: 5}, api.Layout{Base: 10, Cap: 5, To: 1}},
		{api.Layout{Base: 1}, api.Layout{Base: 1, To: 1}},
		{api.Layout{Base: highest, To: 1}, api.Layout{Base: highest}},
		{api.Layout{Base: highest - 8192, Cap: 4096, Low: 4096, Far: 4096}, api.Layout{Base: highest - 8192, Cap: 4096, To: 1, Old: 4096}},
	} {
		if l, e := Flip(x.l); l != x.behind || e != api.OK {
			t.Errorf("%d: %+v %d, not %+v", i, l, e, x.behind)
		}
	}
}

// G3, G4: each layout with a small Cap, flipped: what is in use at an address is at the same one, and nothing else is anywhere.
func TestFlipEach(t *testing.T) {
	eachSmall(func(l api.Layout) {
		f, e := Flip(l)
		if want := (api.Layout{Base: l.Base, Cap: l.Cap, To: (l.To + 1) % 2, Old: l.Low, Far: l.High}); f != want || e != api.OK {
			t.Fatalf("Flip(%+v): %+v %d", l, f, e)
		}
		hold(t, f)
		if n := Room(f); n != l.Cap {
			t.Fatalf("Room(%+v): %d", f, n)
		}
		for address := l.Base; address < l.Base+2*uint64(l.Cap); address++ {
			p, e := Find(l, address)
			if e != api.OK || p.Part > api.High {
				holdFind(t, f, address, api.Place{}, api.ErrNone)
				continue
			}
			behind := api.Place{Part: map[int]int{1: 3, 2: 4}[p.Part], At: p.At}
			holdFind(t, f, address, behind, api.OK)
			holdAddress(t, f, behind, address, api.OK)
		}
		if twice, e := Flip(f); twice != (api.Layout{Base: l.Base, Cap: l.Cap, To: l.To}) || e != api.OK {
			t.Fatalf("%+v, flipped twice: %+v %d", l, twice, e)
		}
	})
}

// R4: the same answers for all, however they run.
func TestAtOnce(t *testing.T) {
	var all sync.WaitGroup
	for range 16 {
		all.Go(func() {
			for k := range 1000 {
				l := api.Layout{Base: 10, Cap: 5, To: k % 2, Low: 2, High: 1}
				first := uint64(10 + 5*(k%2))
				if a, e := Address(l, api.Place{Part: api.High}); a != first+4 || e != api.OK {
					t.Errorf("%d: %d %d", k, a, e)
				}
				if p, e := Find(l, first+1); p != (api.Place{Part: api.Low, At: 1}) || e != api.OK {
					t.Errorf("%d: %+v %d", k, p, e)
				}
			}
		})
	}
	all.Wait()
}
