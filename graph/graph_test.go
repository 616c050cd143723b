package graph

import (
	"maps"
	"math"
	"slices"
	"strings"
	"sync"
	"testing"

	"cromlech/api"
)

// cell is one thing that a graph holds: a root, a pointer or a scalar of a node, or that there is such a node.
type cell struct {
	what     string
	node, at int
}

// cells are all that a graph holds; a pointer is held as a number of 64 bits.
func cells(g api.Graph) map[cell]uint64 {
	all := map[cell]uint64{}
	for r, p := range g.Roots {
		all[root(r)] = uint64(p)
	}
	for i, n := range g.Nodes {
		all[cell{"node", i, 0}] = 1
		for k, p := range n.Ptrs {
			all[cell{"ptr", i, k}] = uint64(p)
		}
		for k, d := range n.Data {
			all[cell{"data", i, k}] = d
		}
	}
	return all
}

func root(r int) cell { return cell{"root", 0, r} }

// nowhere is the pointer to no node, as cells hold it.
const nowhere = math.MaxUint64

// rightCells is whether a graph may be, by the chapter's words, cell by cell.
func rightCells(all map[cell]uint64) bool {
	roots, slots := 0, map[int]int{}
	for c, v := range all {
		switch c.what {
		case "root":
			roots++
		case "ptr", "data":
			slots[c.node]++
		}
		if c.what == "root" || c.what == "ptr" {
			to := int(v)
			if _, ok := all[cell{"node", to, 0}]; !ok && v != nowhere {
				return false
			}
		}
	}
	for _, n := range slots {
		if n > 255 {
			return false
		}
	}
	return roots <= 16
}

// names are what each row names: roots R and S, and a slot of S, a pointer or a scalar.
var names = map[int]string{1: "R", 2: "R S ptr", 3: "S data", 4: "R S ptr", 5: "S data", 6: "R S", 7: "R"}

// tell is what an act has to tell of a graph's cells, and the cells behind it, by the chapter's rows.
func tell(all map[cell]uint64, a api.Act) (v uint64, now map[cell]uint64, e api.Errno) {
	row, ok := names[a.Kind]
	if !ok || !rightCells(all) {
		return 0, nil, api.ErrArg
	}
	r, isR := all[root(a.R)]
	s, isS := all[root(a.S)]
	if strings.Contains(row, "R") && !isR || strings.Contains(row, "S") && !isS {
		return 0, nil, api.ErrArg
	}
	var at cell
	for _, what := range []string{"ptr", "data"} {
		if !strings.Contains(row, what) {
			continue
		}
		if s == nowhere {
			return 0, nil, api.ErrNone
		}
		at = cell{what, int(s), a.I}
		if _, ok := all[at]; !ok {
			return 0, nil, api.ErrArg
		}
	}
	now = maps.Clone(all)
	switch a.Kind {
	case 1:
		return 0, now, more(now, a.R, a.Shape)
	case 2:
		now[root(a.R)] = all[at]
	case 3:
		return all[at], now, api.OK
	case 4:
		now[at] = r
	case 5:
		now[at] = a.V
	case 6:
		now[root(a.R)] = s
	case 7:
		now[root(a.R)] = nowhere
	}
	return 0, now, api.OK
}

// more makes a node more, if its shape is right, by chapter 5's words.
func more(all map[cell]uint64, r int, s api.Shape) api.Errno {
	if s.Size < 0 || s.Size > 255 || s.Ptrs < 0 || s.Ptrs > s.Size {
		return api.ErrArg
	}
	i := 0
	for all[cell{"node", i, 0}] == 1 {
		i++
	}
	all[cell{"node", i, 0}] = 1
	for k := range s.Size {
		if k < s.Ptrs {
			all[cell{"ptr", i, k}] = nowhere
		} else {
			all[cell{"data", i, k - s.Ptrs}] = 0
		}
	}
	all[root(r)] = uint64(i)
	return api.OK
}

// same is whether two graphs are, list by list.
func same(a, b api.Graph) bool {
	return slices.Equal(a.Roots, b.Roots) && slices.EqualFunc(a.Nodes, b.Nodes, func(m, n api.Node) bool {
		return slices.Equal(m.Ptrs, n.Ptrs) && slices.Equal(m.Data, n.Data)
	})
}

// empty is whether a graph is what is answered with an error.
func empty(g api.Graph) bool { return len(g.Nodes) == 0 && len(g.Roots) == 0 }

// hold holds what Do answers against the row, and tells the graph behind it; with an error, the graph as it was.
func hold(t *testing.T, g api.Graph, a api.Act) api.Graph {
	t.Helper()
	v, now, e := Do(g, a)
	w, all, d := tell(cells(g), a)
	if d != api.OK {
		if v != 0 || !empty(now) || e != d {
			t.Fatalf("Do(%+v, %+v): %d %+v %d, not %d alone", g, a, v, now, e, d)
		}
		return g
	}
	if v != w || e != api.OK || !maps.Equal(cells(now), all) {
		t.Fatalf("Do(%+v, %+v): %d %+v %d, not %d %v", g, a, v, now, e, w, all)
	}
	if !Right(now) {
		t.Fatalf("Do(%+v, %+v): %+v, which is not right", g, a, now)
	}
	return now
}

// must is the graph behind acts, one behind the other, none of which may fail.
func must(t *testing.T, g api.Graph, l ...api.Act) api.Graph {
	t.Helper()
	for i, a := range l {
		_, now, e := Do(g, a)
		if e != api.OK {
			t.Fatalf("act %d, %+v of %+v: %d", i, a, g, e)
		}
		g = now
	}
	return g
}

// refused holds that an act tells that error, and nothing else.
func refused(t *testing.T, g api.Graph, a api.Act, want api.Errno) {
	t.Helper()
	if v, now, e := Do(g, a); v != 0 || !empty(now) || e != want {
		t.Errorf("Do(%+v, %+v): %d %+v %d, not %d alone", g, a, v, now, e, want)
	}
}

// row is n times v, node one of so many slots, of pointers to nothing and of scalars 0.
func row[T any](n int, v T) []T { return slices.Repeat([]T{v}, n) }

func node(ptrs, scalars int) api.Node {
	return api.Node{Ptrs: row(ptrs, -1), Data: row(scalars, uint64(0))}
}

// three is a graph with a node that points to itself, and two that point to each other; two roots are to one node, one is to none.
func three() api.Graph {
	return api.Graph{
		Nodes: []api.Node{{Ptrs: []int{0, 2, -1}, Data: []uint64{7}}, {Ptrs: []int{2}}, {Ptrs: []int{1}, Data: []uint64{8, math.MaxUint64}}},
		Roots: []int{2, -1, 0, 2},
	}
}

// H1: graphs by name, at each edge of what is right, and how many words they have.
func TestRight(t *testing.T) {
	for i, x := range []struct {
		g     api.Graph
		right bool
		words int
	}{
		{api.Graph{}, true, 0},
		{api.Graph{Nodes: []api.Node{}, Roots: []int{}}, true, 0},
		{three(), true, 11},
		// Nodes of neither.
		{api.Graph{Nodes: []api.Node{{}}}, true, 1},
		{api.Graph{Nodes: []api.Node{{}, {}, {Ptrs: []int{}, Data: []uint64{}}}, Roots: []int{2}}, true, 3},
		// Roots: how many.
		{api.Graph{Roots: row(15, -1)}, true, 0},
		{api.Graph{Roots: row(16, -1)}, true, 0},
		{api.Graph{Roots: row(17, -1)}, false, 0},
		{api.Graph{Nodes: []api.Node{node(1, 2)}, Roots: row(16, 0)}, true, 4},
		{api.Graph{Nodes: []api.Node{node(1, 2)}, Roots: row(17, 0)}, false, 0},
		{api.Graph{Nodes: []api.Node{node(1, 2)}, Roots: row(300, 0)}, false, 0},
		// Nodes: how many slots, of the one, of the other, of both.
		{api.Graph{Nodes: []api.Node{node(255, 0)}}, true, 256},
		{api.Graph{Nodes: []api.Node{node(256, 0)}}, false, 0},
		{api.Graph{Nodes: []api.Node{node(0, 255)}}, true, 256},
		{api.Graph{Nodes: []api.Node{node(0, 256)}}, false, 0},
		{api.Graph{Nodes: []api.Node{node(1, 254)}}, true, 256},
		{api.Graph{Nodes: []api.Node{node(1, 255)}}, false, 0},
		{api.Graph{Nodes: []api.Node{node(255, 1)}}, false, 0},
		{api.Graph{Nodes: []api.Node{node(128, 128)}}, false, 0},
		{api.Graph{Nodes: []api.Node{node(255, 255)}}, false, 0},
		{api.Graph{Nodes: []api.Node{node(100, 155), node(155, 100), {}}}, true, 513},
		{api.Graph{Nodes: []api.Node{node(1, 0), node(200, 56)}}, false, 0},
		{api.Graph{Nodes: []api.Node{node(200, 56), node(1, 0)}}, false, 0},
		{api.Graph{Nodes: row(5000, node(2, 1))}, true, 20000},
	} {
		if Right(x.g) != x.right || rightCells(cells(x.g)) != x.right {
			t.Errorf("%d: %v, not %v", i, !x.right, x.right)
		}
		if n := Words(x.g); n != x.words {
			t.Errorf("%d: %d words, not %d", i, n, x.words)
		}
	}
}

// pointed are pointers about the nodes of a graph, with whether each may be.
func pointed(nodes int) map[int]bool {
	l := map[int]bool{-1: true}
	for _, p := range []int{math.MinInt, -1 << 32, -256, -3, -2, nodes, nodes + 1, 1 << 32, 1<<32 - 1, math.MaxInt} {
		l[p] = false
	}
	for p := range nodes {
		l[p] = true
	}
	return l
}

// H1, H2: each pointer, at the first, at a middle and at the last place of Ptrs and of Roots, of up to four nodes; what is not right is refused by all acts.
func TestPointers(t *testing.T) {
	for nodes := range 5 {
		for p, may := range pointed(nodes) {
			for at := range 3 {
				g := api.Graph{Nodes: row(nodes, api.Node{}), Roots: row(3, -1)}
				g.Roots[at] = p
				holdRight(t, g, may)
				for i := range nodes {
					g := api.Graph{Nodes: row(nodes, api.Node{}), Roots: row(3, -1)}
					g.Nodes[i] = node(3, 1)
					g.Nodes[i].Ptrs[at] = p
					holdRight(t, g, may)
				}
			}
		}
	}
}

// holdRight holds that a graph is right, or that it is not, and nothing is told of it.
func holdRight(t *testing.T, g api.Graph, right bool) {
	t.Helper()
	words := 0
	for _, n := range g.Nodes {
		words += len(n.Ptrs) + len(n.Data) + 1
	}
	if !right {
		words = 0
	}
	if Right(g) != right || Words(g) != words {
		t.Errorf("%+v: %v, %d words, not %v, %d", g, Right(g), Words(g), right, words)
	}
	if right {
		return
	}
	for kind := -1; kind <= 8; kind++ {
		refused(t, g, api.Act{Kind: kind}, api.ErrArg)
		refused(t, g, api.Act{Kind: kind, R: 1, S: 2, I: 1}, api.ErrArg)
		refused(t, g, api.Act{Kind: kind, R: -1, S: 3, I: -1, Shape: api.Shape{Size: 256}}, api.ErrArg)
	}
}

// H1, H2: of what has too many roots or slots nothing is told, too, even where the act has to do with neither.
func TestNotRight(t *testing.T) {
	for _, g := range []api.Graph{
		{Roots: row(17, -1)},
		{Nodes: []api.Node{node(3, 1)}, Roots: row(17, 0)},
		{Nodes: []api.Node{node(3, 1), node(128, 128)}, Roots: row(3, 0)},
		{Nodes: []api.Node{node(3, 1), node(0, 256)}, Roots: row(3, 0)},
		{Nodes: []api.Node{node(3, 1), node(256, 0)}, Roots: row(3, 0)},
		{Nodes: []api.Node{node(3, 1), {Ptrs: []int{2}}}, Roots: row(3, 0)},
	} {
		holdRight(t, g, false)
	}
}

// H2: the chapter's example.
func TestExample(t *testing.T) {
	g := api.Graph{Roots: []int{-1}}
	_, g, e := Do(g, api.Act{Kind: 1, R: 0, Shape: api.Shape{Size: 2, Ptrs: 1}})
	if want := (api.Graph{Nodes: []api.Node{{Ptrs: []int{-1}, Data: []uint64{0}}}, Roots: []int{0}}); !same(g, want) || e != api.OK {
		t.Fatalf("made: %+v %d", g, e)
	}
	v, g, e := Do(g, api.Act{Kind: 4, R: 0, S: 0, I: 0})
	if want := (api.Graph{Nodes: []api.Node{{Ptrs: []int{0}, Data: []uint64{0}}}, Roots: []int{0}}); v != 0 || !same(g, want) || e != api.OK {
		t.Fatalf("stored: %d %+v %d", v, g, e)
	}
}

// H2: each row of one graph, written out by hand.
func TestRows(t *testing.T) {
	for i, x := range []struct {
		a      api.Act
		v      uint64
		change func(*api.Graph)
	}{
		{api.Act{Kind: api.New, R: 1, Shape: api.Shape{Size: 3, Ptrs: 2}}, 0, func(g *api.Graph) {
			g.Nodes = append(g.Nodes, api.Node{Ptrs: []int{-1, -1}, Data: []uint64{0}})
			g.Roots[1] = 3
		}},
		{api.Act{Kind: api.New, R: 3, Shape: api.Shape{}}, 0, func(g *api.Graph) { g.Nodes, g.Roots[3] = append(g.Nodes, api.Node{}), 3 }},
		{api.Act{Kind: api.Load, R: 1, S: 0}, 0, func(g *api.Graph) { g.Roots[1] = 1 }},
		{api.Act{Kind: api.Load, R: 0, S: 0}, 0, func(g *api.Graph) { g.Roots[0] = 1 }},
		{api.Act{Kind: api.Load, R: 3, S: 2, I: 1}, 0, func(g *api.Graph) { g.Roots[3] = 2 }},
		{api.Act{Kind: api.Load, R: 0, S: 2, I: 2}, 0, func(g *api.Graph) { g.Roots[0] = -1 }}, // of -1
		{api.Act{Kind: api.Get, S: 0}, 8, func(*api.Graph) {}},
		{api.Act{Kind: api.Get, S: 3, I: 1}, math.MaxUint64, func(*api.Graph) {}},
		{api.Act{Kind: api.Get, S: 2}, 7, func(*api.Graph) {}},
		{api.Act{Kind: api.Store, R: 2, S: 0}, 0, func(g *api.Graph) { g.Nodes[2].Ptrs[0] = 0 }},
		{api.Act{Kind: api.Store, R: 2, S: 2, I: 2}, 0, func(g *api.Graph) { g.Nodes[0].Ptrs[2] = 0 }}, // into its own node
		{api.Act{Kind: api.Store, R: 3, S: 0}, 0, func(g *api.Graph) { g.Nodes[2].Ptrs[0] = 2 }},       // so, by another root
		{api.Act{Kind: api.Store, R: 1, S: 2, I: 1}, 0, func(g *api.Graph) { g.Nodes[0].Ptrs[1] = -1 }},
		{api.Act{Kind: api.Set, S: 3, V: 9}, 0, func(g *api.Graph) { g.Nodes[2].Data[0] = 9 }},
		{api.Act{Kind: api.Set, S: 0, I: 1}, 0, func(g *api.Graph) { g.Nodes[2].Data[1] = 0 }},
		{api.Act{Kind: api.Set, S: 2, V: math.MaxUint64}, 0, func(g *api.Graph) { g.Nodes[0].Data[0] = math.MaxUint64 }},
		{api.Act{Kind: api.Assign, R: 1, S: 2}, 0, func(g *api.Graph) { g.Roots[1] = 0 }},
		{api.Act{Kind: api.Assign, R: 0, S: 1}, 0, func(g *api.Graph) { g.Roots[0] = -1 }}, // of an empty one
		{api.Act{Kind: api.Assign, R: 2, S: 2}, 0, func(*api.Graph) {}},
		{api.Act{Kind: api.Drop, R: 3}, 0, func(g *api.Graph) { g.Roots[3] = -1 }},
		{api.Act{Kind: api.Drop, R: 1}, 0, func(*api.Graph) {}},
	} {
		want := three()
		x.change(&want)
		if v, now, e := Do(three(), x.a); v != x.v || !same(now, want) || e != api.OK {
			t.Errorf("%d: %+v: %d %+v %d, not %d %+v", i, x.a, v, now, e, x.v, want)
		}
		hold(t, three(), x.a)
	}
}

// strange are numbers that are the place of nothing, of whatever list.
var strange = []int{math.MinInt, math.MinInt + 1, -1 << 32, -1, 1 << 32, 1<<32 + 1, math.MaxInt - 1, math.MaxInt}

// H2: numbers that are no rows, with all else as it may be, and with nothing as it may be.
func TestKinds(t *testing.T) {
	for _, kind := range append([]int{0, 8, 9, -2, -7, 256 + 1, 1 << 31}, strange...) {
		for _, g := range []api.Graph{{}, three(), {Roots: row(17, -1)}} {
			refused(t, g, api.Act{Kind: kind}, api.ErrArg)
			refused(t, g, api.Act{Kind: kind, R: 2, S: 3, I: 1, V: 5}, api.ErrArg)
			refused(t, g, api.Act{Kind: kind, R: -1, S: 4, I: 9, Shape: api.Shape{Size: -1}}, api.ErrArg)
			refused(t, g, api.Act{Kind: kind, S: 1}, api.ErrArg) // an empty root
		}
	}
	for kind := 1; kind <= 7; kind++ {
		must(t, three(), api.Act{Kind: kind, R: 1})
		// Where there are no roots, no row names one.
		refused(t, api.Graph{}, api.Act{Kind: kind}, api.ErrArg)
		refused(t, api.Graph{Nodes: three().Nodes}, api.Act{Kind: kind}, api.ErrArg)
	}
}

// H2: what is no root is refused by the rows that name it, and is the same as any other to those that do not.
func TestRoots(t *testing.T) {
	for _, roots := range []int{1, 4, 16} {
		g := api.Graph{Nodes: []api.Node{{Ptrs: []int{1, 0}, Data: []uint64{5, 6}}, node(1, 1)}, Roots: row(roots, 0)}
		last := roots - 1
		for kind := 1; kind <= 7; kind++ {
			right := api.Act{Kind: kind, R: last, S: last, I: 1, V: 9, Shape: api.Shape{Size: 2, Ptrs: 1}}
			v, want, e := Do(g, right)
			if e != api.OK {
				t.Fatalf("%+v: %d", right, e)
			}
			hold(t, g, right)
			for _, n := range append([]int{-2, -roots, roots, roots + 1, 17}, strange...) {
				r, s := right, right
				r.R, s.S = n, n
				for _, x := range []struct {
					a     api.Act
					named bool
				}{{r, kind != 3 && kind != 5}, {s, kind != 1 && kind != 7}} {
					if x.named {
						refused(t, g, x.a, api.ErrArg)
					} else if w, now, e := Do(g, x.a); w != v || !same(now, want) || e != api.OK {
						t.Errorf("%+v: %d %+v %d, not %d %+v", x.a, w, now, e, v, want)
					}
				}
				both := right
				both.R, both.S = n, n
				refused(t, g, both, api.ErrArg)
			}
		}
	}
}

// H2: a slot is one of the node's own: the pointers' places are not the scalars'.
func TestSlots(t *testing.T) {
	for _, x := range [][2]int{{0, 0}, {1, 0}, {0, 1}, {3, 1}, {1, 3}, {2, 2}, {255, 0}, {0, 255}, {254, 1}, {1, 254}} {
		// Nodes beside it have more of both.
		g := api.Graph{Nodes: []api.Node{node(127, 127), node(x[0], x[1]), node(127, 127)}, Roots: []int{0, 1}}
		for _, i := range append([]int{-255, -2, 0, 1, 2, 3, 4, 253, 254, 255, 256, x[0] - 1, x[0], x[0] + 1, x[1] - 1, x[1], x[1] + 1}, strange...) {
			for kind := api.Load; kind <= api.Set; kind++ {
				n := x[0]
				if kind == api.Get || kind == api.Set {
					n = x[1]
				}
				a := api.Act{Kind: kind, R: 0, S: 1, I: i, V: 9}
				hold(t, g, a)
				if i < 0 || i >= n {
					refused(t, g, a, api.ErrArg)
				} else {
					must(t, g, a)
				}
			}
		}
	}
}

// H2: an empty root has no slots, whichever is asked for; as what is stored or assigned it is as any other.
func TestEmptyRoot(t *testing.T) {
	for _, g := range []api.Graph{three(), {Roots: row(4, -1)}} {
		for kind := api.Load; kind <= api.Set; kind++ {
			for _, i := range append([]int{0, 1, 2, 255}, strange...) {
				for _, r := range []int{0, 1, 3} {
					refused(t, g, api.Act{Kind: kind, R: r, S: 1, I: i, V: 3}, api.ErrNone)
				}
			}
		}
		hold(t, g, api.Act{Kind: api.Assign, R: 0, S: 1})
		hold(t, g, api.Act{Kind: api.Drop, R: 1})
		hold(t, g, api.Act{Kind: api.New, R: 1})
		hold(t, g, api.Act{Kind: api.Store, R: 1, S: 0})
	}
}

// H2: which error is told where there could be two.
func TestFirstError(t *testing.T) {
	g := three()
	for _, x := range []struct {
		a api.Act
		e api.Errno
	}{
		{api.Act{Kind: api.Load, R: 4, S: 1}, api.ErrArg},                       // R is no root, S is empty
		{api.Act{Kind: api.Load, R: -1, S: 1, I: -1}, api.ErrArg},               // so, and there is no such slot
		{api.Act{Kind: api.Store, R: 4, S: 1}, api.ErrArg},                      // R is no root, S is empty
		{api.Act{Kind: api.Store, R: -1, S: 1, I: 9}, api.ErrArg},               // so, and there is no such slot
		{api.Act{Kind: api.Load, R: 0, S: 1, I: -1}, api.ErrNone},               // S is empty, there is no such slot
		{api.Act{Kind: api.Store, R: 1, S: 1, I: 9}, api.ErrNone},               // so
		{api.Act{Kind: api.Get, R: 9, S: 1, I: 9}, api.ErrNone},                 // so; R is not named
		{api.Act{Kind: api.Set, R: -1, S: 1, I: -1}, api.ErrNone},               // so
		{api.Act{Kind: api.Get, S: 4, I: -1}, api.ErrArg},                       // S is no root
		{api.Act{Kind: 8, S: 1}, api.ErrArg},                                    // no row, S is empty
		{api.Act{Kind: api.New, R: 4, Shape: api.Shape{Size: 256}}, api.ErrArg}, // R is no root, Shape is not right
	} {
		refused(t, g, x.a, x.e)
	}
	// A graph that is not right is told first.
	g.Nodes[1].Ptrs[0] = 3
	for kind := api.Load; kind <= api.Set; kind++ {
		refused(t, g, api.Act{Kind: kind, S: 1}, api.ErrArg)
	}
}

// H2: nodes that are made, of all right shapes about the edges; and shapes that are not right.
func TestNew(t *testing.T) {
	for _, g := range []api.Graph{{Roots: []int{-1}}, {Roots: row(16, -1)}, three()} {
		for _, size := range append([]int{-2, 0, 1, 2, 3, 127, 254, 255, 256, 257, 65536}, strange...) {
			for _, n := range append([]int{-2, 0, 1, 2, size - 1, size, size + 1, 254, 255, 256}, strange...) {
				r := len(g.Roots) - 1
				a := api.Act{Kind: api.New, R: r, Shape: api.Shape{Size: size, Ptrs: n}}
				if n < 0 || n > size || size > 255 {
					refused(t, g, a, api.ErrArg)
					continue
				}
				now := hold(t, g, a)
				last := len(g.Nodes)
				if len(now.Nodes) != last+1 || now.Roots[r] != last || Words(now) != Words(g)+size+1 {
					t.Fatalf("%+v: %+v", a, now)
				}
				if made := now.Nodes[last]; !slices.Equal(made.Ptrs, row(n, -1)) || !slices.Equal(made.Data, row(size-n, uint64(0))) {
					t.Fatalf("%+v: %+v", a, made)
				}
			}
		}
	}
}

// nodesOf are all nodes of that shape, with any of these pointers.
func nodesOf(ptrs, scalars int, to []int) []api.Node {
	var l []api.Node
	for _, p := range lists(ptrs, to) {
		n := api.Node{Ptrs: p}
		for k := range scalars {
			n.Data = append(n.Data, uint64(70+k))
		}
		l = append(l, n)
	}
	return l
}

// lists are all lists of just n of these.
func lists[T any](n int, of []T) [][]T {
	all := [][]T{nil}
	for range n {
		var longer [][]T
		for _, l := range all {
			for _, v := range of {
				longer = append(longer, append(slices.Clone(l), v))
			}
		}
		all = longer
	}
	return all
}

// smallGraphs are all right ones of so many nodes, each of one of these shapes (Ptrs and Data), and of up to two roots.
func smallGraphs(nodes int, shapes [][2]int) []api.Graph {
	to := []int{-1}
	for i := range nodes {
		to = append(to, i)
	}
	var each []api.Node
	for _, s := range shapes {
		each = append(each, nodesOf(s[0], s[1], to)...)
	}
	var all []api.Graph
	for _, l := range lists(nodes, each) {
		for roots := range 3 {
			for _, r := range lists(roots, to) {
				all = append(all, api.Graph{Nodes: l, Roots: r})
			}
		}
	}
	return all
}

// acts are all with small numbers, within and without what may be of graphs of up to two roots.
func acts() []api.Act {
	var l []api.Act
	shapes := []api.Shape{{}, {Size: 1}, {Size: 2, Ptrs: 1}, {Size: 1, Ptrs: 2}}
	for kind := -1; kind <= 8; kind++ {
		for i := range 64 {
			a := api.Act{Kind: kind, R: i%4 - 1, S: i/4%4 - 1, I: i/16 - 1, V: 99}
			if kind != api.New {
				l = append(l, a)
				continue
			}
			for _, a.Shape = range shapes {
				l = append(l, a)
			}
		}
	}
	return l
}

// H2, H3: all acts on all small graphs: each answer is what the row says, all else is as it was, and what is behind it is right.
func TestEach(t *testing.T) {
	graphs := slices.Concat(
		smallGraphs(0, nil),
		smallGraphs(1, [][2]int{{0, 0}, {1, 0}, {0, 1}, {2, 0}, {1, 1}, {0, 2}}),
		smallGraphs(2, [][2]int{{0, 0}, {1, 0}, {1, 1}}),
	)
	for _, g := range graphs {
		if !Right(g) || !rightCells(cells(g)) {
			t.Fatalf("not Right(%+v)", g)
		}
		for _, a := range acts() {
			hold(t, g, a)
		}
	}
}

// byEach calls with each root of the node to which a root is, that one too.
func byEach(g api.Graph, s int, call func(r int)) {
	for r, p := range g.Roots {
		if p == g.Roots[s] {
			call(r)
		}
	}
}

// H3: what was set is got by each root of that node, and what was stored is loaded by each of them, into whatever root.
func TestTheorem(t *testing.T) {
	graphs := append(smallGraphs(2, [][2]int{{1, 1}, {2, 1}}), three())
	for _, g := range graphs {
		for s, p := range g.Roots {
			if p < 0 {
				continue
			}
			for i := range g.Nodes[p].Data {
				set := must(t, g, api.Act{Kind: api.Set, S: s, I: i, V: 1234567})
				byEach(set, s, func(r int) {
					if v, now, e := Do(set, api.Act{Kind: api.Get, S: r, I: i}); v != 1234567 || !same(now, set) || e != api.OK {
						t.Fatalf("%+v: set by root %d, got by %d: %d %+v %d", g, s, r, v, now, e)
					}
				})
			}
			for i := range g.Nodes[p].Ptrs {
				for what := range g.Roots {
					stored := must(t, g, api.Act{Kind: api.Store, R: what, S: s, I: i})
					byEach(stored, s, func(r int) {
						for into := range g.Roots {
							now := must(t, stored, api.Act{Kind: api.Load, R: into, S: r, I: i})
							if now.Roots[into] != g.Roots[what] {
								t.Fatalf("%+v: root %d stored by %d, loaded by %d into %d: %+v", g, what, s, r, into, now)
							}
						}
					})
				}
			}
		}
	}
}

// H3: two nodes that come to point to each other, and one to itself, are gone round by loads.
func TestRound(t *testing.T) {
	g := must(t, api.Graph{Roots: row(3, -1)},
		api.Act{Kind: api.New, R: 0, Shape: api.Shape{Size: 3, Ptrs: 2}},
		api.Act{Kind: api.New, R: 1, Shape: api.Shape{Size: 3, Ptrs: 2}},
		api.Act{Kind: api.Set, S: 0, V: 10},
		api.Act{Kind: api.Set, S: 1, V: 11},
		api.Act{Kind: api.Store, R: 1, S: 0, I: 0},
		api.Act{Kind: api.Store, R: 0, S: 1, I: 0},
		api.Act{Kind: api.Store, R: 1, S: 1, I: 1},
		api.Act{Kind: api.Assign, R: 2, S: 0},
		api.Act{Kind: api.Drop, R: 0},
		api.Act{Kind: api.Drop, R: 1},
	)
	for i, x := range []struct {
		slot int
		want uint64
	}{{0, 11}, {0, 10}, {0, 11}, {1, 11}, {1, 11}, {0, 10}} {
		g = must(t, g, api.Act{Kind: api.Load, R: 2, S: 2, I: x.slot})
		if v, _, e := Do(g, api.Act{Kind: api.Get, S: 2}); v != x.want || e != api.OK {
			t.Fatalf("step %d: %d %d, not %d", i, v, e, x.want)
		}
	}
	g = must(t, g, api.Act{Kind: api.Load, R: 2, S: 2, I: 1})
	refused(t, g, api.Act{Kind: api.Get, S: 2}, api.ErrNone)
}

// chance is a row of numbers far from one another: the same one each time.
type chance uint64

func (c *chance) below(n int) int {
	*c = *c*6364136223846793005 + 1442695040888963407
	return int((uint64(*c) >> 33) % uint64(n))
}

// act is one of all rows, seldom one that may not be.
func (c *chance) act(roots int) api.Act {
	size := c.below(6)
	a := api.Act{Kind: 1 + c.below(7), R: c.below(roots), S: c.below(roots), I: c.below(3), V: uint64(c.below(1 << 30)), Shape: api.Shape{Size: size, Ptrs: c.below(size + 1)}}
	if c.below(8) == 0 {
		a.I = c.below(260) - 2
	}
	if c.below(30) == 0 {
		a.Shape = api.Shape{Size: c.below(300), Ptrs: c.below(300)}
	}
	if c.below(30) == 0 {
		a.R, a.S = c.below(20)-2, c.below(20)-2
	}
	if c.below(50) == 0 {
		a.Kind = c.below(20) - 8
	}
	return a
}

// H2, H3: many acts, one behind the other: each is as its row says of what is behind all that are ahead.
func TestLong(t *testing.T) {
	for n := range 60 {
		c := chance(n)
		roots := 1 + n%16
		g := api.Graph{Roots: row(roots, -1)}
		done := 0
		for range 120 {
			a := c.act(roots)
			if _, _, e := Do(g, a); e == api.OK {
				done++
			}
			g = hold(t, g, a)
		}
		if done < 20 {
			t.Errorf("%d: only %d were done", n, done)
		}
	}
}

// roomy is l with room behind it, in which v stands four times.
func roomy[T any](l []T, v T) []T { return append(slices.Clone(l), v, v, v, v)[:len(l)] }

// roomyGraph is g, with room behind each of its lists.
func roomyGraph(g api.Graph) api.Graph {
	l := slices.Clone(g.Nodes)
	for i, n := range l {
		l[i] = api.Node{Ptrs: roomy(n.Ptrs, 77), Data: roomy(n.Data, 77)}
	}
	return api.Graph{Nodes: roomy(l, api.Node{Ptrs: []int{77}, Data: []uint64{77}}), Roots: roomy(g.Roots, 77)}
}

// whole is g, with all that stands in the room behind its lists, in memory of its own.
func whole(g api.Graph) api.Graph {
	l := slices.Clone(g.Nodes[:cap(g.Nodes)])
	for i, n := range l {
		l[i] = api.Node{Ptrs: slices.Clone(n.Ptrs[:cap(n.Ptrs)]), Data: slices.Clone(n.Data[:cap(n.Data)])}
	}
	return api.Graph{Nodes: l, Roots: slices.Clone(g.Roots[:cap(g.Roots)])}
}

// someActs are those of all rows that are done of a graph like three, and some that are refused.
func someActs() []api.Act {
	l := []api.Act{
		{Kind: api.New, R: 1, Shape: api.Shape{Size: 3, Ptrs: 2}}, {Kind: api.New, R: 2}, {Kind: api.New, R: 1, Shape: api.Shape{Size: 256}},
		{Kind: api.Load, R: 1, S: 0}, {Kind: api.Load, R: 1, S: 2, I: 3}, {Kind: api.Load, R: 1, S: 1},
		{Kind: api.Get, S: 0, I: 1}, {Kind: api.Get, S: 0, I: 2}, {Kind: api.Get, S: 4},
		{Kind: api.Store, R: 2, S: 3}, {Kind: api.Store, R: 0, S: 2, I: 2}, {Kind: api.Store, R: 0, S: 2, I: 3},
		{Kind: api.Set, S: 3, V: 9}, {Kind: api.Set, S: 3, I: 1, V: 9}, {Kind: api.Set, S: 2, I: 1, V: 9},
		{Kind: api.Assign, R: 0, S: 2}, {Kind: api.Assign, R: 4, S: 2}, {Kind: api.Drop, R: 0}, {Kind: api.Drop, R: -1}, {}, {Kind: 8},
	}
	return l
}

// R3: neither what is handed in, nor what stands behind its length, is written into, and what is behind it is not read.
func TestHandedIn(t *testing.T) {
	wrong := three()
	wrong.Nodes[2].Ptrs[0] = 3
	for _, g := range []api.Graph{{}, three(), wrong, {Roots: row(4, -1)}, {Nodes: []api.Node{node(0, 2), node(2, 0), {}}, Roots: []int{1, -1, 0}}} {
		for _, a := range someActs() {
			room := roomyGraph(g)
			was := whole(room)
			v, now, e := Do(g, a)
			w, other, d := Do(room, a)
			if v != w || !same(now, other) || e != d {
				t.Errorf("%+v of %+v: %d %+v %d; with room: %d %+v %d", a, g, v, now, e, w, other, d)
			}
			if Right(room) != Right(g) || Words(room) != Words(g) {
				t.Errorf("%+v, with room: %v %d", g, Right(room), Words(room))
			}
			hold(t, room, a)
			if !same(whole(room), was) {
				t.Errorf("%+v of %+v: it is %+v now", a, was, whole(room))
			}
		}
	}
}

// R3, H3: lists that are handed in as one and the same are each its own in what is answered: what is done to one node is not done to another.
func TestOneListTwice(t *testing.T) {
	ptrs, scalars := []int{0, 1, -1}, []uint64{5, 6, 7}
	one := api.Node{Ptrs: ptrs, Data: scalars}
	for _, g := range []api.Graph{
		{Nodes: []api.Node{one, one, one}, Roots: ptrs},
		{Nodes: []api.Node{one, {Ptrs: ptrs[:2], Data: scalars[:2]}, {Ptrs: ptrs[1:], Data: scalars[2:]}}, Roots: ptrs[:2]},
	} {
		for _, a := range acts() {
			hold(t, g, a)
		}
	}
	if !slices.Equal(ptrs, []int{0, 1, -1}) || !slices.Equal(scalars, []uint64{5, 6, 7}) {
		t.Errorf("handed in: %v %v", ptrs, scalars)
	}
}

// spoil writes into a list, and into all of its spare room.
func spoil[T any](l []T, v T) {
	l = l[:cap(l)]
	for i := range l {
		l[i] = v
	}
}

// spoilers are, of each list of a graph but its Nodes, what grows it, and writes into it and into all that it has grown.
func spoilers(g api.Graph) map[cell]func() {
	l := map[cell]func(){
		{"roots", 0, 0}: func() { spoil(append(g.Roots, 99), 99); spoil(g.Roots, 99) },
	}
	for i, n := range g.Nodes {
		l[cell{"ptrs", i, 0}] = func() { spoil(append(n.Ptrs, 99), 99); spoil(n.Ptrs, 99) }
		l[cell{"data", i, 0}] = func() { spoil(append(n.Data, 99), 99); spoil(n.Data, 99) }
	}
	return l
}

// without is a copy of a graph, but for one of its lists.
func without(g api.Graph, c cell) api.Graph {
	g = api.Graph{Nodes: slices.Clone(g.Nodes), Roots: g.Roots}
	switch c.what {
	case "roots":
		g.Roots = nil
	case "ptrs":
		g.Nodes[c.node].Ptrs = nil
	case "data":
		g.Nodes[c.node].Data = nil
	}
	return whole(g)
}

// R3: what comes out is new memory, spare room too, and no two lists of it share any: to write into one, or to grow it, changes neither what was handed in, nor another answer, nor another list of the same one.
func TestNewMemory(t *testing.T) {
	few := api.Graph{Nodes: []api.Node{node(0, 2), node(2, 0), {}}, Roots: []int{1, -1, 0}}
	one := api.Node{Ptrs: []int{0, -1}, Data: []uint64{5, 6}}
	for _, g := range []api.Graph{three(), few, {Roots: row(4, -1)}, {Nodes: []api.Node{one, one}, Roots: []int{0, -1, 1}}} {
		for _, a := range someActs() {
			room := roomyGraph(g)
			handed := whole(room)
			_, now, e := Do(room, a)
			if e != api.OK {
				continue
			}
			_, other, _ := Do(room, a)
			want := whole(other)
			for c := range spoilers(now) {
				_, now, _ := Do(room, a)
				rest := without(now, c)
				spoilers(now)[c]()
				if !same(without(now, c), rest) {
					t.Fatalf("%+v of %+v: with %v another list of it is changed: %+v, not %+v", a, g, c, without(now, c), rest)
				}
				holdRest(t, whole(room), handed)
				holdRest(t, whole(other), want)
			}
			spoil(append(now.Nodes, api.Node{}), api.Node{})
			spoil(now.Nodes, api.Node{})
			holdRest(t, whole(room), handed)
			holdRest(t, whole(other), want)
			hold(t, room, a)
		}
	}
}

func holdRest(t *testing.T, g, want api.Graph) {
	t.Helper()
	if !same(g, want) {
		t.Fatalf("changed: %+v, not %+v", g, want)
	}
}

// R4: the same answers for all, however they run.
func TestAtOnce(t *testing.T) {
	g := three()
	var all sync.WaitGroup
	for i := range 16 {
		all.Go(func() {
			for k := range 300 {
				a := someActs()[(i+k)%len(someActs())]
				v, now, e := Do(g, a)
				w, cs, d := tell(cells(three()), a)
				if v != w || e != d || e == api.OK && !maps.Equal(cells(now), cs) {
					t.Errorf("%+v: %d %+v %d", a, v, now, e)
					return
				}
				if !Right(g) || Words(g) != 11 {
					t.Errorf("%v, %d words", Right(g), Words(g))
					return
				}
			}
		})
	}
	all.Wait()
}
