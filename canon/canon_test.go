package canon

import (
	"maps"
	"math"
	"slices"
	"sync"
	"testing"

	"cromlech/api"
	"cromlech/graph"
)

// ordered are the live nodes in order, by the chapter's words: those of the roots, then those of each live node's Ptrs, each where it comes first; made longer till it stays as it is.
func ordered(g api.Graph) []int {
	var l []int
	for {
		met := slices.Clone(g.Roots)
		for _, at := range l {
			met = append(met, g.Nodes[at].Ptrs...)
		}
		longer := onceEach(met)
		if slices.Equal(longer, l) {
			return l
		}
		l = longer
	}
}

func onceEach(l []int) []int {
	var once []int
	for _, p := range l {
		if p != -1 && !slices.Contains(once, p) {
			once = append(once, p)
		}
	}
	return once
}

// reduced is the graph of the live nodes in order, by the chapter's words.
func reduced(g api.Graph) api.Graph {
	l := ordered(g)
	moved := func(ptrs []int) []int {
		to := slices.Clone(ptrs)
		for i, p := range ptrs {
			to[i] = slices.Index(l, p) // -1 of -1, which is no place
		}
		return to
	}
	now := api.Graph{Roots: moved(g.Roots)}
	for _, at := range l {
		now.Nodes = append(now.Nodes, api.Node{Ptrs: moved(g.Nodes[at].Ptrs), Data: slices.Clone(g.Nodes[at].Data)})
	}
	return now
}

// reached are the places of nodes to which some way leads from a root, the least one first.
func reached(g api.Graph) []int {
	in := map[int]bool{}
	var visit func(l []int)
	visit = func(l []int) {
		for _, p := range l {
			if p != -1 && !in[p] {
				in[p] = true
				visit(g.Nodes[p].Ptrs)
			}
		}
	}
	visit(g.Roots)
	return slices.Sorted(maps.Keys(in))
}

// sides are two graphs, and which live node of the second one stands beside which one of the first.
type sides struct {
	a, b   api.Graph
	beside map[int]int
}

// alike is whether there is a way to put the live nodes side by side, one to one, that fits: each is tried.
func alike(a, b api.Graph) bool {
	return sides{a, b, map[int]int{}}.try(reached(a), reached(b))
}

func (s sides) try(left, right []int) bool {
	if len(left) != len(right) {
		return false
	}
	if len(left) == 0 {
		return s.fit()
	}
	for i, n := range right {
		s.beside[left[0]] = n
		if s.try(left[1:], slices.Delete(slices.Clone(right), i, i+1)) {
			return true
		}
	}
	return false
}

func (s sides) fit() bool {
	for i, k := range s.beside {
		m, n := s.a.Nodes[i], s.b.Nodes[k]
		if !s.both(m.Ptrs, n.Ptrs) || !slices.Equal(m.Data, n.Data) {
			return false
		}
	}
	return s.both(s.a.Roots, s.b.Roots)
}

// both is whether at each place both point to nodes that are side by side, or both to none.
func (s sides) both(l, m []int) bool {
	return slices.EqualFunc(l, m, func(p, q int) bool {
		if p == -1 || q == -1 {
			return p == q
		}
		return s.beside[p] == q
	})
}

// paired is alike for graphs of many nodes: the roots ask for pairs, and these ask for more.
func paired(a, b api.Graph) bool {
	there, back := map[int]int{}, map[int]int{}
	var pair func(l, m []int) bool
	pair = func(l, m []int) bool {
		return slices.EqualFunc(l, m, func(p, q int) bool {
			if p == -1 || q == -1 {
				return p == q
			}
			to, isTo := there[p]
			from, isFrom := back[q]
			if isTo || isFrom {
				return isTo && isFrom && to == q && from == p
			}
			there[p], back[q] = q, p
			return slices.Equal(a.Nodes[p].Data, b.Nodes[q].Data) && pair(a.Nodes[p].Ptrs, b.Nodes[q].Ptrs)
		})
	}
	return pair(a.Roots, b.Roots)
}

// equal is whether two graphs are the same, list by list.
func equal(a, b api.Graph) bool {
	if len(a.Nodes) != len(b.Nodes) || !slices.Equal(a.Roots, b.Roots) {
		return false
	}
	for i := range a.Nodes {
		if !slices.Equal(a.Nodes[i].Ptrs, b.Nodes[i].Ptrs) || !slices.Equal(a.Nodes[i].Data, b.Nodes[i].Data) {
			return false
		}
	}
	return true
}

// upTo are the numbers from 0 on, below n.
func upTo(n int) []int {
	l := make([]int, n)
	for i := range l {
		l[i] = i
	}
	return l
}

// hold holds what Order and Canon tell of a right graph against the chapter's words, and tells its Canon.
func hold(t *testing.T, g api.Graph) api.Graph {
	t.Helper()
	order, want := Order(g), ordered(g)
	if !slices.Equal(order, want) {
		t.Fatalf("Order(%+v): %v, not %v", g, order, want)
	}
	if live := slices.Sorted(slices.Values(order)); !slices.Equal(live, reached(g)) {
		t.Fatalf("Order(%+v): %v, but live are %v", g, order, reached(g))
	}
	now, e := Canon(g)
	if e != api.OK || !equal(now, reduced(g)) || !graph.Right(now) {
		t.Fatalf("Canon(%+v): %+v %d, not %+v", g, now, e, reduced(g))
	}
	again, e := Canon(now)
	if e != api.OK || !equal(again, now) || !slices.Equal(Order(now), upTo(len(want))) {
		t.Fatalf("Canon(%+v): %+v %d, Order %v", now, again, e, Order(now))
	}
	if !Alike(g, g) || !Alike(g, now) || !Alike(now, g) {
		t.Fatalf("%+v is not Alike to itself, or to its Canon", g)
	}
	return now
}

// holdAlike holds whether two right graphs are alike, and their Canons the same.
func holdAlike(t *testing.T, a, b api.Graph, want bool) {
	t.Helper()
	if Alike(a, b) != want || Alike(b, a) != want {
		t.Fatalf("Alike(%+v, %+v): %v, turned round %v, not %v", a, b, Alike(a, b), Alike(b, a), want)
	}
	one, e := Canon(a)
	other, f := Canon(b)
	if e != api.OK || f != api.OK || equal(one, other) != want {
		t.Fatalf("Canons of %+v and %+v: %+v %d, %+v %d; alike: %v", a, b, one, e, other, f, want)
	}
}

// I1: the chapter's example.
func TestExample(t *testing.T) {
	g := api.Graph{Nodes: []api.Node{{}, {}, {Ptrs: []int{1}}}, Roots: []int{2, 0}}
	if l := Order(g); !slices.Equal(l, []int{2, 0, 1}) {
		t.Errorf("Order: %v", l)
	}
	want := api.Graph{Nodes: []api.Node{{Ptrs: []int{2}}, {}, {}}, Roots: []int{0, 1}}
	if now, e := Canon(g); e != api.OK || !equal(now, want) {
		t.Errorf("Canon: %+v %d", now, e)
	}
	hold(t, g)
}

// to is a node of one scalar and such pointers.
func to(d uint64, ptrs ...int) api.Node { return api.Node{Ptrs: ptrs, Data: []uint64{d}} }

// row is n times v.
func row[T any](n int, v T) []T { return slices.Repeat([]T{v}, n) }

// I1: graphs of the chapter's edges, their orders and Canons written out by hand.
func TestByHand(t *testing.T) {
	backward := upTo(16)
	slices.Reverse(backward)
	for i, x := range []struct {
		g     api.Graph
		order []int
		nodes []api.Node
		roots []int
	}{
		{api.Graph{}, nil, nil, nil},
		{api.Graph{Nodes: []api.Node{}, Roots: []int{}}, nil, nil, nil},
		// Nodes, but no root to them.
		{api.Graph{Nodes: []api.Node{to(5, 0, 1), to(6, 0)}}, nil, nil, nil},
		{api.Graph{Nodes: []api.Node{to(5, 0, 1), to(6, 0)}, Roots: []int{-1}}, nil, nil, []int{-1}},
		{api.Graph{Roots: row(16, -1)}, nil, nil, row(16, -1)},
		{api.Graph{Nodes: row(3, to(5, 0)), Roots: row(16, -1)}, nil, nil, row(16, -1)},
		// Roots: the same node, empty ones between, all of them.
		{api.Graph{Nodes: []api.Node{to(5), to(6)}, Roots: []int{1, 1, 1}}, []int{1}, []api.Node{to(6)}, []int{0, 0, 0}},
		{api.Graph{Nodes: []api.Node{to(5), to(6)}, Roots: []int{-1, 1, -1, 0, 1}}, []int{1, 0}, []api.Node{to(6), to(5)}, []int{-1, 0, -1, 1, 0}},
		{api.Graph{Nodes: row(16, to(5, -1)), Roots: backward}, backward, row(16, to(5, -1)), upTo(16)},
		{api.Graph{Nodes: row(17, to(5)), Roots: row(16, 16)}, []int{16}, []api.Node{to(5)}, row(16, 0)},
		// Round about: to itself, to each other, in a ring.
		{api.Graph{Nodes: []api.Node{to(5), to(6, 1)}, Roots: []int{1}}, []int{1}, []api.Node{to(6, 0)}, []int{0}},
		{api.Graph{Nodes: []api.Node{to(5), to(6, 2), to(7, 1)}, Roots: []int{2}}, []int{2, 1}, []api.Node{to(7, 1), to(6, 0)}, []int{0}},
		{api.Graph{Nodes: []api.Node{to(5, 2), to(6, 0), to(7, 1)}, Roots: []int{1}}, []int{1, 0, 2}, []api.Node{to(6, 1), to(5, 2), to(7, 0)}, []int{0}},
		// Several to one; one that a root and a pointer meet: the root comes first, wherever it is.
		{api.Graph{Nodes: []api.Node{to(5, 3), to(6, 3, 3), to(7, 3), to(8)}, Roots: []int{1, 2, 0}}, []int{1, 2, 0, 3}, []api.Node{to(6, 3, 3), to(7, 3), to(5, 3), to(8)}, []int{0, 1, 2}},
		{api.Graph{Nodes: []api.Node{to(5), to(6, 0, 2), to(7)}, Roots: []int{1, 2}}, []int{1, 2, 0}, []api.Node{to(6, 2, 1), to(7), to(5)}, []int{0, 1}},
		{api.Graph{Nodes: []api.Node{to(5), to(6, 0)}, Roots: []int{0, 1}}, []int{0, 1}, []api.Node{to(5), to(6, 0)}, []int{0, 1}},
		// First all of one node, then all of the next: breadth goes ahead of depth.
		{api.Graph{Nodes: []api.Node{to(5, 1, 2), to(6, 3), to(7, 4), to(8), to(9)}, Roots: []int{0}}, []int{0, 1, 2, 3, 4}, []api.Node{to(5, 1, 2), to(6, 3), to(7, 4), to(8), to(9)}, []int{0}},
		{api.Graph{Nodes: []api.Node{to(5, 3, 4), to(6), to(7), to(8, 2), to(9, 1)}, Roots: []int{0}}, []int{0, 3, 4, 2, 1}, []api.Node{to(5, 1, 2), to(8, 3), to(9, 4), to(7), to(6)}, []int{0}},
		// Nodes that no root reaches, with pointers to live ones and to none.
		{api.Graph{Nodes: []api.Node{to(5, 1, -1, 2), to(6), to(7, -1), to(8, 0, 2)}, Roots: []int{2}}, []int{2}, []api.Node{to(7, -1)}, []int{0}},
		{api.Graph{Nodes: []api.Node{to(5, 0), to(6, 2, 0), to(7, 1)}, Roots: []int{0}}, []int{0}, []api.Node{to(5, 0)}, []int{0}},
		// No Ptrs, no Data, neither; Ptrs of -1 alone and among others.
		{api.Graph{Nodes: []api.Node{{}, {Ptrs: []int{0}}, {Data: []uint64{5, math.MaxUint64}}}, Roots: []int{2, 1}}, []int{2, 1, 0}, []api.Node{{Data: []uint64{5, math.MaxUint64}}, {Ptrs: []int{2}}, {}}, []int{0, 1}},
		{api.Graph{Nodes: []api.Node{{Ptrs: []int{-1, 1, -1}}, {Ptrs: []int{-1}}}, Roots: []int{0}}, []int{0, 1}, []api.Node{{Ptrs: []int{-1, 1, -1}}, {Ptrs: []int{-1}}}, []int{0}},
		{api.Graph{Nodes: []api.Node{{Ptrs: []int{}, Data: []uint64{}}}, Roots: []int{0}}, []int{0}, []api.Node{{}}, []int{0}},
		// As many slots as may be.
		{api.Graph{Nodes: []api.Node{{}, {Ptrs: row(255, 0)}, {Ptrs: row(200, 1), Data: row(55, uint64(3))}}, Roots: []int{2}}, []int{2, 1, 0}, []api.Node{{Ptrs: row(200, 1), Data: row(55, uint64(3))}, {Ptrs: row(255, 2)}, {}}, []int{0}},
	} {
		if l := Order(x.g); !slices.Equal(l, x.order) {
			t.Errorf("%d: Order: %v, not %v", i, l, x.order)
		}
		want := api.Graph{Nodes: x.nodes, Roots: x.roots}
		if now, e := Canon(x.g); e != api.OK || !equal(now, want) {
			t.Errorf("%d: Canon: %+v %d, not %+v", i, now, e, want)
		}
		hold(t, x.g)
	}
}

// wrongs are graphs that are not right, of each way not to be: in what the roots reach, and in what they do not.
func wrongs() []api.Graph {
	l := []api.Graph{{Roots: row(17, -1)}, {Nodes: []api.Node{to(5)}, Roots: row(17, 0)}}
	for _, p := range []int{math.MinInt, -3, -2, 2, 3, 1 << 32, math.MaxInt} {
		l = append(l,
			api.Graph{Nodes: []api.Node{to(5), to(6)}, Roots: []int{p}},
			api.Graph{Nodes: []api.Node{to(5), to(6)}, Roots: []int{0, -1, p}},
			api.Graph{Nodes: []api.Node{to(5, p), to(6)}, Roots: []int{0}},
			api.Graph{Nodes: []api.Node{to(5), to(6, 0, p)}, Roots: []int{0}},
			api.Graph{Nodes: []api.Node{to(5), to(6, p)}},
		)
	}
	for _, n := range []api.Node{{Ptrs: row(256, -1)}, {Data: row(256, uint64(0))}, {Ptrs: row(128, -1), Data: row(128, uint64(0))}} {
		l = append(l,
			api.Graph{Nodes: []api.Node{n}, Roots: []int{0}},
			api.Graph{Nodes: []api.Node{to(5), n}, Roots: []int{0}},
			api.Graph{Nodes: []api.Node{n}},
		)
	}
	return append(l, api.Graph{Roots: []int{0}}, api.Graph{Roots: []int{-1, -2}})
}

// I1, I2: what is not right has no order and no Canon, and is alike to nothing, on either side, itself too.
func TestNotRight(t *testing.T) {
	for i, g := range wrongs() {
		if graph.Right(g) {
			t.Fatalf("%d: %+v is right", i, g)
		}
		if l := Order(g); len(l) != 0 {
			t.Errorf("%d: Order: %v", i, l)
		}
		if now, e := Canon(g); e != api.ErrArg || len(now.Nodes) != 0 || len(now.Roots) != 0 {
			t.Errorf("%d: Canon: %+v %d", i, now, e)
		}
		for k, other := range append(wrongs(), api.Graph{}, three(), api.Graph{Roots: row(16, -1)}, api.Graph{Nodes: []api.Node{to(5)}, Roots: []int{0}}) {
			if Alike(g, other) || Alike(other, g) {
				t.Errorf("%d, %d: Alike(%+v, %+v): %v, turned round %v", i, k, g, other, Alike(g, other), Alike(other, g))
			}
		}
		if Alike(g, g) {
			t.Errorf("%d: Alike to itself", i)
		}
	}
}

// lists are all lists of just n of these.
func lists[T any](n int, of []T) [][]T {
	if n == 0 {
		return [][]T{nil}
	}
	var all [][]T
	for _, ahead := range lists(n-1, of) {
		for _, v := range of {
			all = append(all, append(slices.Clone(ahead), v))
		}
	}
	return all
}

// small are all right graphs of so many nodes and roots, each node with as many pointers as one of ptrs, and with one of these lists of scalars.
func small(nodes, roots int, ptrs []int, data ...[]uint64) []api.Graph {
	targets := append(upTo(nodes), -1)
	var each []api.Node
	for _, n := range ptrs {
		for _, l := range lists(n, targets) {
			for _, d := range data {
				each = append(each, api.Node{Ptrs: l, Data: d})
			}
		}
	}
	var all []api.Graph
	for _, l := range lists(nodes, each) {
		for _, r := range lists(roots, targets) {
			all = append(all, api.Graph{Nodes: l, Roots: r})
		}
	}
	return all
}

// I1: small graphs, each: live nodes stand in Order once, where they come first, and Canon is the graph of these.
func TestSmall(t *testing.T) {
	for _, l := range [][]api.Graph{
		small(0, 0, nil), small(0, 2, nil), small(0, 3, nil),
		small(1, 0, []int{0, 1, 2}, nil, []uint64{5}), small(1, 3, []int{0, 1, 2, 3}, nil, []uint64{5}),
		small(2, 0, []int{0, 1}, nil, []uint64{5}), small(2, 1, []int{0, 1, 2}, nil, []uint64{5}), small(2, 3, []int{0, 2}, nil),
		small(3, 1, []int{0, 1}, nil), small(3, 1, []int{2}, nil), small(3, 2, []int{1}, nil, []uint64{5}),
		small(4, 1, []int{1}, []uint64{5}),
	} {
		for _, g := range l {
			hold(t, g)
		}
	}
}

// I2, I3: of small graphs each two: they are alike just if there is a way to put their live nodes side by side.
func TestPairs(t *testing.T) {
	five, six := []uint64{5}, []uint64{6}
	one := slices.Concat(
		small(0, 0, nil), small(1, 0, []int{0, 1}, nil, five), small(2, 0, []int{0}, nil),
		small(0, 1, nil), small(1, 1, []int{0, 1}, nil, five, six), small(2, 1, []int{0, 1}, nil, five, six),
		small(0, 2, nil), small(1, 2, []int{1}, nil),
	)
	two := slices.Concat(small(0, 2, nil), small(1, 2, []int{0, 1}, nil, five), small(2, 2, []int{0, 1}, nil, five), small(2, 1, []int{0}, nil))
	for _, l := range [][]api.Graph{one, two} {
		canons := make([]api.Graph, len(l))
		for i, g := range l {
			canons[i] = hold(t, g)
		}
		some := 0
		for i, a := range l {
			for k, b := range l {
				want := alike(a, b)
				if Alike(a, b) != want || equal(canons[i], canons[k]) != want || paired(a, b) != want {
					t.Fatalf("Alike(%+v, %+v): %v, not %v; Canons %+v, %+v", a, b, Alike(a, b), want, canons[i], canons[k])
				}
				if want && i != k {
					some++
				}
			}
		}
		if some == 0 || some == len(l)*(len(l)-1) {
			t.Errorf("of %d graphs %d pairs are alike", len(l), some)
		}
	}
}

// laid is g in other places: the node at i stands at places[i].
func laid(g api.Graph, places []int) api.Graph {
	moved := func(l []int) []int {
		l = slices.Clone(l)
		for i, p := range l {
			if p != -1 {
				l[i] = places[p]
			}
		}
		return l
	}
	now := api.Graph{Nodes: make([]api.Node, len(g.Nodes)), Roots: moved(g.Roots)}
	for i, n := range g.Nodes {
		now.Nodes[places[i]] = api.Node{Ptrs: moved(n.Ptrs), Data: slices.Clone(n.Data)}
	}
	return now
}

// orders are all orders of n places.
func orders(n int) [][]int {
	return slices.DeleteFunc(lists(n, upTo(n)), func(l []int) bool { return len(onceEach(l)) != n })
}

// with is g, and nodes more behind its own.
func with(g api.Graph, more ...api.Node) api.Graph {
	return api.Graph{Nodes: slices.Concat(g.Nodes, more), Roots: g.Roots}
}

// changed are all graphs that are g, but for one pointer, one root, one scalar, or one of these more or less, or one root more or less.
func changed(g api.Graph) []api.Graph {
	var l []api.Graph
	but := func(change func(*api.Graph)) {
		c := laid(g, upTo(len(g.Nodes)))
		change(&c)
		l = append(l, c)
	}
	for p := -1; p < len(g.Nodes); p++ {
		for r := range g.Roots {
			but(func(c *api.Graph) { c.Roots[r] = p })
		}
		but(func(c *api.Graph) { c.Roots = append(c.Roots, p) })
		for i, n := range g.Nodes {
			for k := range n.Ptrs {
				but(func(c *api.Graph) { c.Nodes[i].Ptrs[k] = p })
			}
			but(func(c *api.Graph) { c.Nodes[i].Ptrs = append(c.Nodes[i].Ptrs, p) })
		}
	}
	if n := len(g.Roots); n > 0 {
		but(func(c *api.Graph) { c.Roots = c.Roots[:n-1] })
		but(func(c *api.Graph) { c.Roots = c.Roots[1:] })
	}
	for i, n := range g.Nodes {
		for k := range n.Data {
			but(func(c *api.Graph) { c.Nodes[i].Data[k]++ })
			but(func(c *api.Graph) { c.Nodes[i].Data[k] ^= 1 << 63 })
			but(func(c *api.Graph) { c.Nodes[i].Data = slices.Delete(c.Nodes[i].Data, k, k+1) })
		}
		but(func(c *api.Graph) { c.Nodes[i].Data = append(c.Nodes[i].Data, 0) })
		if len(n.Ptrs) > 0 {
			but(func(c *api.Graph) { c.Nodes[i].Ptrs = c.Nodes[i].Ptrs[1:] })
		}
	}
	return l
}

// three is a graph with a node that points to itself, and two that point to each other; two roots are to one node, one is to none.
func three() api.Graph {
	return api.Graph{
		Nodes: []api.Node{{Ptrs: []int{0, 2, -1}, Data: []uint64{7}}, {Ptrs: []int{2}}, {Ptrs: []int{1}, Data: []uint64{8, math.MaxUint64}}},
		Roots: []int{2, -1, 0, 2},
	}
}

// five is a graph of which three nodes are live, and two are not, that point to live ones, to themselves and to none.
func five() api.Graph {
	return api.Graph{
		Nodes: []api.Node{to(10, 3, -1), to(11, 0, 2), to(10, 1, 3, -1), {Ptrs: []int{4, 3, 0}, Data: []uint64{12, 13}}, {Data: []uint64{14}}},
		Roots: []int{3, -1, 0, 3},
	}
}

// I2, I3: nodes in another order, and nodes more that no root reaches, change nothing; and what one change makes is alike or not by the chapter's words, in whatever order.
func TestChanged(t *testing.T) {
	graphs := []api.Graph{three(), five(), {Nodes: []api.Node{{}, {}}, Roots: []int{1}}, {Nodes: []api.Node{to(5, 1), to(5, 0)}, Roots: []int{0, 1}}, {Nodes: []api.Node{to(5), to(5)}}}
	for _, g := range graphs {
		canon := hold(t, g)
		unlike := 0
		for _, places := range orders(len(g.Nodes)) {
			other := laid(g, places)
			holdAlike(t, g, other, true)
			holdAlike(t, g, with(other, to(99, -1, 0), to(98, len(g.Nodes)), api.Node{}), true)
			if now := hold(t, other); !equal(now, canon) {
				t.Fatalf("%+v: Canon %+v, not %+v", other, now, canon)
			}
		}
		places := upTo(len(g.Nodes))
		slices.Reverse(places)
		for _, c := range changed(g) {
			hold(t, c)
			want := alike(g, c)
			holdAlike(t, g, c, want)
			holdAlike(t, g, laid(c, places), want)
			if !want {
				unlike++
			}
		}
		if unlike == 0 {
			t.Errorf("%+v: no change makes it another one", g)
		}
	}
}

// I2: each one change of all graphs of three nodes with two pointers each is told by the chapter's words.
func TestChangedSmall(t *testing.T) {
	for i, g := range small(3, 1, []int{2}, nil) {
		if i%13 != 0 { // as many of them as go in a second
			continue
		}
		for _, c := range changed(g) {
			if want := alike(g, c); Alike(g, c) != want {
				t.Fatalf("Alike(%+v, %+v): not %v", g, c, want)
			}
		}
	}
}

// I2: pairs by name.
func TestAlikeByHand(t *testing.T) {
	for i, x := range []struct {
		a, b api.Graph
		want bool
	}{
		{api.Graph{}, api.Graph{}, true},
		{api.Graph{}, api.Graph{Nodes: []api.Node{}, Roots: []int{}}, true},
		{api.Graph{}, api.Graph{Nodes: []api.Node{to(5, 0)}}, true}, // a node that no root reaches
		{api.Graph{}, api.Graph{Roots: []int{-1}}, false},
		{api.Graph{Roots: row(15, -1)}, api.Graph{Roots: row(16, -1)}, false},
		{api.Graph{Roots: row(16, -1)}, api.Graph{Roots: row(16, -1)}, true},
		// Another order.
		{api.Graph{Nodes: []api.Node{to(5, 1), to(6)}, Roots: []int{0}}, api.Graph{Nodes: []api.Node{to(6), to(5, 0)}, Roots: []int{1}}, true},
		{api.Graph{Nodes: []api.Node{to(5), to(6)}, Roots: []int{0, 1}}, api.Graph{Nodes: []api.Node{to(5), to(6)}, Roots: []int{1, 0}}, false},
		{api.Graph{Nodes: []api.Node{to(5), to(5)}, Roots: []int{0, 1}}, api.Graph{Nodes: []api.Node{to(5), to(5)}, Roots: []int{1, 0}}, true},
		// What a node reached by nothing holds, or points to.
		{api.Graph{Nodes: []api.Node{to(5), to(6, 0)}, Roots: []int{0}}, api.Graph{Nodes: []api.Node{to(5), to(7, -1, 1)}, Roots: []int{0}}, true},
		{api.Graph{Nodes: []api.Node{to(5), to(6)}, Roots: []int{0, 1}}, api.Graph{Nodes: []api.Node{to(5), to(6)}, Roots: []int{0, -1}}, false},
		// Ptrs and Data, how many.
		{api.Graph{Nodes: []api.Node{{Ptrs: []int{-1}}}, Roots: []int{0}}, api.Graph{Nodes: []api.Node{{}}, Roots: []int{0}}, false},
		{api.Graph{Nodes: []api.Node{{Data: []uint64{0}}}, Roots: []int{0}}, api.Graph{Nodes: []api.Node{{}}, Roots: []int{0}}, false},
		{api.Graph{Nodes: []api.Node{{Data: []uint64{0}}}, Roots: []int{0}}, api.Graph{Nodes: []api.Node{{Ptrs: []int{-1}}}, Roots: []int{0}}, false},
		{api.Graph{Nodes: []api.Node{{Ptrs: []int{}, Data: []uint64{}}}, Roots: []int{0}}, api.Graph{Nodes: []api.Node{{}}, Roots: []int{0}}, true},
		{api.Graph{Nodes: []api.Node{{Data: []uint64{5, 6}}}, Roots: []int{0}}, api.Graph{Nodes: []api.Node{{Data: []uint64{6, 5}}}, Roots: []int{0}}, false},
		{api.Graph{Nodes: []api.Node{to(5, -1, 0)}, Roots: []int{0}}, api.Graph{Nodes: []api.Node{to(5, 0, -1)}, Roots: []int{0}}, false},
		// One node would have to stand beside two.
		{api.Graph{Nodes: []api.Node{to(5)}, Roots: []int{0, 0}}, api.Graph{Nodes: []api.Node{to(5), to(5)}, Roots: []int{0, 1}}, false},
		{api.Graph{Nodes: []api.Node{to(5), to(5)}, Roots: []int{0, 0}}, api.Graph{Nodes: []api.Node{to(5), to(5)}, Roots: []int{0, 1}}, false},
		{api.Graph{Nodes: []api.Node{to(5, 1, 1), to(6)}, Roots: []int{0}}, api.Graph{Nodes: []api.Node{to(5, 1, 2), to(6), to(6)}, Roots: []int{0}}, false},
		{api.Graph{Nodes: []api.Node{to(5, 0)}, Roots: []int{0}}, api.Graph{Nodes: []api.Node{to(5, 1), to(5, 0)}, Roots: []int{0}}, false},
		{api.Graph{Nodes: []api.Node{to(5, 1), to(5, 0)}, Roots: []int{0}}, api.Graph{Nodes: []api.Node{to(5, 1), to(5, 1)}, Roots: []int{0}}, false},
		{api.Graph{Nodes: []api.Node{to(5, 1), to(5, 2), to(5, 0)}, Roots: []int{0}}, api.Graph{Nodes: []api.Node{to(5, 1), to(5, 0)}, Roots: []int{0}}, false},
		{api.Graph{Nodes: []api.Node{to(5, 0), to(5, 1)}, Roots: []int{0, 1}}, api.Graph{Nodes: []api.Node{to(5, 1), to(5, 0)}, Roots: []int{0, 1}}, false},
	} {
		if alike(x.a, x.b) != x.want {
			t.Fatalf("%d: by the chapter's words: %v", i, !x.want)
		}
		holdAlike(t, x.a, x.b, x.want)
	}
}

// acts are all with small numbers, within and without what may be of graphs of two roots.
func acts() []api.Act {
	var l []api.Act
	for kind := -1; kind <= 8; kind++ {
		for i := range 64 {
			a := api.Act{Kind: kind, R: i%4 - 1, S: i/4%4 - 1, I: i/16 - 1, V: 99, Shape: api.Shape{Size: i / 16, Ptrs: i / 32}}
			l = append(l, a)
		}
	}
	return append(l, api.Act{Kind: api.New, Shape: api.Shape{Size: 256}}, api.Act{Kind: api.New, Shape: api.Shape{Size: 1, Ptrs: 2}})
}

// I3: what each act tells of alike graphs is the same, and they stay alike.
func TestActs(t *testing.T) {
	graphs := slices.Concat(small(0, 2, nil), small(1, 2, []int{0, 1, 2}, []uint64{5, 6}), small(2, 2, []int{1}, nil, []uint64{5}), []api.Graph{three(), five()})
	for _, g := range graphs {
		canon := hold(t, g)
		places := upTo(len(g.Nodes))
		slices.Reverse(places)
		other := with(laid(g, places), to(99, 0), to(98, -1))
		if len(g.Nodes) == 0 {
			other = with(g, api.Node{})
		}
		for _, a := range acts() {
			holdAct(t, g, other, a)
			holdAct(t, g, canon, a)
		}
	}
}

func holdAct(t *testing.T, g, other api.Graph, a api.Act) {
	t.Helper()
	v, now, e := graph.Do(g, a)
	w, then, f := graph.Do(other, a)
	if v != w || e != f {
		t.Fatalf("%+v: of %+v %d %d, of %+v %d %d", a, g, v, e, other, w, f)
	}
	if e == api.OK && (!Alike(now, then) || !alike(now, then)) {
		t.Fatalf("%+v: behind it are %+v and %+v", a, now, then)
	}
}

// chance is a row of numbers far from one another: the same one each time.
type chance uint64

func (c *chance) below(n int) int {
	*c = *c*6364136223846793005 + 1442695040888963407
	return int((uint64(*c) >> 33) % uint64(n))
}

// graph is one of so many nodes, each pointer to any of them, or to none.
func (c *chance) graph(nodes int) api.Graph {
	pointers := func(n int) []int {
		l := make([]int, n)
		for i := range l {
			l[i] = c.below(nodes+1) - 1
		}
		return l
	}
	g := api.Graph{Roots: pointers(1 + c.below(4))}
	for range nodes {
		n := api.Node{Ptrs: pointers(c.below(4))}
		for range c.below(3) {
			n.Data = append(n.Data, uint64(c.below(3)))
		}
		g.Nodes = append(g.Nodes, n)
	}
	return g
}

// places are those of so many nodes, in whatever order.
func (c *chance) places(nodes int) []int {
	l := upTo(nodes)
	for i := range l {
		k := c.below(i + 1)
		l[i], l[k] = l[k], l[i]
	}
	return l
}

// I1, I2, I3: graphs of more nodes, in other orders, with one change each.
func TestMore(t *testing.T) {
	live := 0
	for n := range 60 {
		c := chance(n)
		nodes := 1 + n
		g := c.graph(nodes)
		live += len(hold(t, g).Nodes)
		other := with(laid(g, c.places(nodes)), c.graph(nodes).Nodes...)
		hold(t, other)
		holdAlike(t, g, other, true)
		l := changed(g)
		for range 40 {
			x := l[c.below(len(l))]
			holdAlike(t, other, laid(x, c.places(nodes)), paired(g, x))
		}
	}
	if live < 200 {
		t.Errorf("only %d live nodes in all", live)
	}
}

// Z6: many nodes, in a row, and many pointers.
func TestMany(t *testing.T) {
	const n = 100000
	up, down := api.Graph{Roots: []int{0}}, api.Graph{Roots: []int{n - 1}}
	for i := range n {
		up.Nodes = append(up.Nodes, to(uint64(i), min(i+1, n-1)))
		down.Nodes = append(down.Nodes, to(uint64(n-1-i), max(i-1, 0)))
	}
	backward := upTo(n)
	slices.Reverse(backward)
	if !slices.Equal(Order(up), upTo(n)) || !slices.Equal(Order(down), backward) {
		t.Error("Order of a row")
	}
	now, e := Canon(down)
	if e != api.OK || !equal(now, up) {
		t.Error("Canon of a row")
	}
	holdAlike(t, up, down, true)
	up.Nodes[n-1].Data[0]++
	holdAlike(t, up, down, false)
	up.Nodes[n-1].Data[0]--
	up.Nodes[n-1].Ptrs[0] = -1
	holdAlike(t, up, down, false)

	// Each of many to many.
	wide := api.Graph{Nodes: row(1000, api.Node{Ptrs: upTo(255)}), Roots: upTo(16)}
	if !slices.Equal(Order(wide), upTo(255)) {
		t.Error("Order of many pointers")
	}
	wide.Roots[0] = 999
	if l := Order(wide); !slices.Equal(l, slices.Concat([]int{999}, upTo(16)[1:], []int{0}, upTo(255)[16:])) {
		t.Errorf("Order of many pointers: %v", l)
	}
}

// roomy is l with room behind it, in which v stands three times.
func roomy[T any](l []T, v T) []T { return slices.Concat(l, row(3, v))[:len(l)] }

// roomyGraph is g, with room behind each of its lists.
func roomyGraph(g api.Graph) api.Graph {
	now := api.Graph{Nodes: roomy(g.Nodes, to(77, 77)), Roots: roomy(g.Roots, 77)}
	for i, n := range now.Nodes {
		now.Nodes[i] = api.Node{Ptrs: roomy(n.Ptrs, 77), Data: roomy(n.Data, 77)}
	}
	return now
}

// whole is a graph, with all that stands in the room behind its lists, in memory of its own.
func whole(g api.Graph) api.Graph {
	now := api.Graph{Roots: slices.Clone(g.Roots[:cap(g.Roots)])}
	for _, n := range g.Nodes[:cap(g.Nodes)] {
		now.Nodes = append(now.Nodes, api.Node{Ptrs: slices.Clone(n.Ptrs[:cap(n.Ptrs)]), Data: slices.Clone(n.Data[:cap(n.Data)])})
	}
	return now
}

// several are graphs of many kinds, not right ones among them.
func several() []api.Graph {
	one := api.Node{Ptrs: []int{1, -1, 0}, Data: []uint64{5, 6}}
	return append(wrongs()[:12], api.Graph{}, three(), five(),
		laid(five(), []int{4, 3, 2, 1, 0}),
		api.Graph{Nodes: []api.Node{one, one, one}, Roots: one.Ptrs}, // one list, several times
		api.Graph{Nodes: []api.Node{one, {Ptrs: one.Ptrs[:1], Data: one.Data[:1]}, {Ptrs: one.Ptrs[1:], Data: one.Data[1:]}}, Roots: one.Ptrs[:2]},
		api.Graph{Roots: row(4, -1)},
		api.Graph{Nodes: []api.Node{{Data: []uint64{1}}, {Ptrs: []int{0, 0}}, {}}, Roots: []int{1, -1, 2, 1}},
	)
}

// R3: neither what is handed in, nor what stands behind its length, is written into, and what is behind it is not read.
func TestHandedIn(t *testing.T) {
	for i, g := range several() {
		room := roomyGraph(g)
		was := whole(room)
		if !slices.Equal(Order(room), Order(g)) {
			t.Errorf("%d: Order: %v, with room %v", i, Order(g), Order(room))
		}
		now, e := Canon(g)
		if other, f := Canon(room); e != f || !equal(now, other) {
			t.Errorf("%d: Canon: %+v %d, with room %+v %d", i, now, e, other, f)
		}
		for k, h := range several() {
			second := roomyGraph(h)
			before := whole(second)
			if Alike(room, second) != Alike(g, h) {
				t.Errorf("%d, %d: Alike: %v, with room %v", i, k, Alike(g, h), Alike(room, second))
			}
			holdSame(t, second, before)
		}
		holdSame(t, room, was)
	}
}

// holdSame holds that a graph is as it was, what stands behind its lists too.
func holdSame(t *testing.T, g, was api.Graph) {
	t.Helper()
	if !equal(whole(g), was) {
		t.Fatalf("changed: %+v, not %+v", whole(g), was)
	}
}

// spoil grows a list, and writes into it, into all of its spare room, and into all that it has grown.
func spoil[T any](l []T, v T) {
	for _, m := range [][]T{append(l, v), l} {
		for i := range m[:cap(m)] {
			m[:cap(m)][i] = v
		}
	}
}

// rooms are all lists of a graph but its Nodes, each with its spare room.
func rooms(g api.Graph) [][]uint64 {
	numbers := func(l []int) []uint64 {
		var all []uint64
		for _, p := range l[:cap(l)] {
			all = append(all, uint64(p))
		}
		return all
	}
	l := [][]uint64{numbers(g.Roots)}
	for _, n := range g.Nodes {
		l = append(l, numbers(n.Ptrs), slices.Clone(n.Data[:cap(n.Data)]))
	}
	return l
}

// spoilers are, of each of these lists, what spoils it.
func spoilers(g api.Graph) []func() {
	l := []func(){func() { spoil(g.Roots, 99) }}
	for _, n := range g.Nodes {
		l = append(l, func() { spoil(n.Ptrs, 99) }, func() { spoil(n.Data, 99) })
	}
	return l
}

// R3: what comes out is new memory, spare room too, and no two lists of it share any: whoever writes into one, or grows it, changes neither what was handed in, nor another answer, nor another list of the same one.
func TestNewMemory(t *testing.T) {
	for _, g := range several() {
		room := roomyGraph(g)
		handed := whole(room)
		order, other := Order(room), Order(room)
		spoil(order, 99)
		if want := Order(g); !slices.Equal(other, want) || !slices.Equal(Order(room), want) {
			t.Fatalf("Order(%+v): %v, and %v behind it, not %v", g, other, Order(room), want)
		}
		holdSame(t, room, handed)
		holdOwn(t, room)
	}
}

// holdOwn holds that each list of a Canon is nobody else's.
func holdOwn(t *testing.T, g api.Graph) {
	t.Helper()
	handed := whole(g)
	other, _ := Canon(g)
	was := whole(other)
	for k := range rooms(other) {
		now, _ := Canon(g)
		rest := slices.Delete(rooms(now), k, k+1)
		spoilers(now)[k]()
		if left := slices.Delete(rooms(now), k, k+1); !slices.EqualFunc(left, rest, slices.Equal) {
			t.Fatalf("Canon(%+v): with list %d another one is changed: %v, not %v", g, k, left, rest)
		}
		holdSame(t, g, handed)
		holdSame(t, other, was)
	}
	now, _ := Canon(g)
	spoil(now.Nodes, to(99, 99))
	holdSame(t, g, handed)
	holdSame(t, other, was)
	if again, _ := Canon(g); !equal(again, other) {
		t.Fatalf("Canon(%+v): %+v behind %+v", g, again, other)
	}
}

// told is all that is answered of one graph, and of it beside another.
type told struct {
	order []int
	canon api.Graph
	e     api.Errno
	alike [2]bool
}

func ask(g, beside api.Graph) told {
	now, e := Canon(g)
	return told{Order(g), now, e, [2]bool{Alike(g, beside), Alike(beside, g)}}
}

func (x told) is(y told) bool {
	return slices.Equal(x.order, y.order) && equal(x.canon, y.canon) && x.e == y.e && x.alike == y.alike
}

// R4: two calls, one behind the other, with other graphs between them, answer the same.
func TestAgain(t *testing.T) {
	for i, g := range several() {
		first := ask(g, three())
		for k, other := range several() {
			ask(other, g)
			ask(g, other)
			if again := ask(g, three()); !again.is(first) {
				t.Fatalf("%d, behind %d: %+v, not %+v", i, k, again, first)
			}
		}
	}
}

// R4: the same answers for all, however they run.
func TestAtOnce(t *testing.T) {
	l := several()
	var want []told
	for _, g := range l {
		want = append(want, ask(g, five()))
	}
	beside := five()
	var all sync.WaitGroup
	for i := range 16 {
		all.Go(func() {
			for k := range 100 {
				at := (i + k) % len(l)
				if x := ask(l[at], beside); !x.is(want[at]) {
					t.Errorf("%d: %+v, not %+v", at, x, want[at])
					return
				}
			}
		})
	}
	all.Wait()
}
