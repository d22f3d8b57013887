package tests

import (
	"math"
	"slices"
	"strconv"
	"strings"
	"testing"

	"loop.example/graphpatterns/impl"
)

// crossing has two edges that lead the same way, one that leads back, and one
// from a node to itself.
const crossing = "(a 1)(b 2)( 3)[0>1 r 1][1>0 s 2][1>2 r 3][2>2 s 4][0>1 r 1]"

// walkOf returns the walk with these nodes and edges, by turns.
func walkOf(nums ...int) impl.Walk {
	var w impl.Walk
	for i, num := range nums {
		if i%2 == 0 {
			w.Nodes = append(w.Nodes, num)
		} else {
			w.Edges = append(w.Edges, num)
		}
	}
	return w
}

// straight returns a walk with so many edges, and with each number once.
func straight(edges int) impl.Walk {
	w := impl.Walk{Nodes: []int{0}}
	for i := range edges {
		w.Nodes, w.Edges = append(w.Nodes, i+1), append(w.Edges, i)
	}
	return w
}

// standing returns a walk with so many edges, which stays at the node 0.
func standing(edges int) impl.Walk {
	return impl.Walk{Nodes: make([]int, edges+1), Edges: make([]int, edges)}
}

// misshapen returns walks that do not have their shape.
func misshapen() map[string]impl.Walk {
	return map[string]impl.Walk{
		"nothing":                     {},
		"nothing, empty":              {Nodes: []int{}, Edges: []int{}},
		"an edge only":                {Edges: []int{0}},
		"8 edges only":                {Edges: make([]int, 8)},
		"a node and an edge":          {Nodes: []int{0}, Edges: []int{0}},
		"a node and two edges":        {Nodes: []int{0}, Edges: []int{0, 0}},
		"two nodes and no edge":       {Nodes: []int{0, 0}},
		"two nodes and two edges":     {Nodes: []int{0, 0}, Edges: []int{0, 0}},
		"three nodes and an edge":     {Nodes: []int{0, 0, 0}, Edges: []int{0}},
		"8 nodes and 8 edges":         {Nodes: make([]int, 8), Edges: make([]int, 8)},
		"10 nodes and 8 edges":        {Nodes: make([]int, 10), Edges: make([]int, 8)},
		"9 nodes and 9 edges":         {Nodes: make([]int, 9), Edges: make([]int, 9)},
		"9 edges":                     standing(9),
		"9 edges with other ends":     straight(9),
		"10 edges":                    standing(10),
		"1000 edges":                  straight(1000),
		"1000 nodes and no edge":      {Nodes: make([]int, 1000)},
		"256 edges":                   standing(256),
		"9 nodes and no edge":         {Nodes: straight(8).Nodes},
		"8 edges with the nodes of 7": {Nodes: straight(7).Nodes, Edges: straight(8).Edges},
	}
}

// expectWalk fails unless w is wanted, and ok holds.
func expectWalk(t *testing.T, what string, w impl.Walk, ok bool, want impl.Walk) {
	t.Helper()
	if !ok || !plainWalkSame(w, want) {
		t.Errorf("%.80s = %v, %v, not %v", what, w, ok, want)
	}
}

// expectNoWalk fails unless w is the zero value, and ok is false.
func expectNoWalk(t *testing.T, what string, w impl.Walk, ok bool) {
	t.Helper()
	if ok || len(w.Nodes) != 0 || len(w.Edges) != 0 {
		t.Errorf("%.80s = %v, %v", what, w, ok)
	}
}

// The plain functions are written without the package, for testing it.
func plainWalkSame(a impl.Walk, b impl.Walk) bool {
	return slices.Equal(a.Nodes, b.Nodes) && slices.Equal(a.Edges, b.Edges)
}

func plainShape(w impl.Walk) bool {
	return len(w.Nodes)-len(w.Edges) == 1 && len(w.Nodes) <= 9
}

// plainWalkValid expects a valid graph.
func plainWalkValid(g impl.Graph, w impl.Walk) bool {
	if !plainShape(w) || w.Nodes[0] < 0 || w.Nodes[0] >= len(g.Nodes) {
		return false
	}
	for i, edge := range w.Edges {
		if edge < 0 || edge >= len(g.Edges) {
			return false
		}
		ends := [2]int{w.Nodes[i], w.Nodes[i+1]}
		if e := g.Edges[edge]; ends != [2]int{e.From, e.To} && ends != [2]int{e.To, e.From} {
			return false
		}
	}
	return true
}

func plainListBefore(a []int, b []int) bool {
	for i := range min(len(a), len(b)) {
		if a[i] != b[i] {
			return a[i] < b[i]
		}
	}
	return len(a) < len(b)
}

func plainBefore(a impl.Walk, b impl.Walk) bool {
	if len(a.Edges) != len(b.Edges) {
		return len(a.Edges) < len(b.Edges)
	}
	return plainListBefore(a.Nodes, b.Nodes) || slices.Equal(a.Nodes, b.Nodes) && plainListBefore(a.Edges, b.Edges)
}

// countOf returns how many numbers a list has, if equal ones count once.
func countOf(list []int) int {
	found := map[int]bool{}
	for _, num := range list {
		found[num] = true
	}
	return len(found)
}

func plainMode(w impl.Walk, mode int) bool {
	if !plainShape(w) {
		return false
	}
	nodes := countOf(w.Nodes)
	round := len(w.Edges) > 0 && w.Nodes[0] == w.Nodes[len(w.Edges)]
	switch mode {
	case 1:
		return true
	case 2:
		return countOf(w.Edges) == len(w.Edges)
	case 3:
		return nodes == len(w.Nodes)
	case 4:
		return nodes == len(w.Nodes) || round && nodes == len(w.Nodes)-1
	}
	return false
}

func plainTurnedWalk(w impl.Walk) impl.Walk {
	var turned impl.Walk
	for _, node := range w.Nodes {
		turned.Nodes = append([]int{node}, turned.Nodes...)
	}
	for _, edge := range w.Edges {
		turned.Edges = append([]int{edge}, turned.Edges...)
	}
	return turned
}

func plainText(w impl.Walk) string {
	var parts []string
	for i, node := range w.Nodes {
		parts = append(parts, strconv.Itoa(node))
		if i < len(w.Edges) {
			parts = append(parts, strconv.Itoa(w.Edges[i]))
		}
	}
	return strings.Join(parts, "-")
}

// allWalks returns all walks with so many edges, with nodes and edges of two
// lists, whether they are there in a graph or not.
func allWalks(edges int, nodes []int, nums []int) []impl.Walk {
	var list []impl.Walk
	for _, node := range nodes {
		list = append(list, walkOf(node))
	}
	for range edges {
		var longer []impl.Walk
		for _, w := range list {
			for _, num := range nums {
				for _, node := range nodes {
					longer = append(longer, impl.Walk{Nodes: append(slices.Clone(w.Nodes), node), Edges: append(slices.Clone(w.Edges), num)})
				}
			}
		}
		list = longer
	}
	return list
}

// smallWalks returns all walks in the numbers of crossing with at most so many
// edges.
func smallWalks(most int) []impl.Walk {
	var list []impl.Walk
	for edges := range most + 1 {
		list = append(list, allWalks(edges, []int{0, 1, 2}, []int{0, 1, 2, 3, 4})...)
	}
	return list
}

func TestWalkValid(t *testing.T) {
	g := parsed(t, crossing)
	for _, x := range []struct {
		w    impl.Walk
		want bool
	}{
		{walkOf(0), true}, {walkOf(2), true}, {walkOf(3), false}, {walkOf(-1), false},
		{walkOf(0, 0, 1), true}, {walkOf(1, 0, 0), true}, {walkOf(0, 1, 1), true}, {walkOf(0, 4, 1), true},
		{walkOf(0, 2, 1), false}, {walkOf(0, 0, 0), false}, {walkOf(1, 0, 1), false}, {walkOf(0, 0, 2), false},
		{walkOf(0, 0, 1, 0, 0), true}, {walkOf(0, 0, 1, 1, 0, 4, 1), true}, {walkOf(0, 0, 1, 2, 2, 3, 2, 2, 1, 1, 0), true},
		{walkOf(2, 3, 2), true}, {walkOf(2, 3, 2, 3, 2), true}, {walkOf(1, 3, 1), false}, {walkOf(2, 3, 1), false},
		{walkOf(0, 5, 1), false}, {walkOf(0, -1, 1), false}, {walkOf(-1, 0, 1), false}, {walkOf(1, 0, 3), false},
		{walkOf(0, 0, 1, 5, 2), false}, {walkOf(0, 0, 1, 2, 1), false}, {walkOf(0, 0, 1, 2, 2, 3, 3), false},
		{walkOf(math.MaxInt), false}, {walkOf(math.MinInt), false}, {walkOf(0, math.MaxInt, 1), false}, {walkOf(0, math.MinInt, 1), false},
	} {
		if got := impl.WalkValid(g, x.w); got != x.want {
			t.Errorf("WalkValid of %v = %v", x.w, got)
		}
	}
}

func TestWalkValidOfAllSmallWalks(t *testing.T) {
	for _, text := range []string{crossing, sample, "(a 1)", "(a 1)[0>0 r 1]", "(a 1)(b 2)[1>0 r 1]"} {
		g := parsed(t, text)
		count := 0
		for edges := range 3 {
			for _, w := range allWalks(edges, []int{-1, 0, 1, 2, 3}, []int{-1, 0, 1, 2, 3, 4, 5, 6}) {
				want := plainWalkValid(g, w)
				if want {
					count++
				}
				if got := impl.WalkValid(g, w); got != want {
					t.Errorf("WalkValid of %v in %s = %v", w, text, got)
				}
			}
		}
		if count < len(g.Nodes) {
			t.Errorf("only %d walks are valid in %s", count, text)
		}
	}
}

func TestWalkValidWithinLimits(t *testing.T) {
	loop, line := sized(1, 1), sized(8, 14)
	for i := range 7 {
		line.Edges[i] = impl.Edge{From: i, To: i + 1}
	}
	for edges := range 12 {
		if got := impl.WalkValid(loop, standing(edges)); got != (edges <= 8) {
			t.Errorf("WalkValid with %d edges = %v", edges, got)
		}
	}
	if !impl.WalkValid(line, straight(7)) || !impl.WalkValid(line, walkOf(7, 13, 7)) || impl.WalkValid(line, walkOf(7, 14, 7)) || impl.WalkValid(line, walkOf(8)) {
		t.Error("WalkValid is wrong in a graph at the limits")
	}
	back := walkOf(7, 6, 6, 5, 5, 4, 4, 3, 3, 2, 2, 1, 1, 0, 0)
	if !impl.WalkValid(line, back) || !impl.WalkValid(line, impl.Walk{Nodes: append(back.Nodes, 1), Edges: append(back.Edges, 0)}) {
		t.Error("WalkValid rejects a walk backwards")
	}
}

func TestWalkValidOfInvalidArguments(t *testing.T) {
	for what, w := range misshapen() {
		for _, g := range []impl.Graph{sized(1, 1), sized(1, 14), sampleGraph()} {
			if impl.WalkValid(g, w) {
				t.Errorf("WalkValid accepts %s", what)
			}
		}
	}
	for what, g := range invalidGraphs() {
		for _, w := range []impl.Walk{walkOf(0), walkOf(1), walkOf(0, 0, 0), walkOf(0, 0, 1), walkOf(1, 0, 0), {}} {
			if impl.WalkValid(g, w) {
				t.Errorf("WalkValid accepts %v in a graph with %s", w, what)
			}
		}
	}
}

func TestWalkSame(t *testing.T) {
	base := func() impl.Walk { return walkOf(0, 3, 1, 4, 0) }
	changes := map[string]func(w *impl.Walk){
		"first node":    func(w *impl.Walk) { w.Nodes[0] = 1 },
		"node":          func(w *impl.Walk) { w.Nodes[1] = 2 },
		"last node":     func(w *impl.Walk) { w.Nodes[2] = -1 },
		"first edge":    func(w *impl.Walk) { w.Edges[0] = 4 },
		"last edge":     func(w *impl.Walk) { w.Edges[1] = 3 },
		"node less":     func(w *impl.Walk) { w.Nodes = w.Nodes[:2] },
		"edge less":     func(w *impl.Walk) { w.Edges = w.Edges[:1] },
		"node more":     func(w *impl.Walk) { w.Nodes = append(w.Nodes, 0) },
		"edge more":     func(w *impl.Walk) { w.Edges = append(w.Edges, 0) },
		"order":         func(w *impl.Walk) { slices.Reverse(w.Edges) },
		"pair of lists": func(w *impl.Walk) { w.Nodes, w.Edges = w.Edges, w.Nodes },
		"list at all":   func(w *impl.Walk) { *w = impl.Walk{} },
	}
	if !impl.WalkSame(base(), base()) {
		t.Error("WalkSame distinguishes equal walks")
	}
	for what, change := range changes {
		changed := base()
		change(&changed)
		if impl.WalkSame(base(), changed) || impl.WalkSame(changed, base()) || !impl.WalkSame(changed, changed) {
			t.Errorf("WalkSame is wrong for another %s", what)
		}
	}
}

func TestWalkSameAcceptsAllWalks(t *testing.T) {
	again := misshapen()
	for what, w := range misshapen() {
		for other, v := range again {
			if impl.WalkSame(w, v) != plainWalkSame(w, v) {
				t.Errorf("WalkSame is wrong for %s and %s", what, other)
			}
		}
		if !impl.WalkSame(w, again[what]) {
			t.Errorf("WalkSame distinguishes two times %s", what)
		}
	}
	if !impl.WalkSame(walkOf(0), impl.Walk{Nodes: []int{0}, Edges: []int{}}) {
		t.Error("WalkSame distinguishes nil and empty slices")
	}
}

func TestTurnWalk(t *testing.T) {
	for _, x := range [][2]impl.Walk{
		{walkOf(7), walkOf(7)},
		{walkOf(0, 5, 1), walkOf(1, 5, 0)},
		{walkOf(0, 0, 1, 1, 2), walkOf(2, 1, 1, 0, 0)},
		{walkOf(0, 3, 1, 3, 0), walkOf(0, 3, 1, 3, 0)},
		{walkOf(0, 3, 1, 4, 0), walkOf(0, 4, 1, 3, 0)},
		{walkOf(0, 0, 1, 1, 2, 2, 0), walkOf(0, 2, 2, 1, 1, 0, 0)},
		{walkOf(-1, 200, -3), walkOf(-3, 200, -1)},
		{impl.Walk{}, impl.Walk{}},
		{impl.Walk{Nodes: []int{1, 2, 3}}, impl.Walk{Nodes: []int{3, 2, 1}}},
		{impl.Walk{Edges: []int{1, 2}}, impl.Walk{Edges: []int{2, 1}}},
		{impl.Walk{Nodes: []int{4}, Edges: []int{1, 2, 3}}, impl.Walk{Nodes: []int{4}, Edges: []int{3, 2, 1}}},
	} {
		expectWalk(t, "TurnWalk of "+plainText(x[0]), impl.TurnWalk(x[0]), true, x[1])
	}
}

func TestTurnWalkAcceptsAllWalks(t *testing.T) {
	list := smallWalks(2)
	for _, w := range misshapen() {
		list = append(list, w)
	}
	for edges := range 10 {
		list = append(list, straight(edges))
	}
	for _, w := range list {
		turned := impl.TurnWalk(w)
		expectWalk(t, "TurnWalk of "+plainText(w), turned, true, plainTurnedWalk(w))
		expectWalk(t, "TurnWalk of "+plainText(turned), impl.TurnWalk(turned), true, w)
	}
}

func TestJoinWalks(t *testing.T) {
	for _, x := range []struct{ a, b, want impl.Walk }{
		{walkOf(0), walkOf(0), walkOf(0)},
		{walkOf(0), walkOf(0, 5, 1), walkOf(0, 5, 1)},
		{walkOf(0, 5, 1), walkOf(1), walkOf(0, 5, 1)},
		{walkOf(0, 0, 1), walkOf(1, 1, 2), walkOf(0, 0, 1, 1, 2)},
		{walkOf(0, 3, 1), walkOf(1, 3, 0), walkOf(0, 3, 1, 3, 0)},
		{walkOf(0, 3, 1, 4, 0), walkOf(0, 3, 1, 4, 0), walkOf(0, 3, 1, 4, 0, 3, 1, 4, 0)},
		{walkOf(2, 2, 2), walkOf(2, 2, 2, 1, 1), walkOf(2, 2, 2, 2, 2, 1, 1)},
		{walkOf(-7, 100, -8), walkOf(-8, -1, 1000), walkOf(-7, 100, -8, -1, 1000)},
		{walkOf(math.MaxInt), walkOf(math.MaxInt, 0, math.MinInt), walkOf(math.MaxInt, 0, math.MinInt)},
	} {
		w, ok := impl.JoinWalks(x.a, x.b)
		expectWalk(t, "JoinWalks of "+plainText(x.a)+" and "+plainText(x.b), w, ok, x.want)
	}
	for _, x := range [][2]impl.Walk{
		{walkOf(0), walkOf(1)}, {walkOf(0, 0, 1), walkOf(0, 0, 1)}, {walkOf(0, 0, 1), walkOf(2)}, {walkOf(1), walkOf(0, 0, 1)},
		{walkOf(0, 0, 1), walkOf(2, 1, 1)}, {walkOf(0, 1, 2), walkOf(1, 2, 1)}, {walkOf(-1), walkOf(1)}, {walkOf(0), walkOf(math.MinInt)},
	} {
		w, ok := impl.JoinWalks(x[0], x[1])
		expectNoWalk(t, "JoinWalks of "+plainText(x[0])+" and "+plainText(x[1]), w, ok)
	}
}

func TestJoinWalksWithinLimits(t *testing.T) {
	for first := range 11 {
		for second := range 11 {
			a, b := straight(first), straight(second)
			for i := range b.Nodes {
				b.Nodes[i] += first
			}
			for i := range b.Edges {
				b.Edges[i] += first
			}
			what := "JoinWalks of " + number(first) + " and " + number(second) + " edges"
			w, ok := impl.JoinWalks(a, b)
			if first+second <= 8 {
				expectWalk(t, what, w, ok, straight(first+second))
			} else {
				expectNoWalk(t, what, w, ok)
			}
		}
	}
}

func TestJoinWalksOfMisshapenWalks(t *testing.T) {
	for what, bad := range misshapen() {
		last := 0
		if len(bad.Nodes) > 0 {
			last = bad.Nodes[len(bad.Nodes)-1]
		}
		for _, good := range []impl.Walk{walkOf(0), standing(1), standing(8), walkOf(last), walkOf(last, 0, 0)} {
			w, ok := impl.JoinWalks(bad, good)
			expectNoWalk(t, "JoinWalks of "+what+" and "+plainText(good), w, ok)
			w, ok = impl.JoinWalks(good, bad)
			expectNoWalk(t, "JoinWalks of "+plainText(good)+" and "+what, w, ok)
		}
		for other, bad2 := range misshapen() {
			w, ok := impl.JoinWalks(bad, bad2)
			expectNoWalk(t, "JoinWalks of "+what+" and "+other, w, ok)
		}
	}
}

func TestWalkMode(t *testing.T) {
	for _, x := range []struct {
		w    impl.Walk
		want string
	}{
		{walkOf(0), "1234"},
		{walkOf(99), "1234"},
		{walkOf(0, 0, 1), "1234"},
		{walkOf(0, 0, 1, 1, 2), "1234"},
		{walkOf(2, 2, 2), "124"},      // from a node to itself
		{walkOf(2, 2, 2, 2, 2), "1"},  // twice
		{walkOf(2, 2, 2, 3, 2), "12"}, // along two edges
		{walkOf(0, 0, 1, 0, 0), "14"}, // along an edge and back
		{walkOf(0, 0, 1, 0, 0, 1, 2), "1"},
		{walkOf(0, 0, 1, 3, 0), "124"}, // back along another one
		{walkOf(0, 0, 1, 1, 2, 2, 0), "124"},
		{walkOf(0, 0, 1, 1, 2, 2, 0, 3, 3), "12"},
		{walkOf(3, 3, 0, 0, 1, 1, 2, 2, 0), "12"},
		{walkOf(0, 0, 1, 1, 2, 0, 3), "134"},
		{walkOf(0, 0, 1, 1, 1, 2, 0), "12"},
		{walkOf(0, 0, 0, 1, 1), "12"},
		{walkOf(0, 0, 1, 1, 1), "12"},
		{walkOf(-1, -1, -2, -3, -1), "124"},
		{walkOf(0, 0, 1, 1, 0, 2, 1, 3, 0), "12"},
		{straight(8), "1234"},
		{standing(8), "1"},
	} {
		got := ""
		for mode := -2; mode <= 8; mode++ {
			if impl.WalkMode(x.w, mode) {
				got += strconv.Itoa(mode)
			}
		}
		if got != x.want {
			t.Errorf("WalkMode holds for %v and the modes %q, not %q", x.w, got, x.want)
		}
	}
}

func TestWalkModeOfAllSmallWalks(t *testing.T) {
	list := append(smallWalks(3), allWalks(4, []int{0, 1, 2}, []int{0, 1})...)
	list = append(list, allWalks(4, []int{0}, []int{0, 1, 2, 3})...)
	list = append(list, allWalks(3, []int{0, 1, 2, 3}, []int{0})...)
	for _, w := range list {
		for mode := range 6 {
			if got := impl.WalkMode(w, mode); got != plainMode(w, mode) {
				t.Errorf("WalkMode of %v and %d = %v", w, mode, got)
			}
		}
	}
}

// Each two places of a walk are compared, near ones and far ones.
func TestWalkModeOfEqualPlaces(t *testing.T) {
	for edges := range 9 {
		for second := range edges + 1 {
			for first := range second {
				w := straight(edges)
				w.Nodes[second] = w.Nodes[first]
				round := first == 0 && second == edges
				if impl.WalkMode(w, 3) || impl.WalkMode(w, 4) != round || !impl.WalkMode(w, 2) || !impl.WalkMode(w, 1) {
					t.Errorf("WalkMode of %v is wrong", w)
				}
				if second == edges {
					continue
				}
				w = straight(edges)
				w.Edges[second] = w.Edges[first]
				if impl.WalkMode(w, 2) || !impl.WalkMode(w, 3) || !impl.WalkMode(w, 4) || !impl.WalkMode(w, 1) {
					t.Errorf("WalkMode of %v is wrong", w)
				}
			}
		}
	}
}

func TestWalkModeOfInvalidArguments(t *testing.T) {
	for what, w := range misshapen() {
		for mode := -1; mode <= 6; mode++ {
			if impl.WalkMode(w, mode) {
				t.Errorf("%s are a walk of the mode %d", what, mode)
			}
		}
	}
	for edges := range 12 {
		if got := impl.WalkMode(straight(edges), impl.ModeAcyclic); got != (edges <= 8) {
			t.Errorf("WalkMode with %d edges = %v", edges, got)
		}
	}
	for _, mode := range []int{-1, 0, 5, 6, -4, 256 + 1, 1<<32 + 1, math.MaxInt, math.MinInt} {
		if impl.WalkMode(walkOf(0), mode) || impl.WalkMode(walkOf(0, 0, 1), mode) {
			t.Errorf("a walk is one of the mode %d", mode)
		}
	}
}

// expectOrder fails unless each walk of a list is in front of all behind it.
func expectOrder(t *testing.T, list []impl.Walk) {
	t.Helper()
	for i, a := range list {
		for j, b := range list {
			if got := impl.WalkBefore(a, b); got != (i < j) {
				t.Errorf("WalkBefore(%v, %v) = %v", a, b, got)
			}
		}
	}
}

func TestWalkBefore(t *testing.T) {
	expectOrder(t, []impl.Walk{
		walkOf(0), walkOf(1), walkOf(5), walkOf(10),
		walkOf(0, 0, 0), walkOf(0, 7, 0), walkOf(0, 0, 1), walkOf(0, 2, 1), walkOf(0, 10, 1), walkOf(0, 1, 2), walkOf(1, 0, 0), walkOf(1, 0, 1),
		walkOf(0, 5, 1, 6, 0), walkOf(0, 6, 1, 5, 0), walkOf(0, 6, 1, 6, 0), walkOf(0, 0, 1, 0, 1), walkOf(0, 0, 2, 0, 0), walkOf(2, 0, 0, 0, 0),
		standing(3), straight(3), standing(8), straight(8),
	})
}

// Walks that do not have their shape are in the same order.
func TestWalkBeforeOfAllWalks(t *testing.T) {
	expectOrder(t, []impl.Walk{
		{}, {Nodes: []int{math.MinInt}}, {Nodes: []int{-1}}, {Nodes: []int{0}}, {Nodes: []int{0, -1}}, {Nodes: []int{0, 0}}, {Nodes: []int{0, 0, 0}},
		{Nodes: []int{0, 1}}, {Nodes: []int{1}}, {Nodes: []int{math.MaxInt}}, {Nodes: []int{math.MaxInt, math.MinInt}},
		{Edges: []int{math.MinInt}}, {Edges: []int{0}}, {Edges: []int{1}}, {Edges: []int{math.MaxInt}},
		{Nodes: []int{-1}, Edges: []int{9}}, {Nodes: []int{0}, Edges: []int{0}}, {Nodes: []int{0}, Edges: []int{9}}, walkOf(0, 3, 0), walkOf(0, 3, 1),
		{Nodes: []int{0, 1, 0}, Edges: []int{2}}, {Nodes: []int{0, 1, 0}, Edges: []int{4}}, {Nodes: []int{1}, Edges: []int{0}},
		{Edges: []int{0, 0}}, {Edges: []int{0, 1}}, {Nodes: []int{0}, Edges: []int{-1, 0}}, walkOf(0, 0, 0, 0, 0),
		{Edges: make([]int, 9)}, standing(9), straight(9), standing(10), straight(1000),
	})
	if impl.WalkBefore(impl.Walk{}, impl.Walk{Nodes: []int{}, Edges: []int{}}) || impl.WalkBefore(impl.Walk{Nodes: []int{}, Edges: []int{}}, impl.Walk{}) {
		t.Error("WalkBefore distinguishes nil and empty slices")
	}
}

func TestWalkBeforeOfPairsOfWalks(t *testing.T) {
	list := append(allWalks(1, []int{-1, 0, 1}, []int{-1, 0, 1}), allWalks(2, []int{0, 1}, []int{3, 2})...)
	for _, w := range misshapen() {
		list = append(list, w)
	}
	list = append(list, walkOf(0), walkOf(1))
	for _, a := range list {
		for _, b := range list {
			if got := impl.WalkBefore(a, b); got != plainBefore(a, b) {
				t.Errorf("WalkBefore(%v, %v) = %v", a, b, got)
			}
		}
	}
}

// expectWalks fails unless WalksFrom returns the walks with these texts.
func expectWalks(t *testing.T, text string, node int, edges int, want ...string) {
	t.Helper()
	list, ok := impl.WalksFrom(parsed(t, text), node, edges)
	var got []string
	for _, w := range list {
		got = append(got, plainText(w))
	}
	if !ok || !slices.Equal(got, want) {
		t.Errorf("WalksFrom(%s, %d, %d) = %q, %v, not %q", text, node, edges, got, ok, want)
	}
}

func TestWalksFrom(t *testing.T) {
	const line = "(a 1)(b 2)(c 3)[0>1 r 1][1>2 r 1]"
	expectWalks(t, line, 1, 0, "1")
	expectWalks(t, line, 0, 1, "0-0-1")
	expectWalks(t, line, 1, 1, "1-0-0", "1-1-2")
	expectWalks(t, line, 0, 2, "0-0-1-0-0", "0-0-1-1-2")
	expectWalks(t, line, 2, 3, "2-1-1-0-0-0-1", "2-1-1-1-2-1-1")
	expectWalks(t, "(a 1)(b 2)[1>0 r 1]", 0, 4, "0-0-1-0-0-0-1-0-0")
	expectWalks(t, "(a 1)[0>0 r 1]", 0, 0, "0")
	expectWalks(t, "(a 1)[0>0 r 1]", 0, 4, "0-0-0-0-0-0-0-0-0")
	// Nodes count before edges, so that these are not in the order of edges.
	expectWalks(t, "(a 1)(b 2)[0>1 r 1][0>0 r 1]", 0, 1, "0-1-0", "0-0-1")
	expectWalks(t, "(a 1)(b 2)[0>1 r 1][1>0 r 1]", 0, 2, "0-0-1-0-0", "0-0-1-1-0", "0-1-1-0-0", "0-1-1-1-0")
	expectWalks(t, "(a 1)(b 2)(c 3)[0>1 r 1][0>1 r 1][1>2 r 1][1>0 r 1]", 0, 2,
		"0-0-1-0-0", "0-0-1-1-0", "0-0-1-3-0", "0-1-1-0-0", "0-1-1-1-0", "0-1-1-3-0", "0-3-1-0-0", "0-3-1-1-0", "0-3-1-3-0", "0-0-1-2-2", "0-1-1-2-2", "0-3-1-2-2")
	expectWalks(t, "(a 1)(b 2)(c 3)[0>1 r 1][1>2 r 1][2>0 r 1]", 0, 3,
		"0-0-1-0-0-0-1", "0-0-1-0-0-2-2", "0-0-1-1-2-2-0", "0-0-1-1-2-1-1", "0-2-2-2-0-0-1", "0-2-2-2-0-2-2", "0-2-2-1-1-0-0", "0-2-2-1-1-1-2")
}

func TestWalksFromANodeWithoutEdges(t *testing.T) {
	for edges := range 5 {
		list, ok := impl.WalksFrom(parsed(t, "(a 1)(b 2)[1>1 r 1]"), 0, edges)
		if !ok || len(list) != max(0, 1-edges) {
			t.Errorf("WalksFrom with %d edges = %v, %v", edges, list, ok)
		}
	}
}

// Promise 5: all walks with so many edges are there, each once, in order.
func TestWalksFromOfSmallGraphs(t *testing.T) {
	for _, text := range []string{crossing, sample, "(a 1)(b 2)( 3)", "(a 1)(b 2)[1>1 r 1][1>0 r 1][1>1 r 1]", "(a 1)(b 2)(c 3)[2>1 r 1][1>0 r 1][0>2 r 1]"} {
		g := parsed(t, text)
		for edges := range 4 {
			var walks []impl.Walk
			for _, w := range allWalks(edges, []int{0, 1, 2}, []int{0, 1, 2, 3, 4, 5}) {
				if plainWalkValid(g, w) {
					walks = append(walks, w)
				}
			}
			for node := range g.Nodes {
				checkWalksFrom(t, g, node, edges, walks)
			}
		}
	}
}

// checkWalksFrom fails unless WalksFrom returns those of walks that begin at a
// node.
func checkWalksFrom(t *testing.T, g impl.Graph, node int, edges int, walks []impl.Walk) {
	t.Helper()
	list, ok := impl.WalksFrom(g, node, edges)
	var want []impl.Walk
	for _, w := range walks {
		if w.Nodes[0] == node {
			want = append(want, w)
		}
	}
	slices.SortFunc(want, func(a, b impl.Walk) int {
		if plainBefore(a, b) {
			return -1
		}
		return 1
	})
	if !ok || !slices.EqualFunc(list, want, plainWalkSame) {
		t.Errorf("WalksFrom(%v, %d, %d) = %v, %v, not %v", g, node, edges, list, ok, want)
	}
}

func TestWalksFromWithinLimits(t *testing.T) {
	star := sized(8, 14)
	for i := range star.Edges {
		star.Edges[i] = impl.Edge{From: i % 7, To: 7}
	}
	// 14 edges at a node, and 2 at each other one; or 14 at each of two nodes.
	for _, x := range []struct {
		g      impl.Graph
		node   int
		counts []int
	}{
		{sized(1, 14), 0, []int{1, 14, 196, 2744, 38416}},
		{sized(8, 14), 7, []int{1, 14, 196, 2744, 38416}},
		{star, 7, []int{1, 14, 28, 392, 784}},
		{star, 3, []int{1, 2, 28, 56, 784}},
	} {
		for edges, count := range x.counts {
			list, ok := impl.WalksFrom(x.g, x.node, edges)
			if !ok || len(list) != count {
				t.Errorf("WalksFrom with %d edges of a graph at the limits = %d walks, %v", edges, len(list), ok)
			}
			for i, w := range list {
				if !plainWalkValid(x.g, w) || w.Nodes[0] != x.node || len(w.Edges) != edges || i > 0 && !plainBefore(list[i-1], w) {
					t.Fatalf("WalksFrom with %d edges of a graph at the limits has %v in the place %d", edges, w, i)
				}
			}
		}
	}
}

// expectNoWalks fails unless WalksFrom returns no walks, and false.
func expectNoWalks(t *testing.T, what string, g impl.Graph, node int, edges int) {
	t.Helper()
	if list, ok := impl.WalksFrom(g, node, edges); ok || len(list) != 0 {
		t.Errorf("WalksFrom of %s, %d and %d = %v, %v", what, node, edges, list, ok)
	}
}

func TestWalksFromOfInvalidArguments(t *testing.T) {
	g := parsed(t, crossing)
	for node := -2; node <= 4; node++ {
		for edges := -2; edges <= 7; edges++ {
			_, ok := impl.WalksFrom(g, node, edges)
			if want := node >= 0 && node <= 2 && edges >= 0 && edges <= 4; ok != want {
				t.Errorf("WalksFrom of %d and %d = %v", node, edges, ok)
			}
			if !ok {
				expectNoWalks(t, crossing, g, node, edges)
			}
		}
	}
	for _, num := range []int{-1, 8, 256, 1 << 32, math.MaxInt, math.MinInt} {
		expectNoWalks(t, crossing, g, num, 0)
		expectNoWalks(t, crossing, g, num, 1)
		expectNoWalks(t, crossing, g, 0, num)
		expectNoWalks(t, "a graph without edges", sized(1, 0), 0, num)
	}
	for what, bad := range invalidGraphs() {
		for node := -1; node <= 1; node++ {
			for edges := range 5 {
				expectNoWalks(t, "a graph with "+what, bad, node, edges)
			}
		}
	}
}

func TestFormatWalk(t *testing.T) {
	for text, w := range map[string]impl.Walk{
		"0":                                walkOf(0),
		"99":                               walkOf(99),
		"0-3-1-4-0":                        walkOf(0, 3, 1, 4, 0),
		"0-3-1-3-0":                        walkOf(0, 3, 1, 3, 0),
		"7-13-7":                           walkOf(7, 13, 7),
		"10-99-0":                          walkOf(10, 99, 0),
		"99-0-99":                          walkOf(99, 0, 99),
		"0-0-1-1-2-2-0":                    walkOf(0, 0, 1, 1, 2, 2, 0),
		strings.Repeat("99-99-", 8) + "99": {Nodes: slices.Repeat([]int{99}, 9), Edges: slices.Repeat([]int{99}, 8)},
	} {
		if got := impl.FormatWalk(w); got != text {
			t.Errorf("FormatWalk(%v) = %q, not %q", w, got, text)
		}
	}
}

func TestFormatWalkWithinLimits(t *testing.T) {
	for edges := range 12 {
		for place := range edges + 1 {
			for _, num := range []int{-100, -2, -1, 0, 1, 9, 10, 98, 99, 100, 101, 999, math.MaxInt, math.MinInt} {
				for _, atNode := range []bool{true, false} {
					w := straight(edges)
					if atNode {
						w.Nodes[place] = num
					} else if place < edges {
						w.Edges[place] = num
					} else {
						continue
					}
					want := ""
					if edges <= 8 && num >= 0 && num <= 99 {
						want = plainText(w)
					}
					if got := impl.FormatWalk(w); got != want {
						t.Errorf("FormatWalk(%v) = %q, not %q", w, got, want)
					}
				}
			}
		}
	}
	for what, w := range misshapen() {
		if got := impl.FormatWalk(w); got != "" {
			t.Errorf("FormatWalk of %s = %q", what, got)
		}
	}
}

// Promise 5: each walk has a text of its own, by which it is read back.
func TestWalksAreReadBack(t *testing.T) {
	list := append(smallWalks(3), allWalks(1, []int{0, 1, 9, 10, 11, 98, 99}, []int{0, 1, 9, 10, 11, 99})...)
	for num := range 100 {
		list = append(list, walkOf(num), walkOf(100-num-1, num, 7, num, num))
	}
	for edges := range 8 {
		list = append(list, straight(edges+1), standing(edges+1))
	}
	texts := map[string]impl.Walk{}
	for _, w := range list {
		text := impl.FormatWalk(w)
		if known, ok := texts[text]; text == "" || ok && !plainWalkSame(known, w) {
			t.Errorf("FormatWalk(%v) = %q, which is empty or that of %v", w, text, known)
		}
		texts[text] = w
		back, ok := impl.ParseWalk(text)
		expectWalk(t, "ParseWalk of "+text, back, ok, w)
	}
}

func TestParseWalkWithinLimits(t *testing.T) {
	for edges := range 30 {
		what := "ParseWalk with " + number(edges) + " edges"
		w, ok := impl.ParseWalk("5" + strings.Repeat("-0-5", edges))
		if edges <= 8 {
			expectWalk(t, what, w, ok, impl.Walk{Nodes: slices.Repeat([]int{5}, edges+1), Edges: make([]int, edges)})
		} else {
			expectNoWalk(t, what, w, ok)
		}
	}
	for num := range 120 {
		text := strconv.Itoa(num)
		for place := range 5 {
			parts := []string{"0", "3", "1", "4", "0"}
			parts[place] = text
			nums := []int{0, 3, 1, 4, 0}
			nums[place] = num
			w, ok := impl.ParseWalk(strings.Join(parts, "-"))
			if num <= 99 {
				expectWalk(t, "ParseWalk with "+text, w, ok, walkOf(nums...))
			} else {
				expectNoWalk(t, "ParseWalk with "+text, w, ok)
			}
		}
	}
}

func TestParseWalkOfOtherTexts(t *testing.T) {
	for _, text := range []string{
		"", " ", "-", "--", "---", "a", "x-0-1", "0-1", "0-", "0--", "0-1-", "0-1-2-", "0-1-2-3", "-0", "-1", "-0-1-2", "0--1", "0---1", "0-1--2", "0--1-2",
		"00", "01", "00-1-2", "0-01-2", "0-1-02", "0-00-0", "100", "100-0-0", "0-100-0", "0-0-100", "1000", "0-0-1-0-100", "+1", "0-+1-2", "1.", "1e1", "0x1",
		" 0", "0 ", "0\n", "\n0", "0\x00", "0 -1-2", "0- 1-2", "0-1 -2", "0-1- 2", "0-1-2 ", "0-1-2\n", "0_1_2", "0,1,2", "0>1>2", "0-a-1", "0-1-a", "0–1–2", "0−1−2",
		"(0)", "0-1-2;", "0-1-2 3", "٣", "9223372036854775807", "9223372036854775808", "18446744073709551616", "18446744073709551617", "0-18446744073709551616-0",
		"0-4294967296-0", "0-0-256-0-0-0", strings.Repeat("0", 10000), strings.Repeat("9", 10000), strings.Repeat("-", 10000),
		strings.Repeat("0-", 10000) + "0", strings.Repeat("0-", 16), strings.Repeat("0-", 17), strings.Repeat("0-", 17) + "0", strings.Repeat("0-", 18) + "0",
		strings.Repeat("0-", 16) + "0-", strings.Repeat("0-", 16) + "0 ", strings.Repeat("0-", 16) + "100", "\xff", "0-\xff-0",
	} {
		w, ok := impl.ParseWalk(text)
		expectNoWalk(t, "ParseWalk of "+strconv.Quote(text), w, ok)
	}
}

// readWalkPlainly reads a text without the package, for testing it.
func readWalkPlainly(text string) (impl.Walk, bool) {
	parts := strings.Split(text, "-")
	var nums []int
	for _, part := range parts {
		digits := strings.Trim(part, "0123456789") == "" && part != ""
		if !digits || len(part) > 2 || part != "0" && part[0] == '0' {
			return impl.Walk{}, false
		}
		num, _ := strconv.Atoi(part)
		nums = append(nums, num)
	}
	if len(nums)%2 == 0 || len(nums) > 17 {
		return impl.Walk{}, false
	}
	return walkOf(nums...), true
}

// expectWalkReading fails unless a text is read as readWalkPlainly reads it, and
// reports whether it is that of a walk.
func expectWalkReading(t *testing.T, text string) bool {
	t.Helper()
	w, ok := impl.ParseWalk(text)
	want, fine := readWalkPlainly(text)
	if !fine {
		expectNoWalk(t, "ParseWalk of "+strconv.Quote(text), w, ok)
		return false
	}
	expectWalk(t, "ParseWalk of "+strconv.Quote(text), w, ok, want)
	if back := impl.FormatWalk(w); back != text {
		t.Errorf("ParseWalk(%q) is the walk with the text %q", text, back)
	}
	return true
}

// Each short text is read as the document says, or not at all.
func TestParseWalkOfAllShortTexts(t *testing.T) {
	count := 0
	for _, text := range shortTexts([]string{"0", "1", "9", "-", " "}, 7) {
		if expectWalkReading(t, text) {
			count++
		}
	}
	if count < 500 {
		t.Errorf("only %d texts are those of walks", count)
	}
}

// A text that differs in one byte is that of another walk, or of none.
func TestParseWalkOfChangedTexts(t *testing.T) {
	for _, text := range []string{"5", "10-3-1-14-0", "0-0-1-0-0-2-99", strings.Repeat("7-0-", 8) + "7", strings.Repeat("7-0-", 7) + "7"} {
		count := 0
		for _, changed := range changedTexts(text) {
			if expectWalkReading(t, changed) {
				count++
			}
		}
		if count < 10 {
			t.Errorf("only %d changed texts of %s are those of walks", count, text)
		}
	}
}

// walksIn returns all walks of a graph with at most so many edges.
func walksIn(t *testing.T, g impl.Graph, most int) []impl.Walk {
	t.Helper()
	var list []impl.Walk
	for node := range g.Nodes {
		for edges := range most + 1 {
			walks, ok := impl.WalksFrom(g, node, edges)
			if !ok {
				t.Fatalf("WalksFrom(%v, %d, %d) fails", g, node, edges)
			}
			list = append(list, walks...)
		}
	}
	return list
}

// Promise 5: joined walks are those of the graph, with the texts of both, and
// turned they are joined the other way round.
func TestWalksAreJoinedAndTurned(t *testing.T) {
	g := parsed(t, crossing)
	list := walksIn(t, g, 2)
	for _, a := range list {
		for _, b := range list {
			joined, ok := impl.JoinWalks(a, b)
			if last := a.Nodes[len(a.Edges)]; last != b.Nodes[0] {
				expectNoWalk(t, "JoinWalks of "+plainText(a)+" and "+plainText(b), joined, ok)
				continue
			}
			text := plainText(a) + plainText(b)[1:]
			want, _ := readWalkPlainly(text)
			expectWalk(t, "JoinWalks of "+plainText(a)+" and "+plainText(b), joined, ok, want)
			if !impl.WalkValid(g, joined) || impl.FormatWalk(joined) != text {
				t.Errorf("%s and %s are joined to %v", plainText(a), plainText(b), joined)
			}
			turned, ok := impl.JoinWalks(impl.TurnWalk(b), impl.TurnWalk(a))
			expectWalk(t, "JoinWalks of both turned", turned, ok, plainTurnedWalk(want))
			checkTurned(t, g, joined)
		}
	}
}

// checkTurned fails unless a walk of a graph turned is one of it, of the same
// modes, and of the graph turned.
func checkTurned(t *testing.T, g impl.Graph, w impl.Walk) {
	t.Helper()
	turned := impl.TurnWalk(w)
	other, _ := impl.TurnGraph(g)
	if !impl.WalkValid(g, turned) || !impl.WalkValid(other, turned) || !impl.WalkValid(other, w) {
		t.Errorf("%v turned is %v, which is no walk", w, turned)
	}
	for mode := 1; mode <= 4; mode++ {
		if impl.WalkMode(turned, mode) != impl.WalkMode(w, mode) {
			t.Errorf("%v turned is %v, of other modes", w, turned)
		}
	}
	back, ok := impl.ParseWalk(impl.FormatWalk(turned))
	expectWalk(t, "ParseWalk of "+plainText(turned), back, ok, plainTurnedWalk(w))
}

// Longer walks are shorter ones joined: none is missing, and none is there twice.
func TestLongerWalksAreJoined(t *testing.T) {
	for _, text := range []string{crossing, sample, "(a 1)(b 2)(c 3)(d 4)[0>1 r 1][1>2 r 1][2>3 r 1][3>0 r 1][0>2 r 1]"} {
		g := parsed(t, text)
		for node := range g.Nodes {
			for edges := range 5 {
				list, _ := impl.WalksFrom(g, node, edges)
				for first := range edges + 1 {
					var joined []impl.Walk
					begins, _ := impl.WalksFrom(g, node, first)
					for _, a := range begins {
						ends, _ := impl.WalksFrom(g, a.Nodes[first], edges-first)
						for _, b := range ends {
							w, _ := impl.JoinWalks(a, b)
							joined = append(joined, w)
						}
					}
					slices.SortFunc(joined, func(a, b impl.Walk) int {
						return slices.Compare(append(slices.Clone(a.Nodes), a.Edges...), append(slices.Clone(b.Nodes), b.Edges...))
					})
					if !slices.EqualFunc(list, joined, plainWalkSame) {
						t.Errorf("WalksFrom(%s, %d, %d) = %v, but joined behind %d edges %v", text, node, edges, list, first, joined)
					}
				}
			}
		}
	}
}

// marked returns a list in memory of its own, with more of it behind, which has
// marks, so that a function that writes to it is seen.
func marked(list []int) []int {
	return append(slices.Clone(list), slices.Repeat([]int{-77}, 20)...)[:len(list)]
}

// markedWalk returns a walk with marks behind its lists.
func markedWalk(w impl.Walk) impl.Walk {
	return impl.Walk{Nodes: marked(w.Nodes), Edges: marked(w.Edges)}
}

// untouched reports whether a list made by marked is still so.
func untouched(list []int, want []int) bool {
	behind := list[len(list):cap(list)]
	return slices.Equal(list, want) && slices.Equal(behind[:20], slices.Repeat([]int{-77}, 20))
}

// untouchedWalk reports whether a walk made by markedWalk is still so.
func untouchedWalk(w impl.Walk, want impl.Walk) bool {
	return untouched(w.Nodes, want.Nodes) && untouched(w.Edges, want.Edges)
}

// wipeList writes over a list, and over the memory behind it.
func wipeList(list []int) {
	list = list[:cap(list)]
	for i := range list {
		list[i] = -55 - i
	}
}

// wipeWalk writes over a walk, and over the memory behind it.
func wipeWalk(w impl.Walk) {
	wipeList(w.Nodes)
	wipeList(w.Edges)
}

func TestWalksShareNoMemory(t *testing.T) {
	round := walkOf(0, 3, 1, 4, 0)
	for _, x := range []struct {
		what    string
		call    func(w impl.Walk) impl.Walk
		w, want impl.Walk
	}{
		{"TurnWalk", impl.TurnWalk, walkOf(0, 0, 1, 1, 2), walkOf(2, 1, 1, 0, 0)},
		{"TurnWalk of one node", impl.TurnWalk, walkOf(4), walkOf(4)},
		{"TurnWalk of nothing", impl.TurnWalk, impl.Walk{}, impl.Walk{}},
		{"TurnWalk of edges only", impl.TurnWalk, impl.Walk{Edges: []int{1, 2}}, impl.Walk{Edges: []int{2, 1}}},
		{"JoinWalks in front of", func(w impl.Walk) impl.Walk { return joinedWalk(w, walkOf(0, 7, 2)) }, round, walkOf(0, 3, 1, 4, 0, 7, 2)},
		{"JoinWalks behind", func(w impl.Walk) impl.Walk { return joinedWalk(walkOf(2, 7, 0), w) }, round, walkOf(2, 7, 0, 3, 1, 4, 0)},
		{"JoinWalks in front of a node", func(w impl.Walk) impl.Walk { return joinedWalk(w, walkOf(0)) }, round, round},
		{"JoinWalks behind a node", func(w impl.Walk) impl.Walk { return joinedWalk(walkOf(0), w) }, round, round},
		{"JoinWalks of one with itself", func(w impl.Walk) impl.Walk { return joinedWalk(w, w) }, round, walkOf(0, 3, 1, 4, 0, 3, 1, 4, 0)},
		{"JoinWalks of a node with itself", func(w impl.Walk) impl.Walk { return joinedWalk(w, w) }, walkOf(5), walkOf(5)},
	} {
		w := markedWalk(x.w)
		first, second := x.call(w), x.call(w)
		if !plainWalkSame(first, x.want) || !untouchedWalk(w, x.w) {
			t.Errorf("%s = %v, or its argument is changed", x.what, first)
		}
		wipeList(first.Nodes)
		if !slices.Equal(first.Edges, x.want.Edges) {
			t.Errorf("both lists of %s share memory", x.what)
		}
		wipeList(first.Edges)
		if !plainWalkSame(second, x.want) || !untouchedWalk(w, x.w) {
			t.Errorf("%s shares memory with its argument or another result", x.what)
		}
		wipeWalk(w)
		if !plainWalkSame(second, x.want) {
			t.Errorf("%s is in the memory of its argument", x.what)
		}
	}
}

// joinedWalk returns what JoinWalks returns, without its second result.
func joinedWalk(a impl.Walk, b impl.Walk) impl.Walk {
	w, _ := impl.JoinWalks(a, b)
	return w
}

func TestListsOfWalksShareNoMemory(t *testing.T) {
	g := parsed(t, crossing)
	for edges := range 5 {
		list, _ := impl.WalksFrom(g, 1, edges)
		again, _ := impl.WalksFrom(g, 1, edges)
		for i := range list {
			wipeList(list[i].Nodes)
			if !slices.Equal(list[i].Edges, again[i].Edges) {
				t.Errorf("both lists of %v share memory", again[i])
			}
			wipeList(list[i].Edges)
			for j := i + 1; j < len(list) && j < i+50; j++ {
				if !plainWalkSame(list[j], again[j]) {
					t.Fatalf("%v and %v of one result share memory", again[i], again[j])
				}
			}
		}
		checkWalksFrom(t, g, 1, edges, again)
	}
	if !impl.GraphSame(g, parsed(t, crossing)) {
		t.Error("WalksFrom changes its graph")
	}
	first, _ := impl.ParseWalk("0-3-1-4-0")
	wipeWalk(first)
	second, ok := impl.ParseWalk("0-3-1-4-0")
	expectWalk(t, "a text that is read again", second, ok, walkOf(0, 3, 1, 4, 0))
	wipeList(second.Nodes)
	if !slices.Equal(second.Edges, []int{3, 4}) {
		t.Error("both lists of ParseWalk share memory")
	}
}

func TestReadingLeavesWalksAlone(t *testing.T) {
	g := roomy()
	list := append(smallWalks(2), straight(8), straight(9), impl.Walk{}, impl.Walk{Nodes: []int{3, 1, 2}}, impl.Walk{Edges: []int{3, 1, 2}})
	for _, want := range list {
		a, b := markedWalk(want), markedWalk(want)
		impl.WalkValid(g, a)
		impl.WalkSame(a, b)
		impl.WalkBefore(a, b)
		impl.FormatWalk(a)
		impl.JoinWalks(a, b)
		impl.TurnWalk(a)
		for mode := range 6 {
			impl.WalkMode(a, mode)
		}
		if !untouchedWalk(a, want) || !untouchedWalk(b, want) {
			t.Errorf("a function that reads %v changes it", want)
		}
	}
	impl.WalksFrom(g, 0, 3)
	if !impl.GraphSame(whole(g), whole(roomy())) {
		t.Error("a function of walks changes its graph")
	}
}
