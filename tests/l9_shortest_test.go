package tests

import (
	"math"
	"math/rand"
	"slices"
	"strconv"
	"strings"
	"testing"

	"loop.example/graphpatterns/impl"
)

// numbered returns a list of matches with these walks, each one with a bind of
// its place, so that equal walks can be told apart.
func numbered(walks ...impl.Walk) []impl.Match {
	var list []impl.Match
	for i, w := range walks {
		list = append(list, impl.Match{Walk: w, Binds: []impl.Bind{{Var: "i", Ids: []int{i}}}})
	}
	return list
}

// listed returns such a list of matches, with the walks that are in a text with
// spaces between.
func listed(text string) []impl.Match {
	var walks []impl.Walk
	for _, word := range strings.Fields(text) {
		var nums []int
		for _, digits := range strings.Split(word, "-") {
			num, _ := strconv.Atoi(digits)
			nums = append(nums, num)
		}
		walks = append(walks, walkOf(nums...))
	}
	return numbered(walks...)
}

// textOf returns the texts of all matches of a list.
func textOf(list []impl.Match) string {
	return strings.Join(textsOf(list), ", ")
}

// The plain functions are written without chapter 9, by the document, for
// testing it. They want matches whose walks have their shape.

func plainSameEnds(a impl.Match, b impl.Match) bool {
	v, w := a.Walk, b.Walk
	return v.Nodes[0] == w.Nodes[0] && v.Nodes[len(v.Nodes)-1] == w.Nodes[len(w.Nodes)-1]
}

// inFront returns the matches in front of a place with the same ends as the one
// at this place.
func inFront(list []impl.Match, place int) []impl.Match {
	var others []impl.Match
	for _, m := range list[:place] {
		if plainSameEnds(m, list[place]) {
			others = append(others, m)
		}
	}
	return others
}

// fewerEdges returns the different numbers of edges, less than that of the match
// at a place, of all matches with its ends.
func fewerEdges(list []impl.Match, place int) []int {
	var counts []int
	for _, m := range list {
		if plainSameEnds(m, list[place]) && len(m.Walk.Edges) < len(list[place].Walk.Edges) {
			counts = append(counts, len(m.Walk.Edges))
		}
	}
	slices.Sort(counts)
	return slices.Compact(counts)
}

func plainChoice(list []impl.Match, way int) []impl.Match {
	var chosen []impl.Match
	for i, m := range list {
		shortest := len(fewerEdges(list, i)) == 0
		asMany := 0
		for _, other := range inFront(list, i) {
			if len(other.Walk.Edges) == len(m.Walk.Edges) {
				asMany++
			}
		}
		if way == 1 || way == 2 && len(inFront(list, i)) == 0 || way == 3 && shortest || way == 4 && shortest && asMany == 0 {
			chosen = append(chosen, m)
		}
	}
	return chosen
}

func plainFirst(list []impl.Match, count int) []impl.Match {
	var first []impl.Match
	for i, m := range list {
		if len(inFront(list, i)) < count {
			first = append(first, m)
		}
	}
	return first
}

func plainGroups(list []impl.Match, groups int) []impl.Match {
	var shortest []impl.Match
	for i, m := range list {
		if len(fewerEdges(list, i)) < groups {
			shortest = append(shortest, m)
		}
	}
	return shortest
}

func plainCounts(list []impl.Match) [][]int {
	var counts [][]int
	for i, m := range list {
		if len(inFront(list, i)) > 0 {
			continue
		}
		count := 0
		for _, other := range list {
			if plainSameEnds(m, other) {
				count++
			}
		}
		counts = append(counts, []int{m.Walk.Nodes[0], m.Walk.Nodes[len(m.Walk.Nodes)-1], count})
	}
	return counts
}

func plainFrom(list []impl.Match, node int) []impl.Match {
	var from []impl.Match
	for _, m := range list {
		if m.Walk.Nodes[0] == node {
			from = append(from, m)
		}
	}
	return from
}

// plainShortest returns the matches between two nodes with the fewest edges.
func plainShortest(list []impl.Match, from int, to int) []impl.Match {
	var between []impl.Match
	for _, m := range list {
		if m.Walk.Nodes[0] == from && m.Walk.Nodes[len(m.Walk.Edges)] == to {
			between = append(between, m)
		}
	}
	return slices.DeleteFunc(slices.Clone(between), func(m impl.Match) bool {
		return slices.ContainsFunc(between, func(other impl.Match) bool { return len(other.Walk.Edges) < len(m.Walk.Edges) })
	})
}

// expectPart fails unless a function has returned these matches, and true.
func expectPart(t *testing.T, what string, list []impl.Match, got []impl.Match, ok bool, want []impl.Match) {
	t.Helper()
	if !ok || !slices.EqualFunc(got, want, plainMatchSame) {
		t.Errorf("%s of %q = %q, %v, not %q", what, textOf(list), textOf(got), ok, textOf(want))
	}
}

// expectNoPart fails unless a function has returned no matches, and false.
func expectNoPart(t *testing.T, what string, got []impl.Match, ok bool) {
	t.Helper()
	if ok || len(got) != 0 {
		t.Errorf("%.80s = %d matches, %v", what, len(got), ok)
	}
}

// someNodes returns numbers of nodes: those that are in a list of matches, and
// those beside them.
func someNodes(list []impl.Match) []int {
	nodes := []int{-1, 0, 1, 2, 3}
	for _, m := range list {
		for _, node := range m.Walk.Nodes {
			nodes = append(nodes, node-1, node, node+1)
		}
	}
	slices.Sort(nodes)
	return slices.Compact(nodes)
}

// checkPicks fails unless all functions that pick matches of a list return what
// the document says.
func checkPicks(t *testing.T, list []impl.Match) {
	t.Helper()
	for way := 1; way <= 4; way++ {
		got, ok := impl.ChooseMatches(list, way)
		expectPart(t, "ChooseMatches by "+number(way), list, got, ok, plainChoice(list, way))
	}
	for _, count := range []int{0, 1, 2, 3, 4, 9, 10, len(list), len(list) + 1} {
		got, ok := impl.FirstMatches(list, count)
		expectPart(t, "FirstMatches by "+number(count), list, got, ok, plainFirst(list, count))
		got, ok = impl.ShortestGroups(list, count)
		expectPart(t, "ShortestGroups by "+number(count), list, got, ok, plainGroups(list, count))
	}
	if got, want := impl.CountEnds(list), plainCounts(list); !slices.EqualFunc(got, want, slices.Equal[[]int]) {
		t.Errorf("CountEnds of %q = %v, not %v", textOf(list), got, want)
	}
	for _, node := range someNodes(list) {
		got := impl.MatchesFrom(list, node)
		expectPart(t, "MatchesFrom "+strconv.Itoa(node), list, got, true, plainFrom(list, node))
	}
}

// placesOf returns the places of matches in the numbered list that they are of.
func placesOf(list []impl.Match) []int {
	var places []int
	for _, m := range list {
		places = append(places, m.Binds[0].Ids[0])
	}
	return places
}

// threeMatches are those of the document's example.
const threeMatches = "0-0-1 0-1-2-2-1 0-3-1"

// mixedMatches has several pairs of ends, in no order, some of them the other
// way round, and a walk that is there twice.
const mixedMatches = "1-0-0-0-1-0-0 0-0-1-1-2 1-0-0 0-1-2-2-0-0-2 1-4-0 0-3-2 0-5-2 2-3-0 0-3-2 1-1-2-3-0 1 0-0-1-0-0 0 0"

func TestChooseMatches(t *testing.T) {
	for _, x := range []struct {
		text string
		way  int
		want []int
	}{
		{threeMatches, impl.ChooseAll, []int{0, 1, 2}}, {threeMatches, impl.ChooseAny, []int{0}}, {threeMatches, impl.ChooseShortest, []int{0, 2}}, {threeMatches, impl.ChooseOne, []int{0}},
		// Several are shortest, and the first one with these ends is not.
		{"0-1-2-2-1 0-0-1 0-3-1", impl.ChooseAny, []int{0}}, {"0-1-2-2-1 0-0-1 0-3-1", impl.ChooseShortest, []int{1, 2}}, {"0-1-2-2-1 0-0-1 0-3-1", impl.ChooseOne, []int{1}},
		{"0-1-2-2-1 0-3-2-4-1", impl.ChooseShortest, []int{0, 1}}, {"0-1-2-2-1 0-3-2-4-1", impl.ChooseOne, []int{0}}, {"0-3-2-4-1 0-1-2-2-1 0-3-2-4-1", impl.ChooseOne, []int{0}},
		{"0-0-0-0-0 0-0-0 0", impl.ChooseAny, []int{0}}, {"0-0-0-0-0 0-0-0 0", impl.ChooseShortest, []int{2}}, {"0-0-0-0-0 0-0-0 0", impl.ChooseOne, []int{2}},
		// The same walk is there several times: each one counts.
		{"0 0 0", impl.ChooseAll, []int{0, 1, 2}}, {"0 0 0", impl.ChooseAny, []int{0}}, {"0 0 0", impl.ChooseShortest, []int{0, 1, 2}}, {"0 0 0", impl.ChooseOne, []int{0}},
		// Ends that are the other way round, or of which one is the same only, are others.
		{"0-0-1 1-0-0", impl.ChooseAny, []int{0, 1}}, {"0-0-1-0-0 0-0-1 1-0-0 1-0-0-0-1 1 0", impl.ChooseShortest, []int{1, 2, 4, 5}}, {"0-0-1-1-2 0-2-1 0-3-2 1-1-2", impl.ChooseOne, []int{1, 2, 3}},
		{mixedMatches, impl.ChooseAll, []int{0, 1, 2, 3, 4, 5, 6, 7, 8, 9, 10, 11, 12, 13}}, {mixedMatches, impl.ChooseAny, []int{0, 1, 7, 10, 11}},
		{mixedMatches, impl.ChooseShortest, []int{2, 4, 5, 6, 7, 8, 10, 12, 13}}, {mixedMatches, impl.ChooseOne, []int{2, 5, 7, 10, 12}},
		{"", impl.ChooseAll, nil}, {"", impl.ChooseAny, nil}, {"", impl.ChooseShortest, nil}, {"", impl.ChooseOne, nil},
		{"5", impl.ChooseAll, []int{0}}, {"5", impl.ChooseAny, []int{0}}, {"5", impl.ChooseShortest, []int{0}}, {"5", impl.ChooseOne, []int{0}},
	} {
		got, ok := impl.ChooseMatches(listed(x.text), x.way)
		if !ok || !slices.Equal(placesOf(got), x.want) {
			t.Errorf("ChooseMatches(%s, %d) = %v, %v, not %v", x.text, x.way, placesOf(got), ok, x.want)
		}
	}
}

// Other ways are none, whatever the list is.
func TestChooseMatchesInOtherWays(t *testing.T) {
	for _, way := range []int{math.MinInt, -1 << 32, -4, -3, -2, -1, 0, 1, 2, 3, 4, 5, 6, 7, 8, 1<<8 + 1, 1<<32 + 1, math.MaxInt} {
		for _, text := range []string{"", "0", threeMatches, mixedMatches} {
			got, ok := impl.ChooseMatches(listed(text), way)
			if way < 1 || way > 4 {
				expectNoPart(t, "ChooseMatches by "+strconv.Itoa(way), got, ok)
			} else if !ok || (len(got) == 0) != (text == "") {
				t.Errorf("ChooseMatches(%s, %d) = %v, %v", text, way, placesOf(got), ok)
			}
		}
	}
	if impl.ChooseAll != 1 || impl.ChooseAny != 2 || impl.ChooseShortest != 3 || impl.ChooseOne != 4 {
		t.Error("the ways have other numbers")
	}
}

func TestFirstMatches(t *testing.T) {
	for _, x := range []struct {
		text  string
		count int
		want  []int
	}{
		{threeMatches, 0, nil}, {threeMatches, 1, []int{0}}, {threeMatches, 2, []int{0, 1}}, {threeMatches, 3, []int{0, 1, 2}}, {threeMatches, 4, []int{0, 1, 2}}, {threeMatches, math.MaxInt, []int{0, 1, 2}},
		{"0-1-2-2-1 0-0-1 0-3-1", 1, []int{0}}, {"0-0-1 1-0-0 0-0-1 1-0-0", 1, []int{0, 1}}, {"0-0-1 1-0-0 0-0-1 1-0-0 0-0-1", 2, []int{0, 1, 2, 3}}, {"0 0 0 0", 3, []int{0, 1, 2}},
		{mixedMatches, 0, nil}, {mixedMatches, 1, []int{0, 1, 7, 10, 11}}, {mixedMatches, 2, []int{0, 1, 2, 3, 7, 10, 11, 12}}, {mixedMatches, 3, []int{0, 1, 2, 3, 4, 5, 7, 10, 11, 12, 13}}, {mixedMatches, 4, []int{0, 1, 2, 3, 4, 5, 6, 7, 9, 10, 11, 12, 13}},
		{mixedMatches, 5, []int{0, 1, 2, 3, 4, 5, 6, 7, 8, 9, 10, 11, 12, 13}}, {"", 0, nil}, {"", 1, nil}, {"", math.MaxInt, nil}, {"5", 0, nil}, {"5", 1, []int{0}},
	} {
		got, ok := impl.FirstMatches(listed(x.text), x.count)
		if !ok || !slices.Equal(placesOf(got), x.want) {
			t.Errorf("FirstMatches(%s, %d) = %v, %v, not %v", x.text, x.count, placesOf(got), ok, x.want)
		}
	}
}

func TestShortestGroups(t *testing.T) {
	for _, x := range []struct {
		text   string
		groups int
		want   []int
	}{
		{threeMatches, 0, nil}, {threeMatches, 1, []int{0, 2}}, {threeMatches, 2, []int{0, 1, 2}}, {threeMatches, 3, []int{0, 1, 2}}, {threeMatches, math.MaxInt, []int{0, 1, 2}},
		// Numbers of edges count once, and only those that are there.
		{"0-0-0 0-1-0 0-0-0-0-0-0-0 0-0-0-0-0 0", 1, []int{4}}, {"0-0-0 0-1-0 0-0-0-0-0-0-0 0-0-0-0-0 0", 2, []int{0, 1, 4}}, {"0-0-0 0-1-0 0-0-0-0-0-0-0 0-0-0-0-0 0", 3, []int{0, 1, 3, 4}},
		{"0-0-0-0-0-0-0-0-0 0-0-0 0-0-0-0-0-0-0-0-0", 1, []int{1}}, {"0-0-0-0-0-0-0-0-0 0-0-0 0-0-0-0-0-0-0-0-0", 2, []int{0, 1, 2}},
		// Those with other ends do not count.
		{"0-0-1-0-0 0-0-1 1 1-0-0", 1, []int{0, 1, 2, 3}}, {"0-0-1-1-2-3-0 0-0-1-1-2 0-0-1 0-0-1-0-0", 1, []int{1, 2, 3}},
		{mixedMatches, 0, nil}, {mixedMatches, 1, []int{2, 4, 5, 6, 7, 8, 10, 12, 13}}, {mixedMatches, 2, []int{1, 2, 4, 5, 6, 7, 8, 9, 10, 11, 12, 13}}, {mixedMatches, 3, []int{0, 1, 2, 3, 4, 5, 6, 7, 8, 9, 10, 11, 12, 13}},
		{"", 0, nil}, {"", 1, nil}, {"", math.MaxInt, nil}, {"5", 0, nil}, {"5", 1, []int{0}},
	} {
		got, ok := impl.ShortestGroups(listed(x.text), x.groups)
		if !ok || !slices.Equal(placesOf(got), x.want) {
			t.Errorf("ShortestGroups(%s, %d) = %v, %v, not %v", x.text, x.groups, placesOf(got), ok, x.want)
		}
	}
}

// Walks with their shape have 9 different numbers of edges, which make as many
// groups, in whatever order they are.
func TestGroupsOfAllNumbersOfEdges(t *testing.T) {
	var walks []impl.Walk
	for _, edges := range []int{3, 8, 0, 5, 1, 7, 2, 6, 4} {
		walks = append(walks, standing(edges), standing(edges))
	}
	list := numbered(walks...)
	checkPicks(t, list)
	for groups := range 12 {
		got, ok := impl.ShortestGroups(list, groups)
		if !ok || len(got) != 2*min(9, groups) {
			t.Errorf("%d groups have %d matches, %v", groups, len(got), ok)
		}
		for _, m := range got {
			if len(m.Walk.Edges) >= groups {
				t.Errorf("%d groups have one of %d edges", groups, len(m.Walk.Edges))
			}
		}
		// Without those of few edges, the groups are those of more.
		long := slices.DeleteFunc(slices.Clone(list), func(m impl.Match) bool { return len(m.Walk.Edges) < 6 })
		if got, ok := impl.ShortestGroups(long, groups); !ok || len(got) != 2*min(3, groups) {
			t.Errorf("%d groups of more edges have %d matches, %v", groups, len(got), ok)
		}
	}
}

func TestNegativeCountsAndGroups(t *testing.T) {
	for _, num := range []int{-1, -2, -400, -1 << 32, math.MinInt + 1, math.MinInt} {
		for _, text := range []string{"", "0", threeMatches, mixedMatches} {
			got, ok := impl.FirstMatches(listed(text), num)
			expectNoPart(t, "FirstMatches by "+strconv.Itoa(num), got, ok)
			got, ok = impl.ShortestGroups(listed(text), num)
			expectNoPart(t, "ShortestGroups by "+strconv.Itoa(num), got, ok)
		}
	}
}

func TestCountEnds(t *testing.T) {
	for text, want := range map[string][][]int{
		"": nil, "5": {{5, 5, 1}}, "0-0-1": {{0, 1, 1}}, threeMatches: {{0, 1, 3}}, "0 0 0": {{0, 0, 3}}, "0-0-1 1-0-0": {{0, 1, 1}, {1, 0, 1}},
		// Pairs are in the order of their first matches, and not of their nodes or counts.
		"2-0-1 1-0-2 0 1-0-0-1-2 1 0 0": {{2, 1, 1}, {1, 2, 2}, {0, 0, 3}, {1, 1, 1}}, "3 2 1 0 3": {{3, 3, 2}, {2, 2, 1}, {1, 1, 1}, {0, 0, 1}},
		mixedMatches: {{1, 0, 4}, {0, 2, 5}, {2, 0, 1}, {1, 1, 1}, {0, 0, 3}},
	} {
		if got := impl.CountEnds(listed(text)); !slices.EqualFunc(got, want, slices.Equal[[]int]) {
			t.Errorf("CountEnds(%s) = %v, not %v", text, got, want)
		}
	}
}

func TestMatchesFrom(t *testing.T) {
	for _, x := range []struct {
		text string
		node int
		want []int
	}{
		{threeMatches, 0, []int{0, 1, 2}}, {threeMatches, 1, nil}, {threeMatches, 2, nil}, {threeMatches, -1, nil}, {"", 0, nil}, {"0-0-1 1-0-0 1 0", 0, []int{0, 3}}, {"0-0-1 1-0-0 1 0", 1, []int{1, 2}},
		{mixedMatches, 0, []int{1, 3, 5, 6, 8, 11, 12, 13}}, {mixedMatches, 1, []int{0, 2, 4, 9, 10}}, {mixedMatches, 2, []int{7}}, {mixedMatches, 3, nil}, {mixedMatches, math.MinInt, nil}, {mixedMatches, math.MaxInt, nil},
		{"100 99 100-5-99", 100, []int{0, 2}},
	} {
		if got := impl.MatchesFrom(listed(x.text), x.node); !slices.Equal(placesOf(got), x.want) {
			t.Errorf("MatchesFrom(%s, %d) = %v, not %v", x.text, x.node, placesOf(got), x.want)
		}
	}
	// Nodes count as they are: no number is out of range.
	odd := numbered(walkOf(-1, 0, 0), walkOf(math.MinInt), walkOf(0, 0, -1), walkOf(math.MaxInt, 5, math.MinInt), walkOf(-1))
	for node, want := range map[int][]int{-1: {0, 4}, math.MinInt: {1}, 0: {2}, math.MaxInt: {3}, 1: nil} {
		if got := impl.MatchesFrom(odd, node); !slices.Equal(placesOf(got), want) {
			t.Errorf("MatchesFrom %d of odd walks = %v, not %v", node, placesOf(got), want)
		}
	}
}

// All short lists of few walks are picked from as the document says.
func TestPicksOfAllShortLists(t *testing.T) {
	walks := []impl.Walk{walkOf(0), walkOf(0, 0, 1), walkOf(0, 1, 1), walkOf(1, 0, 0), walkOf(0, 0, 0), walkOf(0, 0, 1, 0, 1), walkOf(0, 0, 0, 0, 0, 0, 1)}
	lists := [][]impl.Walk{nil}
	for range 4 {
		for _, list := range lists {
			checkPicks(t, numbered(list...))
		}
		var longer [][]impl.Walk
		for _, list := range lists {
			for _, w := range walks {
				longer = append(longer, append(slices.Clone(list), w))
			}
		}
		lists = longer
	}
	for i := 0; i < len(lists); i += 3 {
		checkPicks(t, numbered(lists[i]...))
	}
}

// randomWalk returns a walk with up to so many edges between few nodes.
func randomWalk(random *rand.Rand, most int) impl.Walk {
	w := walkOf(random.Intn(3))
	for range random.Intn(most + 1) {
		w.Nodes, w.Edges = append(w.Nodes, random.Intn(3)), append(w.Edges, random.Intn(4))
	}
	return w
}

func TestPicksOfManyLists(t *testing.T) {
	random := rand.New(rand.NewSource(10))
	several := 0
	for i := range 300 {
		var walks []impl.Walk
		for range i % 60 {
			walks = append(walks, randomWalk(random, 1+i%8))
		}
		list := numbered(walks...)
		checkPicks(t, list)
		if len(plainChoice(list, 3)) > len(plainChoice(list, 4)) && len(plainChoice(list, 2)) > 3 {
			several++
		}
	}
	if several < 100 {
		t.Errorf("only %d lists have several shortest matches", several)
	}
}

// Matches need not be those of a pattern: their walks have their shape, and that
// is enough.
func TestPicksOfOddMatches(t *testing.T) {
	var list []impl.Match
	for _, m := range oddMatches() {
		if len(m.Walk.Nodes) == len(m.Walk.Edges)+1 {
			list = append(list, m)
		}
	}
	slices.SortFunc(list, func(a, b impl.Match) int { return strings.Compare(plainMatchText(a), plainMatchText(b)) })
	checkPicks(t, list)
	checkPicks(t, numbered(straight(8), standing(8), straight(8), straight(7)))
	checkPicks(t, []impl.Match{{Walk: walkOf(0)}, {Walk: impl.Walk{Nodes: []int{0}, Edges: []int{}}, Binds: []impl.Bind{}}})
	// Ends are the same only if both nodes are, however great their numbers are.
	nums := []int{math.MinInt, math.MinInt + 1, -1 << 32, -100, -1, 0, 1, 8, 9, 10, 100, 256, 1 << 16, 1 << 32, 1<<32 + 1, math.MaxInt - 1, math.MaxInt}
	var walks []impl.Walk
	for _, from := range nums {
		for _, to := range nums {
			walks = append(walks, walkOf(from, 0, 0, 0, to), walkOf(from, 0, to))
		}
	}
	many := numbered(walks...)
	for way, want := range map[int]int{1: 2, 2: 1, 3: 1, 4: 1} {
		got, ok := impl.ChooseMatches(many, way)
		expectPart(t, "ChooseMatches by "+number(way), many, got, ok, plainChoice(many, way))
		if len(got) != want*len(nums)*len(nums) {
			t.Errorf("ChooseMatches by %d = %d of %d matches", way, len(got), len(many))
		}
	}
	if got := impl.CountEnds(many); !slices.EqualFunc(got, plainCounts(many), slices.Equal[[]int]) {
		t.Errorf("CountEnds of great numbers = %v", got)
	}
}

// A list can be much longer than the matches of a pattern.
func TestPicksOfALongList(t *testing.T) {
	var walks []impl.Walk
	for i := range 60000 {
		walks = append(walks, walkOf(i%300, 0, i%200))
	}
	list := numbered(walks...)
	counts := impl.CountEnds(list)
	if len(counts) != 600 || slices.ContainsFunc(counts, func(c []int) bool { return c[2] != 100 }) {
		t.Errorf("CountEnds of a long list has %d pairs", len(counts))
	}
	for way, want := range map[int]int{1: 60000, 2: 600, 3: 60000, 4: 600} {
		if got, ok := impl.ChooseMatches(list, way); !ok || len(got) != want || placesOf(got)[want-1] != want-1 {
			t.Errorf("ChooseMatches by %d of a long list = %d matches, %v", way, len(got), ok)
		}
	}
	first, ok := impl.FirstMatches(list, 99)
	groups, ok2 := impl.ShortestGroups(list, 1)
	if from := impl.MatchesFrom(list, 7); !ok || !ok2 || len(first) != 99*600 || len(groups) != 60000 || len(from) != 200 {
		t.Errorf("of a long list, there are %d, %d and %d matches", len(first), len(groups), len(from))
	}
	// So can be the part of it with the same ends.
	for _, length := range []int{400, 401} {
		checkPicks(t, numbered(slices.Repeat([]impl.Walk{walkOf(0, 0, 1)}, length)...))
	}
}

// expectNothing fails unless no function picks a match of a list.
func expectNothing(t *testing.T, what string, list []impl.Match) {
	t.Helper()
	for _, num := range []int{math.MinInt, -1, 0, 1, 2, 3, 4, 5, math.MaxInt} {
		got, ok := impl.ChooseMatches(list, num)
		expectNoPart(t, "ChooseMatches by "+strconv.Itoa(num)+" with "+what, got, ok)
		got, ok = impl.FirstMatches(list, num)
		expectNoPart(t, "FirstMatches by "+strconv.Itoa(num)+" with "+what, got, ok)
		got, ok = impl.ShortestGroups(list, num)
		expectNoPart(t, "ShortestGroups by "+strconv.Itoa(num)+" with "+what, got, ok)
		expectNoPart(t, "MatchesFrom "+strconv.Itoa(num)+" with "+what, impl.MatchesFrom(list, num), false)
	}
	if got := impl.CountEnds(list); len(got) != 0 {
		t.Errorf("CountEnds with %s = %v", what, got)
	}
}

// One walk that does not have its shape is enough, wherever it is.
func TestPicksOfWalksWithoutTheirShape(t *testing.T) {
	for what, w := range misshapen() {
		bad := impl.Match{Walk: w, Binds: []impl.Bind{{Var: "i", Ids: []int{0}}}}
		expectNothing(t, what+" alone", []impl.Match{bad})
		expectNothing(t, what+" twice", []impl.Match{bad, bad})
		for _, text := range []string{"0", threeMatches, mixedMatches} {
			list := listed(text)
			for i := range len(list) + 1 {
				expectNothing(t, what+" at "+number(i), slices.Insert(slices.Clone(list), i, bad))
			}
			// Behind the end of a list, it is not in it.
			checkPicks(t, append(slices.Clone(list), bad)[:len(list)])
		}
	}
	for edges := range 12 {
		list := append(listed(threeMatches), impl.Match{Walk: standing(edges)}, impl.Match{Walk: straight(edges)})
		if edges > 8 {
			expectNothing(t, number(edges)+" edges", list)
		} else {
			checkPicks(t, list)
		}
	}
}

// expectShortest fails unless ShortestOf returns matches with these texts.
func expectShortest(t *testing.T, graph string, text string, from int, to int, want ...string) {
	t.Helper()
	list, ok := impl.ShortestOf(parsed(t, graph), patOf(t, text), from, to)
	if got := textsOf(list); !ok || !slices.Equal(got, want) {
		t.Errorf("ShortestOf(%s, %s, %d, %d) = %q, %v, not %q", graph, text, from, to, got, ok, want)
	}
}

func TestShortestOf(t *testing.T) {
	const several = "(a 1)(b 2)(c 3)[0>1 r 1][0>2 r 1][2>1 r 1][0>1 s 1]"
	expectShortest(t, several, "(x){-[e]->}+(y)", 0, 1, "0-0-1 e=0; x=0 y=1", "0-3-1 e=3; x=0 y=1")
	expectShortest(t, several, "(x){-[e:r]->}+(y)", 0, 1, "0-0-1 e=0; x=0 y=1")
	expectShortest(t, several, "{-[e]->}^2,", 0, 1, "0-1-2-2-1 e=1,2;")
	expectShortest(t, several, "{-[e]->}+", 0, 2, "0-1-2 e=1;")
	expectShortest(t, several, "{-[e]-}+", 2, 0, "2-1-0 e=1;")
	expectShortest(t, several, "{-[e]-}^2,", 2, 0, "2-2-1-0-0 e=2,0;", "2-2-1-3-0 e=2,3;")
	expectShortest(t, several, "{-[e]-}*", 1, 1, "1 e=;")
	expectShortest(t, several, "{-[e]-}+", 1, 1, "1-0-0-0-1 e=0,0;", "1-0-0-3-1 e=0,3;", "1-3-0-0-1 e=3,0;", "1-3-0-3-1 e=3,3;", "1-2-2-2-1 e=2,2;")
	// Ends without matches.
	expectShortest(t, several, "{-[e]->}*", 1, 0)
	expectShortest(t, several, "(:c){-[e]->}*", 0, 1)
	expectShortest(t, several, "()", 0, 1)
	expectShortest(t, several, "(:d)", 2, 2)
	expectShortest(t, "( 0)", "-[]-", 0, 0)
	// One walk has several matches, and all of them are shortest.
	expectShortest(t, several, "{(x)|(y)}-[]->{(y)|()}", 0, 2, "0-1-2 x=0", "0-1-2 x=0 y=2", "0-1-2 y=0")
	expectShortest(t, round, "{-[e:s]->|-[f]->}", 2, 0, "2-2-0 e=2", "2-2-0 f=2")
	// Walks are of every mode, and can go along an edge again.
	expectShortest(t, round, "{-[e]->}^3,3", 2, 2, "2-2-0-0-1-1-2 e=2,0,1;", "2-3-2-3-2-3-2 e=3,3,3;")
	expectShortest(t, round, "{-[e:t]->}^2,", 2, 2, "2-3-2-3-2 e=3,3;")
	expectShortest(t, "(a 1)(b 2)[0>1 r 3]", "{-[e]-}^3,", 0, 1, "0-0-1-0-0-0-1 e=0,0,0;")
}

// Matches have at most MaxWalk edges, and those with more are none.
func TestShortestOfWalksOfMaxWalk(t *testing.T) {
	g := ring(7)
	for from := range 7 {
		for to := range 7 {
			edges := (to - from + 7) % 7
			list, ok := impl.ShortestOf(g, patOf(t, "{-[e]->}*"), from, to)
			if !ok || (len(list) == 1) != (edges <= 4) || len(list) == 1 && len(list[0].Walk.Edges) != edges {
				t.Errorf("ShortestOf around from %d to %d = %q, %v", from, to, textOf(list), ok)
			}
		}
	}
	for times := range 9 {
		text := "{-[e]->}^" + number(times) + ",9"
		list, ok := impl.ShortestOf(sized(1, 1), patOf(t, text), 0, 0)
		if want := min(1, max(0, 5-times)); !ok || len(list) != want || want == 1 && !plainWalkSame(list[0].Walk, standing(times)) {
			t.Errorf("ShortestOf(%s) = %q, %v", text, textOf(list), ok)
		}
	}
}

// All matches count for MaxMatch, between whichever nodes they are.
func TestShortestOfMaxMatch(t *testing.T) {
	for r := range 12 {
		for s := range 3 {
			g, p := labelledEdges(r, s), patOf(t, manyWays)
			for from := range 2 {
				for to := range 2 {
					list, ok := impl.ShortestOf(g, p, from, to)
					if 40*r+s > 400 {
						expectNoPart(t, "ShortestOf with too many matches", list, ok)
					} else if want := 40*r + s; !ok || from == 0 && to == 1 && len(list) != want || (from != 0 || to != 1) && len(list) != 0 {
						t.Errorf("ShortestOf from %d to %d has %d matches of %d, %v", from, to, len(list), want, ok)
					}
				}
			}
		}
	}
	// Those that are not shortest count as well.
	for edges, want := range map[int]bool{1: true, 2: true, 3: true, 4: true, 5: false, 14: false} {
		list, ok := impl.ShortestOf(sized(1, edges), patOf(t, "{-[]->}+"), 0, 0)
		if ok != want || want && len(list) != edges || !want && len(list) != 0 {
			t.Errorf("ShortestOf with %d edges = %d matches, %v", edges, len(list), ok)
		}
	}
}

func TestShortestOfInvalidArguments(t *testing.T) {
	for _, text := range []string{"(a 1)", round, "( 0)( 0)( 0)( 0)( 0)( 0)( 0)( 0)"} {
		g := parsed(t, text)
		for _, p := range []impl.Pat{aNode, anEdge, patOf(t, "(:c)"), patOf(t, "(x){-[e]->}*(y)")} {
			for _, num := range []int{math.MinInt, -9, -2, -1, len(g.Nodes), len(g.Nodes) + 1, 8, 9, 99, 1 << 32, math.MaxInt} {
				for _, ends := range [][2]int{{num, 0}, {0, num}, {num, num}, {num, len(g.Nodes) - 1}, {len(g.Nodes) - 1, num}, {num, -1}} {
					list, ok := impl.ShortestOf(g, p, ends[0], ends[1])
					expectNoPart(t, "ShortestOf from "+strconv.Itoa(ends[0])+" to "+strconv.Itoa(ends[1]), list, ok)
				}
			}
			for from := range g.Nodes {
				for to := range g.Nodes {
					if _, ok := impl.ShortestOf(g, p, from, to); !ok {
						t.Errorf("ShortestOf of %s from %d to %d fails", text, from, to)
					}
				}
			}
		}
	}
	for what, g := range invalidGraphs() {
		for _, ends := range [][2]int{{0, 0}, {0, 1}, {1, 0}, {8, 8}, {-1, 0}} {
			list, ok := impl.ShortestOf(g, aNode, ends[0], ends[1])
			expectNoPart(t, "ShortestOf in a graph with "+what, list, ok)
			list, ok = impl.ShortestOf(g, patOf(t, "{-[]-}*"), ends[0], ends[1])
			expectNoPart(t, "ShortestOf in a graph with "+what, list, ok)
		}
	}
	for what, p := range brokenPats() {
		for _, ends := range [][2]int{{0, 0}, {2, 2}, {0, 1}, {3, 0}} {
			list, ok := impl.ShortestOf(parsed(t, round), p, ends[0], ends[1])
			expectNoPart(t, "ShortestOf of "+what, list, ok)
		}
	}
}

// shortestPats returns patterns of all kinds, with variables and without.
func shortestPats(t *testing.T) []impl.Pat {
	t.Helper()
	leaves := []impl.Pat{aNode, node("x"), node("y"), one(impl.Elem{Node: true, Labels: atom("a")}), anEdge, edge("e"), edge("f"), one(impl.Elem{Dir: impl.DirLeft, Cond: atom("<4")})}
	list := manyPats(200, leaves)
	for _, x := range patsWithTexts() {
		list = append(list, x.p)
	}
	for _, text := range []string{"(x){-[e]->}+(y)", "{-[e]-}^2,", "(x){-[e]->|<-[f]-(n)}*(x)", "{{-[e]->}^2,2|<-[f]-}+", "{(x)|-[e]-(x)}{-[f]->}^1,2", "{-[]->}^3,"} {
		list = append(list, patOf(t, text))
	}
	return list
}

// Promise 9: shortest matches have the fewest edges, of all matches between two
// nodes.
func TestShortestMatchesHaveTheFewestEdges(t *testing.T) {
	found := 0
	for i, text := range []string{round, crossing, "(a 1)(b 2)[0>1 r 3][1>0 s 9]"} {
		g := parsed(t, text)
		walks := walksIn(t, g, 4)
		for j, p := range shortestPats(t) {
			if j%3 != i {
				continue
			}
			all := plainMatches(g, p, walks)
			if len(all) > 400 {
				list, ok := impl.ShortestOf(g, p, 0, 0)
				expectNoPart(t, "ShortestOf of "+impl.FormatPat(p), list, ok)
				continue
			}
			for from := range g.Nodes {
				for to := range g.Nodes {
					want := plainShortest(all, from, to)
					got, ok := impl.ShortestOf(g, p, from, to)
					expectPart(t, "ShortestOf "+impl.FormatPat(p)+" from "+number(from)+" to "+number(to), all, got, ok, want)
					found += len(got)
				}
			}
		}
	}
	if found < 3000 {
		t.Errorf("only %d shortest matches are found", found)
	}
}

// The automaton of a pattern without variables has the same fewest edges, as far
// as matches have so many.
func TestShortestMatchesHaveTheFewestEdgesOfAutomata(t *testing.T) {
	for i, p := range manyPats(400, []impl.Pat{aNode, one(impl.Elem{Node: true, Labels: atom("a")}), anEdge, one(impl.Elem{Dir: impl.DirLeft, Labels: not(atom("s"))})}) {
		g := parsed(t, []string{round, "(a 1)( 3)(b 0)( 9)[0>1 r 1][1>2 s 2][2>3 t 3]"}[i%2])
		a, ok := impl.AutoOf(p)
		if !ok {
			continue
		}
		for from := range g.Nodes {
			for to := range g.Nodes {
				list, ok := impl.ShortestOf(g, p, from, to)
				fewest, there := impl.AutoFewest(g, a, from, to)
				if ok && (len(list) > 0) != (there && fewest <= 4) {
					t.Errorf("ShortestOf of %s from %d to %d = %q, but the fewest edges are %d, %v", impl.FormatPat(p), from, to, textOf(list), fewest, there)
				}
				for _, m := range list {
					if len(m.Walk.Edges) != fewest {
						t.Errorf("ShortestOf of %s has %s, but the fewest edges are %d", impl.FormatPat(p), plainMatchText(m), fewest)
					}
				}
			}
		}
	}
}

// The matches of patterns are picked from as other lists are, in their order and
// backwards; those that ChooseShortest picks are those of ShortestOf, for each
// pair of ends that CountEnds has.
func TestPicksOfMatchesOfPatterns(t *testing.T) {
	g := parsed(t, round)
	for _, p := range shortestPats(t) {
		list, ok := impl.MatchesOf(g, p, impl.ModeWalk, impl.MaxWalk)
		if !ok || len(list) > 100 {
			continue
		}
		checkPicks(t, list)
		chosen, _ := impl.ChooseMatches(list, impl.ChooseShortest)
		count, sum := 0, 0
		for _, ends := range impl.CountEnds(list) {
			shortest, ok := impl.ShortestOf(g, p, ends[0], ends[1])
			want := slices.DeleteFunc(slices.Clone(chosen), func(m impl.Match) bool {
				return m.Walk.Nodes[0] != ends[0] || m.Walk.Nodes[len(m.Walk.Edges)] != ends[1]
			})
			expectPart(t, "ShortestOf "+impl.FormatPat(p), list, shortest, ok, want)
			count, sum = count+len(shortest), sum+ends[2]
		}
		if count != len(chosen) || sum != len(list) {
			t.Errorf("%s has %d matches and %d shortest ones, but %d and %d by their ends", impl.FormatPat(p), len(list), len(chosen), sum, count)
		}
		slices.Reverse(list)
		checkPicks(t, list)
	}
}

// markedMatch returns a match in memory of its own, with marks behind its lists.
func markedMatch(m impl.Match) impl.Match {
	made := impl.Match{Walk: markedWalk(m.Walk)}
	for _, bind := range m.Binds {
		made.Binds = append(made.Binds, impl.Bind{Var: bind.Var, Ids: marked(bind.Ids), Group: bind.Group})
	}
	made.Binds = append(made.Binds, impl.Bind{Var: "mark"})[:len(m.Binds)]
	return made
}

// untouchedMatch reports whether a match made by markedMatch is still so.
func untouchedMatch(m impl.Match, want impl.Match) bool {
	for i, bind := range m.Binds {
		if !untouched(bind.Ids, want.Binds[i].Ids) {
			return false
		}
	}
	mark := m.Binds[:len(m.Binds)+1][len(m.Binds)]
	return plainMatchSame(m, want) && untouchedWalk(m.Walk, want.Walk) && plainBindSame(mark, impl.Bind{Var: "mark"})
}

// markedMatches returns a list of such matches, with one more behind it.
func markedMatches(list []impl.Match) []impl.Match {
	var made []impl.Match
	for _, m := range append(slices.Clone(list), impl.Match{Walk: walkOf(77)}) {
		made = append(made, markedMatch(m))
	}
	return made[:len(list)]
}

func untouchedMatches(list []impl.Match, want []impl.Match) bool {
	behind := list[:len(list)+1][len(list)]
	return slices.EqualFunc(list, want, untouchedMatch) && untouchedMatch(behind, impl.Match{Walk: walkOf(77)})
}

// pickers returns all functions that pick matches of a list, each with arguments
// for which it picks some.
func pickers() map[string]func(list []impl.Match) []impl.Match {
	made := map[string]func(list []impl.Match) []impl.Match{}
	for way := 1; way <= 4; way++ {
		made["ChooseMatches by "+number(way)] = func(list []impl.Match) []impl.Match {
			got, _ := impl.ChooseMatches(list, way)
			return got
		}
		made["FirstMatches by "+number(way)] = func(list []impl.Match) []impl.Match {
			got, _ := impl.FirstMatches(list, way)
			return got
		}
		made["ShortestGroups by "+number(way)] = func(list []impl.Match) []impl.Match {
			got, _ := impl.ShortestGroups(list, way)
			return got
		}
	}
	made["MatchesFrom"] = func(list []impl.Match) []impl.Match { return impl.MatchesFrom(list, 0) }
	return made
}

// expectOwnMatches fails unless each list in a result is in memory of its own,
// and the result, given a second time, in other memory.
func expectOwnMatches(t *testing.T, what string, first []impl.Match, second []impl.Match) {
	t.Helper()
	want := markedMatches(second)
	for i := range first {
		wipeMatch(first[i])
	}
	clear(first[:cap(first)])
	if !slices.EqualFunc(second, want, plainMatchSame) {
		t.Errorf("%s shares memory with another result", what)
	}
	for i := range second {
		m := &second[i]
		lists := []*[]int{&m.Walk.Nodes, &m.Walk.Edges}
		for j := range m.Binds {
			lists = append(lists, &m.Binds[j].Ids)
		}
		for _, list := range lists {
			former := slices.Clone(*list)
			wipeList(*list)
			*list = former
			if !slices.EqualFunc(second, want, plainMatchSame) {
				t.Fatalf("%s has lists in the same memory", what)
			}
		}
		wipeMatch(*m)
		*m = markedMatch(want[i])
		if !slices.EqualFunc(second, want, plainMatchSame) {
			t.Fatalf("%s has binds in the same memory", what)
		}
	}
}

func TestPicksShareNoMemory(t *testing.T) {
	groups := numbered(walkOf(0), walkOf(0, 0, 1), walkOf(0, 1, 2, 2, 1), walkOf(0, 3, 1), walkOf(0, 3, 2, 4, 1, 5, 1), walkOf(1))
	for i := range groups {
		groups[i].Binds = append(groups[i].Binds, impl.Bind{Var: "e", Ids: groups[i].Walk.Edges, Group: true}, impl.Bind{Var: "none"})
	}
	for what, call := range pickers() {
		for _, original := range [][]impl.Match{groups, listed(mixedMatches), {{Walk: walkOf(0)}}} {
			list := markedMatches(original)
			first, second := call(list), call(list)
			if len(first) == 0 || !untouchedMatches(list, original) {
				t.Errorf("%s picks %d matches, or changes its argument", what, len(first))
			}
			want := markedMatches(first)
			for i := range list[:cap(list)] {
				wipeMatch(list[:cap(list)][i])
			}
			clear(list[:cap(list)])
			if !slices.EqualFunc(first, want, plainMatchSame) {
				t.Errorf("%s is in the memory of its argument", what)
			}
			expectOwnMatches(t, what, first, second)
		}
	}
}

// Matches of the argument can share memory, and have more behind empty lists;
// those of the result do not.
func TestPicksOfMatchesInTheSameMemory(t *testing.T) {
	for what, call := range pickers() {
		nums := slices.Repeat([]int{0}, 30)
		binds := []impl.Bind{{Var: "x", Ids: nums[:1]}, {Var: "y", Ids: nums[:2], Group: true}, {Var: "z", Ids: nums[:0]}, {Var: "mark"}}
		list := []impl.Match{{Walk: impl.Walk{Nodes: nums[:2], Edges: nums[:1]}, Binds: binds[:3]}, {Walk: impl.Walk{Nodes: nums[:2], Edges: nums[1:2]}, Binds: binds[:3]}, {Walk: impl.Walk{Nodes: nums[:1], Edges: nums[:0]}, Binds: binds[:0]}}
		first, second := call(list), call(list)
		if len(first) == 0 {
			t.Errorf("%s picks nothing", what)
		}
		expectOwnMatches(t, what, first, second)
		if !slices.Equal(nums, make([]int, 30)) || binds[0].Var != "x" || binds[3].Var != "mark" {
			t.Errorf("%s has memory of its argument", what)
		}
	}
}

func TestCountEndsSharesNoMemory(t *testing.T) {
	list := markedMatches(listed(mixedMatches))
	first, second := impl.CountEnds(list), impl.CountEnds(list)
	want := plainCounts(listed(mixedMatches))
	for i := range first {
		wipeList(first[i])
		if !slices.EqualFunc(first[i+1:], want[i+1:], slices.Equal[[]int]) {
			t.Fatalf("two rows of CountEnds share memory: %v", first)
		}
	}
	if !slices.EqualFunc(second, want, slices.Equal[[]int]) || !untouchedMatches(list, listed(mixedMatches)) {
		t.Errorf("CountEnds = %v, or it changes its argument", second)
	}
}

func TestShortestOfSharesNoMemory(t *testing.T) {
	for _, text := range []string{"(x){-[e]->}+(y)", "{(x)|(y)}{-[e]->}*", "{-[]->}*", "(x:!(b|c)){{-[e:r|!%]->}+(n)}+"} {
		g, original := roomy(), patOf(t, text)
		p := roomyPat(original)
		first, ok := impl.ShortestOf(g, p, 0, 1)
		second, _ := impl.ShortestOf(g, p, 0, 1)
		if !ok || len(first) == 0 || !impl.GraphSame(whole(g), whole(roomy())) || !plainPatSame(p, original) || !marksStay(p) {
			t.Errorf("ShortestOf of %s = %q, %v, or it changes its arguments", text, textOf(first), ok)
		}
		want := markedMatches(first)
		wipePat(p)
		if !slices.EqualFunc(first, want, plainMatchSame) {
			t.Errorf("ShortestOf of %s is in the memory of its argument", text)
		}
		expectOwnMatches(t, "ShortestOf of "+text, first, second)
	}
}
