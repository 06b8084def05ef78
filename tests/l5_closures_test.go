package tests

import (
	"cmp"
	"slices"
	"testing"

	"loop.example/fieldroots/impl"
)

// wantPaths has for each two places the least one of all sets of ways that join them, and -1 if none does.
func wantPaths(net impl.Net) [][]int {
	paths := make([][]int, net.Nodes)
	for a := range paths {
		for b := range net.Nodes {
			paths[a] = append(paths[a], wantLeast(net, 1<<a|1<<b))
		}
	}
	return paths
}

func farOf(net impl.Net, paths [][]int) [][]int {
	far := copyOf(paths)
	for a := range far {
		for b, path := range far[a] {
			if path >= 0 {
				far[a][b] = wantCost(net, path)
			}
		}
	}
	return far
}

func listOf(set int) []int {
	var list []int
	for number := range max(impl.MaxNodes, impl.MaxWays) {
		if has(set, number) {
			list = append(list, number)
		}
	}
	return list
}

// pairsOf has all pairs that are come to, sorted by cost, first place, and second one.
func pairsOf(far [][]int, firsts, seconds []int) [][]int {
	var pairs [][]int
	for _, a := range firsts {
		for _, b := range seconds {
			if far[a][b] >= 0 {
				pairs = append(pairs, []int{a, b})
			}
		}
	}
	slices.SortFunc(pairs, func(p, q []int) int {
		return cmp.Or(cmp.Compare(far[p[0]][p[1]], far[q[0]][q[1]]), slices.Compare(p, q))
	})
	return pairs
}

func wantLinks(far [][]int, ends int) ([][]int, bool) {
	others := listOf(ends)
	if len(others) == 0 {
		return nil, true
	}
	linked, others := []int{others[0]}, others[1:]
	var links [][]int
	for len(others) > 0 {
		pairs := pairsOf(far, linked, others)
		if len(pairs) == 0 {
			return nil, false
		}
		links = append(links, pairs[0])
		linked = append(linked, pairs[0][1])
		others = slices.DeleteFunc(others, func(end int) bool { return end == pairs[0][1] })
	}
	return links, true
}

// wantEndTree takes the nearest pairs of all ends first, with one label for ends that are joined: from whichever end a
// least tree is grown, it costs the same.
func wantEndTree(far [][]int, ends int) int {
	labels, cost, left := []int{0, 1, 2, 3, 4, 5}, 0, max(size(ends)-1, 0)
	for _, pair := range pairsOf(far, listOf(ends), listOf(ends)) {
		from, to := labels[pair[0]], labels[pair[1]]
		if from == to {
			continue
		}
		for place, label := range labels {
			if label == from {
				labels[place] = to
			}
		}
		cost += far[pair[0]][pair[1]]
		left--
	}
	if left > 0 {
		return -1
	}
	return cost
}

// Promise 32.

func TestEachEndIsLinkedOnce(t *testing.T) {
	seen := map[string]int{}
	eachEnds(t, func(t *testing.T, net impl.Net, ends int) {
		links, ok := impl.EndLinks(net, ends)
		if ok != (impl.RootCost(net, ends) >= 0) {
			t.Fatalf("told %v, and a root costs %d", ok, impl.RootCost(net, ends))
		}
		switch {
		case !ok && len(links) != 0:
			t.Errorf("not told, and %v", links)
		case !ok:
			seen["not told"]++
		case ends == 0 && len(links) != 0:
			t.Errorf("no ends, and %v", links)
		case ends == 0:
			seen["no ends"]++
		case len(links) != size(ends)-1:
			t.Errorf("%d ends, and %v", size(ends), links)
		default:
			checkLinks(t, links, ends)
			seen["told"]++
		}
	})
	if len(seen) != 3 {
		t.Error("the nets do not show all cases:", seen)
	}
}

func checkLinks(t *testing.T, links [][]int, ends int) {
	t.Helper()
	linked := []int{slices.Min(listOf(ends))}
	for _, link := range links {
		if len(link) != 2 || !slices.Contains(listOf(ends), link[1]) {
			t.Fatalf("%v in %v: no pair, or what is linked is no end", link, links)
		}
		if !slices.Contains(linked, link[0]) || slices.Contains(linked, link[1]) {
			t.Fatalf("%v in %v: not linked before, or linked again", link, links)
		}
		linked = append(linked, link[1])
	}
}

func TestEndsAreLinkedAtTheLeastCost(t *testing.T) {
	seen := map[string]int{}
	eachNet(t, func(t *testing.T, net impl.Net) {
		far := farOf(net, wantPaths(net))
		for ends := range 1 << net.Nodes {
			links, ok := impl.EndLinks(net, ends)
			want, wantOk := wantLinks(far, ends)
			if ok != wantOk || !slices.EqualFunc(links, want, slices.Equal) {
				t.Fatalf("ends %b: %v, %v, not %v, %v", ends, links, ok, want, wantOk)
			}
			for i, link := range links {
				seeTies(seen, far, ends, links[:i], link)
			}
		}
	})
	if len(seen) != 3 {
		t.Error("the nets do not show all cases:", seen)
	}
}

// seeTies notes where a rule for pairs that cost the same is what decides.
func seeTies(seen map[string]int, far [][]int, ends int, before [][]int, link []int) {
	linked := listOf(ends)[:1:1]
	for _, earlier := range before {
		linked = append(linked, earlier[1])
	}
	others := slices.DeleteFunc(listOf(ends), func(end int) bool { return slices.Contains(linked, end) })
	for _, pair := range pairsOf(far, linked, others)[1:] {
		switch {
		case far[pair[0]][pair[1]] != far[link[0]][link[1]]:
		case pair[0] == link[0]:
			seen["the least other one"]++
		case pair[1] < link[1]:
			seen["the least linked end, not the least other one"]++
		default:
			seen["the least linked end"]++
		}
	}
}

func TestEndLinksOfSomeEnds(t *testing.T) {
	for _, c := range []struct {
		name string
		ends int
		want [][]int
	}{
		{"no ways, 2 places", 0, [][]int{}},
		{"no ways, 2 places", 0b01, [][]int{}},
		{"no ways, 2 places", 0b10, [][]int{}},
		{"no ways, MaxNodes places", 0, [][]int{}},
		{"no ways, MaxNodes places", 0b100000, [][]int{}},
		{"one way", 0b10, [][]int{}},
		{"all greatest costs", 0, [][]int{}},
		{"all greatest costs", 0b001000, [][]int{}},
		{"one way", 0b11, [][]int{{0, 1}}},
		{"one way of no cost", 0b11, [][]int{{0, 1}}},
		{"several ways, other order", 0b11, [][]int{{0, 1}}},
		{"MaxWays ways between two", 0b11, [][]int{{0, 1}}},
		{"MaxWays free ways", 0b011, [][]int{{0, 1}}},
		{"two parts", 0b10100, [][]int{{2, 4}}},
		{"path cheaper than way", 0b100001, [][]int{{0, 5}}},
		// Some end is not come to: the least one, the greatest one, or one between.
		{"no ways, 2 places", 0b11, nil},
		{"no ways, MaxNodes places", 0b111111, nil},
		{"MaxWays free ways", 0b111, nil},
		{"two parts", 0b00011, nil},
		{"two parts", 0b11100, nil},
		{"place 0 alone", 0b111111, nil},
		{"last place alone", 0b101000, nil},
		{"last place alone", 0b111111, nil},
		// The nearest end first, and the linked end first in each pair.
		{"place 0 alone", 0b111110, [][]int{{1, 2}, {2, 3}, {3, 4}, {4, 5}}},
		{"long path, ways from behind", 0b101001, [][]int{{0, 3}, {3, 5}}},
		{"path cheaper than way", 0b110011, [][]int{{0, 1}, {1, 4}, {4, 5}}},
		{"star", 0b111110, [][]int{{1, 2}, {1, 3}, {1, 4}, {1, 5}}},
		{"hub of three", 0b0111, [][]int{{0, 1}, {1, 2}}},
		{"hub of three", 0b1111, [][]int{{0, 3}, {3, 1}, {3, 2}}},
		{"two threes, all ways between", 0b000111, [][]int{{0, 2}, {2, 1}}},
		{"two threes, all ways between", 0b111000, [][]int{{3, 5}, {5, 4}}},
		{"two threes, all ways between", 0b111111, [][]int{{0, 5}, {5, 2}, {2, 4}, {2, 3}, {5, 1}}},
		{"rounds joined by a bridge", 0b110011, [][]int{{0, 1}, {0, 5}, {5, 4}}},
		// Ends that are as near: the least linked one, and then the least other one.
		{"star of equal arms", 0b011111, [][]int{{0, 1}, {0, 2}, {0, 3}, {0, 4}}},
		{"star of equal arms", 0b111111, [][]int{{0, 5}, {5, 1}, {5, 2}, {5, 3}, {5, 4}}},
		{"equal costs, as many ways", 0b1110, [][]int{{1, 3}, {3, 2}}},
		{"equal costs, as many ways", 0b1111, [][]int{{0, 1}, {0, 2}, {1, 3}}},
		{"free round", 0b1110, [][]int{{1, 2}, {1, 3}}},
		{"free way before a dear one", 0b111, [][]int{{0, 1}, {0, 2}}},
		{"dear way before a free one", 0b111, [][]int{{0, 1}, {1, 2}}},
		{"two hubs", 0b001111, [][]int{{0, 1}, {0, 2}, {2, 3}}},
		{"two hubs", 0b111111, [][]int{{0, 4}, {4, 1}, {4, 5}, {5, 2}, {5, 3}}},
		{"two hubs, and a way past one", 0b010111, [][]int{{0, 1}, {1, 2}, {0, 4}}},
		{"mesh of MaxWays ways", 0b111111, [][]int{{0, 1}, {1, 2}, {2, 3}, {3, 4}, {3, 5}}},
		{"all greatest costs", 0b010101, [][]int{{0, 2}, {0, 4}}},
		{"all greatest costs", 0b111111, [][]int{{0, 1}, {0, 3}, {0, 5}, {1, 2}, {1, 4}}},
	} {
		got, ok := impl.EndLinks(namedNet(t, c.name), c.ends)
		if ok != (c.want != nil) || !slices.EqualFunc(got, c.want, slices.Equal) {
			t.Errorf("%s, ends %b: %v, %v, not %v", c.name, c.ends, got, ok, c.want)
		}
	}
}

func TestEndLinksOfOthers(t *testing.T) {
	eachBadEnds(t, func(t *testing.T, net impl.Net, ends int) {
		if got, ok := impl.EndLinks(net, ends); len(got) != 0 || ok {
			t.Errorf("ends %d: %v, %v", ends, got, ok)
		}
	})
}

// Promise 33.

func TestATreeBetweenEndsCostsLessThanTwiceARoot(t *testing.T) {
	seen := map[string]int{}
	eachEnds(t, func(t *testing.T, net impl.Net, ends int) {
		cost, root, many := impl.EndTreeCost(net, ends), impl.RootCost(net, ends), size(ends)
		switch {
		case root < 0 && cost != -1:
			t.Errorf("cost %d, and there is no root", cost)
		case root < 0:
			seen["no root"]++
		case cost < root || many*cost > 2*root*(many-1):
			t.Errorf("cost %d, and a root costs %d", cost, root)
		case many < 2 && cost != 0:
			t.Errorf("cost %d", cost)
		case many == 2 && cost != root:
			t.Errorf("cost %d, and a root of two ends costs %d", cost, root)
		case many <= 2:
			seen["at most two ends"]++
		case cost == root:
			seen["as much"]++
		case many*cost == 2*root*(many-1):
			seen["as much more as can be"]++
		default:
			seen["more"]++
		}
	})
	if len(seen) != 5 {
		t.Error("the nets do not show all cases:", seen)
	}
}

func TestTreesBetweenEndsCostWhatTheNearestPairsDo(t *testing.T) {
	eachNet(t, func(t *testing.T, net impl.Net) {
		far := farOf(net, wantPaths(net))
		for ends := range 1 << net.Nodes {
			if got, want := impl.EndTreeCost(net, ends), wantEndTree(far, ends); got != want {
				t.Errorf("ends %b: %d, not %d", ends, got, want)
			}
		}
	})
}

func TestEndTreeCostOfSomeEnds(t *testing.T) {
	for _, c := range []struct {
		name       string
		ends, want int
	}{
		{"no ways, 2 places", 0, 0},
		{"no ways, 2 places", 0b10, 0},
		{"no ways, 2 places", 0b11, -1},
		{"no ways, MaxNodes places", 0b100000, 0},
		{"no ways, MaxNodes places", 0b110000, -1},
		{"no ways, MaxNodes places", 0b111111, -1},
		{"one way", 0b01, 0},
		{"one way", 0b11, 5},
		{"one way of no cost", 0b11, 0},
		{"several ways, other order", 0b11, 1},
		{"MaxWays ways between two", 0b11, 9},
		{"MaxWays free ways", 0b011, 0},
		{"MaxWays free ways", 0b111, -1},
		{"two parts", 0b10100, 3},
		{"two parts", 0b01110, -1},
		{"place 0 alone", 0b111110, 4},
		{"place 0 alone", 0b110001, -1},
		{"free round", 0b1111, 0},
		{"free way before a dear one", 0b111, 5},
		{"dear way before a free one", 0b111, 5},
		{"path cheaper than way", 0b100001, 5},
		{"path cheaper than way", 0b110011, 5},
		{"long path, ways from behind", 0b101001, 45},
		{"star", 0b111110, 18},
		{"star of equal arms", 0b000111, 4},
		{"star of equal arms", 0b011111, 8},
		{"star of equal arms", 0b111111, 5},
		{"hub of three", 0b0101, 4},
		{"hub of three", 0b0111, 6},
		{"two hubs", 0b000111, 5},
		{"two hubs", 0b001111, 7},
		{"two hubs", 0b111111, 5},
		{"two hubs, no ways round them", 0b001111, 6},
		{"two hubs, and a way past one", 0b010111, 11},
		{"two threes, all ways between", 0b000111, 13},
		{"two threes, all ways between", 0b111000, 7},
		{"two threes, all ways between", 0b111111, 17},
		{"rounds joined by a bridge", 0b110011, 13},
		{"mesh of MaxWays ways", 0b100011, 7},
		{"mesh of MaxWays ways", 0b111111, 7},
		{"all greatest costs", 0b010101, 36},
		{"all greatest costs", 0b111111, 45},
	} {
		if got := impl.EndTreeCost(namedNet(t, c.name), c.ends); got != c.want {
			t.Errorf("%s, ends %b: %d, not %d", c.name, c.ends, got, c.want)
		}
	}
}

func TestEndTreeCostOfOthers(t *testing.T) {
	eachBadEnds(t, func(t *testing.T, net impl.Net, ends int) {
		if got := impl.EndTreeCost(net, ends); got != -1 {
			t.Errorf("ends %d: %d", ends, got)
		}
	})
}

// Promise 34.

func TestPathsOfATreeBetweenEndsJoinThem(t *testing.T) {
	seen := map[string]int{}
	eachEnds(t, func(t *testing.T, net impl.Net, ends int) {
		set, cost, root := impl.EndTreeSet(net, ends), impl.EndTreeCost(net, ends), impl.RootCost(net, ends)
		if root < 0 {
			if set != -1 {
				t.Errorf("set %b, and there is no root", set)
			}
			seen["no root"]++
			return
		}
		for _, some := range []int{set, impl.LeastIn(net, set, ends)} {
			if !impl.JoinsEnds(net, some, ends) {
				t.Errorf("set %b, and %b of it does not join", set, some)
			}
			if got := impl.CostOf(net, some); got > cost || got < root {
				t.Errorf("set %b, and %b of it costs %d, neither %d nor %d nor between", set, some, got, root, cost)
			}
		}
		switch got := impl.CostOf(net, set); {
		case got == cost && got == root:
			seen["all cost the same"]++
		case got == cost:
			seen["a root costs less"]++
		case got == root:
			seen["as little as a root, for paths share ways"]++
		default:
			seen["between both"]++
		}
	})
	if len(seen) != 5 {
		t.Error("the nets do not show all cases:", seen)
	}
}

func TestEndTreeSetHasAllWaysOfTheLeastPaths(t *testing.T) {
	seen := map[string]int{}
	eachNet(t, func(t *testing.T, net impl.Net) {
		paths := wantPaths(net)
		far := farOf(net, paths)
		for ends := range 1 << net.Nodes {
			links, ok := wantLinks(far, ends)
			want := -1
			if ok {
				want = 0
			}
			for _, link := range links {
				path := paths[link[0]][link[1]]
				seeShared(seen, net, want, path, ends)
				want |= path
			}
			if got := impl.EndTreeSet(net, ends); got != want {
				t.Errorf("ends %b: %b, not %b", ends, got, want)
			}
		}
	})
	if len(seen) != 3 {
		t.Error("the nets do not show all cases:", seen)
	}
}

func seeShared(seen map[string]int, net impl.Net, before, path, ends int) {
	if before&path != 0 {
		seen["paths share ways"]++
	}
	places := impl.NodesOf(net, path)
	if places&^ends != 0 {
		seen["through a place that is no end"]++
	}
	if size(places&ends) > 2 {
		seen["through another end"]++
	}
}

func TestEndTreeSetOfSomeEnds(t *testing.T) {
	for _, c := range []struct {
		name       string
		ends, want int
	}{
		{"no ways, 2 places", 0, 0},
		{"no ways, 2 places", 0b01, 0},
		{"no ways, 2 places", 0b11, -1},
		{"no ways, MaxNodes places", 0b010000, 0},
		{"no ways, MaxNodes places", 0b010001, -1},
		{"no ways, MaxNodes places", 0b111111, -1},
		{"one way", 0, 0},
		{"one way", 0b10, 0},
		{"one way", 0b11, 1},
		{"one way of no cost", 0b10, 0},
		{"one way of no cost", 0b11, 1},
		{"several ways, other order", 0b11, 0b0010},
		{"MaxWays ways between two", 0b11, 1},
		{"MaxWays free ways", 0b011, 1},
		{"MaxWays free ways", 0b110, -1},
		{"two parts", 0b01010, 0b10},
		{"two parts", 0b11010, -1},
		{"last place alone", 0b100001, -1},
		// Equally cheap paths: the fewest ways, and then the least number.
		{"equal costs, fewer ways", 0b101, 0b100},
		{"equal costs, fewer ways", 0b111, 0b011},
		{"equal costs, as many ways", 0b1001, 0b0101},
		{"equal costs, as many ways", 0b1110, 0b1100},
		{"free round", 0b1101, 0b1011},
		{"free round", 0b1111, 0b1011},
		{"free detour", 0b111, 0b011},
		{"rounds joined by a bridge", 0b110011, 0b1101101},
		{"all greatest costs", 0b010101, 0b000110011},
		{"all greatest costs", 0b111111, 0b011100011},
		// Through places that are no ends, through other ends, and twice by the same ways.
		{"hub of three", 0b0101, 0b00101},
		{"path cheaper than way", 0b100001, 0b111110},
		{"path cheaper than way", 0b110011, 0b111110},
		{"free way before a dear one", 0b111, 0b11},
		{"dear way before a free one", 0b111, 0b11},
		{"star of equal arms", 0b000111, 0b00111},
		{"star of equal arms", 0b011111, 0b11111},
		{"two hubs", 0b001111, 0b010011011},
		{"two hubs, no ways round them", 0b001111, 0b11111},
		{"two hubs, and a way past one", 0b010111, 0b111101},
		{"two threes, all ways between", 0b000111, 0b100100100},
		{"two threes, all ways between", 0b111000, 0b111000000},
		{"mesh of MaxWays ways", 0b100011, 0b010110101},
		{"mesh of MaxWays ways", 0b111111, 0b010110101},
	} {
		if got := impl.EndTreeSet(namedNet(t, c.name), c.ends); got != c.want {
			t.Errorf("%s, ends %b: %b, not %b", c.name, c.ends, got, c.want)
		}
	}
}

func TestEndTreeSetOfOthers(t *testing.T) {
	eachBadEnds(t, func(t *testing.T, net impl.Net, ends int) {
		if got := impl.EndTreeSet(net, ends); got != -1 {
			t.Errorf("ends %d: %d", ends, got)
		}
	})
}

// Promise 35.

func TestBetweenAllPlacesItIsTheLeastTree(t *testing.T) {
	seen := map[string]int{}
	eachEnds(t, func(t *testing.T, net impl.Net, ends int) {
		cost, span := impl.EndTreeCost(net, ends), impl.SpanOn(net, ends)
		if ends == allOf(net.Nodes) && cost != impl.SpanCost(net) {
			t.Errorf("all places: %d, not %d", cost, impl.SpanCost(net))
		}
		switch {
		case cost < 0 && span < 0:
			seen["none is told"]++
		case span < 0:
			seen["just the tree between ends is told"]++
		case cost < 0 || cost > span:
			t.Errorf("%d, and a least tree on the ends costs %d", cost, span)
		case cost == span:
			seen["as much"]++
		default:
			seen["less"]++
		}
	})
	if len(seen) != 4 {
		t.Error("the nets do not show all cases:", seen)
	}
}
