package tests

import (
	"reflect"
	"slices"
	"testing"

	"loop.example/fieldroots/impl"
)

func eachEnds(t *testing.T, check func(t *testing.T, net impl.Net, ends int)) {
	t.Helper()
	eachNet(t, func(t *testing.T, net impl.Net) {
		for ends := range 1 << net.Nodes {
			check(t, net, ends)
			if t.Failed() {
				t.Fatalf("ends: %b", ends)
			}
		}
	})
}

// eachBadEnds takes nets with numbers that tell no ends of them, and then all that are no nets.
func eachBadEnds(t *testing.T, check func(t *testing.T, net impl.Net, ends int)) {
	t.Helper()
	eachNet(t, func(t *testing.T, net impl.Net) {
		for _, ends := range badSets(net.Nodes) {
			check(t, net, ends)
		}
	})
	eachBadNet(t, func(t *testing.T, net impl.Net) {
		for _, ends := range []int{-1, 0, 1, 3, allOf(impl.MaxNodes)} {
			check(t, net, ends)
		}
	})
}

// allCosts has the cost of the roots of each set of ends, in the order of their numbers.
func allCosts(net impl.Net) []int {
	costs := make([]int, 1<<net.Nodes)
	for ends := range costs {
		costs[ends] = impl.RootCost(net, ends)
	}
	return costs
}

// joiningSets has all sets of ways that join the ends, in ascending order.
func joiningSets(net impl.Net, ends int) []int {
	var sets []int
	for set := range 1 << len(net.Ways) {
		if wantJoins(net, set, ends) {
			sets = append(sets, set)
		}
	}
	return sets
}

// wantRootCost tries all choices of further places, with a least tree on just these and the ends.
func wantRootCost(net impl.Net, ends int) int {
	best := -1
	for places := range 1 << net.Nodes {
		if places&ends != ends {
			continue
		}
		if cost := wantGrown(net, places); cost >= 0 && (best < 0 || cost < best) {
			best = cost
		}
	}
	return best
}

// wantGrown begins with the least place, and takes the cheapest way to a further one again and again.
func wantGrown(net impl.Net, places int) int {
	grown, cost := places&-places, 0
	for grown != places {
		best := -1
		for i, w := range net.Ways {
			in := wayPlaces(w)
			if in&^places == 0 && in&grown != 0 && in&^grown != 0 && (best < 0 || w.Cost < net.Ways[best].Cost) {
				best = i
			}
		}
		if best < 0 {
			return -1
		}
		grown |= wayPlaces(net.Ways[best])
		cost += net.Ways[best].Cost
	}
	return cost
}

func hasNeedless(net impl.Net, set, ends int) bool {
	for i := range net.Ways {
		if has(set, i) && impl.JoinsEnds(net, without(set, i), ends) {
			return true
		}
	}
	return false
}

// Promise 19.

func TestMoreEndsCostNoLess(t *testing.T) {
	eachNet(t, func(t *testing.T, net impl.Net) {
		costs := allCosts(net)
		for ends, cost := range costs {
			for more := ends; more < len(costs); more = (more + 1) | ends {
				if costs[more] >= 0 && (cost < 0 || costs[more] < cost) {
					t.Errorf("the ends %b cost %d, and %b %d", ends, cost, more, costs[more])
				}
			}
		}
	})
}

func TestRootsOfTwoEndsAndOfAllPlacesCostWhatIsTold(t *testing.T) {
	eachNet(t, func(t *testing.T, net impl.Net) {
		table := impl.FarTable(net)
		for a := range net.Nodes {
			for b := range net.Nodes {
				if got := impl.RootCost(net, 1<<a|1<<b); got != table[a][b] {
					t.Errorf("from %d to %d: %d, not %d", a, b, got, table[a][b])
				}
			}
		}
		if got := impl.RootCost(net, allOf(net.Nodes)); got != impl.SpanCost(net) {
			t.Errorf("all places: %d, not %d", got, impl.SpanCost(net))
		}
	})
}

func TestRootsCostWhatTheBestChoiceOfPlacesDoes(t *testing.T) {
	told, untold := 0, 0
	eachEnds(t, func(t *testing.T, net impl.Net, ends int) {
		cost := impl.RootCost(net, ends)
		if want := wantRootCost(net, ends); cost != want {
			t.Errorf("cost %d, not %d", cost, want)
		}
		if (cost >= 0) != impl.JoinsEnds(net, allOf(len(net.Ways)), ends) {
			t.Errorf("cost %d, told or not unlike all ways join", cost)
		}
		if cost < 0 {
			untold++
		} else {
			told++
		}
	})
	if told == 0 || untold == 0 {
		t.Errorf("the nets do not show both cases: %d told, %d not told", told, untold)
	}
}

func TestRootCostOfSomeNets(t *testing.T) {
	for _, c := range []struct {
		name       string
		ends, want int
	}{
		{"no ways, 2 places", 0, 0},
		{"no ways, 2 places", 0b10, 0},
		{"no ways, 2 places", 0b11, -1},
		{"no ways, MaxNodes places", 0b100000, 0},
		{"no ways, MaxNodes places", 0b100001, -1},
		{"no ways, MaxNodes places", 0b111111, -1},
		{"one way", 0b11, 5},
		{"one way", 0b01, 0},
		{"one way of no cost", 0b11, 0},
		{"several ways, other order", 0b11, 1},
		{"MaxWays ways between two", 0b11, 9},
		{"MaxWays free ways", 0b011, 0},
		{"MaxWays free ways", 0b111, -1},
		{"free round", 0b1111, 0},
		{"two parts", 0b01010, 0},
		{"two parts", 0b10100, 3},
		{"two parts", 0b01110, -1},
		{"two parts", 0b00001, 0},
		{"three parts", 0b100011, -1},
		{"place 0 alone", 0b111110, 4},
		{"place 0 alone", 0b000011, -1},
		{"last place alone", 0b011111, 4},
		{"path cheaper than way", 0b100001, 5},
		{"path cheaper than way", 0b110000, 1},
		{"hub of three", 0b0111, 6},
		{"hub of three", 0b1111, 6},
		{"hub of three", 0b0011, 3},
		{"two hubs", 0b000011, 2},
		{"two hubs", 0b000111, 4},
		{"two hubs", 0b001111, 5},
		{"two hubs", 0b111111, 5},
		{"two threes, all ways between", 0b000111, 12},
		{"two threes, all ways between", 0b111000, 6},
		{"two threes, all ways between", 0b111111, 17},
		{"mesh of MaxWays ways", 0b100011, 7},
		{"all greatest costs", 0b010101, 27},
		{"all greatest costs", 0b111111, 45},
	} {
		if got := impl.RootCost(namedNet(t, c.name), c.ends); got != c.want {
			t.Errorf("%s, ends %b: %d, not %d", c.name, c.ends, got, c.want)
		}
	}
}

func TestRootCostOfOthers(t *testing.T) {
	eachBadEnds(t, func(t *testing.T, net impl.Net, ends int) {
		if got := impl.RootCost(net, ends); got != -1 {
			t.Errorf("ends %d: %d", ends, got)
		}
	})
}

// Promise 20.

func TestRootsAreTreesBetweenTheirEnds(t *testing.T) {
	through := 0
	eachEnds(t, func(t *testing.T, net impl.Net, ends int) {
		root, cost := impl.RootOf(net, ends), impl.RootCost(net, ends)
		if want := wantLeast(net, ends); root != want || (root < 0) != (cost < 0) {
			t.Fatalf("root %b, not %b, at cost %d", root, want, cost)
		}
		if root < 0 {
			return
		}
		if !impl.JoinsEnds(net, root, ends) || impl.CostOf(net, root) != cost {
			t.Errorf("root %b does not join, or does not cost %d", root, cost)
		}
		if !impl.TreeOk(net, root) || impl.Pruned(net, root, ends) != root || hasNeedless(net, root, ends) {
			t.Errorf("root %b is no tree, or one with more than it needs", root)
		}
		if impl.NodesOf(net, root)&^ends != 0 {
			through++
		}
	})
	if through == 0 {
		t.Error("no root goes through a place that is no end")
	}
}

func TestRootOfEquallyCheapSets(t *testing.T) {
	for _, c := range []struct {
		name       string
		ends, want int
	}{
		{"no ways, 2 places", 0, 0},
		{"no ways, MaxNodes places", 0b001000, 0},
		{"no ways, MaxNodes places", 0b001001, -1},
		{"one way", 0b11, 1},
		{"one way of no cost", 0b11, 1},
		{"one way of no cost", 0b10, 0},
		{"several ways, other order", 0b11, 0b0010},
		{"MaxWays ways between two", 0b11, 1},
		{"MaxWays free ways", 0b011, 1},
		{"MaxWays free ways", 0b001, 0},
		{"MaxWays free ways", 0b101, -1},
		// Ways of no cost: as few as can be.
		{"free round", 0, 0},
		{"free round", 0b1001, 0b1000},
		{"free round", 0b0101, 0b0011},
		{"free round", 0b1101, 0b1100},
		{"free round", 0b1111, 0b0111},
		{"free detour", 0b101, 0b001},
		{"free detour", 0b111, 0b011},
		{"free detour of two", 0b1001, 0b0001},
		{"free detour of two", 0b1111, 0b1011},
		// Equal costs: the fewest ways, and then the least number.
		{"equal costs, fewer ways", 0b101, 0b100},
		{"equal costs, as many ways", 0b1001, 0b0101},
		{"equal costs, as many ways", 0b1110, 0b1100},
		{"equal costs, as many ways", 0b1111, 0b0111},
		{"equal ways", 0b111, 0b0011},
		{"hub of three", 0b0111, 0b11000},
		{"hub of three", 0b1111, 0b00111},
		{"two hubs", 0b000101, 0b010000000},
		{"mesh of MaxWays ways", 0b100011, 0b010110101},
		{"all greatest costs", 0b010101, 0b001001100},
		{"all greatest costs", 0b111111, 0b000011111},
		// Through places that are no ends.
		{"hub of three", 0b0101, 0b00101},
		{"two hubs", 0b001111, 0b000011111},
		{"path cheaper than way", 0b100001, 0b111110},
		{"two threes, all ways between", 0b111000, 0b111000000},
		{"two parts", 0b10100, 0b01},
		{"two parts", 0b10110, -1},
	} {
		if got := impl.RootOf(namedNet(t, c.name), c.ends); got != c.want {
			t.Errorf("%s, ends %b: %b, not %b", c.name, c.ends, got, c.want)
		}
	}
}

func TestRootOfOthers(t *testing.T) {
	eachBadEnds(t, func(t *testing.T, net impl.Net, ends int) {
		if got := impl.RootOf(net, ends); got != -1 {
			t.Errorf("ends %d: %d", ends, got)
		}
	})
}

// Promise 21.

func TestTheTableFindsWhatAllSetsDo(t *testing.T) {
	eachNet(t, func(t *testing.T, net impl.Net) {
		table, costs := impl.FootTable(net), allCosts(net)
		if len(table) != 1<<net.Nodes {
			t.Fatalf("%d rows", len(table))
		}
		for ends, row := range table {
			if len(row) != net.Nodes {
				t.Fatalf("row %b: %v", ends, row)
			}
			for place, cost := range row {
				if cost != costs[ends|1<<place] {
					t.Errorf("ends %b and the place %d: %d, not %d", ends, place, cost, costs[ends|1<<place])
				}
				if has(ends, place) && cost != costs[ends] {
					t.Errorf("ends %b with their place %d: %d, not %d", ends, place, cost, costs[ends])
				}
				if want := wantRootCost(net, ends|1<<place); cost != want {
					t.Errorf("ends %b and the place %d: %d, not %d", ends, place, cost, want)
				}
			}
		}
	})
}

func TestFootTableOfSomeNets(t *testing.T) {
	for name, want := range map[string][][]int{
		"no ways, 2 places":         {{0, 0}, {0, -1}, {-1, 0}, {-1, -1}},
		"one way":                   {{0, 0}, {0, 5}, {5, 0}, {5, 5}},
		"one way of no cost":        {{0, 0}, {0, 0}, {0, 0}, {0, 0}},
		"several ways, other order": {{0, 0}, {0, 1}, {1, 0}, {1, 1}},
		"MaxWays free ways": {{0, 0, 0}, {0, 0, -1}, {0, 0, -1}, {0, 0, -1},
			{-1, -1, 0}, {-1, -1, -1}, {-1, -1, -1}, {-1, -1, -1}},
		"hub of three": {{0, 0, 0, 0}, {0, 3, 4, 2}, {3, 0, 3, 2}, {3, 3, 6, 4},
			{4, 3, 0, 2}, {4, 6, 4, 4}, {6, 3, 3, 4}, {6, 6, 6, 6},
			{2, 2, 2, 0}, {2, 4, 4, 2}, {4, 2, 4, 2}, {4, 4, 6, 4},
			{4, 4, 2, 2}, {4, 6, 4, 4}, {6, 4, 4, 4}, {6, 6, 6, 6}},
	} {
		if got := impl.FootTable(namedNet(t, name)); !reflect.DeepEqual(got, want) {
			t.Errorf("%s: %v", name, got)
		}
	}
	hubs := impl.FootTable(namedNet(t, "two hubs"))
	if len(hubs) != 64 || !slices.Equal(hubs[0b000111], []int{4, 4, 4, 5, 4, 4}) || !slices.Equal(hubs[0b001111], []int{5, 5, 5, 5, 5, 5}) {
		t.Error("two hubs:", hubs)
	}
}

func TestFootTableOfOthers(t *testing.T) {
	eachBadNet(t, func(t *testing.T, net impl.Net) {
		if table := impl.FootTable(net); len(table) != 0 {
			t.Error(table)
		}
	})
}

// Promise 22.

func TestAllRootsCostTheSameAndNoneIsWithinAnotherOne(t *testing.T) {
	several := 0
	eachEnds(t, func(t *testing.T, net impl.Net, ends int) {
		roots, root, cost := impl.AllRoots(net, ends), impl.RootOf(net, ends), impl.RootCost(net, ends)
		if want := wantRoots(net, ends); !slices.Equal(roots, want) {
			t.Fatalf("roots %b, not %b", roots, want)
		}
		if (root >= 0) != slices.Contains(roots, root) || (root < 0) != (len(roots) == 0) {
			t.Errorf("%b is not among the roots %b", root, roots)
		}
		for i, set := range roots {
			if !impl.JoinsEnds(net, set, ends) || impl.CostOf(net, set) != cost || hasNeedless(net, set, ends) {
				t.Errorf("%b does not join, costs more than %d, or has a needless way", set, cost)
			}
			for _, other := range roots[i+1:] {
				if other <= set || set&other == set || set&other == other {
					t.Errorf("%b and %b: one within the other, or not in order", set, other)
				}
			}
		}
		if len(roots) > 1 {
			several++
		}
	})
	if several == 0 {
		t.Error("nowhere are there several roots")
	}
}

// wantRoots leaves out each set that has another one within it.
func wantRoots(net impl.Net, ends int) []int {
	cost := wantRootCost(net, ends)
	cheap := slices.DeleteFunc(joiningSets(net, ends), func(set int) bool { return wantCost(net, set) != cost })
	var roots []int
	for _, set := range cheap {
		within := func(other int) bool { return other != set && other&^set == 0 }
		if !slices.ContainsFunc(cheap, within) {
			roots = append(roots, set)
		}
	}
	return roots
}

func TestAllRootsOfSomeNets(t *testing.T) {
	for _, c := range []struct {
		name string
		ends int
		want []int
	}{
		{"no ways, 2 places", 0, []int{0}},
		{"no ways, 2 places", 0b01, []int{0}},
		{"no ways, 2 places", 0b11, nil},
		{"no ways, MaxNodes places", 0b111111, nil},
		{"one way", 0b11, []int{1}},
		{"one way", 0b10, []int{0}},
		{"one way of no cost", 0b11, []int{1}},
		{"one way of no cost", 0, []int{0}},
		{"several ways, other order", 0b11, []int{0b0010, 0b0100}},
		{"MaxWays ways between two", 0b11, []int{1, 2, 4, 8, 16, 32, 64, 128, 256}},
		{"MaxWays free ways", 0b011, []int{1, 2, 4, 8, 16, 32, 64, 128, 256}},
		{"MaxWays free ways", 0b100, []int{0}},
		{"MaxWays free ways", 0b110, nil},
		{"free round", 0, []int{0}},
		{"free round", 0b0011, []int{0b0001, 0b1110}},
		{"free round", 0b0101, []int{0b0011, 0b1100}},
		{"free round", 0b1111, []int{0b0111, 0b1011, 0b1101, 0b1110}},
		{"free detour", 0b101, []int{0b001, 0b110}},
		{"free detour of two", 0b1001, []int{0b0001, 0b1110}},
		{"equal costs, fewer ways", 0b101, []int{0b011, 0b100}},
		{"equal costs, as many ways", 0b1001, []int{0b0101, 0b1010}},
		{"equal ways", 0b111, []int{0b0011, 0b0101, 0b1010, 0b1100}},
		{"two parts", 0b01010, []int{0b10}},
		{"two parts", 0b00011, nil},
		{"hub of three", 0b0111, []int{0b00111, 0b11000}},
		{"hub of three", 0b1111, []int{0b00111}},
		{"two hubs", 0b000101, []int{0b000001101, 0b010000000}},
		{"two hubs", 0b001111, []int{0b000011111}},
		{"mesh of MaxWays ways", 0b100011, []int{0b010110101, 0b010110110}},
		{"all greatest costs", 0b010101, []int{0b001001100, 0b010000011, 0b100110000}},
	} {
		if got := impl.AllRoots(namedNet(t, c.name), c.ends); !slices.Equal(got, c.want) {
			t.Errorf("%s, ends %b: %b, not %b", c.name, c.ends, got, c.want)
		}
	}
}

func TestAllRootsOfOthers(t *testing.T) {
	eachBadEnds(t, func(t *testing.T, net impl.Net, ends int) {
		if got := impl.AllRoots(net, ends); len(got) != 0 {
			t.Errorf("ends %d: %v", ends, got)
		}
	})
}

// Promise 23.

func TestWhatIsLeftJoinsAndHasNothingNeedless(t *testing.T) {
	dearer := 0
	eachEnds(t, func(t *testing.T, net impl.Net, ends int) {
		joining, cost := joiningSets(net, ends), impl.RootCost(net, ends)
		for set := range 1 << len(net.Ways) {
			left, want := impl.LeastIn(net, set, ends), firstWithin(joining, set)
			if left != want {
				t.Fatalf("set %b: %b is left, not %b", set, left, want)
			}
			if left < 0 {
				continue
			}
			if left&^set != 0 || !impl.JoinsEnds(net, left, ends) || !impl.TreeOk(net, left) || hasNeedless(net, left, ends) {
				t.Errorf("set %b: %b is left, no tree of its ways, or with needless ones", set, left)
			}
			if impl.CostOf(net, left) < cost {
				t.Errorf("set %b: %b is left, and costs less than %d", set, left, cost)
			} else if impl.CostOf(net, left) > cost {
				dearer++
			}
		}
	})
	if dearer == 0 {
		t.Error("nowhere is left what costs more than a root")
	}
}

// firstWithin is what is left if greatest numbers go first: of all within the set the one of the least number.
func firstWithin(joining []int, set int) int {
	for _, other := range joining {
		if other&^set == 0 {
			return other
		}
	}
	return -1
}

func TestLeastInOfSomeSets(t *testing.T) {
	for _, c := range []struct {
		name            string
		set, ends, want int
	}{
		{"no ways, MaxNodes places", 0, 0, 0},
		{"no ways, MaxNodes places", 0, 0b100000, 0},
		{"no ways, MaxNodes places", 0, 0b110000, -1},
		{"one way", 1, 0b11, 1},
		{"one way", 1, 0b10, 0},
		{"one way", 1, 0, 0},
		{"one way", 0, 0b11, -1},
		{"several ways, other order", 0b1111, 0b11, 0b0001},
		{"several ways, other order", 0b1100, 0b11, 0b0100},
		{"MaxWays free ways", 0b111111111, 0b011, 1},
		{"MaxWays free ways", 0b111111111, 0b111, -1},
		{"free round", 0b1111, 0b1111, 0b0111},
		{"free round", 0b1111, 0b1001, 0b0111},
		{"free round", 0b1001, 0b1001, 0b1000},
		{"free round", 0b1110, 0b0011, 0b1110},
		{"path cheaper than way", 0b111111, 0b100001, 0b000001},
		{"path cheaper than way", 0b111110, 0b100001, 0b111110},
		{"path cheaper than way", 0b101110, 0b100001, -1},
		{"hub of three", 0b11111, 0b0111, 0b00111},
		{"hub of three", 0b11100, 0b0111, 0b11000},
		{"hub of three", 0b01110, 0b0111, 0b01110},
		{"two parts", 0b11, 0b01010, 0b10},
		{"two parts", 0b11, 0b01100, -1},
		{"three parts", 0b111, 0b100001, 0b001},
		{"rounds joined by a bridge", 0b1111111, 0b111111, 0b0111011},
		{"all greatest costs", 0b111111111, 0b111111, 0b000011111},
	} {
		if got := impl.LeastIn(namedNet(t, c.name), c.set, c.ends); got != c.want {
			t.Errorf("%s, set %b, ends %b: %b, not %b", c.name, c.set, c.ends, got, c.want)
		}
	}
}

func TestLeastInOfOthers(t *testing.T) {
	eachNet(t, func(t *testing.T, net impl.Net) {
		for _, set := range badSets(len(net.Ways)) {
			if impl.LeastIn(net, set, 0) != -1 || impl.LeastIn(net, set, 1) != -1 || impl.LeastIn(net, set, 3) != -1 {
				t.Errorf("set %d: LeastIn is not -1", set)
			}
		}
		for _, ends := range badSets(net.Nodes) {
			if impl.LeastIn(net, 0, ends) != -1 || impl.LeastIn(net, allOf(len(net.Ways)), ends) != -1 {
				t.Errorf("ends %d: LeastIn is not -1", ends)
			}
		}
	})
	eachBadNet(t, func(t *testing.T, net impl.Net) {
		if impl.LeastIn(net, 0, 0) != -1 || impl.LeastIn(net, 0, 1) != -1 || impl.LeastIn(net, 1, 3) != -1 {
			t.Error("LeastIn is not -1")
		}
	})
}

// Promise 24.

func TestRootsThatShareAnEndAreARootForAll(t *testing.T) {
	seen := map[string]int{}
	eachNet(t, func(t *testing.T, net impl.Net) {
		costs := allCosts(net)
		for ends, cost := range costs {
			for other, otherCost := range costs {
				if ends&other == 0 || cost < 0 || otherCost < 0 {
					continue
				}
				switch all := costs[ends|other]; {
				case all < 0 || all > cost+otherCost:
					t.Errorf("the ends %b cost %d, %b %d, and all together %d", ends, cost, other, otherCost, all)
				case all == cost+otherCost:
					seen["as much"]++
				default:
					seen["less"]++
				}
			}
		}
	})
	if len(seen) != 2 {
		t.Error("the nets do not show both cases:", seen)
	}
}

// Promise 25.

func TestAFurtherEndCostsNoMoreThanItsNearestOne(t *testing.T) {
	seen := map[string]int{}
	eachNet(t, func(t *testing.T, net impl.Net) {
		table, costs := impl.FarTable(net), allCosts(net)
		for ends, cost := range costs {
			for place := range net.Nodes {
				near := nearest(table[place], ends)
				if cost < 0 || near < 0 || has(ends, place) {
					continue
				}
				switch with := costs[ends|1<<place]; {
				case with < 0 || with > cost+near:
					t.Errorf("the ends %b cost %d, the place %d is %d away, and with it %d", ends, cost, place, near, with)
				case with == cost+near:
					seen["as much"]++
				default:
					seen["less"]++
				}
			}
		}
	})
	if len(seen) != 2 {
		t.Error("the nets do not show both cases:", seen)
	}
}

func nearest(row []int, ends int) int {
	near := -1
	for place, far := range row {
		if has(ends, place) && far >= 0 && (near < 0 || far < near) {
			near = far
		}
	}
	return near
}
