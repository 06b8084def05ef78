package tests

import (
	"cmp"
	"slices"
	"testing"

	"loop.example/fieldroots/impl"
)

// wantSpans tries for each set of places all sets of ways between two places of it.
func wantSpans(net impl.Net) []int {
	spans := make([]int, 1<<net.Nodes)
	for places := range spans {
		spans[places] = wantSpanOn(net, places)
	}
	return spans
}

func wantSpanOn(net impl.Net, places int) int {
	between, best := 0, -1
	for i, w := range net.Ways {
		if has(places, w.A) && has(places, w.B) {
			between |= 1 << i
		}
	}
	for set := range between + 1 {
		if set&^between != 0 {
			continue
		}
		if cost := wantCost(net, set); (best < 0 || cost < best) && wantJoins(net, set, places) {
			best = cost
		}
	}
	return best
}

// cheapestBetween has -1 for two places without a way between them.
func cheapestBetween(net impl.Net, a, b int) int {
	best := -1
	for _, w := range net.Ways {
		if wayPlaces(w) == 1<<a|1<<b && (best < 0 || w.Cost < best) {
			best = w.Cost
		}
	}
	return best
}

// wantBestChoice sorts all choices at the cost by number of places, and number.
func wantBestChoice(spans []int, ends, cost int) int {
	var choices []int
	for choice := range spans {
		if cost >= 0 && choice&ends == 0 && spans[ends|choice] == cost {
			choices = append(choices, choice)
		}
	}
	if len(choices) == 0 {
		return -1
	}
	return slices.MinFunc(choices, func(a, b int) int {
		return cmp.Or(cmp.Compare(size(a), size(b)), cmp.Compare(a, b))
	})
}

// Promise 26.

func TestOnChosenPlacesTreesCostNoLessThanRoots(t *testing.T) {
	seen := map[string]int{}
	eachNet(t, func(t *testing.T, net impl.Net) {
		for places, want := range wantSpans(net) {
			got, root := impl.SpanOn(net, places), impl.RootCost(net, places)
			if got != want {
				t.Fatalf("places %b: %d, not %d", places, got, want)
			}
			switch {
			case got < 0 && root < 0:
				seen["none is told"]++
			case got < 0:
				seen["just the root is told"]++
			case root < 0 || got < root:
				t.Errorf("places %b: %d, and a root costs %d", places, got, root)
			case got == root:
				seen["as much"]++
			default:
				seen["more"]++
			}
		}
	})
	if len(seen) != 4 {
		t.Error("the nets do not show all cases:", seen)
	}
}

func TestOnAllPlacesAndOnTwoTreesCostWhatIsTold(t *testing.T) {
	eachNet(t, func(t *testing.T, net impl.Net) {
		if got := impl.SpanOn(net, allOf(net.Nodes)); got != impl.SpanCost(net) {
			t.Errorf("all places: %d, not %d", got, impl.SpanCost(net))
		}
		if got := impl.SpanOn(net, 0); got != 0 {
			t.Errorf("no places: %d", got)
		}
		for a := range net.Nodes {
			if got := impl.SpanOn(net, 1<<a); got != 0 {
				t.Errorf("the place %d: %d", a, got)
			}
			for b := range a {
				if got, want := impl.SpanOn(net, 1<<a|1<<b), cheapestBetween(net, a, b); got != want {
					t.Errorf("the places %d and %d: %d, not %d", a, b, got, want)
				}
			}
		}
	})
}

func TestSpanOnOfSomePlaces(t *testing.T) {
	for _, c := range []struct {
		name         string
		places, want int
	}{
		{"no ways, 2 places", 0, 0},
		{"no ways, 2 places", 0b10, 0},
		{"no ways, 2 places", 0b11, -1},
		{"no ways, MaxNodes places", 0b100000, 0},
		{"no ways, MaxNodes places", 0b111111, -1},
		{"one way", 0b11, 5},
		{"one way of no cost", 0b11, 0},
		{"several ways, other order", 0b11, 1},
		{"MaxWays ways between two", 0b11, 9},
		{"MaxWays free ways", 0b011, 0},
		{"MaxWays free ways", 0b111, -1},
		{"MaxWays free ways", 0b100, 0},
		{"free round", 0b1111, 0},
		{"free detour", 0b101, 0},
		{"equal costs, fewer ways", 0b101, 2},
		{"equal costs, fewer ways", 0b111, 2},
		{"equal costs, as many ways", 0b1011, 4},
		{"equal costs, as many ways", 0b1111, 6},
		{"two parts", 0b10100, 3},
		{"two parts", 0b01010, 0},
		{"two parts", 0b11110, -1},
		// Just ways over other places lead from some of them to others.
		{"free round", 0b0101, -1},
		{"equal costs, as many ways", 0b1001, -1},
		{"hub of three", 0b0101, -1},
		{"two threes, all ways between", 0b000111, -1},
		{"two hubs, no ways round them", 0b011111, -1},
		{"two hubs, no ways round them", 0b101111, -1},
		{"two hubs, no ways round them", 0b111111, 4},
		{"all greatest costs", 0b010101, -1},
		// A way over other places is cheaper.
		{"path cheaper than way", 0b100001, 9},
		{"path cheaper than way", 0b110011, 11},
		{"path cheaper than way", 0b111111, 5},
		{"hub of three", 0b0111, 6},
		{"hub of three", 0b1101, 4},
		{"two hubs", 0b001111, 9},
		{"two hubs", 0b011111, 8},
		{"two hubs", 0b111111, 5},
		{"mesh of MaxWays ways", 0b000111, 3},
		{"mesh of MaxWays ways", 0b100011, 9},
		{"all greatest costs", 0b001111, 27},
		{"all greatest costs", 0b111111, 45},
	} {
		if got := impl.SpanOn(namedNet(t, c.name), c.places); got != c.want {
			t.Errorf("%s, places %b: %d, not %d", c.name, c.places, got, c.want)
		}
	}
}

func TestSpanOnOfOthers(t *testing.T) {
	eachBadEnds(t, func(t *testing.T, net impl.Net, places int) {
		if got := impl.SpanOn(net, places); got != -1 {
			t.Errorf("places %d: %d", places, got)
		}
	})
}

// Promise 27.

func TestEachChoiceCostsAtLeastWhatARootDoes(t *testing.T) {
	seen := map[string]int{}
	eachNet(t, func(t *testing.T, net impl.Net) {
		spans, costs := wantSpans(net), allCosts(net)
		for ends, cost := range costs {
			for chosen := range costs {
				got := impl.ChosenCost(net, ends, chosen)
				if got != spans[ends|chosen] {
					t.Fatalf("ends %b, chosen %b: %d, not %d", ends, chosen, got, spans[ends|chosen])
				}
				switch {
				case got < 0 && cost < 0:
					seen["none is told"]++
				case got < 0:
					seen["just the root is told"]++
				case cost < 0 || got < cost:
					t.Errorf("ends %b, chosen %b: %d, and a root costs %d", ends, chosen, got, cost)
				case got == cost:
					seen["as much"]++
				default:
					seen["more"]++
				}
			}
		}
	})
	if len(seen) != 4 {
		t.Error("the nets do not show all cases:", seen)
	}
}

func TestThePlacesOfARootAreAChoiceThatCostsJustThat(t *testing.T) {
	through := 0
	eachEnds(t, func(t *testing.T, net impl.Net, ends int) {
		root := impl.RootOf(net, ends)
		if root < 0 {
			return
		}
		cost, places := impl.RootCost(net, ends), impl.NodesOf(net, root)
		if got := impl.ChosenCost(net, ends, places); got != cost {
			t.Errorf("the places %b of a root: %d, not %d", places, got, cost)
		}
		if got := impl.ChosenCost(net, ends, places&^ends); got != cost {
			t.Errorf("the places %b of a root, without its ends: %d, not %d", places, got, cost)
		}
		if places&^ends != 0 {
			through++
		}
	})
	if through == 0 {
		t.Error("no root goes through a place that is no end")
	}
}

func TestChosenCostOfSomeChoices(t *testing.T) {
	for _, c := range []struct {
		name               string
		ends, chosen, want int
	}{
		{"no ways, 2 places", 0, 0, 0},
		{"no ways, 2 places", 0b01, 0b10, -1},
		{"no ways, MaxNodes places", 0b001000, 0, 0},
		{"one way", 0b01, 0b10, 5},
		{"one way", 0b11, 0, 5},
		{"one way of no cost", 0b01, 0b10, 0},
		{"several ways, other order", 0b10, 0b01, 1},
		{"two parts", 0b10000, 0b00100, 3},
		{"two parts", 0b00110, 0b11000, -1},
		{"hub of three", 0b0101, 0b1000, 4},
		{"hub of three", 0b0101, 0b0010, 6},
		{"hub of three", 0b0101, 0b1010, 6},
		{"path cheaper than way", 0b100001, 0, 9},
		{"path cheaper than way", 0b100001, 0b010010, 11},
		{"path cheaper than way", 0b100001, 0b011110, 5},
		// Choices that do not hang together.
		{"hub of three", 0b0101, 0, -1},
		{"two hubs, no ways round them", 0b001111, 0, -1},
		{"two hubs, no ways round them", 0b001111, 0b010000, -1},
		{"two hubs, no ways round them", 0b001111, 0b100000, -1},
		{"two hubs, no ways round them", 0b001111, 0b110000, 4},
		{"two hubs, no ways round them", 0b000001, 0b100000, -1},
		// Chosen places that are ends, and no ends.
		{"one way", 0b01, 0b01, 0},
		{"hub of three", 0b0111, 0b0111, 6},
		{"hub of three", 0b0101, 0b1001, 4},
		{"hub of three", 0, 0b0101, -1},
		{"hub of three", 0, 0b1000, 0},
		{"hub of three", 0, 0b1001, 2},
		{"all greatest costs", 0b111111, 0, 45},
		{"all greatest costs", 0b111111, 0b111111, 45},
	} {
		if got := impl.ChosenCost(namedNet(t, c.name), c.ends, c.chosen); got != c.want {
			t.Errorf("%s, ends %b, chosen %b: %d, not %d", c.name, c.ends, c.chosen, got, c.want)
		}
	}
}

func TestChosenCostOfOthers(t *testing.T) {
	eachBadEnds(t, func(t *testing.T, net impl.Net, bad int) {
		for _, other := range []int{0, 1, 3, bad} {
			if impl.ChosenCost(net, bad, other) != -1 || impl.ChosenCost(net, other, bad) != -1 {
				t.Errorf("%d and %d: ChosenCost is not -1", bad, other)
			}
		}
	})
}

// Promise 28.

func TestNoSmallerChoiceIsARoot(t *testing.T) {
	seen := map[string]int{}
	eachNet(t, func(t *testing.T, net impl.Net) {
		spans := wantSpans(net)
		for ends, cost := range allCosts(net) {
			best, want := impl.BestChoice(net, ends), wantBestChoice(spans, ends, cost)
			if best != want || (best < 0) != (cost < 0) {
				t.Fatalf("ends %b: choice %b, not %b, and a root costs %d", ends, best, want, cost)
			}
			if best < 0 {
				seen["no root"]++
				continue
			}
			if best&ends != 0 || impl.ChosenCost(net, ends, best) != cost {
				t.Errorf("ends %b: choice %b has ends, or does not cost %d", ends, best, cost)
			}
			for place := range net.Nodes {
				if !has(best, place) {
					continue
				}
				switch less := impl.ChosenCost(net, ends, without(best, place)); {
				case less < 0:
					seen["not told without a place"]++
				case less <= cost:
					t.Errorf("ends %b: choice %b costs %d, and %d without the place %d", ends, best, cost, less, place)
				default:
					seen["more without a place"]++
				}
			}
		}
	})
	if len(seen) != 3 {
		t.Error("the nets do not show all cases:", seen)
	}
}

func TestBestChoiceOfSomeEnds(t *testing.T) {
	for _, c := range []struct {
		name       string
		ends, want int
	}{
		{"no ways, 2 places", 0, 0},
		{"no ways, 2 places", 0b01, 0},
		{"one way", 0b11, 0},
		{"one way", 0b10, 0},
		{"one way of no cost", 0b11, 0},
		{"free detour", 0b101, 0},
		{"hub of three", 0b0101, 0b1000},
		{"long path, ways from behind", 0b100001, 0b011110},
		{"path cheaper than way", 0b100001, 0b011110},
		{"path cheaper than way", 0b101001, 0b010110},
		{"place 0 alone", 0b100010, 0b011100},
		{"two hubs", 0b000011, 0b010000},
		{"two hubs", 0b000111, 0b110000},
		{"two hubs", 0b001111, 0b110000},
		{"two hubs, no ways round them", 0b001111, 0b110000},
		{"two hubs, no ways round them", 0b000011, 0b010000},
		{"two threes, all ways between", 0b111000, 0b000100},
		{"two threes, all ways between", 0b000111, 0b100000},
		{"mesh of MaxWays ways", 0b100011, 0b011100},
		// Nothing joins the ends.
		{"no ways, 2 places", 0b11, -1},
		{"no ways, MaxNodes places", 0b111111, -1},
		{"MaxWays free ways", 0b101, -1},
		{"two parts", 0b01110, -1},
		{"place 0 alone", 0b000011, -1},
		// Equal costs: the fewest places, and then the least number.
		{"equal costs, fewer ways", 0b101, 0},
		{"hub of three", 0b0111, 0},
		{"two hubs", 0b000101, 0},
		{"equal costs, fewer places of a greater number", 0b00011, 0b10000},
		{"free round", 0b0101, 0b0010},
		{"equal costs, as many ways", 0b1001, 0b0010},
		{"equal costs, as many ways", 0b0110, 0b0001},
		{"equal costs, last ways over the first place", 0b1001, 0b0010},
		{"all greatest costs", 0b010101, 0b000010},
		{"all greatest costs", 0b111111, 0},
	} {
		if got := impl.BestChoice(namedNet(t, c.name), c.ends); got != c.want {
			t.Errorf("%s, ends %b: %b, not %b", c.name, c.ends, got, c.want)
		}
	}
}

func TestBestChoiceOfOthers(t *testing.T) {
	eachBadEnds(t, func(t *testing.T, net impl.Net, ends int) {
		if got := impl.BestChoice(net, ends); got != -1 {
			t.Errorf("ends %d: %d", ends, got)
		}
	})
}

// Promise 29.

func TestTreesHaveTwoLeavesMoreThanForks(t *testing.T) {
	seen := map[string]int{}
	eachNet(t, func(t *testing.T, net impl.Net) {
		eachTree(net, func(set int) {
			forks, leaves := impl.ForksOf(net, set), impl.LeavesOf(net, set)
			switch {
			case set == 0 && forks != 0 || forks < 0:
				t.Errorf("tree %b has the forks %b", set, forks)
			case set == 0:
				seen["no ways"]++
			case size(leaves) < size(forks)+2:
				t.Errorf("tree %b has the forks %b, and the leaves %b", set, forks, leaves)
			case forks == 0:
				seen["no forks"]++
			case size(leaves) == size(forks)+2:
				seen["two leaves more"]++
			default:
				seen["still more leaves"]++
			}
		})
	})
	if len(seen) != 4 {
		t.Error("the nets do not show all cases:", seen)
	}
}

func TestForksArePlacesWithThreeWaysOrMore(t *testing.T) {
	eachNet(t, func(t *testing.T, net impl.Net) {
		for set := range 1 << len(net.Ways) {
			forks, want := impl.ForksOf(net, set), 0
			for place := range net.Nodes {
				if len(waysAt(net, set, place)) >= 3 {
					want |= 1 << place
				}
			}
			if forks != want || forks&^impl.NodesOf(net, set) != 0 {
				t.Errorf("set %b has the forks %b, not %b, and the places %b", set, forks, want, impl.NodesOf(net, set))
			}
		}
	})
}

func TestForksOfSomeSets(t *testing.T) {
	for _, c := range []struct {
		name      string
		set, want int
	}{
		{"no ways, MaxNodes places", 0, 0},
		{"one way of no cost", 1, 0},
		{"several ways, other order", 0b0011, 0},
		{"several ways, other order", 0b0111, 0b11},
		{"MaxWays ways between two", 0b111111111, 0b11},
		{"MaxWays free ways", 0b000000111, 0b011},
		{"free round", 0b1111, 0},
		{"star", 0, 0},
		{"star", 0b00011, 0},
		{"star", 0b00111, 0b000001},
		{"star", 0b11111, 0b000001},
		{"fork with long arms", 0b11111, 0b000100},
		{"two hubs", 0b000011111, 0b110000},
		{"rounds joined by a bridge", 0b1111111, 0b001100},
		{"mesh of MaxWays ways", 0b111111111, 0b101111},
		{"two threes, all ways between", 0b111111111, 0b111111},
	} {
		if got := impl.ForksOf(namedNet(t, c.name), c.set); got != c.want {
			t.Errorf("%s, set %b: %b, not %b", c.name, c.set, got, c.want)
		}
	}
}

func TestForksOfOthers(t *testing.T) {
	eachNet(t, func(t *testing.T, net impl.Net) {
		for _, set := range badSets(len(net.Ways)) {
			if got := impl.ForksOf(net, set); got != -1 {
				t.Errorf("set %d: %d", set, got)
			}
		}
	})
	eachBadNet(t, func(t *testing.T, net impl.Net) {
		if impl.ForksOf(net, 0) != -1 || impl.ForksOf(net, 1) != -1 || impl.ForksOf(net, -1) != -1 {
			t.Error("ForksOf is not -1")
		}
	})
}

// Promise 30.

func TestEachWayIsCountedAtBothPlaces(t *testing.T) {
	eachNet(t, func(t *testing.T, net impl.Net) {
		for set := range 1 << len(net.Ways) {
			row, sum := impl.DegreeRow(net, set), 0
			if len(row) != net.Nodes {
				t.Fatalf("set %b: %v", set, row)
			}
			for place, degree := range row {
				sum += degree
				checkDegree(t, net, set, place, degree)
			}
			if sum != 2*size(set) {
				t.Errorf("set %b: %v, together %d", set, row, sum)
			}
		}
	})
}

func checkDegree(t *testing.T, net impl.Net, set, place, degree int) {
	t.Helper()
	if want := len(waysAt(net, set, place)); degree != want {
		t.Errorf("set %b, place %d: %d ways, not %d", set, place, degree, want)
	}
	leaf, fork := has(impl.LeavesOf(net, set), place), has(impl.ForksOf(net, set), place)
	if leaf != (degree == 1) || fork != (degree >= 3) || has(impl.NodesOf(net, set), place) != (degree > 0) {
		t.Errorf("set %b, place %d: %d ways, leaf %v, fork %v", set, place, degree, leaf, fork)
	}
}

func TestDegreeRowOfSomeSets(t *testing.T) {
	for _, c := range []struct {
		name string
		set  int
		want []int
	}{
		{"no ways, 2 places", 0, []int{0, 0}},
		{"no ways, MaxNodes places", 0, []int{0, 0, 0, 0, 0, 0}},
		{"one way", 0, []int{0, 0}},
		{"one way", 1, []int{1, 1}},
		{"several ways, other order", 0b1111, []int{4, 4}},
		{"several ways, other order", 0b1010, []int{2, 2}},
		{"MaxWays free ways", 0b111111111, []int{9, 9, 0}},
		{"two parts", 0b01, []int{0, 0, 1, 0, 1}},
		{"star", 0b11111, []int{5, 1, 1, 1, 1, 1}},
		{"star", 0b10010, []int{2, 1, 0, 0, 1, 0}},
		{"mesh of MaxWays ways", 0b111111111, []int{3, 3, 4, 3, 2, 3}},
	} {
		if got := impl.DegreeRow(namedNet(t, c.name), c.set); !slices.Equal(got, c.want) {
			t.Errorf("%s, set %b: %v, not %v", c.name, c.set, got, c.want)
		}
	}
}

func TestDegreeRowOfOthers(t *testing.T) {
	eachNet(t, func(t *testing.T, net impl.Net) {
		for _, set := range badSets(len(net.Ways)) {
			if got := impl.DegreeRow(net, set); len(got) != 0 {
				t.Errorf("set %d: %v", set, got)
			}
		}
	})
	eachBadNet(t, func(t *testing.T, net impl.Net) {
		for _, set := range []int{-1, 0, 1} {
			if got := impl.DegreeRow(net, set); len(got) != 0 {
				t.Errorf("set %d: %v", set, got)
			}
		}
	})
}

// Promise 31.

func TestNoChoiceIsGreaterThanARoot(t *testing.T) {
	seen := map[string]int{}
	eachEnds(t, func(t *testing.T, net impl.Net, ends int) {
		root, best := impl.RootOf(net, ends), impl.BestChoice(net, ends)
		if root < 0 {
			return
		}
		further := impl.NodesOf(net, root) &^ ends
		if best < 0 || size(best) > size(further) {
			t.Errorf("choice %b, and the root %b has %b", best, root, further)
		}
		if ends == allOf(net.Nodes) {
			if best != 0 {
				t.Errorf("all places are ends: choice %b", best)
			}
			seen["all places are ends"]++
		} else if best == further {
			seen["the places of the root"]++
		} else {
			seen["other places"]++
		}
	})
	if len(seen) != 3 {
		t.Error("the nets do not show all cases:", seen)
	}
}
