package tests

import (
	"math"
	"math/rand/v2"
	"slices"
	"testing"

	"loop.example/fieldroots/impl"
)

// someSets are all sets of few ways, and of more ways no ways, all ways, each way alone, all but one, and drawn ones.
func someSets(r *rand.Rand, net impl.Net) []int {
	all := allOf(len(net.Ways))
	var sets []int
	if len(net.Ways) <= 4 {
		for set := range all + 1 {
			sets = append(sets, set)
		}
		return sets
	}
	sets = append(sets, 0, all)
	for i := range net.Ways {
		sets = append(sets, 1<<i, without(all, i))
	}
	for range 12 {
		sets = append(sets, r.IntN(all+1))
	}
	return sets
}

// leastCost tries all sets one by one.
func leastCost(net impl.Net, sets []int, fits func(set int) bool) int {
	best := -1
	for _, set := range sets {
		if cost := wantCost(net, set); fits(set) && (best < 0 || cost < best) {
			best = cost
		}
	}
	return best
}

func hasNone(none int) func(set int) bool { return func(set int) bool { return set&none == 0 } }

func hasAll(all int) func(set int) bool { return func(set int) bool { return all&^set == 0 } }

// eachJoined takes nets and ends with all sets of ways that join them, and some sets that may be any.
func eachJoined(t *testing.T, check func(t *testing.T, net impl.Net, ends int, joining, sets []int)) {
	t.Helper()
	r := rand.New(rand.NewPCG(19, 20))
	eachEnds(t, func(t *testing.T, net impl.Net, ends int) {
		check(t, net, ends, joiningSets(net, ends), someSets(r, net))
	})
}

// Promise 67.

func TestWithoutMoreWaysRootsCostNoLess(t *testing.T) {
	seen := map[string]int{}
	eachJoined(t, func(t *testing.T, net impl.Net, ends int, joining, sets []int) {
		cost, root := impl.RootCost(net, ends), impl.RootOf(net, ends)
		for _, set := range sets {
			got, fewer := impl.CostWithout(net, ends, set), impl.CostWithout(net, ends, set&(set-1))
			if want := leastCost(net, joining, hasNone(set)); got != want {
				t.Fatalf("without %b: %d, not %d", set, got, want)
			}
			if got >= 0 && (cost < 0 || got < cost || fewer < 0 || got < fewer) {
				t.Errorf("without %b: %d, a root costs %d, and without one way fewer %d", set, got, cost, fewer)
			}
			seeChange(seen, cost, got)
		}
		if got := impl.CostWithout(net, ends, 0); got != cost {
			t.Errorf("without no ways: %d, not %d", got, cost)
		}
		if root < 0 {
			return
		}
		if got := impl.CostWithout(net, ends, allOf(len(net.Ways))&^root); got != cost {
			t.Errorf("without all ways that are not of the root: %d, not %d", got, cost)
		}
	})
	wantCases(seen, t, "never joined", "not joined then", "as much", "more")
}

func seeChange(seen map[string]int, before, after int) {
	switch {
	case before < 0:
		seen["never joined"]++
	case after < 0:
		seen["not joined then"]++
	case after == before:
		seen["as much"]++
	default:
		seen["more"]++
	}
}

func TestCostWithoutSomeWays(t *testing.T) {
	for _, c := range []struct {
		name                string
		ends, without, want int
	}{
		{"no ways, 2 places", 0, 0, 0},
		{"no ways, 2 places", 0b10, 0, 0},
		{"no ways, 2 places", 0b11, 0, -1},
		{"no ways, MaxNodes places", 0b111111, 0, -1},
		{"one way", 0b11, 0, 5},
		{"one way", 0b11, 1, -1},
		{"one way", 0b01, 1, 0},
		{"one way", 0, 1, 0},
		{"one way of no cost", 0b11, 0, 0},
		{"one way of no cost", 0b11, 1, -1},
		{"several ways, other order", 0b11, 0b0001, 1},
		{"several ways, other order", 0b11, 0b0010, 1},
		{"several ways, other order", 0b11, 0b0110, 2},
		{"several ways, other order", 0b11, 0b1110, 3},
		{"several ways, other order", 0b11, 0b1111, -1},
		{"MaxWays ways between two", 0b11, 0b011111111, 9},
		{"MaxWays ways between two", 0b11, 0b111111111, -1},
		{"MaxWays ways between two", 0b10, 0b111111111, 0},
		{"MaxWays free ways", 0b011, 0b111111110, 0},
		{"MaxWays free ways", 0b011, 0b111111111, -1},
		{"MaxWays free ways", 0b111, 0, -1},
		{"two parts", 0b10100, 0b10, 3},
		{"two parts", 0b10100, 0b01, -1},
		{"two parts", 0b01010, 0b01, 0},
		{"two parts", 0b00011, 0, -1},
		{"two parts", 0b00001, 0b11, 0},
		{"path cheaper than way", 0b100001, 0b000001, 5},
		{"path cheaper than way", 0b100001, 0b000010, 9},
		{"path cheaper than way", 0b100001, 0b111110, 9},
		{"path cheaper than way", 0b100001, 0b000011, -1},
		{"path cheaper than way", 0b110000, 0b100000, 13},
		{"free round", 0b0101, 0b0001, 0},
		{"free round", 0b0101, 0b0011, 0},
		{"free round", 0b0101, 0b0101, -1},
		{"free round", 0b1111, 0b0011, -1},
		// Ways of one of two roots, and then of both.
		{"hub of three", 0b0111, 0b00001, 6},
		{"hub of three", 0b0111, 0b11000, 6},
		{"hub of three", 0b0111, 0b01010, 7},
		{"hub of three", 0b0111, 0b10001, 7},
		{"hub of three", 0b0111, 0b01001, -1},
		{"hub of three", 0b0011, 0b01000, 4},
		{"hub of three", 0b0011, 0b01010, 7},
		{"hub of three", 0b1111, 0b00001, 7},
		{"hub of three", 0, 0b11111, 0},
		{"two hubs", 0b001111, 0b111100000, 5},
		{"two hubs", 0b001111, 0b000000100, 7},
		{"two hubs", 0b001111, 0b110000100, -1},
		{"two hubs", 0b001111, 0b000011111, 9},
		{"all greatest costs", 0b111111, 0b000001111, 45},
		{"all greatest costs", 0b111111, 0b000011111, -1},
	} {
		if got := impl.CostWithout(namedNet(t, c.name), c.ends, c.without); got != c.want {
			t.Errorf("%s, ends %b without %b: %d, not %d", c.name, c.ends, c.without, got, c.want)
		}
	}
}

func TestCostWithoutOfOthers(t *testing.T) {
	checkOtherSets(t, impl.CostWithout)
}

// checkOtherSets takes ends that are none, sets that are none, and nets that are none.
func checkOtherSets(t *testing.T, cost func(net impl.Net, ends, set int) int) {
	t.Helper()
	eachBadEnds(t, func(t *testing.T, net impl.Net, ends int) {
		for _, set := range []int{0, 1, allOf(len(net.Ways))} {
			if got := cost(net, ends, set); got != -1 {
				t.Errorf("ends %d, set %d: %d", ends, set, got)
			}
		}
	})
	eachNet(t, func(t *testing.T, net impl.Net) {
		for _, set := range append(badSets(len(net.Ways)), 1<<len(net.Ways)|1) {
			for _, ends := range []int{0, 1, 3, allOf(net.Nodes), allOf(net.Nodes) + 1, -1} {
				if got := cost(net, ends, set); got != -1 {
					t.Errorf("ends %d, set %d: %d", ends, set, got)
				}
			}
		}
	})
}

// Promise 68.

func TestWithOrWithoutOneWayTheLeastRootIsFound(t *testing.T) {
	seen := map[string]int{}
	eachEnds(t, func(t *testing.T, net impl.Net, ends int) {
		cost, all := impl.RootCost(net, ends), allOf(len(net.Ways))
		for i := range net.Ways {
			with, less := impl.CostWith(net, ends, 1<<i), impl.CostWithout(net, ends, 1<<i)
			if least := lesser(with, less); least != cost {
				t.Errorf("with the way %d %d, without it %d, and a root costs %d", i, with, less, cost)
			}
			seeBest(seen, with, less)
		}
		want := -1
		if wantJoins(net, all, ends) {
			want = wantCost(net, all)
		}
		if got := impl.CostWith(net, ends, all); got != want || want >= 0 && got != impl.CostOf(net, all) {
			t.Errorf("with all ways: %d, not %d", got, want)
		}
	})
	wantCases(seen, t, "not joined", "with it alone", "cheaper with it", "as cheap", "cheaper without it")
}

// lesser is of what is told alone.
func lesser(a, b int) int {
	if a < 0 || b >= 0 && b < a {
		return b
	}
	return a
}

func seeBest(seen map[string]int, with, less int) {
	switch {
	case with < 0:
		seen["not joined"]++
	case less < 0:
		seen["with it alone"]++
	case with < less:
		seen["cheaper with it"]++
	case with == less:
		seen["as cheap"]++
	default:
		seen["cheaper without it"]++
	}
}

func TestCostWithComparesAllSets(t *testing.T) {
	seen := map[string]int{}
	eachJoined(t, func(t *testing.T, net impl.Net, ends int, joining, sets []int) {
		cost := impl.RootCost(net, ends)
		for _, set := range append(sets, 0) {
			got := impl.CostWith(net, ends, set)
			if want := leastCost(net, joining, hasAll(set)); got != want {
				t.Fatalf("with %b: %d, not %d", set, got, want)
			}
			seeChange(seen, cost, got)
		}
		if got := impl.CostWith(net, ends, 0); got != cost {
			t.Errorf("with no ways: %d, not %d", got, cost)
		}
	})
	wantCases(seen, t, "never joined", "as much", "more")
}

func TestCostWithSomeWays(t *testing.T) {
	for _, c := range []struct {
		name             string
		ends, with, want int
	}{
		{"no ways, 2 places", 0, 0, 0},
		{"no ways, 2 places", 0b10, 0, 0},
		{"no ways, 2 places", 0b11, 0, -1},
		{"one way", 0b11, 0, 5},
		{"one way", 0b11, 1, 5},
		{"one way", 0b01, 0, 0},
		// A way that no root has, for roots of no ends and of one end have none.
		{"one way", 0b01, 1, 5},
		{"one way", 0, 1, 5},
		{"several ways, other order", 0b11, 0, 1},
		{"several ways, other order", 0b11, 0b0001, 3},
		{"several ways, other order", 0b11, 0b0100, 1},
		{"several ways, other order", 0b11, 0b0110, 2},
		{"several ways, other order", 0b11, 0b1111, 7},
		{"several ways, other order", 0b01, 0b1111, 7},
		{"MaxWays ways between two", 0b11, 0b111111111, 81},
		{"MaxWays ways between two", 0b01, 0b000000011, 18},
		{"MaxWays free ways", 0b011, 0b111111111, 0},
		{"MaxWays free ways", 0b111, 0b111111111, -1},
		{"two parts", 0b10100, 0b10, 3},
		{"two parts", 0b01010, 0b01, 3},
		{"two parts", 0b00001, 0b11, 3},
		{"two parts", 0b00011, 0, -1},
		{"two parts", 0b00011, 0b11, -1},
		{"path cheaper than way", 0b100001, 0b000001, 9},
		{"path cheaper than way", 0b100001, 0b000010, 5},
		{"path cheaper than way", 0b100001, 0b000011, 10},
		{"path cheaper than way", 0b100001, 0b011110, 5},
		{"path cheaper than way", 0b110000, 0b000010, 2},
		{"path cheaper than way", 0b110000, 0b000001, 10},
		// Ways that make a round.
		{"path cheaper than way", 0b100001, 0b111111, 14},
		{"hub of three", 0b0111, 0b01011, 9},
		{"hub of three", 0b0111, 0b11111, 12},
		{"hub of three", 0, 0b11111, 12},
		{"free round", 0b1111, 0b1111, 0},
		{"round beside a way", 0b11000, 0b0111, 4},
		{"hub of three", 0b0111, 0b00111, 6},
		{"hub of three", 0b0111, 0b01000, 6},
		{"hub of three", 0b0111, 0b11000, 6},
		{"hub of three", 0b0111, 0b01001, 7},
		{"hub of three", 0b0111, 0b11001, 8},
		{"hub of three", 0b0011, 0b00001, 4},
		{"hub of three", 0b0011, 0b00100, 5},
		{"hub of three", 0b1111, 0b11000, 8},
		{"two hubs", 0b001111, 0b110000000, 8},
		{"all greatest costs", 0b111111, 0b000111111, 54},
		{"all greatest costs", 0b111111, 0b111111111, 81},
	} {
		if got := impl.CostWith(namedNet(t, c.name), c.ends, c.with); got != c.want {
			t.Errorf("%s, ends %b with %b: %d, not %d", c.name, c.ends, c.with, got, c.want)
		}
	}
}

func TestCostWithOfOthers(t *testing.T) {
	checkOtherSets(t, impl.CostWith)
}

// Promise 69.

func TestWhatEachRootMustHaveAllRootsHave(t *testing.T) {
	seen := map[string]int{}
	eachJoined(t, func(t *testing.T, net impl.Net, ends int, joining, _ []int) {
		must, cost := impl.MustWays(net, ends), impl.RootCost(net, ends)
		if want := wantMust(net, joining); must != want || (must < 0) != (cost < 0) {
			t.Fatalf("%b, not %b, and a root costs %d", must, want, cost)
		}
		if must < 0 {
			seen["no root"]++
			return
		}
		for _, root := range impl.AllRoots(net, ends) {
			if must&^root != 0 {
				t.Errorf("the root %b has not all of %b", root, must)
			}
		}
		for i := range net.Ways {
			less := impl.CostWithout(net, ends, 1<<i)
			if has(must, i) != (less < 0 || less > cost) {
				t.Errorf("%b: without the way %d it costs %d, and a root %d", must, i, less, cost)
			}
			seeMust(seen, has(must, i), less)
		}
	})
	wantCases(seen, t, "no root", "done without", "dearer to do without", "cannot be done without")
}

// wantMust has what all cheapest sets have, also those with more ways than they need.
func wantMust(net impl.Net, joining []int) int {
	cost := leastCost(net, joining, hasAll(0))
	if cost < 0 {
		return -1
	}
	must := allOf(len(net.Ways))
	for _, set := range joining {
		if wantCost(net, set) == cost {
			must &= set
		}
	}
	return must
}

func seeMust(seen map[string]int, must bool, less int) {
	switch {
	case !must:
		seen["done without"]++
	case less < 0:
		seen["cannot be done without"]++
	default:
		seen["dearer to do without"]++
	}
}

// someChoices are ways that roots must have and may have, told by hand.
var someChoices = []struct {
	name            string
	ends, must, may int
}{
	{"no ways, 2 places", 0, 0, 0},
	{"no ways, 2 places", 0b10, 0, 0},
	{"no ways, 2 places", 0b11, -1, -1},
	{"no ways, MaxNodes places", 0b100000, 0, 0},
	{"no ways, MaxNodes places", 0b111111, -1, -1},
	{"one way", 0b11, 1, 1},
	{"one way", 0b10, 0, 0},
	{"one way", 0, 0, 0},
	{"one way of no cost", 0b11, 1, 1},
	{"one way of no cost", 0b01, 0, 0},
	{"several ways, other order", 0b11, 0, 0b0110},
	{"MaxWays ways between two", 0b11, 0, 0b111111111},
	{"MaxWays free ways", 0b011, 0, 0b111111111},
	{"MaxWays free ways", 0b100, 0, 0},
	{"MaxWays free ways", 0b110, -1, -1},
	{"double way and a bridge", 0b011, 0b010, 0b010},
	{"double way and a bridge", 0b101, 0b110, 0b110},
	{"double way and a bridge", 0b110, 0b100, 0b100},
	// The other way would cost nothing, but no root has it.
	{"two parts", 0b10100, 0b01, 0b01},
	{"two parts", 0b01010, 0b10, 0b10},
	{"two parts", 0b00001, 0, 0},
	{"two parts", 0b00011, -1, -1},
	{"two parts", 0b11111, -1, -1},
	{"path cheaper than way", 0b100001, 0b111110, 0b111110},
	{"equal costs, fewer ways", 0b101, 0, 0b111},
	{"equal costs, fewer ways", 0b011, 0b001, 0b001},
	{"equal costs, fewer ways", 0b111, 0b011, 0b011},
	{"equal costs, as many ways", 0b1001, 0, 0b1111},
	{"equal ways", 0b111, 0, 0b1111},
	{"equal ways", 0b011, 0, 0b1001},
	{"hub of three", 0b0111, 0, 0b11111},
	{"hub of three", 0b0011, 0b01000, 0b01000},
	{"hub of three", 0b0101, 0b00101, 0b00101},
	{"hub of three", 0b1111, 0b00111, 0b00111},
	{"two hubs", 0b000111, 0b000001111, 0b000001111},
	{"two hubs", 0b001111, 0b000011111, 0b000011111},
	{"two hubs", 0b000101, 0, 0b010001101},
	{"free way before a dear one", 0b111, 0b11, 0b11},
	{"free way before a dear one", 0b011, 0b01, 0b01},
	{"free detour", 0b101, 0, 0b111},
	{"free round", 0b0011, 0, 0b1111},
	{"free round", 0b0001, 0, 0},
	{"rounds joined by a bridge", 0b000011, 0, 0b0000111},
	{"rounds joined by a bridge", 0b111111, 0b1001110, 0b1111110},
	{"mesh of MaxWays ways", 0b100011, 0b010110100, 0b010110111},
	{"all greatest costs", 0b010101, 0, 0b111111111},
	{"all greatest costs", 0b111111, 0, 0b111111111},
}

func TestMustWaysOfSomeNets(t *testing.T) {
	for _, c := range someChoices {
		if got := impl.MustWays(namedNet(t, c.name), c.ends); got != c.must {
			t.Errorf("%s, ends %b: %b, not %b", c.name, c.ends, got, c.must)
		}
	}
}

func TestMustWaysOfOthers(t *testing.T) {
	eachBadEnds(t, func(t *testing.T, net impl.Net, ends int) {
		if got := impl.MustWays(net, ends); got != -1 {
			t.Errorf("ends %d: %d", ends, got)
		}
	})
}

// Promise 70.

func TestAWayIsInSomeRootIfItCostsNoMoreWithIt(t *testing.T) {
	seen := map[string]int{}
	eachEnds(t, func(t *testing.T, net impl.Net, ends int) {
		may, must, cost := impl.MayWays(net, ends), impl.MustWays(net, ends), impl.RootCost(net, ends)
		if want := wantMay(net, ends); may != want || (may < 0) != (cost < 0) {
			t.Fatalf("%b, not %b, and a root costs %d", may, want, cost)
		}
		if may < 0 {
			seen["no root"]++
			return
		}
		if must&^may != 0 {
			t.Errorf("%b has not all of %b", may, must)
		}
		for i, w := range net.Ways {
			with := impl.CostWith(net, ends, 1<<i)
			if has(may, i) && with != cost || !has(may, i) && w.Cost > 0 && with <= cost {
				t.Errorf("%b: with the way %d it costs %d, and a root %d", may, i, with, cost)
			}
			seeMay(seen, has(may, i), with == cost, has(must, i))
		}
	})
	wantCases(seen, t, "no root", "in all roots", "in some roots", "in none, and dearer", "in none, and needless")
}

// wantMay is drawn together from roots that have no cheapest set within them.
func wantMay(net impl.Net, ends int) int {
	roots := wantRoots(net, ends)
	if len(roots) == 0 {
		return -1
	}
	may := 0
	for i := range net.Ways {
		if slices.ContainsFunc(roots, func(root int) bool { return has(root, i) }) {
			may |= 1 << i
		}
	}
	return may
}

func seeMay(seen map[string]int, may, same, must bool) {
	switch {
	case must:
		seen["in all roots"]++
	case may:
		seen["in some roots"]++
	case same:
		seen["in none, and needless"]++
	default:
		seen["in none, and dearer"]++
	}
}

func TestMayWaysOfSomeNets(t *testing.T) {
	for _, c := range someChoices {
		if got := impl.MayWays(namedNet(t, c.name), c.ends); got != c.may {
			t.Errorf("%s, ends %b: %b, not %b", c.name, c.ends, got, c.may)
		}
	}
}

func TestMayWaysOfOthers(t *testing.T) {
	eachBadEnds(t, func(t *testing.T, net impl.Net, ends int) {
		if got := impl.MayWays(net, ends); got != -1 {
			t.Errorf("ends %d: %d", ends, got)
		}
	})
}

// Promise 71.

func TestADearerWayMakesRootsDearerByNoMore(t *testing.T) {
	seen := map[string]int{}
	r := rand.New(rand.NewPCG(21, 22))
	eachNet(t, func(t *testing.T, net impl.Net) {
		costs, musts := allCosts(net), allMusts(net)
		for i, w := range net.Ways {
			room := impl.MaxCost - w.Cost
			if room == 0 {
				seen["no room"]++
				continue
			}
			for _, more := range []int{1, 1 + r.IntN(room), room} {
				dearer, ok := impl.DearerNet(net, i, more)
				checkDearer(t, net, dearer, ok, i, more)
				for ends, after := range allCosts(dearer) {
					checkRise(t, ends, costs[ends], after, more, has(musts[ends], i))
					seeRise(seen, costs[ends], after, more, has(musts[ends], i))
				}
			}
		}
	})
	wantCases(seen, t, "no room", "not joined", "done without", "must have it, dearer by all of it", "must have it, dearer by some of it")
}

func allMusts(net impl.Net) []int {
	musts := make([]int, 1<<net.Nodes)
	for ends := range musts {
		musts[ends] = impl.MustWays(net, ends)
	}
	return musts
}

func checkDearer(t *testing.T, net, dearer impl.Net, ok bool, number, more int) {
	t.Helper()
	want := netOf(net.Nodes, slices.Clone(net.Ways)...)
	want.Ways[number].Cost += more
	if !ok || !impl.NetOk(dearer) || dearer.Nodes != want.Nodes || !slices.Equal(dearer.Ways, want.Ways) {
		t.Fatalf("the way %d dearer by %d: %v, %v, not %v", number, more, dearer, ok, want)
	}
}

func checkRise(t *testing.T, ends, before, after, more int, must bool) {
	t.Helper()
	if (before < 0) != (after < 0) || after < before || after > before+more {
		t.Errorf("ends %b: %d, before %d, and the way is dearer by %d", ends, after, before, more)
	}
	// Each root of before has a way that all must have, so none of them is as cheap afterwards.
	if before >= 0 && must != (after > before) {
		t.Errorf("ends %b: %d, before %d, and that all must have the way is %v", ends, after, before, must)
	}
}

func seeRise(seen map[string]int, before, after, more int, must bool) {
	switch {
	case before < 0:
		seen["not joined"]++
	case !must:
		seen["done without"]++
	case after == before+more:
		seen["must have it, dearer by all of it"]++
	default:
		seen["must have it, dearer by some of it"]++
	}
}

func TestDearerNetOfSomeNets(t *testing.T) {
	for _, c := range []struct {
		name                      string
		way, more, ends, cost, is int
	}{
		{"one way", 0, 1, 0b11, 6, 6},
		{"one way", 0, 4, 0b11, 9, 9},
		{"one way", 0, 4, 0b01, 0, 9},
		{"one way of no cost", 0, 9, 0b11, 9, 9},
		{"several ways, other order", 1, 8, 0b11, 1, 9},
		{"several ways, other order", 3, 7, 0b11, 1, 9},
		{"MaxWays free ways", 8, 9, 0b011, 0, 9},
		{"MaxWays free ways", 0, 1, 0b111, -1, 1},
		{"two parts", 0, 6, 0b10100, 9, 9},
		{"two parts", 1, 1, 0b00011, -1, 1},
		{"path cheaper than way", 5, 1, 0b100001, 6, 2},
		{"path cheaper than way", 5, 4, 0b100001, 9, 5},
		{"path cheaper than way", 5, 5, 0b100001, 9, 6},
		{"path cheaper than way", 1, 8, 0b100001, 9, 9},
		{"hub of three", 0, 7, 0b0111, 6, 9},
		{"hub of three", 4, 6, 0b0111, 6, 9},
		{"hub of three", 3, 1, 0b0011, 4, 4},
		{"hub of three", 3, 6, 0b0011, 4, 9},
		{"two hubs", 2, 1, 0b001111, 6, 2},
		{"two hubs", 2, 2, 0b001111, 7, 3},
		{"two hubs", 2, 8, 0b001111, 7, 9},
	} {
		net := namedNet(t, c.name)
		dearer, ok := impl.DearerNet(net, c.way, c.more)
		checkDearer(t, net, dearer, ok, c.way, c.more)
		if got := impl.RootCost(dearer, c.ends); got != c.cost || dearer.Ways[c.way].Cost != c.is {
			t.Errorf("%s, the way %d dearer by %d: %v, and a root of %b costs %d, not %d", c.name, c.way, c.more, dearer, c.ends, got, c.cost)
		}
	}
}

func TestDearerNetOfOthers(t *testing.T) {
	check := func(net impl.Net, number, more int) {
		t.Helper()
		if got, ok := impl.DearerNet(net, number, more); ok || got.Nodes != 0 || len(got.Ways) != 0 {
			t.Errorf("the way %d dearer by %d: %v, %v", number, more, got, ok)
		}
	}
	eachNet(t, func(t *testing.T, net impl.Net) {
		for i, w := range net.Ways {
			room := impl.MaxCost - w.Cost
			for _, more := range []int{0, -1, -w.Cost, -impl.MaxCost, math.MinInt, room + 1, room + 2, 100,
				math.MaxInt, math.MaxInt - w.Cost, math.MaxInt - w.Cost + 1, math.MinInt + room} {
				if more < 1 || more > room {
					check(net, i, more)
				}
			}
		}
		for _, number := range append(badPlaces(len(net.Ways)), impl.MaxWays) {
			for _, more := range []int{0, 1, impl.MaxCost, math.MaxInt} {
				if number < 0 || number >= len(net.Ways) {
					check(net, number, more)
				}
			}
		}
	})
	// With a way dearer by 1 some of them would be nets.
	eachBadNet(t, func(t *testing.T, net impl.Net) {
		for number := -1; number <= len(net.Ways); number++ {
			for _, more := range []int{-1, 0, 1, 2, impl.MaxCost, math.MaxInt} {
				check(net, number, more)
			}
		}
	})
}

// Promise 72.

func TestWhatAllMustHaveOneHasAndSomeMayHave(t *testing.T) {
	seen := map[string]int{}
	eachEnds(t, func(t *testing.T, net impl.Net, ends int) {
		root, must, may := impl.RootOf(net, ends), impl.MustWays(net, ends), impl.MayWays(net, ends)
		if root < 0 {
			if must != -1 || may != -1 {
				t.Errorf("no root, but %b and %b", must, may)
			}
			seen["no root"]++
			return
		}
		if must < 0 || may < 0 || must&^root != 0 || root&^may != 0 {
			t.Errorf("the root %b, and it must have %b, and may have %b", root, must, may)
		}
		seeBetween(seen, root, must, may)
	})
	wantCases(seen, t, "no root", "no ways", "just one root", "some ways are choices", "all ways are choices")
}

func seeBetween(seen map[string]int, root, must, may int) {
	switch {
	case may == 0:
		seen["no ways"]++
	case must == may:
		seen["just one root"]++
	case must == 0:
		seen["all ways are choices"]++
	default:
		seen["some ways are choices"]++
	}
}

func TestRootOfIsBetweenWhatMustBeAndWhatMayBe(t *testing.T) {
	for _, c := range someChoices {
		root := impl.RootOf(namedNet(t, c.name), c.ends)
		if root < 0 && c.may != -1 || root >= 0 && (c.may < 0 || c.must&^root != 0 || root&^c.may != 0) {
			t.Errorf("%s, ends %b: the root %b is not between %b and %b", c.name, c.ends, root, c.must, c.may)
		}
	}
}
