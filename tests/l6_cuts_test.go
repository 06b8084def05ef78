package tests

import (
	"math"
	"math/rand/v2"
	"slices"
	"testing"

	"loop.example/fieldroots/impl"
)

func cut(places, weight int) impl.Cut { return impl.Cut{Places: places, Weight: weight} }

func cutsOf(cuts ...impl.Cut) []impl.Cut { return cuts }

// wantTaken looks for one place of each way in the list of the places of the cut, and for the other one in that of the others.
func wantTaken(net impl.Net, places int) int {
	inside, outside, taken := listOf(places), listOf(allOf(net.Nodes)&^places), 0
	for i, w := range net.Ways {
		for _, ends := range [][]int{{w.A, w.B}, {w.B, w.A}} {
			if slices.Contains(inside, ends[0]) && slices.Contains(outside, ends[1]) {
				taken += 1 << i
			}
		}
	}
	return taken
}

func wantParts(ends, places int) bool {
	inside := 0
	for _, end := range listOf(ends) {
		if slices.Contains(listOf(places), end) {
			inside++
		}
	}
	return inside > 0 && inside < size(ends)
}

// whyNot tells why cuts do not pack, and nothing if they do.
func whyNot(net impl.Net, ends int, cuts []impl.Cut) string {
	if len(cuts) > impl.MaxCuts {
		return "too many"
	}
	load := make([]int, len(net.Ways))
	for _, cut := range cuts {
		if cut.Weight < 0 || cut.Weight > impl.MaxCost*impl.MaxWays {
			return "a weight that is none"
		}
		if !wantParts(ends, cut.Places) {
			return "not parted"
		}
		for _, i := range listOf(wantTaken(net, cut.Places)) {
			load[i] += cut.Weight
		}
	}
	for i, w := range net.Ways {
		if load[i] > w.Cost {
			return "too much on a way"
		}
	}
	return ""
}

func weightOf(cuts []impl.Cut) int {
	weight := 0
	for _, cut := range cuts {
		weight += cut.Weight
	}
	return weight
}

// drawnCuts weigh no more than the ways that they take have left, most of them just that.
func drawnCuts(r *rand.Rand, net impl.Net, ends int, count int) []impl.Cut {
	var cuts []impl.Cut
	var load [impl.MaxWays]int
	for range count {
		places, room := r.IntN(1<<net.Nodes), r.IntN(impl.MaxCost*impl.MaxWays+1)
		if !wantParts(ends, places) {
			continue
		}
		taken := listOf(wantTaken(net, places))
		for _, i := range taken {
			room = min(room, net.Ways[i].Cost-load[i])
		}
		if r.IntN(3) == 0 {
			room = r.IntN(room + 1)
		}
		for _, i := range taken {
			load[i] += room
		}
		cuts = append(cuts, impl.Cut{Places: places, Weight: room})
	}
	return cuts
}

// eachCuts takes cuts that pack, and the same with one that weighs some more, with one of any places, or with many more.
func eachCuts(t *testing.T, check func(t *testing.T, net impl.Net, ends int, cuts []impl.Cut)) {
	t.Helper()
	r := rand.New(rand.NewPCG(3, 4))
	eachEnds(t, func(t *testing.T, net impl.Net, ends int) {
		cuts := drawnCuts(r, net, ends, r.IntN(impl.MaxCuts+1))
		lists := [][]impl.Cut{cuts, append(slices.Clone(cuts), impl.Cut{Places: r.IntN(1 << net.Nodes)})}
		if len(cuts) > 0 {
			heavy := slices.Clone(cuts)
			heavy[r.IntN(len(cuts))].Weight += 1 + r.IntN(2)
			lists = append(lists, heavy, slices.Repeat(cuts, impl.MaxCuts/len(cuts)+1))
		}
		for _, list := range lists {
			check(t, net, ends, list)
			if t.Failed() {
				t.Fatalf("cuts: %+v", list)
			}
		}
	})
}

// Promise 36.

func TestWithoutTheWaysOfACutItsPlacesAreLeftAlone(t *testing.T) {
	seen := map[string]int{}
	eachNet(t, func(t *testing.T, net impl.Net) {
		ways, all := allOf(len(net.Ways)), allOf(net.Nodes)
		for places := range all + 1 {
			taken := impl.CutWays(net, places)
			if want := wantTaken(net, places); taken != want {
				t.Fatalf("places %b: %b, not %b", places, taken, want)
			}
			if others := impl.CutWays(net, all&^places); others != taken {
				t.Errorf("places %b: %b, and %b of all others", places, taken, others)
			}
			for _, place := range listOf(places) {
				if reach := impl.ReachOf(net, ways&^taken, place); reach&^places != 0 {
					t.Errorf("places %b without %b: from %d to %b", places, taken, place, reach)
				}
			}
			seeTaken(seen, net, places, taken)
		}
	})
	wantCases(seen, t, "no places", "all places", "whole parts", "all ways", "some ways")
}

func seeTaken(seen map[string]int, net impl.Net, places, taken int) {
	switch {
	case places == 0:
		seen["no places"]++
	case places == allOf(net.Nodes):
		seen["all places"]++
	case taken == 0:
		seen["whole parts"]++
	case taken == allOf(len(net.Ways)):
		seen["all ways"]++
	default:
		seen["some ways"]++
	}
}

func TestCutWaysOfSomeCuts(t *testing.T) {
	for _, c := range []struct {
		name         string
		places, want int
	}{
		{"no ways, 2 places", 0, 0},
		{"no ways, 2 places", 0b01, 0},
		{"no ways, 2 places", 0b11, 0},
		{"no ways, MaxNodes places", 0b010101, 0},
		{"no ways, MaxNodes places", 0b111111, 0},
		{"one way", 0, 0},
		{"one way", 0b01, 1},
		{"one way", 0b10, 1},
		{"one way", 0b11, 0},
		{"one way of no cost", 0b10, 1},
		{"several ways, other order", 0b01, 0b1111},
		{"several ways, other order", 0b11, 0},
		{"MaxWays ways between two", 0b10, 0b111111111},
		{"MaxWays free ways", 0b101, 0b111111111},
		// Whole parts of a net take nothing.
		{"MaxWays free ways", 0b011, 0},
		{"MaxWays free ways", 0b100, 0},
		{"two parts", 0b00001, 0},
		{"two parts", 0b10100, 0},
		{"two parts", 0b01011, 0},
		{"two parts", 0b11111, 0},
		{"two parts", 0b00100, 0b01},
		{"two parts", 0b00110, 0b11},
		{"place 0 alone", 0b000001, 0},
		{"place 0 alone", 0b111110, 0},
		{"place 0 alone", 0b001111, 0b0100},
		{"star", 0b000001, 0b11111},
		{"star", 0b111110, 0b11111},
		{"star", 0b100000, 0b00001},
		{"star", 0b000011, 0b01111},
		{"rounds joined by a bridge", 0b000111, 0b0001000},
		{"rounds joined by a bridge", 0b001100, 0b1010110},
		{"two threes, all ways between", 0b000111, 0b111111111},
		{"two threes, all ways between", 0b001001, 0b001001110},
		{"all greatest costs", 0b010101, 0b111111111},
		{"all greatest costs", 0b111111, 0},
	} {
		if got := impl.CutWays(namedNet(t, c.name), c.places); got != c.want {
			t.Errorf("%s, places %b: %b, not %b", c.name, c.places, got, c.want)
		}
	}
}

func TestCutWaysOfOthers(t *testing.T) {
	eachBadEnds(t, func(t *testing.T, net impl.Net, places int) {
		if got := impl.CutWays(net, places); got != -1 {
			t.Errorf("places %d: %d", places, got)
		}
	})
}

// Promise 37.

func TestCutsThatPartEndsTakeAWayOfEachRoot(t *testing.T) {
	seen := map[string]int{}
	eachEnds(t, func(t *testing.T, net impl.Net, ends int) {
		root := impl.RootOf(net, ends)
		for places := range 1 << net.Nodes {
			parts := impl.PartsEnds(net, ends, places)
			if parts != wantParts(ends, places) {
				t.Fatalf("places %b: %v", places, parts)
			}
			if impl.PartsEnds(net, ends, allOf(net.Nodes)&^places) != parts {
				t.Errorf("places %b: %v, and not so for all others", places, parts)
			}
			switch taken := impl.CutWays(net, places); {
			case !parts:
				seen["not parted"]++
			case root < 0 && taken == 0:
				seen["no root, and nothing taken"]++
			case root < 0:
				seen["no root"]++
			case root&taken == 0:
				t.Errorf("places %b: the cut takes %b, and no way of the root %b", places, taken, root)
			default:
				seen["a root"]++
			}
		}
	})
	wantCases(seen, t, "not parted", "no root, and nothing taken", "no root", "a root")
}

func TestPartsEndsOfSomeEnds(t *testing.T) {
	for _, c := range []struct {
		name         string
		ends, places int
		want         bool
	}{
		{"no ways, 2 places", 0b11, 0b01, true},
		{"no ways, 2 places", 0b11, 0b10, true},
		{"no ways, 2 places", 0b11, 0b11, false},
		{"no ways, 2 places", 0b11, 0, false},
		{"no ways, MaxNodes places", 0b111111, 0b100000, true},
		{"no ways, MaxNodes places", 0b111111, 0b111111, false},
		{"all greatest costs", 0b100001, 0b011110, false},
		{"all greatest costs", 0b100001, 0b111110, true},
		{"all greatest costs", 0b111111, 0b011111, true},
		{"two parts", 0b11000, 0b01010, true},
		{"two parts", 0b10100, 0b10100, false},
		{"two parts", 0b10100, 0b01011, false},
		// No cut parts no ends, or one end.
		{"one way", 0, 0, false},
		{"one way", 0, 0b01, false},
		{"one way", 0, 0b11, false},
		{"one way", 0b01, 0b01, false},
		{"one way", 0b01, 0b10, false},
		{"one way", 0b10, 0b01, false},
		{"one way", 0b10, 0b11, false},
	} {
		if got := impl.PartsEnds(namedNet(t, c.name), c.ends, c.places); got != c.want {
			t.Errorf("%s, ends %b, places %b: %v", c.name, c.ends, c.places, got)
		}
	}
}

func TestPartsEndsOfOthers(t *testing.T) {
	eachBadEnds(t, func(t *testing.T, net impl.Net, bad int) {
		for _, good := range []int{0, 1, 2, 3, bad} {
			if impl.PartsEnds(net, bad, good) || impl.PartsEnds(net, good, bad) {
				t.Errorf("%d and %d: parted", bad, good)
			}
		}
	})
	eachBadNet(t, func(t *testing.T, net impl.Net) {
		if impl.PartsEnds(net, 3, 1) || impl.PartsEnds(net, 3, 2) {
			t.Error("parted")
		}
	})
}

// Promise 38.

func TestFewerCutsPackAsWell(t *testing.T) {
	seen := map[string]int{}
	eachCuts(t, func(t *testing.T, net impl.Net, ends int, cuts []impl.Cut) {
		why, packs := whyNot(net, ends, cuts), impl.PacksOk(net, ends, cuts)
		if packs != (why == "") {
			t.Fatalf("they pack: %v, but %q", packs, why)
		}
		if !impl.PacksOk(net, ends, nil) || !impl.PacksOk(net, ends, []impl.Cut{}) {
			t.Error("no cuts do not pack")
		}
		if !packs {
			seen[why]++
			return
		}
		free := slices.Clone(cuts)
		for i := range free {
			free[i].Weight = 0
		}
		if !impl.PacksOk(net, ends, free) || len(cuts) > 0 && !impl.PacksOk(net, ends, cuts[:len(cuts)-1]) {
			t.Error("with weights of nothing, or without the last one, they do not pack")
		}
		if len(cuts) == impl.MaxCuts {
			seen["MaxCuts cuts"]++
		}
		if len(cuts) == 0 {
			seen["no cuts"]++
		}
	})
	wantCases(seen, t, "no cuts", "MaxCuts cuts", "too many", "not parted", "too much on a way", "a weight that is none")
}

// someCuts have what all cuts weigh together, and -1 if they do not pack.
var someCuts = []struct {
	name string
	ends int
	cuts []impl.Cut
	want int
}{
	{"no ways, 2 places", 0, nil, 0},
	{"no ways, 2 places", 0b10, nil, 0},
	{"no ways, 2 places", 0b11, nil, 0},
	{"all greatest costs", 0b111111, nil, 0},
	{"all greatest costs", 0b111111, []impl.Cut{}, 0},
	// Cuts that take nothing: of any weight that is one.
	{"no ways, 2 places", 0b11, cutsOf(cut(0b01, 0)), 0},
	{"no ways, 2 places", 0b11, cutsOf(cut(0b01, 81)), 81},
	{"no ways, 2 places", 0b11, cutsOf(cut(0b10, 82)), -1},
	{"no ways, 2 places", 0b11, cutsOf(cut(0b10, -1)), -1},
	{"no ways, 2 places", 0b11, cutsOf(cut(0b01, 81), cut(0b10, 81), cut(0b01, 0)), 162},
	{"no ways, 2 places", 0b11, cutsOf(cut(0b01, 81), cut(0b10, 82)), -1},
	{"no ways, MaxNodes places", 0b100001, cutsOf(cut(0b001111, 81), cut(0b100000, 7)), 88},
	{"MaxWays free ways", 0b101, cutsOf(cut(0b100, 81), cut(0b011, 80)), 161},
	{"MaxWays free ways", 0b101, cutsOf(cut(0b100, 81), cut(0b001, 0)), 81},
	{"MaxWays free ways", 0b101, cutsOf(cut(0b100, 81), cut(0b001, 1)), -1},
	{"two parts", 0b00110, cutsOf(cut(0b01010, 81), cut(0b10101, 81), cut(0b00010, 0)), 162},
	{"two parts", 0b00110, cutsOf(cut(0b00010, 1)), -1},
	{"two parts", 0b00110, cutsOf(cut(0b00100, 3)), 3},
	{"two parts", 0b00110, cutsOf(cut(0b00100, 4)), -1},
	// What a way costs, and one more; the same places, and all other ones, more than once.
	{"one way", 0b11, cutsOf(cut(0b01, 5)), 5},
	{"one way", 0b11, cutsOf(cut(0b01, 6)), -1},
	{"one way", 0b11, cutsOf(cut(0b01, 4), cut(0b10, 1)), 5},
	{"one way", 0b11, cutsOf(cut(0b01, 4), cut(0b10, 2)), -1},
	{"one way", 0b11, cutsOf(cut(0b01, 2), cut(0b01, 0), cut(0b01, 3)), 5},
	{"one way", 0b11, cutsOf(cut(0b01, 2), cut(0b01, 1), cut(0b01, 3)), -1},
	{"one way of no cost", 0b11, cutsOf(cut(0b01, 0), cut(0b10, 0)), 0},
	{"one way of no cost", 0b11, cutsOf(cut(0b01, 0), cut(0b10, 1)), -1},
	{"several ways, other order", 0b11, cutsOf(cut(0b10, 1)), 1},
	{"several ways, other order", 0b11, cutsOf(cut(0b10, 2)), -1},
	{"MaxWays ways between two", 0b11, cutsOf(cut(0b01, 9)), 9},
	{"MaxWays ways between two", 0b11, cutsOf(cut(0b01, 10)), -1},
	{"MaxWays ways between two", 0b11, cutsOf(cut(0b01, 81)), -1},
	{"star", 0b111110, cutsOf(cut(2, 1), cut(4, 2), cut(8, 3), cut(16, 4), cut(32, 5)), 15},
	{"star", 0b111110, cutsOf(cut(2, 1), cut(4, 2), cut(8, 3), cut(16, 4), cut(32, 6)), -1},
	{"star", 0b111110, cutsOf(cut(2, 2), cut(4, 2), cut(8, 3), cut(16, 4), cut(32, 5)), -1},
	{"hub of three", 0b0111, cutsOf(cut(1, 2), cut(2, 1), cut(4, 2)), 5},
	{"hub of three", 0b0111, cutsOf(cut(1, 2), cut(2, 2), cut(4, 2)), -1},
	{"rounds joined by a bridge", 0b110011, cutsOf(cut(0b000111, 9), cut(0b000001, 1), cut(0b000010, 1)), 11},
	{"rounds joined by a bridge", 0b110011, cutsOf(cut(0b000111, 9), cut(0b000001, 1), cut(0b111101, 1)), 11},
	{"rounds joined by a bridge", 0b110011, cutsOf(cut(0b000111, 9), cut(0b001111, 1)), -1},
	// No cuts, MaxCuts cuts and one more.
	{"no ways, 2 places", 0b11, slices.Repeat(cutsOf(cut(0b01, 81)), impl.MaxCuts), 648},
	{"no ways, 2 places", 0b11, slices.Repeat(cutsOf(cut(0b01, 81)), impl.MaxCuts+1), -1},
	{"no ways, 2 places", 0b11, slices.Repeat(cutsOf(cut(0b01, 0)), impl.MaxCuts+1), -1},
	{"no ways, 2 places", 0b11, slices.Repeat(cutsOf(cut(0b01, 0)), 100), -1},
	{"long path, ways from behind", 0b100001, slices.Repeat(cutsOf(cut(0b000111, 1)), impl.MaxCuts), 8},
	{"all greatest costs", 0b111111, cutsOf(cut(1, 4), cut(2, 4), cut(4, 4), cut(8, 4), cut(16, 4), cut(32, 4), cut(7, 0), cut(56, 1)), 25},
	{"all greatest costs", 0b111111, cutsOf(cut(1, 4), cut(2, 4), cut(4, 4), cut(8, 4), cut(16, 4), cut(32, 4), cut(7, 1), cut(56, 1)), -1},
	{"all greatest costs", 0b111111, cutsOf(cut(1, 4), cut(2, 4), cut(4, 4), cut(8, 4), cut(16, 4), cut(32, 4), cut(7, 0), cut(56, 1), cut(7, 0)), -1},
	// Cuts that do not part the ends, though they weigh nothing.
	{"one way", 0b11, cutsOf(cut(0, 0)), -1},
	{"one way", 0b11, cutsOf(cut(0b11, 0)), -1},
	{"one way", 0b11, cutsOf(cut(0b01, 5), cut(0b11, 0)), -1},
	{"one way", 0, cutsOf(cut(0b01, 0)), -1},
	{"one way", 0b01, cutsOf(cut(0b01, 0)), -1},
	{"one way", 0b10, cutsOf(cut(0b01, 0)), -1},
	{"star", 0b100010, cutsOf(cut(0b000010, 1), cut(0b100000, 5)), 6},
	{"star", 0b100010, cutsOf(cut(0b000010, 1), cut(0b000100, 1)), -1},
	{"star", 0b100010, cutsOf(cut(0b011101, 0), cut(0b100000, 5)), -1},
	{"two parts", 0b10100, cutsOf(cut(0b10100, 0)), -1},
	// Weights that are none, though together they could be.
	{"MaxWays ways between two", 0b11, cutsOf(cut(0b01, 9), cut(0b01, -1)), -1},
	{"MaxWays ways between two", 0b11, cutsOf(cut(0b01, 10), cut(0b01, -1)), -1},
	{"MaxWays ways between two", 0b11, cutsOf(cut(0b01, math.MinInt)), -1},
	{"MaxWays ways between two", 0b11, cutsOf(cut(0b01, math.MaxInt), cut(0b10, math.MaxInt), cut(0b10, 2)), -1},
	{"no ways, 2 places", 0b11, slices.Repeat(cutsOf(cut(0b01, 1<<62)), 4), -1},
	// Cuts with places that are none.
	{"one way", 0b11, cutsOf(cut(-1, 0)), -1},
	{"one way", 0b11, cutsOf(cut(-2, 0)), -1},
	{"one way", 0b11, cutsOf(cut(0b101, 0)), -1},
	{"one way", 0b11, cutsOf(cut(0b01, 5), cut(0b110, 0)), -1},
	{"all greatest costs", 0b111111, cutsOf(cut(0b1000000, 0)), -1},
	{"all greatest costs", 0b111111, cutsOf(cut(0b1000001, 0), cut(0b000001, 0)), -1},
}

func TestPacksOkOfSomeCuts(t *testing.T) {
	for _, c := range someCuts {
		if got := impl.PacksOk(namedNet(t, c.name), c.ends, c.cuts); got != (c.want >= 0) {
			t.Errorf("%s, ends %b, %v: %v", c.name, c.ends, c.cuts, got)
		}
	}
}

func TestPacksOkOfOthers(t *testing.T) {
	eachBadEnds(t, func(t *testing.T, net impl.Net, ends int) {
		for _, cuts := range [][]impl.Cut{nil, cutsOf(cut(0b01, 0)), cutsOf(cut(0b10, 0))} {
			if impl.PacksOk(net, ends, cuts) {
				t.Errorf("ends %d, %v: they pack", ends, cuts)
			}
		}
	})
	eachNet(t, func(t *testing.T, net impl.Net) {
		for _, places := range badSets(net.Nodes) {
			if impl.PacksOk(net, 3, cutsOf(cut(places, 0))) || impl.PacksOk(net, 3, cutsOf(cut(0b01, 0), cut(places, 0))) {
				t.Errorf("places %d: they pack", places)
			}
		}
	})
}

// Promise 39.

func TestCutsBoundRootsFromBelow(t *testing.T) {
	seen := map[string]int{}
	eachCuts(t, func(t *testing.T, net impl.Net, ends int, cuts []impl.Cut) {
		sum, root := impl.PackSum(net, ends, cuts), impl.RootCost(net, ends)
		want := -1
		if whyNot(net, ends, cuts) == "" {
			want = weightOf(cuts)
		}
		if sum != want {
			t.Fatalf("weight %d, not %d", sum, want)
		}
		if all := impl.CostOf(net, allOf(len(net.Ways))); root > all {
			t.Errorf("a root costs %d, and all ways %d", root, all)
		}
		switch {
		case sum < 0:
			seen["not packed"]++
		case root < 0:
			seen["no root"]++
		case sum > root:
			t.Errorf("weight %d, and a root costs %d", sum, root)
		case sum > 0 && sum == root:
			seen["as much"]++
		case sum > 0:
			seen["less"]++
		default:
			seen["nothing"]++
		}
	})
	wantCases(seen, t, "not packed", "no root", "as much", "less", "nothing")
}

func TestPackSumOfSomeCuts(t *testing.T) {
	for _, c := range someCuts {
		if got := impl.PackSum(namedNet(t, c.name), c.ends, c.cuts); got != c.want {
			t.Errorf("%s, ends %b, %v: %d, not %d", c.name, c.ends, c.cuts, got, c.want)
		}
	}
}

func TestPackSumOfOthers(t *testing.T) {
	eachBadEnds(t, func(t *testing.T, net impl.Net, ends int) {
		for _, cuts := range [][]impl.Cut{nil, cutsOf(cut(0b01, 0)), cutsOf(cut(0b10, 3))} {
			if got := impl.PackSum(net, ends, cuts); got != -1 {
				t.Errorf("ends %d, %v: %d", ends, cuts, got)
			}
		}
	})
}

// Promise 40.

// wantPathCuts has one cut for each distance below that of the second place, from a list of all distances.
func wantPathCuts(far [][]int, a, b int) ([]impl.Cut, bool) {
	if a == b || far[a][b] < 0 {
		return nil, false
	}
	levels := slices.DeleteFunc(slices.Clone(far[a]), func(distance int) bool { return distance < 0 || distance > far[a][b] })
	slices.Sort(levels)
	levels = slices.Compact(levels)
	var cuts []impl.Cut
	for i, level := range levels[:len(levels)-1] {
		cut := impl.Cut{Weight: levels[i+1] - level}
		for place, distance := range far[a] {
			if slices.Contains(levels[:i+1], distance) {
				cut.Places += 1 << place
			}
		}
		cuts = append(cuts, cut)
	}
	return cuts, true
}

func TestForTwoEndsCutsWeighWhatThePathCosts(t *testing.T) {
	seen := map[string]int{}
	eachNet(t, func(t *testing.T, net impl.Net) {
		far, table := farOf(net, wantPaths(net)), impl.FarTable(net)
		for a := range net.Nodes {
			for b := range net.Nodes {
				cuts, ok := impl.PathCuts(net, a, b)
				want, wantOk := wantPathCuts(far, a, b)
				if ok != wantOk || !slices.Equal(cuts, want) {
					t.Fatalf("from %d to %d: %v, %v, not %v, %v", a, b, cuts, ok, want, wantOk)
				}
				if ok {
					checkPathCuts(t, net, 1<<a|1<<b, cuts, table[a][b])
				}
				seePathCuts(seen, table[a], a, b, cuts)
			}
		}
	})
	wantCases(seen, t, "the same place", "not joined", "no cuts", "one cut", "several cuts",
		"places at the same distance", "places as far as the second one", "places farther than it", "places not come to")
}

func checkPathCuts(t *testing.T, net impl.Net, ends int, cuts []impl.Cut, far int) {
	t.Helper()
	if !impl.PacksOk(net, ends, cuts) || impl.PackSum(net, ends, cuts) != far {
		t.Errorf("ends %b: %v do not pack, or do not weigh %d", ends, cuts, far)
	}
	for i := 1; i < len(cuts); i++ {
		if before, places := cuts[i-1].Places, cuts[i].Places; before&^places != 0 || before == places {
			t.Errorf("ends %b, %v: %b is not within %b", ends, cuts, before, places)
		}
	}
}

func seePathCuts(seen map[string]int, row []int, a, b int, cuts []impl.Cut) {
	switch {
	case a == b:
		seen["the same place"]++
		return
	case row[b] < 0:
		seen["not joined"]++
		return
	}
	seen[[]string{"no cuts", "one cut", "several cuts"}[min(len(cuts), 2)]]++
	for place, distance := range row {
		switch {
		case distance < 0:
			seen["places not come to"]++
		case distance > row[b]:
			seen["places farther than it"]++
		case distance == row[b] && place != b:
			seen["places as far as the second one"]++
		case distance < row[b] && slices.Contains(row[:place], distance):
			seen["places at the same distance"]++
		}
	}
}

func TestPathCutsOfSomePlaces(t *testing.T) {
	none := []impl.Cut{}
	for _, c := range []struct {
		name string
		a, b int
		want []impl.Cut
	}{
		// The same place twice, and places that are not joined.
		{"no ways, 2 places", 0, 0, nil},
		{"no ways, 2 places", 0, 1, nil},
		{"no ways, MaxNodes places", 5, 0, nil},
		{"no ways, MaxNodes places", 5, 5, nil},
		{"one way", 1, 1, nil},
		{"free round", 3, 3, nil},
		{"MaxWays free ways", 0, 2, nil},
		{"MaxWays free ways", 2, 2, nil},
		{"two parts", 0, 1, nil},
		{"two parts", 1, 4, nil},
		// No cost between them.
		{"one way of no cost", 0, 1, none},
		{"one way of no cost", 1, 0, none},
		{"free round", 0, 2, none},
		{"MaxWays free ways", 1, 0, none},
		{"two parts", 1, 3, none},
		{"free way before a dear one", 0, 1, none},
		// Ways of no cost: both places in the same cut, or both in none.
		{"free way before a dear one", 0, 2, cutsOf(cut(0b011, 5))},
		{"free way before a dear one", 1, 2, cutsOf(cut(0b011, 5))},
		{"free way before a dear one", 2, 0, cutsOf(cut(0b100, 5))},
		{"free way before a dear one", 2, 1, cutsOf(cut(0b100, 5))},
		{"dear way before a free one", 0, 1, cutsOf(cut(0b001, 5))},
		{"dear way before a free one", 1, 0, cutsOf(cut(0b110, 5))},
		{"one way", 0, 1, cutsOf(cut(0b01, 5))},
		{"one way", 1, 0, cutsOf(cut(0b10, 5))},
		{"several ways, other order", 0, 1, cutsOf(cut(0b01, 1))},
		{"MaxWays ways between two", 0, 1, cutsOf(cut(0b01, 9))},
		// Places that are not come to are in no cut.
		{"two parts", 2, 4, cutsOf(cut(0b00100, 3))},
		{"two parts", 4, 2, cutsOf(cut(0b10000, 3))},
		{"place 0 alone", 1, 5, cutsOf(cut(0b000010, 1), cut(0b000110, 1), cut(0b001110, 1), cut(0b011110, 1))},
		{"last place alone", 4, 2, cutsOf(cut(0b010000, 1), cut(0b011000, 1))},
		// Places that are no nearer than the second one are in no cut.
		{"path cheaper than way", 0, 3, cutsOf(cut(0b000001, 1), cut(0b000011, 1), cut(0b000111, 1))},
		{"path cheaper than way", 0, 5, cutsOf(cut(1, 1), cut(3, 1), cut(7, 1), cut(15, 1), cut(31, 1))},
		{"path cheaper than way", 5, 0, cutsOf(cut(32, 1), cut(48, 1), cut(56, 1), cut(60, 1), cut(62, 1))},
		{"long path, ways from behind", 5, 3, cutsOf(cut(0b100000, 9), cut(0b110000, 9))},
		{"star", 1, 5, cutsOf(cut(0b000010, 1), cut(0b000011, 2), cut(0b000111, 1), cut(0b001111, 1), cut(0b011111, 1))},
		{"star", 1, 3, cutsOf(cut(0b000010, 1), cut(0b000011, 2), cut(0b000111, 1))},
		{"star", 5, 1, cutsOf(cut(0b100000, 5), cut(0b100001, 1))},
		{"star of equal arms", 0, 1, cutsOf(cut(0b000001, 1), cut(0b100001, 1))},
		{"star of equal arms", 5, 4, cutsOf(cut(0b100000, 1))},
		{"equal costs, fewer ways", 0, 2, cutsOf(cut(0b001, 1), cut(0b011, 1))},
		{"mesh of MaxWays ways", 0, 5, cutsOf(cut(0b000001, 2), cut(0b000111, 1), cut(0b011111, 3))},
		{"mesh of MaxWays ways", 5, 0, cutsOf(cut(0b100000, 3), cut(0b111000, 1), cut(0b111100, 1), cut(0b111110, 1))},
		{"all greatest costs", 0, 1, cutsOf(cut(0b000001, 9))},
		{"all greatest costs", 0, 2, cutsOf(cut(0b000001, 9), cut(0b101011, 9))},
	} {
		got, ok := impl.PathCuts(namedNet(t, c.name), c.a, c.b)
		if ok != (c.want != nil) || !slices.Equal(got, c.want) {
			t.Errorf("%s, from %d to %d: %b, %v, not %b", c.name, c.a, c.b, got, ok, c.want)
		}
	}
}

func TestPathCutsOfOthers(t *testing.T) {
	check := func(t *testing.T, net impl.Net, a, b int) {
		t.Helper()
		if got, ok := impl.PathCuts(net, a, b); len(got) != 0 || ok {
			t.Errorf("from %d to %d: %v, %v", a, b, got, ok)
		}
	}
	eachNet(t, func(t *testing.T, net impl.Net) {
		for _, bad := range badPlaces(net.Nodes) {
			check(t, net, bad, 0)
			check(t, net, 1, bad)
			check(t, net, bad, bad)
		}
	})
	eachBadNet(t, func(t *testing.T, net impl.Net) {
		check(t, net, 0, 1)
		check(t, net, 1, 0)
		check(t, net, 0, 0)
	})
}

// Promise 41.

func TestThereAndBackCutsWeighAsMuch(t *testing.T) {
	seen := map[string]int{}
	eachNet(t, func(t *testing.T, net impl.Net) {
		for a := range net.Nodes {
			for b := range net.Nodes {
				there, ok := impl.PathCuts(net, a, b)
				back, backOk := impl.PathCuts(net, b, a)
				if ok != backOk {
					t.Fatalf("from %d to %d: %v, and back %v", a, b, ok, backOk)
				}
				if ok {
					checkThereAndBack(t, seen, net, 1<<a|1<<b, there, back)
				}
			}
		}
	})
	wantCases(seen, t, "no cuts", "pack at half", "nothing is left at half", "too many")
}

func checkThereAndBack(t *testing.T, seen map[string]int, net impl.Net, ends int, there, back []impl.Cut) {
	t.Helper()
	sum, both := impl.PackSum(net, ends, there), slices.Concat(there, back)
	if sum < 0 || impl.PackSum(net, ends, back) != sum {
		t.Errorf("ends %b: %v weigh %d, and %v do not", ends, there, sum, back)
	}
	if sum > 0 && impl.PacksOk(net, ends, both) {
		t.Errorf("ends %b: %v pack, though they weigh more than a root", ends, both)
	}
	for i := range both {
		both[i].Weight /= 2
	}
	packs := impl.PacksOk(net, ends, both)
	switch {
	case len(both) > impl.MaxCuts && packs:
		t.Errorf("ends %b: %v pack, though they are too many", ends, both)
	case len(both) > impl.MaxCuts:
		seen["too many"]++
	case !packs:
		t.Errorf("ends %b: %v do not pack", ends, both)
	case len(both) == 0:
		seen["no cuts"]++
	case weightOf(both) == 0:
		seen["nothing is left at half"]++
	default:
		seen["pack at half"]++
	}
}

// Promise 42.

func TestTheLeastTreeHasACheapestWayOfEachCut(t *testing.T) {
	seen := map[string]int{}
	eachNet(t, func(t *testing.T, net impl.Net) {
		tree := impl.SpanTree(net)
		for places := range 1 << net.Nodes {
			taken := listOf(impl.CutWays(net, places))
			if tree < 0 || len(taken) == 0 {
				seen["no tree, or no ways"]++
				continue
			}
			least := impl.MaxCost
			for _, i := range taken {
				least = min(least, net.Ways[i].Cost)
			}
			cheapest := slices.DeleteFunc(slices.Clone(taken), func(i int) bool { return net.Ways[i].Cost > least })
			inTree := slices.DeleteFunc(slices.Clone(cheapest), func(i int) bool { return !has(tree, i) })
			switch {
			case len(inTree) == 0:
				t.Errorf("places %b: none of the ways %v is of the tree %b", places, cheapest, tree)
			case len(inTree) < len(cheapest):
				seen["some of the cheapest ways"]++
			case len(cheapest) < len(taken):
				seen["all of the cheapest ways, and dearer ones beside them"]++
			default:
				seen["all ways cost the same"]++
			}
		}
	})
	wantCases(seen, t, "no tree, or no ways", "some of the cheapest ways",
		"all of the cheapest ways, and dearer ones beside them", "all ways cost the same")
}
