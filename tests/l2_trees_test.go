package tests

import (
	"math/bits"
	"slices"
	"testing"

	"loop.example/fieldroots/impl"
)

func size(set int) int { return bits.OnesCount(uint(set)) }

func without(set, number int) int { return set &^ (1 << number) }

func withoutWay(net impl.Net, number int) impl.Net {
	return netOf(net.Nodes, slices.Delete(slices.Clone(net.Ways), number, number+1)...)
}

func withoutLast(net impl.Net) impl.Net { return withoutWay(net, len(net.Ways)-1) }

func eachTree(net impl.Net, check func(set int)) {
	for set := range 1 << len(net.Ways) {
		if impl.TreeOk(net, set) {
			check(set)
		}
	}
}

// namedNet does not let a wrong name pass for the empty net.
func namedNet(t *testing.T, name string) impl.Net {
	t.Helper()
	net, ok := edgeNets()[name]
	if !ok {
		t.Fatal("no net is named", name)
	}
	return net
}

// Promise 10.

func TestNoWayOfATreeIsNeedless(t *testing.T) {
	eachNet(t, func(t *testing.T, net impl.Net) {
		if !impl.TreeOk(net, 0) {
			t.Error("no ways are no tree")
		}
		for i := range net.Ways {
			if !impl.TreeOk(net, 1<<i) {
				t.Errorf("the way %d alone is no tree", i)
			}
		}
		eachTree(net, func(set int) {
			for i := range net.Ways {
				if has(set, i) && impl.JoinsEnds(net, without(set, i), impl.NodesOf(net, set)) {
					t.Errorf("tree %d has the needless way %d", set, i)
				}
			}
		})
	})
}

func TestTreesAreJoinedAndHaveNoRounds(t *testing.T) {
	eachNet(t, func(t *testing.T, net impl.Net) {
		for set := range 1 << len(net.Ways) {
			if impl.TreeOk(net, set) != wantTree(net, set) {
				t.Errorf("set %d: TreeOk is %v", set, impl.TreeOk(net, set))
			}
		}
	})
}

// wantTree gives joined places one label, way by way: a way within a label closes a round.
func wantTree(net impl.Net, set int) bool {
	labels, used := []int{0, 1, 2, 3, 4, 5}, map[int]bool{}
	for i, w := range net.Ways {
		if !has(set, i) {
			continue
		}
		from, to := labels[w.A], labels[w.B]
		if from == to {
			return false
		}
		for place, label := range labels {
			if label == from {
				labels[place] = to
			}
		}
		used[w.A], used[w.B] = true, true
	}
	left := map[int]bool{}
	for place := range used {
		left[labels[place]] = true
	}
	return len(left) <= 1
}

func TestTreeOkOfSomeSets(t *testing.T) {
	for _, c := range []struct {
		name string
		set  int
		want bool
	}{
		{"no ways, MaxNodes places", 0, true},
		{"one way", 1, true},
		{"several ways, other order", 0b0110, false},
		{"MaxWays ways between two", 0b100000000, true},
		{"MaxWays ways between two", 0b111111111, false},
		{"three parts", 0b011, false},
		{"two parts", 0b11, false},
		{"free round", 0b1111, false},
		{"free round", 0b1011, true},
		// As many ways as a tree of these places has, but not joined.
		{"round beside a way", 0b1111, false},
		{"round beside a way", 0b0110, true},
		{"double way beside a way", 0b111, false},
		{"star", 0b11111, true},
		{"rounds joined by a bridge", 0b1111111, false},
		{"rounds joined by a bridge", 0b1101011, true},
		{"two threes, all ways between", 0b001001111, true},
	} {
		if impl.TreeOk(namedNet(t, c.name), c.set) != c.want {
			t.Errorf("%s, set %b: not %v", c.name, c.set, c.want)
		}
	}
}

func TestTreeOkOfOthers(t *testing.T) {
	eachNet(t, func(t *testing.T, net impl.Net) {
		for _, set := range badSets(len(net.Ways)) {
			if impl.TreeOk(net, set) {
				t.Errorf("set %d: a tree", set)
			}
		}
	})
	eachBadNet(t, func(t *testing.T, net impl.Net) {
		if impl.TreeOk(net, 0) || impl.TreeOk(net, 1) || impl.TreeOk(net, -1) {
			t.Error("TreeOk is true")
		}
	})
}

// Promise 11.

func TestTreesHaveTwoLeaves(t *testing.T) {
	eachNet(t, func(t *testing.T, net impl.Net) {
		eachTree(net, func(set int) {
			leaves := impl.LeavesOf(net, set)
			if set != 0 && (leaves < 0 || size(leaves) < 2) {
				t.Errorf("tree %d has the leaves %d", set, leaves)
			}
		})
		for set := range 1 << len(net.Ways) {
			checkLeaves(t, net, set)
		}
	})
}

func checkLeaves(t *testing.T, net impl.Net, set int) {
	leaves, want := impl.LeavesOf(net, set), 0
	for place := range net.Nodes {
		at := waysAt(net, set, place)
		if len(at) != 1 {
			continue
		}
		want |= 1 << place
		if !has(impl.NodesOf(net, set), place) || has(impl.NodesOf(net, without(set, at[0])), place) {
			t.Errorf("set %d: the leaf %d is no place of it, or one without its way %d", set, place, at[0])
		}
	}
	if leaves != want {
		t.Errorf("set %d has the leaves %d, not %d", set, leaves, want)
	}
}

func waysAt(net impl.Net, set, place int) []int {
	var at []int
	for i, w := range net.Ways {
		if has(set, i) && (w.A == place || w.B == place) {
			at = append(at, i)
		}
	}
	return at
}

func TestLeavesOfSomeSets(t *testing.T) {
	for _, c := range []struct {
		name      string
		set, want int
	}{
		{"no ways, MaxNodes places", 0, 0},
		{"one way of no cost", 1, 0b11},
		{"several ways, other order", 0b0110, 0},
		{"MaxWays free ways", 0b111111111, 0},
		{"free round", 0b1111, 0},
		{"free round", 0b0111, 0b1001},
		{"three parts", 0b111, 0b111111},
		{"round beside a way", 0b1111, 0b11000},
		{"double way and a bridge", 0b111, 0b100},
		{"star", 0b11111, 0b111110},
		{"star", 0b00001, 0b100001},
		{"fork with long arms", 0b11111, 0b101001},
	} {
		if got := impl.LeavesOf(namedNet(t, c.name), c.set); got != c.want {
			t.Errorf("%s, set %b: %b, not %b", c.name, c.set, got, c.want)
		}
	}
}

func TestLeavesOfOthers(t *testing.T) {
	eachNet(t, func(t *testing.T, net impl.Net) {
		for _, set := range badSets(len(net.Ways)) {
			if impl.LeavesOf(net, set) != -1 {
				t.Errorf("set %d: %d", set, impl.LeavesOf(net, set))
			}
		}
	})
	eachBadNet(t, func(t *testing.T, net impl.Net) {
		if impl.LeavesOf(net, 0) != -1 || impl.LeavesOf(net, 1) != -1 || impl.LeavesOf(net, -1) != -1 {
			t.Error("LeavesOf is not -1")
		}
	})
}

// Promise 12.

func TestPrunedTreesJoinWhatTheyDidOfTheEnds(t *testing.T) {
	eachNet(t, func(t *testing.T, net impl.Net) {
		eachTree(net, func(set int) {
			for ends := range 1 << net.Nodes {
				checkPruned(t, net, set, ends)
			}
		})
	})
}

func checkPruned(t *testing.T, net impl.Net, set, ends int) {
	left := impl.Pruned(net, set, ends)
	if left < 0 || left&^set != 0 || !impl.TreeOk(net, left) || left != wantPruned(net, set, ends) {
		t.Fatalf("tree %d, ends %d: %d is left", set, ends, left)
	}
	if impl.LeavesOf(net, left)&^ends != 0 {
		t.Errorf("tree %d, ends %d: %d has leaves that are no ends", set, ends, left)
	}
	if impl.JoinsEnds(net, set, ends) && !impl.JoinsEnds(net, left, ends) {
		t.Errorf("tree %d joins the ends %d, but not %d, which is left", set, ends, left)
	}
	if again := impl.Pruned(net, left, ends); again != left {
		t.Errorf("tree %d, ends %d: %d is left, and then %d", set, ends, left, again)
	}
}

// wantPruned keeps each way of the tree that has ends on both sides.
func wantPruned(net impl.Net, set, ends int) int {
	left := 0
	for i, w := range net.Ways {
		if has(set, i) && wantReach(net, without(set, i), w.A)&ends != 0 && wantReach(net, without(set, i), w.B)&ends != 0 {
			left |= 1 << i
		}
	}
	return left
}

func TestPrunedOfSomeTrees(t *testing.T) {
	for _, c := range []struct {
		name            string
		set, ends, want int
	}{
		{"no ways, MaxNodes places", 0, 0, 0},
		{"no ways, MaxNodes places", 0, 0b111111, 0},
		{"one way", 1, 0b11, 1},
		{"one way", 1, 0b10, 0},
		{"one way", 1, 0, 0},
		{"long path, ways from behind", 0b11111, 0b001100, 0b00100},
		{"long path, ways from behind", 0b11111, 0b001000, 0},
		{"long path, ways from behind", 0b11111, 0, 0},
		{"star", 0b11111, 0b000110, 0b11000},
		{"star", 0b11111, 0b000001, 0},
		{"fork with long arms", 0b11111, 0b101000, 0b11100},
		{"fork with long arms", 0b11111, 0b000110, 0b00001},
		{"fork with long arms", 0b11111, 0b101001, 0b11111},
		// Ends that the tree does not have.
		{"three parts", 0b001, 0b011110, 0},
		{"three parts", 0b001, 0b110001, 0b001},
		{"place 0 alone", 0b1111, 0b001011, 0b0011},
		{"place 0 alone", 0b1111, 0b000001, 0},
		{"place 0 alone", 0b0011, 0b110001, 0},
	} {
		if got := impl.Pruned(namedNet(t, c.name), c.set, c.ends); got != c.want {
			t.Errorf("%s, set %b, ends %b: %b, not %b", c.name, c.set, c.ends, got, c.want)
		}
	}
}

func TestPrunedOfOthers(t *testing.T) {
	eachNet(t, func(t *testing.T, net impl.Net) {
		for set := range 1 << len(net.Ways) {
			all := allOf(net.Nodes)
			if !wantTree(net, set) && (impl.Pruned(net, set, 0) != -1 || impl.Pruned(net, set, all) != -1) {
				t.Errorf("set %d is no tree, and is pruned", set)
			}
		}
		for _, set := range badSets(len(net.Ways)) {
			if impl.Pruned(net, set, 0) != -1 || impl.Pruned(net, set, 3) != -1 {
				t.Errorf("set %d is pruned", set)
			}
		}
		for _, ends := range badSets(net.Nodes) {
			if impl.Pruned(net, 0, ends) != -1 || len(net.Ways) > 0 && impl.Pruned(net, 1, ends) != -1 {
				t.Errorf("ends %d: pruned", ends)
			}
		}
	})
	eachBadNet(t, func(t *testing.T, net impl.Net) {
		if impl.Pruned(net, 0, 0) != -1 || impl.Pruned(net, 1, 3) != -1 || impl.Pruned(net, 1, 0) != -1 {
			t.Error("Pruned is not -1")
		}
	})
}

// Promise 13.

func TestCheapestWaysFirstAreTheLeast(t *testing.T) {
	told, untold := 0, 0
	eachNet(t, func(t *testing.T, net impl.Net) {
		tree, all, places := impl.SpanTree(net), allOf(len(net.Ways)), allOf(net.Nodes)
		if (tree >= 0) != impl.JoinsEnds(net, all, places) || tree != wantSpan(net) {
			t.Fatalf("tree %d, not %d", tree, wantSpan(net))
		}
		if tree < 0 {
			untold++
			return
		}
		told++
		if !impl.TreeOk(net, tree) || !impl.JoinsEnds(net, tree, places) {
			t.Errorf("%d is no tree, or does not join all", tree)
		}
		for set := range all + 1 {
			if impl.JoinsEnds(net, set, places) && impl.CostOf(net, set) < impl.CostOf(net, tree) {
				t.Errorf("set %d costs less than the tree %d", set, tree)
			}
		}
	})
	if told == 0 || untold == 0 {
		t.Errorf("the nets do not show both cases: %d told, %d not told", told, untold)
	}
}

// wantSpan compares all sets with as many ways as a tree that spans has, each by its ways from the cheapest one on,
// and of equal costs from the least number on.
func wantSpan(net impl.Net) int {
	best := -1
	var bestRow []int
	for set := range 1 << len(net.Ways) {
		if size(set) != net.Nodes-1 || !wantJoins(net, set, allOf(net.Nodes)) {
			continue
		}
		var row []int
		for i, w := range net.Ways {
			if has(set, i) {
				row = append(row, w.Cost*len(net.Ways)+i)
			}
		}
		slices.Sort(row)
		if best < 0 || slices.Compare(row, bestRow) < 0 {
			best, bestRow = set, row
		}
	}
	return best
}

func TestSpanTreeOfSomeNets(t *testing.T) {
	for name, want := range map[string]int{
		"no ways, 2 places":           -1,
		"no ways, MaxNodes places":    -1,
		"one way":                     0b1,
		"one way of no cost":          0b1,
		"several ways, other order":   0b0010,
		"MaxWays ways between two":    0b000000001,
		"MaxWays free ways":           -1,
		"free round":                  0b0111,
		"free detour":                 0b011,
		"equal costs, fewer ways":     0b011,
		"equal costs, as many ways":   0b0111,
		"equal ways":                  0b0011,
		"two parts":                   -1,
		"place 0 alone":               -1,
		"last place alone":            -1,
		"round beside a way":          -1,
		"double way beside a way":     -1,
		"long path, ways from behind": 0b11111,
		"path cheaper than way":       0b111110,
		"rounds joined by a bridge":   0b1011110,
		"double way and a bridge":     0b110,
		"star":                        0b11111,
		"mesh of MaxWays ways":        0b010110101,
		"all greatest costs":          0b000011111,
	} {
		if got := impl.SpanTree(namedNet(t, name)); got != want {
			t.Errorf("%s: %b, not %b", name, got, want)
		}
	}
}

func TestSpanTreeOfOthers(t *testing.T) {
	eachBadNet(t, func(t *testing.T, net impl.Net) {
		if impl.SpanTree(net) != -1 {
			t.Error(impl.SpanTree(net))
		}
	})
}

// Promise 14.

func TestAWayMoreCostsNoMore(t *testing.T) {
	seen := map[string]int{}
	eachNet(t, func(t *testing.T, net impl.Net) {
		cost, tree := impl.SpanCost(net), impl.SpanTree(net)
		if (cost < 0) != (tree < 0) || cost != impl.CostOf(net, tree) || cost != wantSpanCost(net) {
			t.Fatalf("cost %d of the tree %d, not %d", cost, tree, wantSpanCost(net))
		}
		if cost < 0 || len(net.Ways) == 0 {
			return
		}
		less := impl.SpanCost(withoutLast(net))
		switch {
		case less < 0:
			seen["not told"]++
		case less < cost:
			t.Errorf("cost %d, and %d without the last way", cost, less)
		case less == cost:
			seen["as much"]++
		default:
			seen["more"]++
		}
	})
	if len(seen) != 3 {
		t.Error("the nets do not show all cases:", seen)
	}
}

func wantSpanCost(net impl.Net) int {
	best := -1
	for set := range 1 << len(net.Ways) {
		if cost := wantCost(net, set); (best < 0 || cost < best) && wantJoins(net, set, allOf(net.Nodes)) {
			best = cost
		}
	}
	return best
}

func TestSpanCostOfSomeNets(t *testing.T) {
	for name, want := range map[string]int{
		"no ways, MaxNodes places":     -1,
		"one way":                      5,
		"one way of no cost":           0,
		"several ways, other order":    1,
		"free round":                   0,
		"two parts":                    -1,
		"last place alone":             -1,
		"long path, ways from behind":  45,
		"path cheaper than way":        5,
		"rounds joined by a bridge":    12,
		"two threes, all ways between": 17,
		"all greatest costs":           45,
	} {
		if got := impl.SpanCost(namedNet(t, name)); got != want {
			t.Errorf("%s: %d, not %d", name, got, want)
		}
	}
}

func TestSpanCostOfOthers(t *testing.T) {
	eachBadNet(t, func(t *testing.T, net impl.Net) {
		if impl.SpanCost(net) != -1 {
			t.Error(impl.SpanCost(net))
		}
	})
}

// Promise 15.

func TestThereAreTreesJustForNetsThatHangTogether(t *testing.T) {
	doubled := 0
	eachNet(t, func(t *testing.T, net impl.Net) {
		many := impl.SpanMany(net)
		if many < 0 || (many > 0) != (impl.SpanTree(net) >= 0) || many != wantMany(net) {
			t.Fatalf("%d trees, not %d", many, wantMany(net))
		}
		if len(net.Ways) == 0 || len(net.Ways) == impl.MaxWays {
			return
		}
		last := net.Ways[len(net.Ways)-1]
		through := many - impl.SpanMany(withoutLast(net))
		if got := impl.SpanMany(netOf(net.Nodes, append(slices.Clone(net.Ways), last)...)); got != many+through {
			t.Errorf("%d trees, %d of them through the last way, and %d with it doubled", many, through, got)
		}
		if through > 0 {
			doubled++
		}
	})
	if doubled == 0 {
		t.Error("no net has a tree through its last way")
	}
}

// wantMany counts trees by a determinant: ways at each place, less those between two, without the place 0.
func wantMany(net impl.Net) int {
	rows := make([][]int, net.Nodes)
	for i := range rows {
		rows[i] = make([]int, net.Nodes)
	}
	for _, w := range net.Ways {
		rows[w.A][w.A]++
		rows[w.B][w.B]++
		rows[w.A][w.B]--
		rows[w.B][w.A]--
	}
	for i := range rows {
		rows[i] = rows[i][1:]
	}
	return determinant(rows[1:])
}

func determinant(rows [][]int) int {
	if len(rows) == 0 {
		return 1
	}
	sum, sign := 0, 1
	for column, number := range rows[0] {
		var rest [][]int
		for _, row := range rows[1:] {
			rest = append(rest, slices.Concat(row[:column], row[column+1:]))
		}
		sum += sign * number * determinant(rest)
		sign = -sign
	}
	return sum
}

func TestSpanManyOfSomeNets(t *testing.T) {
	for name, want := range map[string]int{
		"no ways, 2 places":            0,
		"no ways, MaxNodes places":     0,
		"one way":                      1,
		"several ways, other order":    4,
		"MaxWays ways between two":     9,
		"MaxWays free ways":            0,
		"free round":                   4,
		"two parts":                    0,
		"place 0 alone":                0,
		"last place alone":             0,
		"round beside a way":           0,
		"rounds joined by a bridge":    9,
		"double way and a bridge":      2,
		"star":                         1,
		"path cheaper than way":        6,
		"two threes, all ways between": 81,
	} {
		if got := impl.SpanMany(namedNet(t, name)); got != want {
			t.Errorf("%s: %d, not %d", name, got, want)
		}
	}
	four := netOf(4, way(0, 1, 0), way(0, 2, 0), way(0, 3, 0), way(1, 2, 0), way(1, 3, 0), way(2, 3, 0))
	if got := impl.SpanMany(four); got != 16 {
		t.Errorf("a way between each two of four places: %d", got)
	}
}

func TestSpanManyOfOthers(t *testing.T) {
	eachBadNet(t, func(t *testing.T, net impl.Net) {
		if impl.SpanMany(net) != -1 {
			t.Error(impl.SpanMany(net))
		}
	})
}

// Promise 16.

func TestBridgesAreInEachTreeThatSpans(t *testing.T) {
	bridged, beside := 0, 0
	eachNet(t, func(t *testing.T, net impl.Net) {
		bridges, tree := impl.BridgeWays(net), impl.SpanTree(net)
		if bridges < 0 || bridges > allOf(len(net.Ways)) {
			t.Fatalf("bridges %d", bridges)
		}
		if tree < 0 {
			return
		}
		if bridges&^tree != 0 {
			t.Errorf("bridges %d, tree %d", bridges, tree)
		}
		for i := range net.Ways {
			many := impl.SpanMany(withoutWay(net, i))
			if has(bridges, i) != (many == 0) {
				t.Errorf("bridges %d, and %d trees without the way %d", bridges, many, i)
			}
		}
		if bridges == allOf(len(net.Ways)) {
			bridged++
		} else if bridges != 0 {
			beside++
		}
	})
	if bridged == 0 || beside == 0 {
		t.Errorf("the nets do not show both cases: %d of bridges alone, %d with bridges beside rounds", bridged, beside)
	}
}

func TestBridgesHaveTheirPlacesInTwoPartsWithoutThem(t *testing.T) {
	eachNet(t, func(t *testing.T, net impl.Net) {
		want := 0
		for i, w := range net.Ways {
			if !has(wantReach(withoutWay(net, i), allOf(len(net.Ways)-1), w.A), w.B) {
				want |= 1 << i
			}
		}
		if got := impl.BridgeWays(net); got != want {
			t.Errorf("bridges %b, not %b", got, want)
		}
	})
}

func TestBridgeWaysOfSomeNets(t *testing.T) {
	for name, want := range map[string]int{
		"no ways, 2 places":            0,
		"no ways, MaxNodes places":     0,
		"one way of no cost":           0b1,
		"several ways, other order":    0,
		"MaxWays free ways":            0,
		"free round":                   0,
		"two parts":                    0b11,
		"three parts":                  0b111,
		"place 0 alone":                0b1111,
		"round beside a way":           0b1000,
		"double way beside a way":      0b100,
		"rounds joined by a bridge":    0b0001000,
		"double way and a bridge":      0b100,
		"star":                         0b11111,
		"path cheaper than way":        0,
		"two threes, all ways between": 0,
	} {
		if got := impl.BridgeWays(namedNet(t, name)); got != want {
			t.Errorf("%s: %b, not %b", name, got, want)
		}
	}
}

func TestBridgeWaysOfOthers(t *testing.T) {
	eachBadNet(t, func(t *testing.T, net impl.Net) {
		if impl.BridgeWays(net) != -1 {
			t.Error(impl.BridgeWays(net))
		}
	})
}

// Promises 17 and 18.

func eachLeftOut(t *testing.T, check func(t *testing.T, net impl.Net, tree, number int)) {
	t.Helper()
	checked := 0
	eachNet(t, func(t *testing.T, net impl.Net) {
		tree := impl.SpanTree(net)
		for i := range net.Ways {
			if tree >= 0 && !has(tree, i) {
				check(t, net, tree, i)
				checked++
			}
		}
	})
	if checked == 0 {
		t.Error("no way is left out")
	}
}

func TestWhatIsLeftOutCostsNoLessThanWhatJoinsItsPlaces(t *testing.T) {
	eachLeftOut(t, func(t *testing.T, net impl.Net, tree, number int) {
		cheap := 0
		for i, w := range net.Ways {
			if has(tree, i) && w.Cost <= net.Ways[number].Cost {
				cheap |= 1 << i
			}
		}
		if !impl.JoinsEnds(net, cheap, wayPlaces(net.Ways[number])) {
			t.Errorf("tree %d: its ways %d do not join the places of the way %d", tree, cheap, number)
		}
	})
}

func TestDearerWaysThatAreLeftOutChangeNoTree(t *testing.T) {
	eachLeftOut(t, func(t *testing.T, net impl.Net, tree, number int) {
		cost := impl.SpanCost(net)
		dearer := netOf(net.Nodes, slices.Clone(net.Ways)...)
		dearer.Ways[number].Cost = impl.MaxCost
		if impl.SpanCost(dearer) != cost || impl.CostOf(dearer, tree) != cost {
			t.Errorf("cost %d of the tree %d, and %d of %d with the way %d at MaxCost",
				cost, tree, impl.SpanCost(dearer), impl.CostOf(dearer, tree), number)
		}
	})
}
