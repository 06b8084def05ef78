package tests

import (
	"cmp"
	"math"
	"math/rand/v2"
	"slices"
	"testing"

	"loop.example/fieldroots/impl"
)

// eachFar takes each net with the distances of its places, found by trying all sets of ways for each two of them.
func eachFar(t *testing.T, check func(t *testing.T, net impl.Net, far [][]int)) {
	t.Helper()
	eachNet(t, func(t *testing.T, net impl.Net) { check(t, net, farOf(net, wantPaths(net))) })
}

// wantDearest sorts the costs of the ways of the set behind a 0.
func wantDearest(net impl.Net, set int) int {
	costs := []int{0}
	for _, number := range listOf(set) {
		costs = append(costs, net.Ways[number].Cost)
	}
	slices.Sort(costs)
	return costs[len(costs)-1]
}

// wantLeastDearest sorts what all sets that join the ends tell.
func wantLeastDearest(net impl.Net, joining []int) int {
	var costs []int
	for _, set := range joining {
		costs = append(costs, wantDearest(net, set))
	}
	if len(costs) == 0 {
		return -1
	}
	slices.Sort(costs)
	return costs[0]
}

// comingTo are the ends that come to the place, the nearest one first, and of several the least.
func comingTo(far [][]int, place, ends int) []int {
	coming := slices.DeleteFunc(listOf(ends), func(end int) bool { return far[end][place] < 0 })
	slices.SortFunc(coming, func(a, b int) int {
		return cmp.Or(cmp.Compare(far[a][place], far[b][place]), cmp.Compare(a, b))
	})
	return coming
}

func wantNearest(far [][]int, ends int) []int {
	var row []int
	for place := range far {
		row = append(row, append(comingTo(far, place, ends), -1)[0])
	}
	return row
}

// within reports whether each place is come to from an end, at most so far.
func within(far [][]int, ends, most int) bool {
	for place := range far {
		if !slices.ContainsFunc(listOf(ends), func(end int) bool { return far[end][place] >= 0 && far[end][place] <= most }) {
			return false
		}
	}
	return true
}

// wantCover tries all distances, from 0 up to more than any set of ways costs.
func wantCover(far [][]int, ends int) int {
	for most := range impl.MaxCost*impl.MaxWays + 1 {
		if within(far, ends, most) {
			return most
		}
	}
	return -1
}

// wantFewest tries all sets of places.
func wantFewest(far [][]int, most int) int {
	var sizes []int
	for ends := range 1 << len(far) {
		if within(far, ends, most) {
			sizes = append(sizes, size(ends))
		}
	}
	slices.Sort(sizes)
	return sizes[0]
}

func wantFarthest(far [][]int) []int {
	var row []int
	for place := range far {
		distances := slices.Sorted(slices.Values(far[place]))
		row = append(row, distances[len(distances)-1])
	}
	return row
}

// wantCentre sorts all places by their greatest distances, and then by their numbers.
func wantCentre(far [][]int) int {
	if slices.Contains(far[0], -1) {
		return -1
	}
	row := wantFarthest(far)
	places := numbersIn(0, len(far)-1)
	slices.SortStableFunc(places, func(a, b int) int { return row[a] - row[b] })
	return places[0]
}

func greatestFar(far [][]int) int {
	greatest := 0
	for _, row := range far {
		greatest = max(greatest, slices.Max(row))
	}
	return greatest
}

func allCovers(net impl.Net) []int {
	covers := make([]int, 1<<net.Nodes)
	for ends := range covers {
		covers[ends] = impl.CoverCost(net, ends)
	}
	return covers
}

func allNearest(net impl.Net) [][]int {
	rows := make([][]int, 1<<net.Nodes)
	for ends := range rows {
		rows[ends] = impl.NearestRow(net, ends)
	}
	return rows
}

// Promise 79.

func TestTheDearestWayCostsNoMoreThanAll(t *testing.T) {
	seen := map[string]int{}
	eachNet(t, func(t *testing.T, net impl.Net) {
		all := impl.DearestOf(net, allOf(len(net.Ways)))
		for set := range 1 << len(net.Ways) {
			got, cost := impl.DearestOf(net, set), impl.CostOf(net, set)
			if want := wantDearest(net, set); got != want {
				t.Fatalf("set %b: %d, not %d", set, got, want)
			}
			if got < 0 || got > cost || got > all {
				t.Errorf("set %b: %d, all together cost %d, and of all ways it is %d", set, got, cost, all)
			}
			seeDearest(seen, set, got, cost, all)
		}
		for i, w := range net.Ways {
			if got := impl.DearestOf(net, 1<<i); got != w.Cost {
				t.Errorf("the way %d alone: %d, not %d", i, got, w.Cost)
			}
		}
	})
	wantCases(seen, t, "no ways", "all at no cost", "all cost as much", "one costs as much as all", "less than all cost", "less than that of all ways")
}

func seeDearest(seen map[string]int, set, dearest, cost, all int) {
	switch {
	case set == 0:
		seen["no ways"]++
	case cost == 0:
		seen["all at no cost"]++
	case dearest < all:
		seen["less than that of all ways"]++
	case dearest == cost:
		seen["one costs as much as all"]++
	case cost == dearest*size(set):
		seen["all cost as much"]++
	default:
		seen["less than all cost"]++
	}
}

func TestDearestOfSomeSets(t *testing.T) {
	for _, c := range []struct {
		name      string
		set, want int
	}{
		{"no ways, 2 places", 0, 0},
		{"no ways, MaxNodes places", 0, 0},
		{"one way", 0, 0},
		{"one way", 1, 5},
		{"one way of no cost", 0, 0},
		{"one way of no cost", 1, 0},
		{"several ways, other order", 0b0001, 3},
		{"several ways, other order", 0b0110, 1},
		{"several ways, other order", 0b1000, 2},
		{"several ways, other order", 0b1110, 2},
		{"several ways, other order", 0b1111, 3},
		{"MaxWays ways between two", 0, 0},
		{"MaxWays ways between two", 0b100000000, 9},
		{"MaxWays ways between two", 0b111111111, 9},
		{"MaxWays free ways", 0b111111111, 0},
		// Ways that do not hang together, and such as make a round.
		{"two parts", 0b01, 3},
		{"two parts", 0b10, 0},
		{"two parts", 0b11, 3},
		{"path cheaper than way", 0b000001, 9},
		{"path cheaper than way", 0b111110, 1},
		{"path cheaper than way", 0b111111, 9},
		{"free way before a dear one", 0b01, 0},
		{"free way before a dear one", 0b10, 5},
		{"free way before a dear one", 0b11, 5},
		{"dear way before a free one", 0b10, 0},
		{"dear way before a free one", 0b11, 5},
		{"star", 0b11000, 2},
		{"star", 0b00110, 4},
		{"two threes, all ways between", 0b111111110, 8},
		{"two threes, all ways between", 0b100000000, 1},
		{"two threes, all ways between", 0b000011000, 6},
		{"mesh of MaxWays ways", 0b100101011, 7},
		{"mesh of MaxWays ways", 0b010110100, 3},
		{"mesh of MaxWays ways", 0b000100000, 0},
		{"all greatest costs", 0b000010000, 9},
		{"all greatest costs", 0b111111111, 9},
	} {
		if got := impl.DearestOf(namedNet(t, c.name), c.set); got != c.want {
			t.Errorf("%s, set %b: %d, not %d", c.name, c.set, got, c.want)
		}
	}
}

func TestDearestOfOthers(t *testing.T) {
	eachNet(t, func(t *testing.T, net impl.Net) {
		for _, set := range append(badSets(len(net.Ways)), 1<<len(net.Ways)|1) {
			if got := impl.DearestOf(net, set); got != -1 {
				t.Errorf("set %d: %d", set, got)
			}
		}
	})
	eachBadNet(t, func(t *testing.T, net impl.Net) {
		for _, set := range []int{-1, 0, 1, 2, 3, allOf(impl.MaxWays)} {
			if got := impl.DearestOf(net, set); got != -1 {
				t.Errorf("set %d: %d", set, got)
			}
		}
	})
}

// Promise 80.

func TestTheLeastTreeHasTheLeastDearestWays(t *testing.T) {
	seen := map[string]int{}
	eachEnds(t, func(t *testing.T, net impl.Net, ends int) {
		got, joining := impl.LeastDearest(net, ends), joiningSets(net, ends)
		if want := wantLeastDearest(net, joining); got != want {
			t.Fatalf("%d, not %d", got, want)
		}
		for _, set := range joining {
			if other := impl.DearestOf(net, set); got < 0 || other < got {
				t.Fatalf("%d, and of the set %b it is %d", got, set, other)
			}
		}
		tree, root := impl.SpanTree(net), impl.RootOf(net, ends)
		if tree >= 0 && got != impl.DearestOf(net, impl.Pruned(net, tree, ends)) {
			t.Errorf("%d, and of the least tree pruned it is %d", got, impl.DearestOf(net, impl.Pruned(net, tree, ends)))
		}
		if (got < 0) != (root < 0) || got > impl.DearestOf(net, root) {
			t.Errorf("%d, and of the root %b it is %d", got, root, impl.DearestOf(net, root))
		}
		if two := greatestOfTwo(net, ends); got != two {
			t.Errorf("%d, and the greatest for two of the ends is %d", got, two)
		}
		seeLeastDearest(seen, ends, got, tree, impl.DearestOf(net, root))
	})
	wantCases(seen, t, "no ends", "one end", "not joined", "at no cost", "no tree that spans", "a root is as dear", "a root is dearer")
}

// greatestOfTwo is -1 if two of the ends are not joined.
func greatestOfTwo(net impl.Net, ends int) int {
	greatest := 0
	for _, a := range listOf(ends) {
		for _, b := range listOf(ends) {
			two := impl.LeastDearest(net, 1<<a|1<<b)
			if two < 0 {
				return -1
			}
			greatest = max(greatest, two)
		}
	}
	return greatest
}

func seeLeastDearest(seen map[string]int, ends, least, tree, root int) {
	switch {
	case size(ends) < 2:
		seen[[]string{"no ends", "one end"}[size(ends)]]++
	case least < 0:
		seen["not joined"]++
	case least == 0:
		seen["at no cost"]++
	case tree < 0:
		seen["no tree that spans"]++
	case least == root:
		seen["a root is as dear"]++
	default:
		seen["a root is dearer"]++
	}
}

func TestLeastDearestOfSomeEnds(t *testing.T) {
	for _, c := range []struct {
		name       string
		ends, want int
	}{
		{"no ways, 2 places", 0, 0},
		{"no ways, 2 places", 0b01, 0},
		{"no ways, 2 places", 0b10, 0},
		{"no ways, 2 places", 0b11, -1},
		{"no ways, MaxNodes places", 0, 0},
		{"no ways, MaxNodes places", 0b100000, 0},
		{"no ways, MaxNodes places", 0b100001, -1},
		{"no ways, MaxNodes places", 0b111111, -1},
		// Without ends, and with one end, no ways are enough.
		{"one way", 0, 0},
		{"one way", 0b10, 0},
		{"one way", 0b11, 5},
		{"one way of no cost", 0b11, 0},
		{"several ways, other order", 0b11, 1},
		{"MaxWays ways between two", 0b01, 0},
		{"MaxWays ways between two", 0b11, 9},
		{"MaxWays free ways", 0b011, 0},
		{"MaxWays free ways", 0b100, 0},
		{"MaxWays free ways", 0b101, -1},
		{"MaxWays free ways", 0b111, -1},
		{"two parts", 0b00001, 0},
		{"two parts", 0b10100, 3},
		{"two parts", 0b01010, 0},
		{"two parts", 0b00011, -1},
		{"two parts", 0b11110, -1},
		{"two parts", 0b11111, -1},
		{"path cheaper than way", 0b100001, 1},
		{"path cheaper than way", 0b111111, 1},
		{"equal costs, fewer ways", 0b101, 1},
		{"rounds joined by a bridge", 0b000011, 1},
		{"rounds joined by a bridge", 0b000111, 1},
		{"rounds joined by a bridge", 0b101000, 0},
		{"rounds joined by a bridge", 0b111000, 1},
		{"rounds joined by a bridge", 0b001001, 9},
		{"rounds joined by a bridge", 0b111111, 9},
		{"star", 0b000011, 1},
		{"star", 0b000110, 2},
		{"star", 0b011000, 4},
		{"star", 0b100001, 5},
		{"star", 0b111111, 5},
		{"fork with long arms", 0b011010, 0},
		{"fork with long arms", 0b000011, 9},
		{"free way before a dear one", 0b011, 0},
		{"free way before a dear one", 0b101, 5},
		{"free way before a dear one", 0b111, 5},
		// The root of the places 0 and 1 is a way that costs 3.
		{"hub of three", 0b0011, 2},
		{"hub of three", 0b0111, 2},
		{"two hubs", 0b001111, 1},
		{"two hubs, and a way past one", 0b001010, 1},
		{"two hubs, and a way past one", 0b001001, 2},
		{"two hubs, and a way past one", 0b111111, 3},
		{"mesh of MaxWays ways", 0b011000, 0},
		{"mesh of MaxWays ways", 0b011110, 1},
		{"mesh of MaxWays ways", 0b000011, 2},
		{"mesh of MaxWays ways", 0b100001, 3},
		{"mesh of MaxWays ways", 0b111111, 3},
		{"two threes, all ways between", 0b000110, 4},
		{"two threes, all ways between", 0b000111, 7},
		{"two threes, all ways between", 0b111000, 3},
		{"all greatest costs", 0b010000, 0},
		{"all greatest costs", 0b010101, 9},
		{"all greatest costs", 0b111111, 9},
	} {
		if got := impl.LeastDearest(namedNet(t, c.name), c.ends); got != c.want {
			t.Errorf("%s, ends %b: %d, not %d", c.name, c.ends, got, c.want)
		}
	}
}

func TestLeastDearestOfOthers(t *testing.T) {
	eachBadEnds(t, func(t *testing.T, net impl.Net, ends int) {
		if got := impl.LeastDearest(net, ends); got != -1 {
			t.Errorf("ends %d: %d", ends, got)
		}
	})
}

// Promise 81.

func TestEachEndIsNearestToItself(t *testing.T) {
	seen := map[string]int{}
	eachFar(t, func(t *testing.T, net impl.Net, far [][]int) {
		table := impl.FarTable(net)
		for ends, row := range allNearest(net) {
			if want := wantNearest(far, ends); !slices.Equal(row, want) {
				t.Fatalf("ends %b: %v, not %v", ends, row, want)
			}
			for place, end := range row {
				checkNearest(t, table, ends, place, end)
				seeNearest(seen, table[place], ends, place, end)
			}
		}
	})
	wantCases(seen, t, "no ends", "not come to", "itself", "a lesser one at no cost", "the only one",
		"nearer than others", "as near as others", "as near as others, at no cost")
}

func checkNearest(t *testing.T, table [][]int, ends, place, end int) {
	t.Helper()
	if end >= 0 && !has(ends, end) {
		t.Fatalf("ends %b: %d is nearest to %d, and none", ends, end, place)
	}
	for _, other := range listOf(ends) {
		distance := table[place][other]
		switch {
		case distance < 0:
		case end < 0 || distance < table[place][end]:
			t.Errorf("ends %b: %d is nearest to %d, and %d is nearer", ends, end, place, other)
		case other < end && distance == table[place][end]:
			t.Errorf("ends %b: %d is nearest to %d, and %d is as near", ends, end, place, other)
		}
	}
	if has(ends, place) && end != place && (end > place || table[place][end] != 0) {
		t.Errorf("ends %b: %d is nearest to the end %d", ends, end, place)
	}
}

func seeNearest(seen map[string]int, distances []int, ends, place, end int) {
	coming, near := 0, 0
	for _, other := range listOf(ends) {
		if distances[other] >= 0 {
			coming++
		}
		if end >= 0 && distances[other] == distances[end] {
			near++
		}
	}
	switch {
	case ends == 0:
		seen["no ends"]++
	case end < 0:
		seen["not come to"]++
	case end == place:
		seen["itself"]++
	case has(ends, place):
		seen["a lesser one at no cost"]++
	case coming == 1:
		seen["the only one"]++
	case near == 1:
		seen["nearer than others"]++
	case distances[end] > 0:
		seen["as near as others"]++
	default:
		seen["as near as others, at no cost"]++
	}
}

func TestNearestRowOfSomeEnds(t *testing.T) {
	for _, c := range []struct {
		name string
		ends int
		want []int
	}{
		{"no ways, 2 places", 0, []int{-1, -1}},
		{"no ways, 2 places", 0b01, []int{0, -1}},
		{"no ways, 2 places", 0b10, []int{-1, 1}},
		{"no ways, 2 places", 0b11, []int{0, 1}},
		{"no ways, MaxNodes places", 0b100001, []int{0, -1, -1, -1, -1, 5}},
		{"no ways, MaxNodes places", 0b111111, []int{0, 1, 2, 3, 4, 5}},
		{"one way", 0, []int{-1, -1}},
		{"one way", 0b10, []int{1, 1}},
		{"one way", 0b11, []int{0, 1}},
		{"one way of no cost", 0b01, []int{0, 0}},
		{"one way of no cost", 0b10, []int{1, 1}},
		{"one way of no cost", 0b11, []int{0, 0}},
		{"MaxWays ways between two", 0b11, []int{0, 1}},
		{"MaxWays free ways", 0b011, []int{0, 0, -1}},
		{"MaxWays free ways", 0b110, []int{1, 1, 2}},
		{"MaxWays free ways", 0b111, []int{0, 0, 2}},
		{"free round", 0b1111, []int{0, 0, 0, 0}},
		{"free round", 0b1100, []int{2, 2, 2, 2}},
		// Places that no end comes to, and ends that are alone.
		{"two parts", 0b00001, []int{0, -1, -1, -1, -1}},
		{"two parts", 0b01010, []int{-1, 1, -1, 1, -1}},
		{"two parts", 0b11000, []int{-1, 3, 4, 3, 4}},
		{"two parts", 0b11111, []int{0, 1, 2, 1, 4}},
		{"place 0 alone", 0b100010, []int{-1, 1, 1, 1, 5, 5}},
		{"last place alone", 0b011000, []int{3, 3, 3, 3, 4, -1}},
		// Two ends that are as near.
		{"equal costs, as many ways", 0b0110, []int{1, 1, 2, 1}},
		{"equal costs, as many ways", 0b1001, []int{0, 0, 0, 3}},
		{"equal costs, as many ways", 0b1000, []int{3, 3, 3, 3}},
		{"path cheaper than way", 0b010001, []int{0, 0, 0, 4, 4, 4}},
		{"path cheaper than way", 0b100001, []int{0, 0, 0, 5, 5, 5}},
		{"long path, ways from behind", 0b010001, []int{0, 0, 0, 4, 4, 4}},
		{"star", 0b110000, []int{4, 4, 4, 4, 4, 5}},
		{"star", 0b111110, []int{1, 1, 2, 3, 4, 5}},
		{"star of equal arms", 0b011110, []int{1, 1, 2, 3, 4, 1}},
		{"fork with long arms", 0b111000, []int{3, 3, 3, 3, 3, 5}},
		{"rounds joined by a bridge", 0b001001, []int{0, 0, 0, 3, 3, 3}},
	} {
		if got := impl.NearestRow(namedNet(t, c.name), c.ends); !slices.Equal(got, c.want) {
			t.Errorf("%s, ends %b: %v, not %v", c.name, c.ends, got, c.want)
		}
	}
}

func TestNearestRowOfOthers(t *testing.T) {
	eachBadEnds(t, func(t *testing.T, net impl.Net, ends int) {
		if got := impl.NearestRow(net, ends); len(got) != 0 {
			t.Errorf("ends %d: %v", ends, got)
		}
	})
}

// Promise 82.

func TestMoreEndsCoverNoWorse(t *testing.T) {
	seen := map[string]int{}
	eachFar(t, func(t *testing.T, net impl.Net, far [][]int) {
		covers := allCovers(net)
		for ends, cost := range covers {
			if want := wantCover(far, ends); cost != want {
				t.Fatalf("ends %b: %d, not %d", ends, cost, want)
			}
			for more, with := range covers {
				if more&ends != ends || more == ends {
					continue
				}
				if cost >= 0 && (with < 0 || with > cost) {
					t.Errorf("ends %b: %d, and with more ends, %b, %d", ends, cost, more, with)
				}
				seeCovers(seen, cost, with)
			}
		}
		if covers[0] != -1 || covers[allOf(net.Nodes)] != 0 {
			t.Errorf("without ends %d, and with all places for ends %d", covers[0], covers[allOf(net.Nodes)])
		}
	})
	wantCases(seen, t, "not told", "told with more", "as far", "nearer with more")
}

func seeCovers(seen map[string]int, cost, with int) {
	switch {
	case with < 0:
		seen["not told"]++
	case cost < 0:
		seen["told with more"]++
	case with == cost:
		seen["as far"]++
	default:
		seen["nearer with more"]++
	}
}

func TestCoverCostOfSomeEnds(t *testing.T) {
	for _, c := range []struct {
		name       string
		ends, want int
	}{
		{"no ways, 2 places", 0, -1},
		{"no ways, 2 places", 0b01, -1},
		{"no ways, 2 places", 0b11, 0},
		{"no ways, MaxNodes places", 0, -1},
		{"no ways, MaxNodes places", 0b111110, -1},
		{"no ways, MaxNodes places", 0b111111, 0},
		{"one way", 0, -1},
		{"one way", 0b01, 5},
		{"one way", 0b11, 0},
		{"one way of no cost", 0b10, 0},
		{"several ways, other order", 0b10, 1},
		{"MaxWays ways between two", 0b01, 9},
		{"MaxWays free ways", 0b001, -1},
		{"MaxWays free ways", 0b100, -1},
		{"MaxWays free ways", 0b101, 0},
		{"free round", 0, -1},
		{"free round", 0b0001, 0},
		{"two parts", 0b00011, -1},
		{"two parts", 0b11110, -1},
		{"two parts", 0b00111, 3},
		{"two parts", 0b11001, 3},
		{"two parts", 0b11101, 0},
		{"place 0 alone", 0b111110, -1},
		{"place 0 alone", 0b001001, 2},
		{"last place alone", 0b000001, -1},
		{"last place alone", 0b100001, 4},
		{"path cheaper than way", 0b000001, 5},
		{"path cheaper than way", 0b001000, 3},
		{"path cheaper than way", 0b100001, 2},
		{"path cheaper than way", 0b010010, 1},
		{"long path, ways from behind", 0b000001, 45},
		{"long path, ways from behind", 0b000100, 27},
		{"long path, ways from behind", 0b010010, 9},
		{"star", 0b000001, 5},
		{"star", 0b000010, 6},
		{"star", 0b100000, 9},
		{"star", 0b100001, 4},
		{"star", 0b111110, 1},
		{"equal costs, as many ways", 0b0001, 4},
		{"equal costs, as many ways", 0b1001, 2},
		{"all greatest costs", 0b000001, 18},
		{"all greatest costs", 0b000011, 9},
		{"all greatest costs", 0b111111, 0},
	} {
		if got := impl.CoverCost(namedNet(t, c.name), c.ends); got != c.want {
			t.Errorf("%s, ends %b: %d, not %d", c.name, c.ends, got, c.want)
		}
	}
}

func TestCoverCostOfOthers(t *testing.T) {
	eachBadEnds(t, func(t *testing.T, net impl.Net, ends int) {
		if got := impl.CoverCost(net, ends); got != -1 {
			t.Errorf("ends %d: %d", ends, got)
		}
	})
}

// Promise 83.

func TestFartherOffFewerEndsSuffice(t *testing.T) {
	seen := map[string]int{}
	eachFar(t, func(t *testing.T, net impl.Net, far [][]int) {
		greatest := greatestFar(far)
		parts := len(slices.Compact(slices.Sorted(slices.Values(impl.PartsOf(net)))))
		before := net.Nodes
		for most := range greatest + 2 {
			got := impl.FewestEnds(net, most)
			if want := wantFewest(far, most); got != want {
				t.Fatalf("within %d: %d, not %d", most, got, want)
			}
			if got < parts || got > before {
				t.Errorf("within %d: %d, within one less %d, and there are %d parts", most, got, before, parts)
			}
			seeFewest(seen, most, got, before, net.Nodes)
			before = got
		}
		for _, most := range []int{greatest, impl.MaxCost * (impl.MaxNodes - 1), impl.MaxCost * impl.MaxWays, 1 << 32, math.MaxInt - 1, math.MaxInt} {
			if got := impl.FewestEnds(net, most); got != parts {
				t.Errorf("within %d: %d, and there are %d parts", most, got, parts)
			}
		}
	})
	wantCases(seen, t, "all places", "fewer at no cost", "as many as within one less", "one fewer", "several fewer")
}

func seeFewest(seen map[string]int, most, got, before, nodes int) {
	switch {
	case most == 0 && got == nodes:
		seen["all places"]++
	case most == 0:
		seen["fewer at no cost"]++
	case got == before:
		seen["as many as within one less"]++
	case got == before-1:
		seen["one fewer"]++
	default:
		seen["several fewer"]++
	}
}

func TestFewestEndsOfSomeNets(t *testing.T) {
	for _, c := range []struct {
		name      string
		far, want int
	}{
		{"no ways, 2 places", 0, 2},
		{"no ways, 2 places", 9, 2},
		{"no ways, 2 places", math.MaxInt, 2},
		{"no ways, MaxNodes places", 0, 6},
		{"no ways, MaxNodes places", math.MaxInt, 6},
		{"one way", 0, 2},
		{"one way", 4, 2},
		{"one way", 5, 1},
		{"one way", 6, 1},
		{"one way", math.MaxInt, 1},
		{"one way of no cost", 0, 1},
		{"MaxWays ways between two", 8, 2},
		{"MaxWays ways between two", 9, 1},
		{"MaxWays free ways", 0, 2},
		{"MaxWays free ways", 1 << 32, 2},
		{"free round", 0, 1},
		{"two parts", 0, 4},
		{"two parts", 2, 4},
		{"two parts", 3, 3},
		{"two parts", math.MaxInt, 3},
		{"three parts", 8, 6},
		{"three parts", 9, 3},
		{"place 0 alone", 0, 6},
		{"place 0 alone", 1, 3},
		{"place 0 alone", 2, 2},
		{"place 0 alone", math.MaxInt, 2},
		{"path cheaper than way", 0, 6},
		{"path cheaper than way", 1, 2},
		{"path cheaper than way", 2, 2},
		{"path cheaper than way", 3, 1},
		{"long path, ways from behind", 8, 6},
		{"long path, ways from behind", 9, 2},
		{"long path, ways from behind", 26, 2},
		{"long path, ways from behind", 27, 1},
		{"long path, ways from behind", 45, 1},
		{"star", 0, 6},
		{"star", 1, 5},
		{"star", 2, 4},
		{"star", 3, 3},
		{"star", 4, 2},
		{"star", 5, 1},
		{"star of equal arms", 0, 6},
		{"star of equal arms", 1, 1},
		{"fork with long arms", 0, 3},
		{"fork with long arms", 8, 3},
		{"fork with long arms", 9, 1},
		{"equal costs, as many ways", 1, 4},
		{"equal costs, as many ways", 2, 2},
		{"equal costs, as many ways", 3, 2},
		{"equal costs, as many ways", 4, 1},
		{"rounds joined by a bridge", 0, 5},
		{"rounds joined by a bridge", 1, 2},
		{"rounds joined by a bridge", 9, 2},
		{"rounds joined by a bridge", 10, 1},
		{"all greatest costs", 8, 6},
		{"all greatest costs", 9, 2},
		{"all greatest costs", 17, 2},
		{"all greatest costs", 18, 1},
	} {
		if got := impl.FewestEnds(namedNet(t, c.name), c.far); got != c.want {
			t.Errorf("%s, within %d: %d, not %d", c.name, c.far, got, c.want)
		}
	}
}

func TestFewestEndsOfOthers(t *testing.T) {
	eachNet(t, func(t *testing.T, net impl.Net) {
		for _, far := range []int{-1, -2, -impl.MaxCost, -1 << 32, math.MinInt + 1, math.MinInt} {
			if got := impl.FewestEnds(net, far); got != -1 {
				t.Errorf("within %d: %d", far, got)
			}
		}
	})
	eachBadNet(t, func(t *testing.T, net impl.Net) {
		for _, far := range []int{math.MinInt, -1, 0, 1, impl.MaxCost, math.MaxInt} {
			if got := impl.FewestEnds(net, far); got != -1 {
				t.Errorf("within %d: %d", far, got)
			}
		}
	})
}

// Promise 84.

func TestNoTwoPlacesAreFartherThanBothFromAThirdOne(t *testing.T) {
	seen := map[string]int{}
	eachFar(t, func(t *testing.T, net impl.Net, far [][]int) {
		row := impl.FarthestRow(net)
		if want := wantFarthest(far); !slices.Equal(row, want) {
			t.Fatalf("%v, not %v", row, want)
		}
		least, greatest := slices.Min(row), slices.Max(row)
		together := impl.SpanTree(net) >= 0
		if together && greatest > 2*least {
			t.Errorf("%v: the greatest is more than twice the least", row)
		}
		for _, w := range net.Ways {
			if max(row[w.A]-row[w.B], row[w.B]-row[w.A]) > w.Cost {
				t.Errorf("%v: of the places of %v they differ by more", row, w)
			}
		}
		for place, farthest := range row {
			seeFarthest(seen, far[place], farthest)
		}
		seeTwice(seen, together, least, greatest)
	})
	wantCases(seen, t, "a place alone", "others at no cost", "some are not come to", "all are come to",
		"no net of one part", "all as far", "less than twice", "just twice")
}

func seeFarthest(seen map[string]int, distances []int, farthest int) {
	coming := 0
	for _, distance := range distances {
		if distance >= 0 {
			coming++
		}
	}
	switch {
	case coming == 1:
		seen["a place alone"]++
	case farthest == 0:
		seen["others at no cost"]++
	case coming < len(distances):
		seen["some are not come to"]++
	default:
		seen["all are come to"]++
	}
}

func seeTwice(seen map[string]int, together bool, least, greatest int) {
	switch {
	case !together:
		seen["no net of one part"]++
	case least == greatest:
		seen["all as far"]++
	case greatest < 2*least:
		seen["less than twice"]++
	default:
		seen["just twice"]++
	}
}

// someFarthest have the first place that has the least of them, and -1 for nets that do not hang together.
var someFarthest = []struct {
	name   string
	row    []int
	centre int
}{
	{"no ways, 2 places", []int{0, 0}, -1},
	{"no ways, MaxNodes places", []int{0, 0, 0, 0, 0, 0}, -1},
	{"one way", []int{5, 5}, 0},
	{"one way of no cost", []int{0, 0}, 0},
	{"several ways, other order", []int{1, 1}, 0},
	{"MaxWays ways between two", []int{9, 9}, 0},
	{"MaxWays free ways", []int{0, 0, 0}, -1},
	{"free round", []int{0, 0, 0, 0}, 0},
	{"two parts", []int{0, 0, 3, 0, 3}, -1},
	{"three parts", []int{9, 9, 9, 9, 9, 9}, -1},
	{"place 0 alone", []int{0, 4, 3, 2, 3, 4}, -1},
	{"last place alone", []int{4, 3, 2, 3, 4, 0}, -1},
	{"round beside a way", []int{1, 1, 1, 1, 1}, -1},
	// Two places are as good, in the middle of a path, and then some more.
	{"path cheaper than way", []int{5, 4, 3, 3, 4, 5}, 2},
	{"long path, ways from behind", []int{45, 36, 27, 27, 36, 45}, 2},
	{"fork with long arms", []int{18, 9, 9, 9, 9, 18}, 1},
	{"rounds joined by a bridge", []int{11, 11, 10, 10, 11, 10}, 2},
	{"equal costs, as many ways", []int{4, 4, 4, 4}, 0},
	{"all greatest costs", []int{18, 18, 18, 18, 18, 18}, 0},
	{"free way before a dear one", []int{5, 5, 5}, 0},
	{"dear way before a free one", []int{5, 5, 5}, 0},
	// One place is better than all others.
	{"equal costs, fewer ways", []int{2, 1, 2}, 1},
	{"star", []int{5, 6, 7, 8, 9, 9}, 0},
	{"star of equal arms", []int{2, 2, 2, 2, 2, 1}, 5},
	{"hub of three", []int{4, 3, 4, 2}, 3},
}

func TestFarthestRowOfSomeNets(t *testing.T) {
	for _, c := range someFarthest {
		if got := impl.FarthestRow(namedNet(t, c.name)); !slices.Equal(got, c.row) {
			t.Errorf("%s: %v, not %v", c.name, got, c.row)
		}
	}
}

func TestFarthestRowOfOthers(t *testing.T) {
	eachBadNet(t, func(t *testing.T, net impl.Net) {
		if got := impl.FarthestRow(net); len(got) != 0 {
			t.Errorf("%v", got)
		}
	})
}

// Promise 85.

func TestFromTheCentreAllIsNearest(t *testing.T) {
	seen := map[string]int{}
	eachFar(t, func(t *testing.T, net impl.Net, far [][]int) {
		centre := impl.CentreOf(net)
		if want := wantCentre(far); centre != want || (centre < 0) != (impl.SpanTree(net) < 0) {
			t.Fatalf("%d, not %d, and the least tree is %b", centre, want, impl.SpanTree(net))
		}
		if centre < 0 {
			seen["does not hang together"]++
			return
		}
		cost := impl.CoverCost(net, 1<<centre)
		if cost != impl.FarthestRow(net)[centre] {
			t.Errorf("from %d all are within %d, and the farthest is at %d", centre, cost, impl.FarthestRow(net)[centre])
		}
		for place := range net.Nodes {
			other := impl.CoverCost(net, 1<<place)
			if other < cost || other == cost && place < centre {
				t.Errorf("from %d all are within %d, and from %d within %d", centre, cost, place, other)
			}
			seeCentre(seen, place, centre, other == cost)
		}
		if impl.FewestEnds(net, cost) != 1 || cost > 0 && impl.FewestEnds(net, cost-1) == 1 {
			t.Errorf("one end is not enough within %d, or it is within less", cost)
		}
	})
	wantCases(seen, t, "does not hang together", "the centre", "a worse one before it", "a worse one behind it", "as good a one behind it")
}

func seeCentre(seen map[string]int, place, centre int, same bool) {
	switch {
	case place == centre:
		seen["the centre"]++
	case same:
		seen["as good a one behind it"]++
	case place < centre:
		seen["a worse one before it"]++
	default:
		seen["a worse one behind it"]++
	}
}

func TestCentreOfSomeNets(t *testing.T) {
	for _, c := range someFarthest {
		if got := impl.CentreOf(namedNet(t, c.name)); got != c.centre {
			t.Errorf("%s: %d, not %d", c.name, got, c.centre)
		}
	}
}

func TestCentreOfOthers(t *testing.T) {
	eachBadNet(t, func(t *testing.T, net impl.Net) {
		if got := impl.CentreOf(net); got != -1 {
			t.Errorf("%d", got)
		}
	})
}

// Promise 86.

func TestWithMoreEndsNobodyIsFarther(t *testing.T) {
	seen := map[string]int{}
	r := rand.New(rand.NewPCG(23, 24))
	eachNet(t, func(t *testing.T, net impl.Net) {
		table, rows := impl.FarTable(net), allNearest(net)
		for ends, before := range rows {
			for _, more := range []int{1 << r.IntN(net.Nodes), r.IntN(len(rows)), r.IntN(len(rows)), len(rows) - 1} {
				for place, end := range rows[ends|more] {
					old, now := endFar(table, place, before[place]), endFar(table, place, end)
					if old >= 0 && (now < 0 || now > old) {
						t.Errorf("ends %b: %d is %d away, and with %b too %d", ends, place, old, more, now)
					}
					seeFarther(seen, old, now, end == before[place])
				}
			}
		}
	})
	wantCases(seen, t, "not come to", "come to newly", "the same end", "another one as near", "a nearer one")
}

// endFar is -1 for a place without a nearest end.
func endFar(table [][]int, place, end int) int {
	if end < 0 {
		return -1
	}
	return table[place][end]
}

func seeFarther(seen map[string]int, old, now int, same bool) {
	switch {
	case now < 0:
		seen["not come to"]++
	case old < 0:
		seen["come to newly"]++
	case same:
		seen["the same end"]++
	case now == old:
		seen["another one as near"]++
	default:
		seen["a nearer one"]++
	}
}

// Promise 87.

func TestTheDearestWayOfTheLeastTreeIsTheLeastDearest(t *testing.T) {
	seen := map[string]int{}
	eachNet(t, func(t *testing.T, net impl.Net) {
		tree := impl.SpanTree(net)
		dearest, least := impl.DearestOf(net, tree), impl.LeastDearest(net, allOf(net.Nodes))
		if dearest != least || (least < 0) != (tree < 0) {
			t.Errorf("of the least tree %b it is %d, and of all places %d", tree, dearest, least)
		}
		switch all := impl.DearestOf(net, allOf(len(net.Ways))); {
		case least < 0:
			seen["not told"]++
		case least == 0:
			seen["at no cost"]++
		case least < all:
			seen["less than that of all ways"]++
		default:
			seen["that of all ways"]++
		}
	})
	wantCases(seen, t, "not told", "at no cost", "less than that of all ways", "that of all ways")
}

func TestLeastDearestOfAllPlaces(t *testing.T) {
	for _, c := range []struct {
		name       string
		tree, want int
	}{
		{"no ways, 2 places", -1, -1},
		{"MaxWays free ways", -1, -1},
		{"two parts", -1, -1},
		{"one way", 1, 5},
		{"one way of no cost", 1, 0},
		{"several ways, other order", 0b0010, 1},
		{"MaxWays ways between two", 1, 9},
		{"free round", 0b0111, 0},
		{"path cheaper than way", 0b111110, 1},
		{"hub of three", 0b00111, 2},
		{"rounds joined by a bridge", 0b1011110, 9},
		{"mesh of MaxWays ways", 0b010110101, 3},
		{"all greatest costs", 0b000011111, 9},
	} {
		net := namedNet(t, c.name)
		tree, least := impl.SpanTree(net), impl.LeastDearest(net, allOf(net.Nodes))
		if tree != c.tree || least != c.want || impl.DearestOf(net, tree) != c.want {
			t.Errorf("%s: the least tree is %b, not %b, and of all places it is %d, not %d", c.name, tree, c.tree, least, c.want)
		}
	}
}
