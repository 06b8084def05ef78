package tests

import (
	"math"
	"slices"
	"testing"

	"loop.example/fieldroots/impl"
)

// badTreeSizes are no numbers of places of a tree.
var badTreeSizes = []int{1, 0, -1, -2, math.MinInt, math.MinInt + 1, math.MinInt + 2, impl.MaxNodes + 1, impl.MaxNodes + 2, 63, 64, 66, 1 << 32, math.MaxInt}

func eachTreeSize(t *testing.T, check func(t *testing.T, places int)) {
	t.Helper()
	for places := 2; places <= impl.MaxNodes; places++ {
		check(t, places)
		if t.Failed() {
			t.Fatalf("of %d places", places)
		}
	}
}

// pairsBetween are all pairs of two different places in 0..places-1, the lesser one first, in order.
func pairsBetween(places int) []impl.Pair {
	var pairs []impl.Pair
	for a := range places {
		for b := a + 1; b < places; b++ {
			pairs = append(pairs, pair(a, b))
		}
	}
	return pairs
}

// allPairs are all pairs of numbers in low..high.
func allPairs(low, high int) []impl.Pair {
	var pairs []impl.Pair
	for a := low; a <= high; a++ {
		for b := low; b <= high; b++ {
			pairs = append(pairs, pair(a, b))
		}
	}
	return pairs
}

// eachFilled takes all lists of so many of the elements, each of them as often as may be, in each order.
func eachFilled[E any](elements []E, count int, check func(list []E)) {
	list := make([]E, count)
	var fill func(at int)
	fill = func(at int) {
		if at == count {
			check(slices.Clone(list))
			return
		}
		for _, e := range elements {
			list[at] = e
			fill(at + 1)
		}
	}
	fill(0)
}

// eachChosen takes all lists of so many of the elements, each at most once, in their order.
func eachChosen[E any](elements []E, count int, check func(list []E)) {
	for set := range 1 << len(elements) {
		if size(set) != count {
			continue
		}
		var list []E
		for i, e := range elements {
			if has(set, i) {
				list = append(list, e)
			}
		}
		check(list)
	}
}

// eachOrder takes the elements in all orders.
func eachOrder[E any](elements []E, check func(list []E)) {
	if len(elements) == 0 {
		check(nil)
		return
	}
	for i, e := range elements {
		eachOrder(slices.Delete(slices.Clone(elements), i, i+1), func(list []E) { check(append(list, e)) })
	}
}

func numbersIn(low, high int) []int {
	var numbers []int
	for n := low; n <= high; n++ {
		numbers = append(numbers, n)
	}
	return numbers
}

// ordered has the lesser place of each pair first, and the pairs in order.
func ordered(pairs []impl.Pair) []impl.Pair {
	var list []impl.Pair
	for _, p := range pairs {
		list = append(list, pair(min(p.A, p.B), max(p.A, p.B)))
	}
	slices.SortFunc(list, func(p, q impl.Pair) int { return 100*(p.A-q.A) + p.B - q.B })
	return list
}

func starOf(places, middle int) []impl.Pair {
	var pairs []impl.Pair
	for place := range places {
		if place != middle {
			pairs = append(pairs, pair(middle, place))
		}
	}
	return ordered(pairs)
}

func pathThrough(order []int) []impl.Pair {
	var pairs []impl.Pair
	for i := 1; i < len(order); i++ {
		pairs = append(pairs, pair(order[i-1], order[i]))
	}
	return ordered(pairs)
}

// whyNoTree names what keeps a list of pairs from being a tree of so many places: nothing for trees.
func whyNoTree(places int, links []impl.Pair) string {
	switch {
	case places < 2 || places > impl.MaxNodes:
		return "number of places"
	case len(links) < places-1:
		return "too few"
	case len(links) > places-1:
		return "too many"
	}
	for i, link := range links {
		switch {
		case link.A < 0 || link.B < 0:
			return "below 0"
		case link.A > places-1 || link.B > places-1:
			return "past the places"
		case link.A == link.B:
			return "with itself"
		case link.A > link.B:
			return "greater one first"
		case slices.Contains(links[:i], link):
			return "twice"
		case slices.ContainsFunc(links[:i], func(p impl.Pair) bool { return p.A > link.A || p.A == link.A && p.B > link.B }):
			return "order"
		}
	}
	if !hangTogether(places, links) {
		return "round that leaves a place out"
	}
	return ""
}

// hangTogether lets each pair give both its places the lesser of their labels, until all have that of the place 0.
func hangTogether(places int, links []impl.Pair) bool {
	labels := numbersIn(0, places-1)
	for range places {
		for _, link := range links {
			least := min(labels[link.A], labels[link.B])
			labels[link.A], labels[link.B] = least, least
		}
	}
	return slices.Max(labels) == 0
}

// eachList takes all lists of pairs of small numbers of places, and of more places all that are nearly trees.
func eachList(check func(places int, links []impl.Pair)) {
	for count := range 4 {
		eachFilled(allPairs(-1, 2), count, func(links []impl.Pair) { check(2, links) })
		eachFilled(allPairs(-1, 3), count, func(links []impl.Pair) { check(3, links) })
		eachFilled(allPairs(0, 4), count, func(links []impl.Pair) { check(4, links) })
	}
	for count := range 6 {
		eachFilled(pairsBetween(4), count, func(links []impl.Pair) { check(4, links) })
	}
	eachFilled(pairsBetween(5), 4, func(links []impl.Pair) { check(5, links) })
	for places := 5; places <= impl.MaxNodes; places++ {
		for count := range places + 1 {
			eachChosen(pairsBetween(places), count, func(links []impl.Pair) { check(places, links) })
			eachChosen(pairsBetween(places+1), count, func(links []impl.Pair) { check(places, links) })
		}
	}
}

// eachNamedTree takes all trees of each number of places.
func eachNamedTree(t *testing.T, check func(t *testing.T, places int, links []impl.Pair)) {
	t.Helper()
	eachTreeSize(t, func(t *testing.T, places int) {
		for _, links := range treesOf(places) {
			check(t, places, links)
			if t.Failed() {
				t.Fatalf("pairs: %v", links)
			}
		}
	})
}

func treesOf(places int) [][]impl.Pair {
	var trees [][]impl.Pair
	eachChosen(pairsBetween(places), places-1, func(links []impl.Pair) {
		if whyNoTree(places, links) == "" {
			trees = append(trees, links)
		}
	})
	return trees
}

// wantRow takes leaves away from rows of neighbours.
func wantRow(places int, links []impl.Pair) []int {
	neighbours := make([]int, places)
	for _, link := range links {
		neighbours[link.A] |= 1 << link.B
		neighbours[link.B] |= 1 << link.A
	}
	var row []int
	for left := places; left > 2; left-- {
		for place := range places {
			if size(neighbours[place]) != 1 {
				continue
			}
			other := listOf(neighbours[place])[0]
			neighbours[place] = 0
			neighbours[other] = without(neighbours[other], place)
			row = append(row, other)
			break
		}
	}
	return row
}

// codeKey is a code with its numbers from 1 on, so that shorter ones are others.
func codeKey(row []int) (key [impl.MaxNodes]int) {
	for i, place := range row {
		key[i] = place + 1
	}
	return key
}

// eachCode takes all codes of each number of places, with the trees whose codes they are.
func eachCode(t *testing.T, check func(t *testing.T, places int, row []int, links []impl.Pair)) {
	t.Helper()
	eachTreeSize(t, func(t *testing.T, places int) {
		trees := map[[impl.MaxNodes]int][]impl.Pair{}
		for _, links := range treesOf(places) {
			trees[codeKey(wantRow(places, links))] = links
		}
		eachFilled(numbersIn(0, places-1), places-2, func(row []int) {
			check(t, places, row, trees[codeKey(row)])
			if t.Failed() {
				t.Fatalf("of %d places, code: %v", places, row)
			}
		})
	})
}

func countIn(links []impl.Pair, place int) int {
	count := 0
	for _, link := range links {
		if link.A == place || link.B == place {
			count++
		}
	}
	return count
}

func timesIn(row []int, place int) int {
	times := 0
	for _, number := range row {
		if number == place {
			times++
		}
	}
	return times
}

func seeCode(seen map[string]int, row []int) {
	different := slices.Compact(slices.Sorted(slices.Values(row)))
	switch {
	case len(row) == 0:
		seen["no numbers"]++
	case len(row) == 1:
		seen["one number"]++
	case len(different) == 1:
		seen["one number again and again"]++
	case len(different) == len(row):
		seen["all different"]++
	default:
		seen["some again"]++
	}
}

// Promise 73.

func TestAllPlacesAtOneAreATree(t *testing.T) {
	eachTreeSize(t, func(t *testing.T, places int) {
		var star []impl.Pair
		for place := 1; place < places; place++ {
			star = append(star, pair(0, place))
		}
		if !impl.LinksOk(places, star) || impl.LinksOk(places, star[:places-2]) || impl.LinksOk(places, append(star, pair(1, 2))) {
			t.Errorf("%v", star)
		}
		for middle := range places {
			if links := starOf(places, middle); !impl.LinksOk(places, links) {
				t.Errorf("%v is none", links)
			}
		}
		eachOrder(numbersIn(0, places-1), func(order []int) {
			if links := pathThrough(order); !impl.LinksOk(places, links) {
				t.Errorf("%v is none", links)
			}
		})
	})
}

func TestJustTreesAreTrees(t *testing.T) {
	seen := map[string]int{}
	eachList(func(places int, links []impl.Pair) {
		ok, why := impl.LinksOk(places, links), whyNoTree(places, links)
		if ok != (why == "") {
			t.Fatalf("%v of %d places: %v, but %q", links, places, ok, why)
		}
		if ok && impl.LinksOk(places, links[:len(links)-1]) {
			t.Fatalf("%v of %d places, and without its last pair", links, places)
		}
		seen[why]++
	})
	wantCases(seen, t, "", "too few", "too many", "below 0", "past the places", "with itself", "greater one first", "twice", "order",
		"round that leaves a place out")
}

func TestTreesAreTreesInNoOtherOrder(t *testing.T) {
	seen := map[string]int{}
	eachNamedTree(t, func(t *testing.T, places int, links []impl.Pair) {
		for i := range links {
			other := slices.Clone(links)
			other[i] = turned(links[i : i+1])[0]
			if impl.LinksOk(places, other) {
				t.Errorf("%v is one too", other)
			}
			seen["the greater place first"]++
		}
		eachOrder(links, func(other []impl.Pair) {
			same := slices.Equal(other, links)
			if impl.LinksOk(places, other) != same {
				t.Errorf("%v is one: %v", other, !same)
			}
			if !same {
				seen["in another order"]++
			}
		})
		for i := range links {
			if impl.LinksOk(places, slices.Insert(slices.Clone(links), i, links[i])) {
				t.Errorf("with the pair %d twice it is one", i)
			}
			if i > 0 && impl.LinksOk(places, append(slices.Clone(links[:i]), links[i-1:len(links)-1]...)) {
				t.Errorf("with the pair %d twice, and without the last one, it is one", i-1)
			}
			if impl.LinksOk(places, slices.Delete(slices.Clone(links), i, i+1)) {
				t.Errorf("without the pair %d it is one", i)
			}
		}
	})
	wantCases(seen, t, "the greater place first", "in another order")
}

func TestLinksOkOfSomeLists(t *testing.T) {
	for _, c := range []struct {
		places int
		links  []impl.Pair
		want   bool
	}{
		// Two places.
		{2, pairsIn("01"), true},
		{2, pairsIn("10"), false},
		{2, pairsIn("00"), false},
		{2, pairsIn("11"), false},
		{2, pairsIn("02"), false},
		{2, pairsIn("12"), false},
		{2, pairsIn("01 01"), false},
		{2, nil, false},
		{2, listed(), false},
		{2, listed(pair(-1, 0)), false},
		{2, listed(pair(-1, 1)), false},
		{2, listed(pair(0, -1)), false},
		{2, listed(pair(0, math.MaxInt)), false},
		{2, listed(pair(math.MinInt, 1)), false},
		// Three places.
		{3, pairsIn("01 02"), true},
		{3, pairsIn("01 12"), true},
		{3, pairsIn("02 12"), true},
		{3, pairsIn("02 01"), false},
		{3, pairsIn("12 01"), false},
		{3, pairsIn("12 02"), false},
		{3, pairsIn("01 01"), false},
		{3, pairsIn("01 21"), false},
		{3, pairsIn("10 12"), false},
		{3, pairsIn("01 11"), false},
		{3, pairsIn("00 12"), false},
		{3, pairsIn("01 22"), false},
		{3, pairsIn("01 23"), false},
		{3, pairsIn("01 13"), false},
		{3, pairsIn("01"), false},
		{3, pairsIn("01 02 12"), false},
		{3, listed(pair(-1, 0), pair(0, 1)), false},
		{3, listed(pair(-1, 2), pair(0, 1)), false},
		// Four places: a round leaves a place out.
		{4, pairsIn("01 02 12"), false},
		{4, pairsIn("12 13 23"), false},
		{4, pairsIn("01 03 13"), false},
		{4, pairsIn("01 12 23"), true},
		{4, pairsIn("01 23 23"), false},
		{4, pairsIn("01 02 03"), true},
		{4, pairsIn("01 03 02"), false},
		// The second ones need not go up, if the first ones do.
		{4, pairsIn("03 12 13"), true},
		{4, pairsIn("03 13 23"), true},
		{5, pairsIn("04 13 14 24"), true},
		{5, pairsIn("04 13 24 14"), false},
		{5, pairsIn("01 02 12 34"), false},
		{5, pairsIn("01 12 13 23"), false},
		// MaxNodes places.
		{6, pairsIn("05 14 15 24 34"), true},
		{6, pairsIn("01 12 23 34 45"), true},
		{6, pairsIn("01 12 23 34 56"), false},
		{6, pairsIn("01 02 12 34 45"), false},
		{6, pairsIn("01 02 13 23 45"), false},
		{6, pairsIn("01 02 13 23 24"), false},
		{6, pairsIn("01 12 23 34"), false},
		{6, pairsIn("01 12 23 34 45 45"), false},
		{6, pairsIn("01 12 23 34 35 45"), false},
		// A tree of other numbers of places.
		{3, pairsIn("01"), false},
		{2, pairsIn("01 12"), false},
		{1, nil, false},
		{0, nil, false},
		{7, pairsIn("01 12 23 34 45 56"), false},
		{7, pairsIn("01 02 03 04 05 06"), false},
		{7, pairsIn("01 12 23 34 45"), false},
	} {
		if got := impl.LinksOk(c.places, c.links); got != c.want {
			t.Errorf("%v of %d places: %v", c.links, c.places, got)
		}
	}
}

// eachBadTree takes numbers of places that are none of a tree, with lists of as many pairs as fit, and others.
func eachBadTree(check func(places int, links []impl.Pair)) {
	for _, places := range badTreeSizes {
		check(places, nil)
		check(places, listed())
		check(places, pairsIn("00"))
		check(places, pairsIn("01"))
		check(places, pairsIn("01 02 03 04 05"))
		for near := max(1, min(places, 70)) - 1; near <= max(1, min(places, 70))+1; near++ {
			check(places, starOf(near, 0))
			check(places, pathThrough(numbersIn(0, near-1)))
		}
	}
}

func TestLinksOkOfOthers(t *testing.T) {
	eachBadTree(func(places int, links []impl.Pair) {
		if impl.LinksOk(places, links) {
			t.Errorf("%v are a tree of %d places", links, places)
		}
	})
}

// Promise 74.

// whyNoCode names what keeps a row from being a code of so many places: nothing for codes.
func whyNoCode(places int, row []int) string {
	switch {
	case places < 2 || places > impl.MaxNodes:
		return "number of places"
	case len(row) < places-2:
		return "too short"
	case len(row) > places-2:
		return "too long"
	case slices.ContainsFunc(row, func(place int) bool { return place < 0 }):
		return "below 0"
	case slices.ContainsFunc(row, func(place int) bool { return place > places-1 }):
		return "past the places"
	}
	return ""
}

// eachNearCode takes all rows of about as many numbers as a code has.
func eachNearCode(check func(places int, row []int)) {
	for places := 2; places <= impl.MaxNodes; places++ {
		for count := range places {
			eachFilled(numbersIn(-1, places), count, func(row []int) { check(places, row) })
		}
		eachFilled(numbersIn(0, 1), places+1, func(row []int) { check(places, row) })
	}
}

func TestCodesFromBehindAreCodes(t *testing.T) {
	seen := map[string]int{}
	eachNearCode(func(places int, row []int) {
		ok, why := impl.CodeOk(places, row), whyNoCode(places, row)
		if ok != (why == "") {
			t.Fatalf("%v of %d places: %v, but %q", row, places, ok, why)
		}
		behind := slices.Clone(row)
		slices.Reverse(behind)
		if impl.CodeOk(places, behind) != ok {
			t.Fatalf("%v of %d places: %v, and not so from behind", row, places, ok)
		}
		seen[why]++
	})
	if !impl.CodeOk(2, nil) || !impl.CodeOk(2, []int{}) {
		t.Error("no numbers are no code of two places")
	}
	wantCases(seen, t, "", "too short", "too long", "below 0", "past the places")
}

func TestCodeOkOfSomeRows(t *testing.T) {
	for _, c := range []struct {
		places int
		row    []int
		want   bool
	}{
		{2, []int{0}, false},
		{2, []int{-1}, false},
		{3, nil, false},
		{3, []int{}, false},
		{3, []int{0}, true},
		{3, []int{2}, true},
		{3, []int{3}, false},
		{3, []int{-1}, false},
		{3, []int{0, 0}, false},
		{3, []int{math.MaxInt}, false},
		{3, []int{math.MinInt}, false},
		{4, []int{3, 0}, true},
		{4, []int{4, 0}, false},
		{4, []int{0, 4}, false},
		{4, []int{-1, 0}, false},
		{4, []int{0, -1}, false},
		{4, []int{1}, false},
		{4, []int{1, 1, 1}, false},
		{6, []int{5, 5, 5, 5}, true},
		{6, []int{0, 0, 0, 0}, true},
		{6, []int{5, 4, 3, 2}, true},
		{6, []int{5, 5, 5, 6}, false},
		{6, []int{6, 5, 5, 5}, false},
		{6, []int{0, 1, -1, 2}, false},
		{6, []int{0, 1, 2}, false},
		{6, []int{0, 1, 2, 3, 4}, false},
		{6, nil, false},
		{7, []int{0, 1, 2, 3, 4}, false},
		{7, []int{0, 0, 0, 0}, false},
		{1, nil, false},
		{0, nil, false},
	} {
		if got := impl.CodeOk(c.places, c.row); got != c.want {
			t.Errorf("%v of %d places: %v", c.row, c.places, got)
		}
	}
}

// eachBadCode takes numbers of places that are none of a tree, with rows of as many numbers as fit, and others.
func eachBadCode(check func(places int, row []int)) {
	for _, places := range badTreeSizes {
		for count := range 70 {
			check(places, make([]int, count))
		}
		check(places, nil)
		check(places, []int{0, 1, 2, 3, 4})
		check(places, []int{-1, -1})
	}
}

func TestCodeOkOfOthers(t *testing.T) {
	eachBadCode(func(places int, row []int) {
		if impl.CodeOk(places, row) {
			t.Errorf("%v is a code of %d places", row, places)
		}
	})
}

// Promise 75.

func TestEachPlaceStandsInTheCodeOneTimeFewerThanItHasWays(t *testing.T) {
	seen := map[string]int{}
	eachNamedTree(t, func(t *testing.T, places int, links []impl.Pair) {
		row, ok := impl.CodeOf(places, links)
		if want := wantRow(places, links); !ok || !slices.Equal(row, want) || !impl.CodeOk(places, row) {
			t.Fatalf("%v, %v, not %v", row, ok, want)
		}
		if tree, ok := impl.TreeOfCode(places, row); !ok || !slices.Equal(tree, links) {
			t.Errorf("the code %v is that of %v, %v", row, tree, ok)
		}
		for place := range places {
			if timesIn(row, place) != countIn(links, place)-1 {
				t.Errorf("the place %d stands in the code %v %d times", place, row, timesIn(row, place))
			}
		}
		seeCode(seen, row)
	})
	wantCases(seen, t, "no numbers", "one number", "one number again and again", "all different", "some again")
}

func TestTreesHaveDifferentCodes(t *testing.T) {
	eachTreeSize(t, func(t *testing.T, places int) {
		codes := map[[impl.MaxNodes]int]bool{}
		for _, links := range treesOf(places) {
			row, _ := impl.CodeOf(places, links)
			if codes[codeKey(row)] {
				t.Errorf("%v and a tree before it have the code %v", links, row)
			}
			codes[codeKey(row)] = true
		}
	})
}

// someCodes are trees with their codes, told by hand.
var someCodes = []struct {
	places int
	links  string
	row    []int
}{
	{2, "01", nil},
	{3, "01 02", []int{0}},
	{3, "01 12", []int{1}},
	{3, "02 12", []int{2}},
	{4, "01 02 03", []int{0, 0}},
	{4, "03 13 23", []int{3, 3}},
	{4, "01 12 23", []int{1, 2}},
	{4, "01 03 23", []int{0, 3}},
	{4, "02 03 13", []int{3, 0}},
	{5, "03 13 23 24", []int{3, 3, 2}},
	{5, "04 13 14 24", []int{4, 4, 1}},
	{5, "01 02 24 34", []int{0, 2, 4}},
	{6, "01 12 23 34 45", []int{1, 2, 3, 4}},
	{6, "01 02 03 04 05", []int{0, 0, 0, 0}},
	{6, "05 15 25 35 45", []int{5, 5, 5, 5}},
	{6, "02 12 23 34 35", []int{2, 2, 3, 3}},
	{6, "05 14 15 24 34", []int{5, 4, 4, 1}},
	{6, "03 15 24 25 34", []int{3, 5, 4, 2}},
}

func TestCodeOfSomeTrees(t *testing.T) {
	for _, c := range someCodes {
		if row, ok := impl.CodeOf(c.places, pairsIn(c.links)); !ok || !slices.Equal(row, c.row) {
			t.Errorf("%s of %d places: %v, %v, not %v", c.links, c.places, row, ok, c.row)
		}
	}
}

func TestStarsAndPathsHaveTheirMiddlesAsCodes(t *testing.T) {
	eachTreeSize(t, func(t *testing.T, places int) {
		for middle := range places {
			row, ok := impl.CodeOf(places, starOf(places, middle))
			if want := slices.Repeat([]int{middle}, places-2); !ok || !slices.Equal(row, want) {
				t.Errorf("the star of %d: %v, %v", middle, row, ok)
			}
		}
		eachOrder(numbersIn(0, places-1), func(order []int) {
			row, ok := impl.CodeOf(places, pathThrough(order))
			if inner := slices.Sorted(slices.Values(order[1 : places-1])); !ok || !slices.Equal(slices.Sorted(slices.Values(row)), inner) {
				t.Errorf("the path %v: %v, %v", order, row, ok)
			}
		})
	})
}

func TestCodeOfOthers(t *testing.T) {
	check := func(places int, links []impl.Pair) {
		if row, ok := impl.CodeOf(places, links); ok || row != nil {
			t.Fatalf("%v of %d places: %v, %v", links, places, row, ok)
		}
	}
	eachList(func(places int, links []impl.Pair) {
		if whyNoTree(places, links) != "" {
			check(places, links)
		}
	})
	eachBadTree(check)
}

// Promise 76.

func TestEachCodeIsThatOfOneTree(t *testing.T) {
	seen := map[string]int{}
	eachCode(t, func(t *testing.T, places int, row []int, links []impl.Pair) {
		tree, ok := impl.TreeOfCode(places, row)
		if !ok || !slices.Equal(tree, links) || !impl.LinksOk(places, tree) {
			t.Fatalf("%v, %v, not %v", tree, ok, links)
		}
		if again, ok := impl.CodeOf(places, tree); !ok || !slices.Equal(again, row) {
			t.Errorf("the code of %v is %v, %v", tree, again, ok)
		}
		seeCode(seen, row)
	})
	wantCases(seen, t, "no numbers", "one number", "one number again and again", "all different", "some again")
}

func TestTreeOfSomeCodes(t *testing.T) {
	for _, c := range someCodes {
		if tree, ok := impl.TreeOfCode(c.places, c.row); !ok || !slices.Equal(tree, pairsIn(c.links)) {
			t.Errorf("%v of %d places: %v, %v, not %s", c.row, c.places, tree, ok, c.links)
		}
	}
	for _, row := range [][]int{nil, {}} {
		if tree, ok := impl.TreeOfCode(2, row); !ok || !slices.Equal(tree, pairsIn("01")) {
			t.Errorf("no numbers, of two places: %v, %v", tree, ok)
		}
	}
}

func TestTreeOfCodeOfOthers(t *testing.T) {
	check := func(places int, row []int) {
		if tree, ok := impl.TreeOfCode(places, row); ok || tree != nil {
			t.Fatalf("%v of %d places: %v, %v", row, places, tree, ok)
		}
	}
	eachNearCode(func(places int, row []int) {
		if whyNoCode(places, row) != "" {
			check(places, row)
		}
	})
	for _, number := range []int{math.MinInt, -64, 63, 64, math.MaxInt} {
		check(3, []int{number})
		check(6, []int{0, 1, number, 2})
	}
	eachBadCode(check)
}

// Promise 77.

func TestThereAreAsManyTreesAsCodes(t *testing.T) {
	seen := map[string]int{}
	eachTreeSize(t, func(t *testing.T, places int) {
		many, power := impl.TreesMany(places), 1
		for i := 2; i < places; i++ {
			power *= places
		}
		codes := 0
		eachFilled(numbersIn(0, places-1), places-2, func(row []int) {
			if impl.CodeOk(places, row) {
				codes++
			}
		})
		if many != power || many != codes || many != len(treesOf(places)) {
			t.Errorf("%d, not %d, with %d codes and %d trees", many, power, codes, len(treesOf(places)))
		}
		net := netOf(places)
		for _, link := range pairsBetween(places) {
			net.Ways = append(net.Ways, way(link.A, link.B, 1))
		}
		if len(net.Ways) > impl.MaxWays {
			seen["too many ways"]++
			return
		}
		if spans := impl.SpanMany(net); many != spans {
			t.Errorf("%d, not %d", many, spans)
		}
		seen["as many as span the net"]++
	})
	wantCases(seen, t, "too many ways", "as many as span the net")
}

func TestTreesManyOfSomePlaces(t *testing.T) {
	for i, want := range []int{1, 3, 16, 125, 1296} {
		if got := impl.TreesMany(i + 2); got != want {
			t.Errorf("%d places: %d, not %d", i+2, got, want)
		}
	}
}

func TestTreesManyOfOthers(t *testing.T) {
	for _, places := range badTreeSizes {
		if got := impl.TreesMany(places); got != -1 {
			t.Errorf("%d places: %d", places, got)
		}
	}
}

// Promise 78.

func TestLeavesAreNotInTheCode(t *testing.T) {
	seen := map[string]int{}
	eachCode(t, func(t *testing.T, places int, row []int, _ []impl.Pair) {
		tree, ok := impl.TreeOfCode(places, row)
		if !ok {
			t.Fatal("no tree")
		}
		leaves := 0
		for place := range places {
			leaf := countIn(tree, place) == 1
			if leaf == slices.Contains(row, place) {
				t.Errorf("the place %d has one pair in %v: %v", place, tree, leaf)
			}
			if leaf {
				leaves++
			}
		}
		seeLeaves(seen, places, leaves)
	})
	wantCases(seen, t, "both places", "two ends of a path", "all places but one", "others")
}

func seeLeaves(seen map[string]int, places, leaves int) {
	switch {
	case places == 2 && leaves == 2:
		seen["both places"]++
	case leaves == 2:
		seen["two ends of a path"]++
	case leaves == places-1:
		seen["all places but one"]++
	case leaves > 2 && leaves < places-1:
		seen["others"]++
	default:
		seen["fewer than two, or all"]++
	}
}
