package tests

import (
	"math"
	"math/rand/v2"
	"slices"
	"testing"

	"loop.example/fieldroots/impl"
)

// greatestShare is what a place can pay at most.
const greatestShare = impl.MaxCost * impl.MaxWays

// wantUp takes for each place its one way of the least tree without which one does not come from it to the source.
func wantUp(net impl.Net) []int {
	tree := wantSpan(net)
	if tree < 0 {
		return nil
	}
	row := []int{-1}
	for place := 1; place < net.Nodes; place++ {
		for _, i := range waysAt(net, tree, place) {
			if !has(wantReach(net, without(tree, i), place), 0) {
				row = append(row, i)
			}
		}
	}
	return row
}

func wantShares(net impl.Net) []int {
	row := wantUp(net)
	for place, i := range row {
		row[place] = 0
		if i >= 0 {
			row[place] = net.Ways[i].Cost
		}
	}
	return row
}

// wantAlone has the cost of each group, in the order of their numbers.
func wantAlone(net impl.Net) []int {
	spans := wantSpans(net)
	alone := make([]int, len(spans))
	for group := range alone {
		alone[group] = spans[group|1]
		if has(group, 0) {
			alone[group] = -1
		}
	}
	return alone
}

func paidBy(row []int, group int) int {
	paid := 0
	for _, place := range listOf(group) {
		paid += row[place]
	}
	return paid
}

// whyNoShares tells why a row is none of shares, and nothing if it is one; alone is what each group would pay alone.
func whyNoShares(net impl.Net, alone []int, row []int) string {
	all := alone[allOf(net.Nodes)&^1]
	switch {
	case len(row) < net.Nodes:
		return "too short"
	case len(row) > net.Nodes:
		return "too long"
	case row[0] != 0:
		return "the source pays"
	case slices.Min(row) < 0:
		return "a number below 0"
	case slices.Max(row) > greatestShare:
		return "a number too great"
	case all < 0:
		return "no least tree"
	case paidBy(row, allOf(net.Nodes)) < all:
		return "less"
	case paidBy(row, allOf(net.Nodes)) > all:
		return "more"
	}
	for group, cost := range alone {
		if cost >= 0 && paidBy(row, group) > cost {
			return "a group pays more than alone"
		}
	}
	return ""
}

// moved does not let a place pay below 0.
func moved(row []int, from, to, most int) []int {
	row = slices.Clone(row)
	most = min(most, row[from])
	row[from] -= most
	row[to] += most
	return row
}

// filled moves payments of all others to the first place of a group, as long as it pays less than the cost.
func filled(row []int, group, cost int) []int {
	for from := range row {
		if less := cost - paidBy(row, group); less > 0 && !has(group, from) {
			row = moved(row, from, listOf(group)[0], less)
		}
	}
	return row
}

// movedRows come to as much as the first one.
func movedRows(r *rand.Rand, first []int) [][]int {
	rows := [][]int{first}
	for range 12 {
		row := rows[r.IntN(len(rows))]
		from, to := 1+r.IntN(len(row)-1), 1+r.IntN(len(row)-1)
		rows = append(rows, moved(row, from, to, 1+r.IntN(impl.MaxCost)))
	}
	return rows
}

// tightRows let each group pay just what it would alone, and one more, if the others have so much to give.
func tightRows(first []int, alone []int) [][]int {
	var rows [][]int
	for group, cost := range alone {
		if group > 0 && cost >= 0 {
			rows = append(rows, filled(first, group, cost), filled(first, group, cost+1))
		}
	}
	return rows
}

// wrongRows differ from a row in one number, or two, or in how many there are.
func wrongRows(r *rand.Rand, row []int) [][]int {
	changed := func(place, more int) []int {
		other := slices.Clone(row)
		other[place] += more
		return other
	}
	place := 1 + r.IntN(len(row)-1)
	below := changed(place, -row[place]-1)
	below[1+r.IntN(len(row)-1)] += row[place] + 1
	source := changed(place, -min(1, row[place]))
	source[0] = 1
	return [][]int{
		changed(place, 1), changed(place, -1), below, source, changed(0, -1),
		changed(place, greatestShare-row[place]), changed(place, greatestShare+1-row[place]),
		row[:len(row)-1], append(slices.Clone(row), 0), append(slices.Clone(row), 1), nil,
	}
}

// eachRow takes rows of shares, and others, for each net; for nets that are not joined rows that come to nothing, or less.
func eachRow(t *testing.T, check func(t *testing.T, net impl.Net, alone []int, row []int)) {
	t.Helper()
	r := rand.New(rand.NewPCG(5, 6))
	eachNet(t, func(t *testing.T, net impl.Net) {
		alone, first := wantAlone(net), wantShares(net)
		if first == nil {
			first = make([]int, net.Nodes)
		}
		rows := tightRows(first, alone)
		for _, row := range movedRows(r, first) {
			rows = append(append(rows, row), wrongRows(r, row)...)
		}
		for _, row := range rows {
			check(t, net, alone, row)
			if t.Failed() {
				t.Fatalf("row: %v", row)
			}
		}
	})
}

// Promise 43.

func TestEachPlaceGoesUpByAWayOfItsOwn(t *testing.T) {
	seen := map[string]int{}
	eachNet(t, func(t *testing.T, net impl.Net) {
		row, tree := impl.UpWays(net), impl.SpanTree(net)
		if want := wantUp(net); !slices.Equal(row, want) {
			t.Fatalf("%v, not %v", row, want)
		}
		if tree < 0 {
			seen["no tree"]++
			return
		}
		together := 0
		for place, i := range row {
			if place == 0 && i == -1 {
				continue
			}
			if has(together, i) || !slices.Contains(waysAt(net, tree, place), i) {
				t.Errorf("%v: the place %d has no way of its own", row, place)
			}
			together |= 1 << i
			seeUp(seen, net, place, i)
		}
		if together != tree {
			t.Errorf("%v: together %b, and the tree is %b", row, together, tree)
		}
	})
	wantCases(seen, t, "no tree", "to the source", "to a lesser place", "to a greater place",
		"past a way to the source", "one of several that cost the same", "one of several of different cost")
}

func seeUp(seen map[string]int, net impl.Net, place, up int) {
	switch to := net.Ways[up].A + net.Ways[up].B - place; {
	case to == 0:
		seen["to the source"]++
	case to < place:
		seen["to a lesser place"]++
	default:
		seen["to a greater place"]++
	}
	for i, w := range net.Ways {
		switch {
		case i == up:
		case wayPlaces(w) == wayPlaces(net.Ways[up]) && w.Cost == net.Ways[up].Cost:
			seen["one of several that cost the same"]++
		case wayPlaces(w) == wayPlaces(net.Ways[up]):
			seen["one of several of different cost"]++
		case wayPlaces(w) == 1|1<<place:
			seen["past a way to the source"]++
		}
	}
}

// someUps has nil for nets that are not joined.
var someUps = []struct {
	name       string
	up, shares []int
}{
	{"one way", []int{-1, 0}, []int{0, 5}},
	{"one way of no cost", []int{-1, 0}, []int{0, 0}},
	{"path cheaper than way", []int{-1, 1, 2, 3, 4, 5}, []int{0, 1, 1, 1, 1, 1}},
	{"long path, ways from behind", []int{-1, 4, 3, 2, 1, 0}, []int{0, 9, 9, 9, 9, 9}},
	{"star", []int{-1, 4, 3, 2, 1, 0}, []int{0, 1, 2, 3, 4, 5}},
	{"star of equal arms", []int{-1, 1, 2, 3, 4, 0}, []int{0, 1, 1, 1, 1, 1}},
	{"fork with long arms", []int{-1, 1, 0, 2, 3, 4}, []int{0, 9, 0, 0, 0, 9}},
	{"hub of three", []int{-1, 1, 2, 0}, []int{0, 2, 2, 2}},
	{"two hubs", []int{-1, 1, 3, 4, 0, 2}, []int{0, 1, 1, 1, 1, 1}},
	{"two threes, all ways between", []int{-1, 5, 8, 6, 7, 2}, []int{0, 4, 1, 3, 2, 7}},
	{"rounds joined by a bridge", []int{-1, 1, 2, 3, 4, 6}, []int{0, 1, 1, 9, 1, 0}},
	{"mesh of MaxWays ways", []int{-1, 0, 2, 4, 5, 7}, []int{0, 2, 1, 1, 0, 3}},
	{"all greatest costs", []int{-1, 0, 1, 2, 3, 4}, []int{0, 9, 9, 9, 9, 9}},
	// More than one way between the same two places, of the same and of different cost.
	{"several ways, other order", []int{-1, 1}, []int{0, 1}},
	{"MaxWays ways between two", []int{-1, 0}, []int{0, 9}},
	{"equal ways", []int{-1, 0, 1}, []int{0, 2, 2}},
	{"double way and a bridge", []int{-1, 1, 2}, []int{0, 1, 0}},
	// Of equal costs the ways of the least numbers are taken.
	{"equal costs, fewer ways", []int{-1, 0, 1}, []int{0, 1, 1}},
	{"equal costs, as many ways", []int{-1, 0, 1, 2}, []int{0, 2, 2, 2}},
	// Ways of no cost.
	{"free round", []int{-1, 0, 1, 2}, []int{0, 0, 0, 0}},
	{"free detour", []int{-1, 1, 0}, []int{0, 0, 0}},
	{"free detour of two", []int{-1, 1, 3, 0}, []int{0, 0, 0, 1}},
	{"free way before a dear one", []int{-1, 0, 1}, []int{0, 0, 5}},
	{"dear way before a free one", []int{-1, 1, 0}, []int{0, 0, 5}},
	// Nets that are not joined.
	{"no ways, 2 places", nil, nil},
	{"no ways, MaxNodes places", nil, nil},
	{"MaxWays free ways", nil, nil},
	{"two parts", nil, nil},
	{"three parts", nil, nil},
	{"place 0 alone", nil, nil},
	{"last place alone", nil, nil},
	{"round beside a way", nil, nil},
	{"double way beside a way", nil, nil},
}

func TestUpWaysOfSomeNets(t *testing.T) {
	for _, c := range someUps {
		if got := impl.UpWays(namedNet(t, c.name)); !slices.Equal(got, c.up) {
			t.Errorf("%s: %v, not %v", c.name, got, c.up)
		}
	}
}

func TestUpWaysOfOthers(t *testing.T) {
	eachBadNet(t, func(t *testing.T, net impl.Net) {
		if got := impl.UpWays(net); len(got) != 0 {
			t.Error(got)
		}
	})
}

// Promise 44.

func TestNoGroupCanDoBetterAlone(t *testing.T) {
	seen := map[string]int{}
	eachNet(t, func(t *testing.T, net impl.Net) {
		row, want, cost := impl.BirdShares(net), wantShares(net), impl.SpanCost(net)
		if !slices.Equal(row, want) {
			t.Fatalf("%v, not %v", row, want)
		}
		if ok := impl.SharesOk(net, row); ok != (cost >= 0) {
			t.Errorf("%v are shares: %v, and the least tree costs %d", row, ok, cost)
		}
		if cost < 0 {
			seen["no tree"]++
			return
		}
		if len(row) != net.Nodes || row[0] != 0 || paidBy(row, allOf(net.Nodes)) != cost {
			t.Errorf("%v, and the least tree costs %d", row, cost)
		}
		for group, alone := range wantAlone(net) {
			switch paid := paidBy(row, group); {
			case alone < 0:
				seen["a group that cannot join alone"]++
			case paid > alone:
				t.Errorf("%v: the group %b would pay %d alone", row, group, alone)
			case paid == 0 && alone == 0:
				seen["nothing"]++
			case paid == alone:
				seen["as much as alone"]++
			default:
				seen["less than alone"]++
			}
		}
	})
	wantCases(seen, t, "no tree", "a group that cannot join alone", "nothing", "as much as alone", "less than alone")
}

func TestBirdSharesOfSomeNets(t *testing.T) {
	for _, c := range someUps {
		if got := impl.BirdShares(namedNet(t, c.name)); !slices.Equal(got, c.shares) {
			t.Errorf("%s: %v, not %v", c.name, got, c.shares)
		}
	}
}

func TestBirdSharesOfOthers(t *testing.T) {
	eachBadNet(t, func(t *testing.T, net impl.Net) {
		if got := impl.BirdShares(net); len(got) != 0 {
			t.Error(got)
		}
	})
}

// Promise 45.

func TestGroupsAloneJoinNoCheaperThanRoots(t *testing.T) {
	seen := map[string]int{}
	eachNet(t, func(t *testing.T, net impl.Net) {
		for group, want := range wantAlone(net) {
			got, root := impl.GroupCost(net, group), impl.RootCost(net, group|1)
			if got != want {
				t.Fatalf("group %b: %d, not %d", group, got, want)
			}
			switch {
			case has(group, 0) && got != -1:
				t.Errorf("group %b, with the source: %d", group, got)
			case has(group, 0):
				seen["with the source"]++
			case got < 0 && root < 0:
				seen["nothing joins it"]++
			case got < 0:
				seen["it cannot join alone"]++
			case root < 0 || got < root:
				t.Errorf("group %b: %d, and a root costs %d", group, got, root)
			case group == 0:
				seen["nobody"]++
			case got == 0:
				seen["for nothing"]++
			case got == root:
				seen["as much"]++
			default:
				seen["more"]++
			}
		}
		if got := impl.GroupCost(net, allOf(net.Nodes)&^1); got != impl.SpanCost(net) {
			t.Errorf("all places: %d, not %d", got, impl.SpanCost(net))
		}
		if got := impl.GroupCost(net, 0); got != 0 {
			t.Errorf("nobody: %d", got)
		}
	})
	wantCases(seen, t, "with the source", "nothing joins it", "it cannot join alone", "nobody", "for nothing", "as much", "more")
}

func TestGroupCostOfSomeGroups(t *testing.T) {
	for _, c := range []struct {
		name        string
		group, want int
	}{
		{"no ways, 2 places", 0, 0},
		{"no ways, 2 places", 0b10, -1},
		{"no ways, MaxNodes places", 0, 0},
		{"no ways, MaxNodes places", 0b111110, -1},
		{"one way", 0, 0},
		{"one way", 0b10, 5},
		{"one way of no cost", 0b10, 0},
		{"several ways, other order", 0b10, 1},
		{"MaxWays ways between two", 0b10, 9},
		{"double way and a bridge", 0b010, 1},
		{"double way and a bridge", 0b110, 1},
		// With the source in them.
		{"no ways, 2 places", 0b01, -1},
		{"one way", 0b01, -1},
		{"one way", 0b11, -1},
		{"one way of no cost", 0b11, -1},
		{"free round", 0b0001, -1},
		{"free round", 0b1111, -1},
		{"all greatest costs", 0b111111, -1},
		// Just other places lead to the source.
		{"double way and a bridge", 0b100, -1},
		{"path cheaper than way", 0b010000, -1},
		{"path cheaper than way", 0b011100, -1},
		{"long path, ways from behind", 0b100000, -1},
		{"long path, ways from behind", 0b111100, -1},
		{"free round", 0b0100, -1},
		{"hub of three", 0b0100, -1},
		{"two hubs, no ways round them", 0b101110, -1},
		{"two threes, all ways between", 0b000110, -1},
		{"star of equal arms", 0b011110, -1},
		// No places lead to it.
		{"MaxWays free ways", 0b100, -1},
		{"MaxWays free ways", 0b110, -1},
		{"place 0 alone", 0b111110, -1},
		{"last place alone", 0b111110, -1},
		{"two parts", 0b10100, -1},
		{"three parts", 0b100010, -1},
		// A part of a net that is not joined.
		{"MaxWays free ways", 0b010, 0},
		{"last place alone", 0b011110, 4},
		{"three parts", 0b100000, 9},
		// Ways over other places are cheaper.
		{"path cheaper than way", 0b100000, 9},
		{"path cheaper than way", 0b100010, 10},
		{"path cheaper than way", 0b110000, 10},
		{"path cheaper than way", 0b011110, 4},
		{"path cheaper than way", 0b111110, 5},
		{"hub of three", 0b0010, 3},
		{"hub of three", 0b0110, 6},
		{"hub of three", 0b1100, 4},
		{"hub of three", 0b1110, 6},
		{"two hubs", 0b001110, 9},
		{"two hubs", 0b111110, 5},
		{"star", 0b010110, 7},
		{"star", 0b111110, 15},
		{"mesh of MaxWays ways", 0b100000, 7},
		{"mesh of MaxWays ways", 0b100110, 10},
		{"all greatest costs", 0b111110, 45},
		// Groups that join for nothing.
		{"free round", 0b0010, 0},
		{"free round", 0b1110, 0},
		{"free detour of two", 0b0010, 0},
		{"free detour of two", 0b0110, 1},
		{"free way before a dear one", 0b010, 0},
		{"free way before a dear one", 0b110, 5},
	} {
		if got := impl.GroupCost(namedNet(t, c.name), c.group); got != c.want {
			t.Errorf("%s, group %b: %d, not %d", c.name, c.group, got, c.want)
		}
	}
}

func TestGroupCostOfOthers(t *testing.T) {
	eachBadEnds(t, func(t *testing.T, net impl.Net, group int) {
		if got := impl.GroupCost(net, group); got != -1 {
			t.Errorf("group %d: %d", group, got)
		}
	})
}

// Promise 46.

func TestNobodyPaysMoreThanTheCheapestWayToTheSource(t *testing.T) {
	seen := map[string]int{}
	eachRow(t, func(t *testing.T, net impl.Net, alone []int, row []int) {
		ok, why := impl.SharesOk(net, row), whyNoShares(net, alone, row)
		if ok != (why == "") {
			t.Fatalf("they are shares: %v, but %q", ok, why)
		}
		if !ok {
			seen[why]++
			return
		}
		if row[0] != 0 || paidBy(row, allOf(net.Nodes)) != impl.SpanCost(net) {
			t.Errorf("the source pays %d, and all do not pay %d", row[0], impl.SpanCost(net))
		}
		for _, w := range net.Ways {
			if (w.A == 0 || w.B == 0) && row[w.A+w.B] > w.Cost {
				t.Errorf("the place %d pays more than the way %v costs", w.A+w.B, w)
			}
		}
		seeShares(seen, net, alone, row)
	})
	wantCases(seen, t, "too short", "too long", "the source pays", "a number below 0", "a number too great",
		"no least tree", "less", "more", "a group pays more than alone",
		"bird shares", "other shares", "shares of nothing", "a group pays just what it would alone")
}

func seeShares(seen map[string]int, net impl.Net, alone []int, row []int) {
	switch {
	case slices.Max(row) == 0:
		seen["shares of nothing"]++
	case slices.Equal(row, wantShares(net)):
		seen["bird shares"]++
	default:
		seen["other shares"]++
	}
	for group, cost := range alone[:allOf(net.Nodes)&^1] {
		if cost > 0 && paidBy(row, group) == cost {
			seen["a group pays just what it would alone"]++
			return
		}
	}
}

func TestSharesOkOfSomeRows(t *testing.T) {
	for _, c := range []struct {
		name string
		row  []int
		want bool
	}{
		{"one way", []int{0, 5}, true},
		{"several ways, other order", []int{0, 1}, true},
		{"MaxWays ways between two", []int{0, 9}, true},
		{"equal ways", []int{0, 2, 2}, true},
		// Too short and too long.
		{"one way", nil, false},
		{"one way", []int{0}, false},
		{"one way", []int{5}, false},
		{"one way", []int{0, 5, 0}, false},
		{"one way of no cost", nil, false},
		{"one way of no cost", []int{0}, false},
		{"one way of no cost", []int{0, 0, 0}, false},
		{"free round", []int{0, 0, 0}, false},
		{"all greatest costs", []int{0, 9, 9, 9, 9, 9, 0}, false},
		// They come to less, or to more.
		{"one way", []int{0, 4}, false},
		{"one way", []int{0, 6}, false},
		{"one way", []int{0, 0}, false},
		{"MaxWays ways between two", []int{0, greatestShare}, false},
		{"MaxWays ways between two", []int{0, greatestShare + 1}, false},
		{"one way of no cost", []int{0, 1}, false},
		{"equal ways", []int{0, 2, 3}, false},
		{"equal ways", []int{0, 1, 2}, false},
		{"long path, ways from behind", []int{0, 0, 0, 0, 0, greatestShare}, false},
		{"long path, ways from behind", []int{0, 0, 0, 0, 0, greatestShare + 1}, false},
		// Some pay for others: one as much as all ways cost.
		{"long path, ways from behind", []int{0, 9, 9, 9, 9, 9}, true},
		{"long path, ways from behind", []int{0, 0, 18, 0, 18, 9}, true},
		{"long path, ways from behind", []int{0, 0, 0, 0, 0, 45}, true},
		{"long path, ways from behind", []int{0, 0, 0, 0, 36, 9}, true},
		{"long path, ways from behind", []int{0, 0, 0, 0, 37, 8}, false},
		{"long path, ways from behind", []int{0, 10, 8, 9, 9, 9}, false},
		{"long path, ways from behind", []int{0, 0, 19, 8, 9, 9}, false},
		{"star", []int{0, 1, 2, 3, 4, 5}, true},
		{"star", []int{0, 2, 1, 3, 4, 5}, false},
		{"star", []int{0, 1, 2, 3, 5, 4}, false},
		// A group of two or more pays just what it would alone, and one more, though no place of it pays too much.
		{"path cheaper than way", []int{0, 0, 0, 0, 0, 5}, true},
		{"path cheaper than way", []int{0, 0, 0, 3, 0, 2}, true},
		{"path cheaper than way", []int{0, 0, 0, 4, 0, 1}, false},
		{"path cheaper than way", []int{0, 1, 0, 2, 1, 1}, true},
		{"path cheaper than way", []int{0, 1, 0, 2, 2, 0}, false},
		{"hub of three", []int{0, 3, 3, 0}, true},
		{"hub of three", []int{0, 3, 2, 1}, true},
		{"hub of three", []int{0, 3, 1, 2}, false},
		{"hub of three", []int{0, 2, 4, 0}, true},
		{"hub of three", []int{0, 1, 4, 1}, false},
		{"hub of three", []int{0, 4, 1, 1}, false},
		{"two hubs, and a way past one", []int{0, 2, 1, 1, 3, 1}, true},
		{"two hubs, and a way past one", []int{0, 2, 1, 2, 2, 1}, false},
		{"two threes, all ways between", []int{0, 4, 0, 4, 2, 7}, true},
		{"two threes, all ways between", []int{0, 4, 0, 5, 1, 7}, false},
		{"two threes, all ways between", []int{0, 3, 2, 3, 2, 7}, false},
		{"two threes, all ways between", []int{0, 0, 0, 9, 8, 0}, false},
		// The source pays, or gets something.
		{"one way", []int{5, 0}, false},
		{"one way", []int{1, 4}, false},
		{"one way", []int{-1, 6}, false},
		{"free way before a dear one", []int{0, 0, 5}, true},
		{"free way before a dear one", []int{1, 0, 4}, false},
		{"free way before a dear one", []int{5, 0, 0}, false},
		{"free round", []int{-1, 0, 0, 1}, false},
		// Numbers below 0, where no group pays too much.
		{"free way before a dear one", []int{0, -1, 6}, false},
		{"long path, ways from behind", []int{0, -1, 10, 9, 9, 18}, false},
		{"long path, ways from behind", []int{0, 0, 0, 0, -45, 90}, false},
		{"long path, ways from behind", []int{0, math.MinInt, math.MaxInt, 1, 0, 45}, false},
		// Numbers that are too great, and together as little as they should be, if the sum overflows.
		{"long path, ways from behind", []int{0, 1, math.MaxInt, math.MaxInt, 9, 37}, false},
		{"long path, ways from behind", []int{0, 1 << 62, 1 << 62, 1 << 62, 1 << 62, 45}, false},
		// Ways of no cost: nobody pays anything, or just others do.
		{"one way of no cost", []int{0, 0}, true},
		{"free round", []int{0, 0, 0, 0}, true},
		{"free round", []int{0, 0, 0, 1}, false},
		{"free detour of two", []int{0, 0, 0, 1}, true},
		{"free detour of two", []int{0, 0, 1, 0}, true},
		{"free detour of two", []int{0, 1, 0, 0}, false},
		{"free way before a dear one", []int{0, 1, 4}, false},
		{"dear way before a free one", []int{0, 0, 5}, true},
		{"dear way before a free one", []int{0, 5, 0}, true},
		{"dear way before a free one", []int{0, 3, 2}, true},
		// There is no least tree: nothing, and what is told then.
		{"no ways, 2 places", []int{0, 0}, false},
		{"no ways, 2 places", []int{0, -1}, false},
		{"no ways, 2 places", []int{0, 1}, false},
		{"no ways, 2 places", nil, false},
		{"no ways, MaxNodes places", []int{0, 0, 0, 0, 0, 0}, false},
		{"no ways, MaxNodes places", []int{0, 0, -1, 0, 0, 0}, false},
		{"MaxWays free ways", []int{0, 0, 0}, false},
		{"MaxWays free ways", []int{0, 0, -1}, false},
		{"place 0 alone", []int{0, 1, 1, 1, 1, 0}, false},
		{"last place alone", []int{0, 1, 1, 1, 1, 0}, false},
		{"last place alone", []int{0, 0, 0, 0, 0, -1}, false},
	} {
		if got := impl.SharesOk(namedNet(t, c.name), c.row); got != c.want {
			t.Errorf("%s, %v: %v", c.name, c.row, got)
		}
	}
}

func TestSharesOkOfOthers(t *testing.T) {
	eachBadNet(t, func(t *testing.T, net impl.Net) {
		for length := range impl.MaxNodes + 2 {
			for _, last := range []int{-1, 0, 1, 3, impl.MaxCost + 1} {
				row := make([]int, length)
				if length > 0 {
					row[length-1] = last
				}
				if impl.SharesOk(net, row) {
					t.Errorf("%v are shares", row)
				}
			}
		}
	})
}

// Promise 47.

func TestGroupsTogetherJoinNoDearer(t *testing.T) {
	seen := map[string]int{}
	eachNet(t, func(t *testing.T, net impl.Net) {
		costs := make([]int, 1<<net.Nodes)
		for group := range costs {
			costs[group] = impl.GroupCost(net, group)
		}
		for group, cost := range costs {
			for other, otherCost := range costs {
				together := costs[group|other]
				switch {
				case cost < 0 || otherCost < 0:
					seenAlone(seen, together)
				case together < 0 || together > cost+otherCost:
					t.Errorf("%b: %d, %b: %d, and together %d", group, cost, other, otherCost, together)
				default:
					seeTogether(seen, group, other, cost+otherCost-together)
				}
			}
		}
	})
	wantCases(seen, t, "one is not told, nor are both", "one is not told, but both are",
		"with nobody", "they share places, as much", "they share places, less",
		"they share none, as much", "they share none, less")
}

func seenAlone(seen map[string]int, together int) {
	if together < 0 {
		seen["one is not told, nor are both"]++
	} else {
		seen["one is not told, but both are"]++
	}
}

func seeTogether(seen map[string]int, group, other, less int) {
	switch {
	case group == 0 || other == 0:
		seen["with nobody"]++
	case group&other != 0 && less == 0:
		seen["they share places, as much"]++
	case group&other != 0:
		seen["they share places, less"]++
	case less == 0:
		seen["they share none, as much"]++
	default:
		seen["they share none, less"]++
	}
}
