package tests

import (
	"math/bits"
	"reflect"
	"slices"
	"testing"

	"loop.example/fieldroots/impl"
)

// Promise 1.

func TestNetsWithoutWaysAreNets(t *testing.T) {
	for nodes := -3; nodes <= 70; nodes++ {
		want := nodes >= 2 && nodes <= impl.MaxNodes
		if impl.NetOk(impl.Net{Nodes: nodes}) != want || impl.NetOk(impl.Net{Nodes: nodes, Ways: []impl.Way{}}) != want {
			t.Errorf("%d places without ways: NetOk is not %v", nodes, want)
		}
	}
}

func TestNetsStayNetsWithPlacesExchanged(t *testing.T) {
	eachNet(t, func(t *testing.T, net impl.Net) {
		if !impl.NetOk(net) || !impl.NetOk(exchanged(net)) {
			t.Error("NetOk is false")
		}
	})
	eachBadNet(t, func(t *testing.T, net impl.Net) {
		if impl.NetOk(net) || impl.NetOk(exchanged(net)) {
			t.Error("NetOk is true")
		}
	})
}

func TestNetOkAtItsBounds(t *testing.T) {
	for nodes := 2; nodes <= impl.MaxNodes; nodes++ {
		for a := -2; a <= impl.MaxNodes+1; a++ {
			for b := -2; b <= impl.MaxNodes+1; b++ {
				want := a != b && a >= 0 && b >= 0 && a < nodes && b < nodes
				if impl.NetOk(netOf(nodes, way(0, 1, 1), way(a, b, 1))) != want {
					t.Errorf("%d places, way %d-%d: NetOk is not %v", nodes, a, b, want)
				}
			}
		}
	}
	for cost := -3; cost <= impl.MaxCost+3; cost++ {
		want := cost >= 0 && cost <= impl.MaxCost
		if impl.NetOk(netOf(2, way(0, 1, 1), way(1, 0, cost))) != want {
			t.Errorf("cost %d: NetOk is not %v", cost, want)
		}
	}
	for count := range impl.MaxWays + 4 {
		net := netOf(2, slices.Repeat([]impl.Way{way(1, 0, 9)}, count)...)
		if impl.NetOk(net) != (count <= impl.MaxWays) {
			t.Errorf("%d ways: NetOk is wrong", count)
		}
	}
}

// Promise 2.

func TestTwoSetsCostWhatBothTogetherAndWhatIsInBothCost(t *testing.T) {
	eachNet(t, func(t *testing.T, net impl.Net) {
		sets := 1 << len(net.Ways)
		for set := range sets {
			for other := set % 3; other < sets; other += 3 {
				apart := impl.CostOf(net, set) + impl.CostOf(net, other)
				if apart != impl.CostOf(net, set|other)+impl.CostOf(net, set&other) {
					t.Errorf("sets %d and %d", set, other)
				}
			}
		}
	})
}

func TestCostsOfSetsAreThoseOfTheirWays(t *testing.T) {
	eachNet(t, func(t *testing.T, net impl.Net) {
		if impl.CostOf(net, 0) != 0 {
			t.Error("no ways cost something")
		}
		for i, w := range net.Ways {
			if impl.CostOf(net, 1<<i) != w.Cost {
				t.Errorf("way %d costs %d", i, impl.CostOf(net, 1<<i))
			}
		}
		for set := range 1 << len(net.Ways) {
			if impl.CostOf(net, set) != wantCost(net, set) {
				t.Errorf("set %d costs %d", set, impl.CostOf(net, set))
			}
		}
	})
	if cost := impl.CostOf(edgeNets()["all greatest costs"], 511); cost != 81 {
		t.Error("all ways at MaxCost cost", cost)
	}
}

func TestCostOfOthers(t *testing.T) {
	eachNet(t, func(t *testing.T, net impl.Net) {
		for _, set := range badSets(len(net.Ways)) {
			if impl.CostOf(net, set) != -1 {
				t.Errorf("set %d: %d", set, impl.CostOf(net, set))
			}
		}
	})
	eachBadNet(t, func(t *testing.T, net impl.Net) {
		if impl.CostOf(net, 0) != -1 || impl.CostOf(net, 1) != -1 {
			t.Error("CostOf is not -1")
		}
	})
}

// Promise 3.

func TestWhoIsComeToComesBack(t *testing.T) {
	eachNet(t, func(t *testing.T, net impl.Net) {
		for set := range 1 << len(net.Ways) {
			for place := range net.Nodes {
				checkReach(t, net, set, place)
			}
		}
	})
}

func checkReach(t *testing.T, net impl.Net, set, place int) {
	reach := impl.ReachOf(net, set, place)
	if reach < 0 || reach > allOf(net.Nodes) || !has(reach, place) || reach != wantReach(net, set, place) {
		t.Errorf("set %d, place %d: reach %d", set, place, reach)
	}
	for other := range net.Nodes {
		if has(reach, other) && impl.ReachOf(net, set, other) != reach {
			t.Errorf("set %d: %d comes to %d, which comes elsewhere", set, place, other)
		}
	}
	for i, w := range net.Ways {
		if has(set, i) && has(reach, w.A) != has(reach, w.B) {
			t.Errorf("set %d, place %d: way %d leaves the reach", set, place, i)
		}
	}
}

func TestReachOfSomePlaces(t *testing.T) {
	path := edgeNets()["long path, ways from behind"]
	alone := edgeNets()["place 0 alone"]
	for _, c := range []struct {
		net              impl.Net
		set, place, want int
	}{
		{path, 31, 0, 63},
		{path, 31, 5, 63},
		{path, 0, 5, 32},
		{path, 0b11011, 0, 0b000111},
		{path, 0b11011, 5, 0b111000},
		{alone, 15, 0, 1},
		{alone, 15, 3, 62},
		{netOf(impl.MaxNodes), 0, 4, 16},
	} {
		if got := impl.ReachOf(c.net, c.set, c.place); got != c.want {
			t.Errorf("%+v, set %d, place %d: %d, not %d", c.net, c.set, c.place, got, c.want)
		}
	}
}

func TestReachOfOthers(t *testing.T) {
	eachNet(t, func(t *testing.T, net impl.Net) {
		for _, set := range badSets(len(net.Ways)) {
			if impl.ReachOf(net, set, 0) != -1 {
				t.Errorf("set %d: %d", set, impl.ReachOf(net, set, 0))
			}
		}
		for _, place := range badPlaces(net.Nodes) {
			if impl.ReachOf(net, 0, place) != -1 {
				t.Errorf("place %d: %d", place, impl.ReachOf(net, 0, place))
			}
		}
	})
	eachBadNet(t, func(t *testing.T, net impl.Net) {
		if impl.ReachOf(net, 0, 0) != -1 || impl.ReachOf(net, 1, 1) != -1 {
			t.Error("ReachOf is not -1")
		}
	})
}

// Promise 4.

func TestMoreWaysJoinNoWorse(t *testing.T) {
	eachNet(t, func(t *testing.T, net impl.Net) {
		all := allOf(len(net.Ways))
		for set := range all + 1 {
			for ends := range 1 << net.Nodes {
				joins := impl.JoinsEnds(net, set, ends)
				if joins && !impl.JoinsEnds(net, all, ends) {
					t.Errorf("set %d joins the ends %d, all ways do not", set, ends)
				}
				if bits.OnesCount(uint(ends)) <= 1 && !joins {
					t.Errorf("set %d does not join the ends %d", set, ends)
				}
				if joins != endsComeToAll(net, set, ends) {
					t.Errorf("set %d, ends %d: JoinsEnds is %v", set, ends, joins)
				}
			}
		}
	})
}

func endsComeToAll(net impl.Net, set, ends int) bool {
	for place := range net.Nodes {
		if has(ends, place) && impl.ReachOf(net, set, place)&ends != ends {
			return false
		}
	}
	return true
}

func TestJoinsSomeEnds(t *testing.T) {
	parts := edgeNets()["three parts"]
	for _, c := range []struct {
		set, ends int
		want      bool
	}{
		{7, 0b100001, true},
		{7, 0b010010, true},
		{7, 0b001100, true},
		{7, 0b100011, false},
		{7, 0b111111, false},
		{6, 0b100001, false},
		{1, 0b100001, true},
		{0, 0b000011, false},
		{0, 0b100000, true},
		{0, 0, true},
	} {
		if impl.JoinsEnds(parts, c.set, c.ends) != c.want {
			t.Errorf("set %d, ends %b: not %v", c.set, c.ends, c.want)
		}
	}
}

func TestJoinsEndsOfOthers(t *testing.T) {
	eachNet(t, func(t *testing.T, net impl.Net) {
		for _, set := range badSets(len(net.Ways)) {
			if impl.JoinsEnds(net, set, 0) || impl.JoinsEnds(net, set, 1) {
				t.Errorf("set %d: joined", set)
			}
		}
		for _, ends := range badSets(net.Nodes) {
			if impl.JoinsEnds(net, 0, ends) || impl.JoinsEnds(net, allOf(len(net.Ways)), ends) {
				t.Errorf("ends %d: joined", ends)
			}
		}
	})
	eachBadNet(t, func(t *testing.T, net impl.Net) {
		if impl.JoinsEnds(net, 0, 0) || impl.JoinsEnds(net, 0, 1) || impl.JoinsEnds(net, 1, 3) {
			t.Error("JoinsEnds is true")
		}
	})
}

// Promise 5.

func TestEachWayHasTwoPlaces(t *testing.T) {
	eachNet(t, func(t *testing.T, net impl.Net) {
		if impl.NodesOf(net, 0) != 0 {
			t.Error("no ways have places")
		}
		for i := range net.Ways {
			if places := impl.NodesOf(net, 1<<i); places < 0 || bits.OnesCount(uint(places)) != 2 {
				t.Errorf("way %d has the places %d", i, places)
			}
		}
		for set := range 1 << len(net.Ways) {
			checkNodes(t, net, set)
		}
	})
}

func checkNodes(t *testing.T, net impl.Net, set int) {
	places := impl.NodesOf(net, set)
	want := 0
	for i, w := range net.Ways {
		if has(set, i) {
			want |= wayPlaces(w)
		}
	}
	if places != want {
		t.Errorf("set %d has the places %d, not %d", set, places, want)
	}
	for place := range net.Nodes {
		others := places &^ (1 << place)
		if has(places, place) && impl.ReachOf(net, set, place)&others == 0 {
			t.Errorf("set %d: its place %d comes to no other one of it", set, place)
		}
	}
}

func TestNodesOfOthers(t *testing.T) {
	eachNet(t, func(t *testing.T, net impl.Net) {
		for _, set := range badSets(len(net.Ways)) {
			if impl.NodesOf(net, set) != -1 {
				t.Errorf("set %d: %d", set, impl.NodesOf(net, set))
			}
		}
	})
	eachBadNet(t, func(t *testing.T, net impl.Net) {
		if impl.NodesOf(net, 0) != -1 || impl.NodesOf(net, 1) != -1 {
			t.Error("NodesOf is not -1")
		}
	})
}

// Promise 6.

func TestNoDetourIsShorter(t *testing.T) {
	eachNet(t, func(t *testing.T, net impl.Net) {
		table := impl.FarTable(net)
		if len(table) != net.Nodes {
			t.Fatalf("%d rows", len(table))
		}
		for a := range net.Nodes {
			if len(table[a]) != net.Nodes || table[a][a] != 0 {
				t.Fatalf("row %d: %v", a, table[a])
			}
			for b := range net.Nodes {
				checkFar(t, net, table, a, b)
			}
		}
		for i, w := range net.Ways {
			if table[w.A][w.B] > w.Cost {
				t.Errorf("way %d costs less than %d", i, table[w.A][w.B])
			}
		}
	})
}

func checkFar(t *testing.T, net impl.Net, table [][]int, a, b int) {
	far := table[a][b]
	if far != wantFar(net, a, b) || far != table[b][a] {
		t.Errorf("from %d to %d: %d", a, b, far)
	}
	if joined := impl.JoinsEnds(net, allOf(len(net.Ways)), 1<<a|1<<b); joined != (far >= 0) {
		t.Errorf("from %d to %d: %d, but joined: %v", a, b, far, joined)
	}
	for over := range net.Nodes {
		if table[a][over] >= 0 && table[over][b] >= 0 && table[a][over]+table[over][b] < far {
			t.Errorf("from %d to %d over %d is shorter", a, b, over)
		}
	}
}

func TestFarTableOfSomeNets(t *testing.T) {
	for name, want := range map[string][][]int{
		"no ways, 2 places":         {{0, -1}, {-1, 0}},
		"one way of no cost":        {{0, 0}, {0, 0}},
		"several ways, other order": {{0, 1}, {1, 0}},
		"free detour of two":        {{0, 0, 1, 1}, {0, 0, 1, 1}, {1, 1, 0, 0}, {1, 1, 0, 0}},
		"equal costs, fewer ways":   {{0, 1, 2}, {1, 0, 1}, {2, 1, 0}},
		"two parts":                 {{0, -1, -1, -1, -1}, {-1, 0, -1, 0, -1}, {-1, -1, 0, -1, 3}, {-1, 0, -1, 0, -1}, {-1, -1, 3, -1, 0}},
		"long path, ways from behind": {{0, 9, 18, 27, 36, 45}, {9, 0, 9, 18, 27, 36}, {18, 9, 0, 9, 18, 27},
			{27, 18, 9, 0, 9, 18}, {36, 27, 18, 9, 0, 9}, {45, 36, 27, 18, 9, 0}},
	} {
		if got := impl.FarTable(edgeNets()[name]); !reflect.DeepEqual(got, want) {
			t.Errorf("%s: %v", name, got)
		}
	}
}

func TestFarTableOfOthers(t *testing.T) {
	eachBadNet(t, func(t *testing.T, net impl.Net) {
		if table := impl.FarTable(net); len(table) != 0 {
			t.Error(table)
		}
	})
}

// Promise 7.

func TestLeastPathsCostWhatTheTableTells(t *testing.T) {
	eachNet(t, func(t *testing.T, net impl.Net) {
		table := impl.FarTable(net)
		for a := range net.Nodes {
			if impl.PathOf(net, a, a) != 0 {
				t.Errorf("from %d to itself: %d", a, impl.PathOf(net, a, a))
			}
			for b := range net.Nodes {
				checkPath(t, net, table, a, b)
			}
		}
	})
}

func checkPath(t *testing.T, net impl.Net, table [][]int, a, b int) {
	path, both := impl.PathOf(net, a, b), 1<<a|1<<b
	if path != wantLeast(net, both) || path != impl.PathOf(net, b, a) || (path < 0) != (table[a][b] < 0) {
		t.Errorf("from %d to %d: %d", a, b, path)
	}
	if path < 0 {
		return
	}
	if !impl.JoinsEnds(net, path, both) || impl.CostOf(net, path) != table[a][b] {
		t.Errorf("from %d to %d: %d does not join, or costs other than %d", a, b, path, table[a][b])
	}
	for i := range net.Ways {
		if has(path, i) && impl.JoinsEnds(net, path&^(1<<i), both) {
			t.Errorf("from %d to %d: %d has the needless way %d", a, b, path, i)
		}
	}
}

func TestPathOfEquallyCheapSets(t *testing.T) {
	for _, c := range []struct {
		name       string
		a, b, want int
	}{
		{"equal costs, fewer ways", 0, 2, 0b100},
		{"equal costs, as many ways", 0, 3, 0b0101},
		{"equal costs, as many ways", 1, 2, 0b0011},
		{"equal ways", 0, 2, 0b0011},
		{"several ways, other order", 0, 1, 0b0010},
		{"free round", 0, 2, 0b0011},
		{"free round", 3, 1, 0b0110},
		{"free detour", 0, 2, 0b001},
		{"free detour of two", 0, 3, 0b0001},
		{"path cheaper than way", 0, 5, 0b111110},
		{"MaxWays ways between two", 1, 0, 1},
		{"MaxWays free ways", 0, 1, 1},
		{"MaxWays free ways", 0, 2, -1},
		{"two parts", 1, 3, 0b10},
		{"two parts", 1, 2, -1},
		{"no ways, 2 places", 1, 1, 0},
		{"no ways, MaxNodes places", 5, 0, -1},
	} {
		if got := impl.PathOf(edgeNets()[c.name], c.a, c.b); got != c.want {
			t.Errorf("%s, from %d to %d: %d, not %d", c.name, c.a, c.b, got, c.want)
		}
	}
}

func TestPathOfOthers(t *testing.T) {
	eachNet(t, func(t *testing.T, net impl.Net) {
		for _, place := range badPlaces(net.Nodes) {
			if impl.PathOf(net, place, 0) != -1 || impl.PathOf(net, 0, place) != -1 || impl.PathOf(net, place, place) != -1 {
				t.Errorf("place %d: PathOf is not -1", place)
			}
		}
	})
	eachBadNet(t, func(t *testing.T, net impl.Net) {
		if impl.PathOf(net, 0, 0) != -1 || impl.PathOf(net, 0, 1) != -1 {
			t.Error("PathOf is not -1")
		}
	})
}

// Promise 8.

func TestPartsAreWhatAllWaysJoin(t *testing.T) {
	eachNet(t, func(t *testing.T, net impl.Net) {
		row, all := impl.PartsOf(net), allOf(len(net.Ways))
		if len(row) != net.Nodes {
			t.Fatal(row)
		}
		for a := range net.Nodes {
			if row[a] != bits.TrailingZeros(uint(wantReach(net, all, a))) {
				t.Errorf("part of %d: %d", a, row[a])
			}
			for b := range net.Nodes {
				if (row[a] == row[b]) != impl.JoinsEnds(net, all, 1<<a|1<<b) {
					t.Errorf("parts of %d and %d: %v", a, b, row)
				}
			}
		}
		for i, w := range net.Ways {
			if row[w.A] != row[w.B] {
				t.Errorf("way %d is in two parts: %v", i, row)
			}
		}
	})
}

func TestPartsOfSomeNets(t *testing.T) {
	for name, want := range map[string][]int{
		"no ways, MaxNodes places": {0, 1, 2, 3, 4, 5},
		"one way of no cost":       {0, 0},
		"two parts":                {0, 1, 2, 1, 2},
		"three parts":              {0, 1, 2, 2, 1, 0},
		"place 0 alone":            {0, 1, 1, 1, 1, 1},
		"last place alone":         {0, 0, 0, 0, 0, 5},
		"MaxWays free ways":        {0, 0, 2},
		"mesh of MaxWays ways":     {0, 0, 0, 0, 0, 0},
	} {
		if got := impl.PartsOf(edgeNets()[name]); !slices.Equal(got, want) {
			t.Errorf("%s: %v", name, got)
		}
	}
}

func TestPartsOfOthers(t *testing.T) {
	eachBadNet(t, func(t *testing.T, net impl.Net) {
		if row := impl.PartsOf(net); len(row) != 0 {
			t.Error(row)
		}
	})
}

// Promise 9.

func TestWithAWayLessNothingIsNearer(t *testing.T) {
	stayed, changed := 0, 0
	eachNet(t, func(t *testing.T, net impl.Net) {
		if len(net.Ways) == 0 {
			return
		}
		last := net.Ways[len(net.Ways)-1]
		less := impl.FarTable(netOf(net.Nodes, net.Ways[:len(net.Ways)-1]...))
		table := impl.FarTable(net)
		for a := range table {
			for b := range table[a] {
				if less[a][b] >= 0 && (table[a][b] < 0 || less[a][b] < table[a][b]) {
					t.Errorf("from %d to %d: %d, and with the last way %d", a, b, less[a][b], table[a][b])
				}
			}
		}
		if less[last.A][last.B] == table[last.A][last.B] {
			stayed++
			if !reflect.DeepEqual(less, table) {
				t.Errorf("%v, and with the last way %v", less, table)
			}
		} else {
			changed++
		}
	})
	if stayed == 0 || changed == 0 {
		t.Errorf("the nets do not show both cases: %d stayed, %d changed", stayed, changed)
	}
}
