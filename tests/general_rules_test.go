package tests

import (
	"math"
	"reflect"
	"slices"
	"testing"

	"loop.example/fieldroots/impl"
)

// The general rules.

func TestSkeletonConstants(t *testing.T) {
	if impl.MaxNodes != 6 || impl.MaxWays != 9 || impl.MaxCost != 9 {
		t.Error(impl.MaxNodes, impl.MaxWays, impl.MaxCost)
	}
}

func callAll(net impl.Net, set, place, ends int) {
	callNets(net, set, place, ends)
	callTrees(net, set, ends)
	callRoots(net, set, ends)
	callChoices(net, set, ends)
	callLinks(net, ends)
}

func callNets(net impl.Net, set, place, ends int) {
	impl.NetOk(net)
	impl.CostOf(net, set)
	impl.ReachOf(net, set, place)
	impl.JoinsEnds(net, set, ends)
	impl.NodesOf(net, set)
	impl.FarTable(net)
	impl.PathOf(net, place, 0)
	impl.PathOf(net, 0, place)
	impl.PartsOf(net)
}

func callTrees(net impl.Net, set, ends int) {
	impl.TreeOk(net, set)
	impl.LeavesOf(net, set)
	impl.Pruned(net, set, ends)
	impl.SpanTree(net)
	impl.SpanCost(net)
	impl.SpanMany(net)
	impl.BridgeWays(net)
}

func callRoots(net impl.Net, set, ends int) {
	impl.RootCost(net, ends)
	impl.RootOf(net, ends)
	impl.FootTable(net)
	impl.AllRoots(net, ends)
	impl.LeastIn(net, set, ends)
}

func callChoices(net impl.Net, set, ends int) {
	impl.SpanOn(net, ends)
	impl.ChosenCost(net, ends, set)
	impl.ChosenCost(net, set, ends)
	impl.BestChoice(net, ends)
	impl.ForksOf(net, set)
	impl.DegreeRow(net, set)
}

func callLinks(net impl.Net, ends int) {
	impl.EndLinks(net, ends)
	impl.EndTreeCost(net, ends)
	impl.EndTreeSet(net, ends)
}

func TestNoArgumentIsWrittenTo(t *testing.T) {
	for _, net := range append(drawnNets(60), netOf(9, way(7, 7, 77)), netOf(3, way(5, 0, 1))) {
		room := append(slices.Clone(net.Ways), way(2, 1, 3), way(1, 2, 4))
		before := slices.Clone(room)
		net.Ways = room[:len(net.Ways)]
		for set := range 1 << min(len(net.Ways), 4) {
			callAll(net, set, net.Nodes-1, allOf(net.Nodes))
		}
		if !slices.Equal(room, before) {
			t.Fatalf("%v, before %v", room, before)
		}
	}
}

func TestResultsAreNewMemory(t *testing.T) {
	for _, net := range append(drawnNets(60), netOf(6)) {
		checkNewRows(t, func() [][]int { return impl.FarTable(net) })
		checkNewRows(t, func() [][]int { return [][]int{impl.PartsOf(net)} })
		checkNewRows(t, func() [][]int { return impl.FootTable(net) })
		checkNewRows(t, func() [][]int { return [][]int{impl.AllRoots(net, 1), impl.AllRoots(net, 3)} })
		checkNewRows(t, func() [][]int { return [][]int{impl.DegreeRow(net, 0), impl.DegreeRow(net, allOf(len(net.Ways)))} })
		for ends := range 1 << net.Nodes {
			checkNewRows(t, func() [][]int {
				links, _ := impl.EndLinks(net, ends)
				return links
			})
		}
	}
}

// checkNewRows writes over each row with its spare room, and looks for it in a result of before, in the rows behind,
// and in a later result.
func checkNewRows(t *testing.T, result func() [][]int) {
	t.Helper()
	rows, other := result(), result()
	want := copyOf(rows)
	for _, row := range other {
		spoil(row)
	}
	if !reflect.DeepEqual(rows, want) {
		t.Fatal("a result changes with that of another call")
	}
	for i := range rows {
		spoil(rows[i])
		for j := i + 1; j < len(rows); j++ {
			if !slices.Equal(rows[j], want[j]) {
				t.Fatalf("row %d changes with row %d", j, i)
			}
		}
	}
	if !reflect.DeepEqual(result(), want) {
		t.Fatal("a later call returns another result")
	}
}

func copyOf(rows [][]int) [][]int {
	copied := slices.Clone(rows)
	for i := range copied {
		copied[i] = slices.Clone(copied[i])
	}
	return copied
}

func spoil(row []int) {
	row = row[:cap(row)]
	for i := range row {
		row[i] = 77
	}
}

func TestNoArgumentStopsTheProgram(t *testing.T) {
	numbers := []int{math.MinInt, -64, -1, 0, 1, 5, 6, 9, 63, 64, 511, 512, 1 << 32, math.MaxInt}
	nets := []impl.Net{netOf(2), netOf(6), edgeNets()["mesh of MaxWays ways"]}
	for _, net := range badNets() {
		nets = append(nets, net)
	}
	for _, net := range nets {
		for _, set := range numbers {
			for _, place := range numbers {
				callAll(net, set, place, set)
				callAll(net, set, place, place)
			}
		}
	}
}
