package tests

import (
	"math"
	"reflect"
	"slices"
	"testing"

	"loop.example/fieldroots/impl"
)

// The general rules.

func TestSkeletonConstants(t *testing.T) {
	if impl.MaxNodes != 6 || impl.MaxWays != 9 || impl.MaxCost != 9 || impl.MaxCuts != 8 || impl.MaxPrize != 20 || impl.MaxPairs != 4 {
		t.Error(impl.MaxNodes, impl.MaxWays, impl.MaxCost, impl.MaxCuts, impl.MaxPrize, impl.MaxPairs)
	}
	if impl.MaxPlace != 20 || impl.MaxPoints != 6 {
		t.Error(impl.MaxPlace, impl.MaxPoints)
	}
	if impl.DkWay != 0 || impl.DkDrop != 1 || impl.DkEnd != 2 || impl.DkBack != 3 {
		t.Error(impl.DkWay, impl.DkDrop, impl.DkEnd, impl.DkBack)
	}
	if impl.MaxPast != 8 || impl.MaxLines != 40 || impl.MaxLog != 1000 {
		t.Error(impl.MaxPast, impl.MaxLines, impl.MaxLog)
	}
}

func callAll(net impl.Net, set, place, ends int) {
	callNets(net, set, place, ends)
	callTrees(net, set, ends)
	callRoots(net, set, ends)
	callChoices(net, set, ends)
	callLinks(net, ends)
	callCuts(net, set, place, ends)
	callShares(net, set, place, ends)
	callPrizes(net, set, place, ends)
	callPairs(net, set, place, ends)
	callPoints(set, place, ends)
	callChanges(net, set, place, ends)
	callCodes(set, place, ends)
	callDearest(net, set, place, ends)
	callDesks(net, set, place, ends)
	callStores(net, set, place, ends)
}

func callNets(net impl.Net, set, place, ends int) {
	impl.NetOk(net)
	impl.CostOf(net, set)
	impl.ReachOf(net, set, place)
	impl.JoinsEnds(net, set, ends)
	impl.NodesOf(net, set)
	impl.FarTable(net)
	impl.PathOf(net, place, 0)
	impl.PathOf(net, 0, place)
	impl.PartsOf(net)
}

func callTrees(net impl.Net, set, ends int) {
	impl.TreeOk(net, set)
	impl.LeavesOf(net, set)
	impl.Pruned(net, set, ends)
	impl.SpanTree(net)
	impl.SpanCost(net)
	impl.SpanMany(net)
	impl.BridgeWays(net)
}

func callRoots(net impl.Net, set, ends int) {
	impl.RootCost(net, ends)
	impl.RootOf(net, ends)
	impl.FootTable(net)
	impl.AllRoots(net, ends)
	impl.LeastIn(net, set, ends)
}

func callChoices(net impl.Net, set, ends int) {
	impl.SpanOn(net, ends)
	impl.ChosenCost(net, ends, set)
	impl.ChosenCost(net, set, ends)
	impl.BestChoice(net, ends)
	impl.ForksOf(net, set)
	impl.DegreeRow(net, set)
}

func callLinks(net impl.Net, ends int) {
	impl.EndLinks(net, ends)
	impl.EndTreeCost(net, ends)
	impl.EndTreeSet(net, ends)
}

func callCuts(net impl.Net, set, place, ends int) {
	impl.CutWays(net, set)
	impl.PartsEnds(net, ends, set)
	impl.PartsEnds(net, set, ends)
	for _, cuts := range [][]impl.Cut{{cut(1, place)}, {cut(set, 0), cut(ends, place), cut(place, ends)}} {
		impl.PacksOk(net, ends, cuts)
		impl.PackSum(net, ends, cuts)
	}
	impl.PathCuts(net, place, 0)
	impl.PathCuts(net, 0, place)
}

func callShares(net impl.Net, set, place, ends int) {
	impl.UpWays(net)
	impl.BirdShares(net)
	impl.GroupCost(net, set)
	impl.GroupCost(net, ends)
	for _, row := range [][]int{nil, {set}, {0, place}, {0, set, place, ends, place, set}, {place, ends, set, 0, 0, ends, 0}} {
		impl.SharesOk(net, row)
	}
}

func callPrizes(net impl.Net, set, place, ends int) {
	for _, row := range [][]int{nil, {20, 1}, {set, place}, {0, 20, 1, 0, 5, 20}, {place, ends, set, 0, 0, ends, 0}} {
		impl.PrizesOk(net, row)
		impl.GainOf(net, row, set)
		impl.BestGain(net, row)
		impl.BestWays(net, row)
		impl.EndsGain(net, row, ends)
	}
}

func callPairs(net impl.Net, set, place, ends int) {
	for _, pairs := range [][]impl.Pair{
		nil,
		{pair(place, 0)},
		{pair(0, place), pair(set, ends)},
		{pair(0, 1), pair(1, 0), pair(1, 1), pair(place, place)},
		{pair(0, 1), pair(0, 1), pair(0, 1), pair(0, 1), pair(place, ends)},
	} {
		impl.PairsOk(net, pairs)
		impl.JoinsPairs(net, pairs, set)
		impl.PairsOf(net, pairs)
		impl.PairsCost(net, pairs)
	}
	impl.PartMany(net, set)
}

func callPoints(set, place, ends int) {
	for _, points := range [][]impl.Point{
		nil,
		{point(place, 0)},
		{point(0, place), point(set, ends)},
		{point(0, 20), point(3, 3), point(3, place)},
		{point(20, 0), point(0, 1), point(1, 0), point(1, 1), point(20, 20), point(0, 0)},
		{point(0, 1), point(0, 1), point(0, 1), point(0, 1), point(0, 1), point(0, 1), point(place, ends)},
	} {
		impl.PointsOk(points)
		impl.PointsFar(points, place, 0)
		impl.PointsFar(points, 0, set)
		impl.HalfRound(points)
		impl.MiddleOf(points)
		impl.MeetCost(points, point(place, ends))
		impl.MeetCost(points, point(1, set))
	}
	impl.GridNet(place, ends)
	impl.GridNet(set, place)
}

func callChanges(net impl.Net, set, place, ends int) {
	impl.CostWithout(net, ends, set)
	impl.CostWithout(net, set, ends)
	impl.CostWith(net, ends, set)
	impl.CostWith(net, set, ends)
	impl.MustWays(net, ends)
	impl.MayWays(net, ends)
	impl.DearerNet(net, place, set)
	impl.DearerNet(net, set, place)
	impl.DearerNet(net, 0, 1)
}

func callCodes(set, place, ends int) {
	for _, places := range []int{2, 3, impl.MaxNodes, set, place} {
		for _, links := range [][]impl.Pair{
			nil,
			{pair(place, 1)},
			{pair(0, place), pair(set, ends)},
			{pair(0, 1), pair(0, 2), pair(0, 3), pair(0, 4), pair(0, ends)},
			{pair(0, 1), pair(0, 1), pair(1, 2), pair(1, 2), pair(place, ends)},
		} {
			impl.LinksOk(places, links)
			impl.CodeOf(places, links)
		}
		for _, row := range [][]int{nil, {place}, {1, place, 5, 5}, {set, 0, place, 0, ends, 0}} {
			impl.CodeOk(places, row)
			impl.TreeOfCode(places, row)
		}
		impl.TreesMany(places)
	}
}

func callDearest(net impl.Net, set, place, ends int) {
	impl.DearestOf(net, set)
	impl.LeastDearest(net, ends)
	impl.NearestRow(net, ends)
	impl.CoverCost(net, ends)
	impl.FewestEnds(net, place)
	impl.FewestEnds(net, set)
	impl.FarthestRow(net)
	impl.CentreOf(net)
}

func callDesks(net impl.Net, set, place, ends int) {
	p := placeOf(net, ends)
	impl.PlaceOk(p)
	impl.ReadPlace(impl.PlaceText(p))
	impl.DeskNew(p)
	list := []impl.Deed{deed(place, 0, 0, 0), deed(impl.DkWay, 0, 1, ends), deed(impl.DkWay, set, place, 1), deed(impl.DkDrop, place, 0, 0), deed(impl.DkEnd, set, 0, 0), deed(impl.DkBack, 0, 0, ends), backDeed()}
	lines := []string{"", "place", "cost", "far 0 5", "far 9 0", "way 0 1 2", "drop 0", "end 5", "back", "what", "far \xff\xff"}
	for _, d := range []impl.Desk{deskOf(p), deskOf(p, p, placeOf(net, set)), deskOf(placeOf(netOf(2), 3), p)} {
		impl.DeskOk(d)
		for _, a := range list {
			impl.DeskDo(d, a)
			impl.ReadDeed(impl.DeedText(a))
		}
		for _, line := range lines {
			impl.DeskLine(d, line)
		}
		impl.DeskRun(d, list)
		impl.DeskSay(d, lines)
	}
	impl.ReadJournal(impl.JournalText(list))
	impl.ReadJournal(impl.JournalText(list[6:]) + "end\xff\n")
}

func callStores(net impl.Net, set, place, ends int) {
	p := placeOf(net, ends)
	fresh, _ := impl.StoreNew(p)
	for _, s := range []impl.Store{fresh, storeOf(fresh.Saved, "end 0\nback\nwa", 3), storeOf(fresh.Saved, "end 0\n", place), storeOf("2 . 1", "", set), storeOf("\xff", "\xff", 1)} {
		impl.StoreOk(s)
		impl.StoreOpen(s)
		impl.StoreAct(s, deed(impl.DkEnd, place, 0, 0))
		impl.StoreAct(s, deed(place, set, ends, 0))
		impl.StoreSync(s)
		impl.StoreSave(s)
		impl.StoreCrash(s, place)
		impl.StoreCrash(s, set)
		impl.StoreMend(s)
	}
}

func TestNoArgumentIsWrittenTo(t *testing.T) {
	for _, net := range append(drawnNets(60), netOf(9, way(7, 7, 77)), netOf(3, way(5, 0, 1))) {
		checkUnwritten(t, net.Ways, way(2, 1, 3), func(ways []impl.Way) {
			for set := range 1 << min(len(ways), 4) {
				callAll(netOf(net.Nodes, ways...), set, net.Nodes-1, allOf(net.Nodes))
			}
		})
		for _, cuts := range [][]impl.Cut{{cut(2, 1), cut(1, 0)}, {cut(2, 0), cut(3, 1), cut(1, 0)}, {cut(1, 99)}} {
			checkUnwritten(t, cuts, cut(1, 1), func(cuts []impl.Cut) {
				impl.PacksOk(net, 3, cuts)
				impl.PackSum(net, 3, cuts)
			})
		}
		for _, row := range [][]int{nil, {3}, {0, 9}, {0, 82, -1}, make([]int, net.Nodes), impl.BirdShares(net)} {
			checkUnwritten(t, row, 1, func(row []int) { impl.SharesOk(net, row) })
		}
		for _, prizes := range [][]int{nil, {20}, {21, -1}, slices.Repeat([]int{impl.MaxPrize}, net.Nodes)} {
			checkUnwritten(t, prizes, 1, func(prizes []int) {
				impl.PrizesOk(net, prizes)
				impl.GainOf(net, prizes, allOf(len(net.Ways)))
				impl.BestGain(net, prizes)
				impl.BestWays(net, prizes)
				impl.EndsGain(net, prizes, allOf(min(net.Nodes, impl.MaxNodes)))
			})
		}
		for _, pairs := range []string{"", "10", "11 10 01", "00 01 10 11", "10 01 11 00 10", "98 01"} {
			checkUnwritten(t, pairsIn(pairs), pair(1, 0), func(pairs []impl.Pair) {
				impl.PairsOk(net, pairs)
				impl.JoinsPairs(net, pairs, allOf(len(net.Ways)))
				impl.PairsOf(net, pairs)
				impl.PairsCost(net, pairs)
			})
		}
	}
}

func TestNoPointIsWrittenTo(t *testing.T) {
	for _, points := range append(somePoints(), noPoints()...) {
		checkUnwritten(t, points, point(2, 1), func(points []impl.Point) {
			impl.PointsOk(points)
			impl.PointsFar(points, len(points)-1, 0)
			impl.HalfRound(points)
			impl.MiddleOf(points)
			impl.MeetCost(points, point(3, 4))
		})
	}
}

func TestNoTreeAndNoCodeIsWrittenTo(t *testing.T) {
	for _, links := range append(treesOf(4), nil, pairsIn("01"), pairsIn("10"), pairsIn("23 12 01"), pairsIn("05 14 15 24 34"), pairsIn("34 24 15 14 05")) {
		checkUnwritten(t, links, pair(0, 2), func(links []impl.Pair) {
			impl.LinksOk(len(links)+1, links)
			row, _ := impl.CodeOf(len(links)+1, links)
			spoil(row, 77)
		})
	}
	for _, row := range [][]int{nil, {0}, {2}, {3}, {3, 0}, {5, 4, 4, 1}, {5, 0, 5, 0}, {7, 1}} {
		checkUnwritten(t, row, 1, func(row []int) {
			impl.CodeOk(len(row)+2, row)
			links, _ := impl.TreeOfCode(len(row)+2, row)
			spoil(links, pair(77, 77))
		})
	}
}

// checkUnwritten calls with spare room behind the elements, which is to stay as it is too.
func checkUnwritten[E comparable](t *testing.T, elements []E, spare E, call func(elements []E)) {
	t.Helper()
	room := append(slices.Clone(elements), spare, spare)
	before := slices.Clone(room)
	call(room[:len(elements)])
	if !slices.Equal(room, before) {
		t.Fatalf("%v, before %v", room, before)
	}
}

func TestResultsAreNewMemory(t *testing.T) {
	for _, net := range append(drawnNets(60), netOf(6)) {
		checkNewRows(t, func() [][]int { return impl.FarTable(net) })
		checkNewRows(t, func() [][]int { return [][]int{impl.PartsOf(net)} })
		checkNewRows(t, func() [][]int { return impl.FootTable(net) })
		checkNewRows(t, func() [][]int { return [][]int{impl.AllRoots(net, 1), impl.AllRoots(net, 3)} })
		checkNewRows(t, func() [][]int { return [][]int{impl.DegreeRow(net, 0), impl.DegreeRow(net, allOf(len(net.Ways)))} })
		checkNewRows(t, func() [][]int { return [][]int{impl.UpWays(net), impl.BirdShares(net), impl.UpWays(net)} })
		for ends := range 1 << net.Nodes {
			checkNewRows(t, func() [][]int {
				links, _ := impl.EndLinks(net, ends)
				return links
			})
		}
		checkNewMemory(t, cut(77, 77), func() [][]impl.Cut {
			var lists [][]impl.Cut
			for place := range net.Nodes {
				there, _ := impl.PathCuts(net, 0, place)
				back, _ := impl.PathCuts(net, place, 0)
				lists = append(lists, there, back)
			}
			return lists
		})
	}
}

func TestGridsAreNewMemory(t *testing.T) {
	checkNewMemory(t, way(77, 77, 77), func() [][]impl.Way {
		var rows [][]impl.Way
		for _, size := range [][2]int{{1, 2}, {2, 1}, {2, 2}, {2, 2}, {2, 3}, {3, 2}, {6, 1}, {1, 1}} {
			net, _ := impl.GridNet(size[0], size[1])
			rows = append(rows, net.Ways)
		}
		return rows
	})
}

func TestDearerNetsAreNewMemory(t *testing.T) {
	for _, net := range append(drawnNets(60), netOf(6), netOf(9, way(7, 7, 77)), netOf(2, way(0, 1, impl.MaxCost))) {
		checkNewMemory(t, way(77, 77, 77), func() [][]impl.Way { return dearerWays(net) })
		checkUnwritten(t, net.Ways, way(2, 1, 3), func(ways []impl.Way) {
			for _, row := range dearerWays(netOf(net.Nodes, ways...)) {
				spoil(row, way(77, 77, 77))
			}
		})
	}
}

func TestRowsOfDistancesAreNewMemory(t *testing.T) {
	for _, net := range append(drawnNets(60), netOf(6), netOf(9, way(7, 7, 77)), edgeNets()["free round"]) {
		checkNewRows(t, func() [][]int { return distanceRows(net) })
		checkUnwritten(t, net.Ways, way(2, 1, 3), func(ways []impl.Way) {
			for _, row := range distanceRows(netOf(net.Nodes, ways...)) {
				spoil(row, 77)
			}
		})
	}
}

// Each call is looked at by itself, for a second one could put back what the first one wrote.
func TestNoNetIsWrittenToForItsDearestWays(t *testing.T) {
	for _, net := range append(drawnNets(60), netOf(9, way(7, 7, 77)), netOf(3, way(5, 0, 1))) {
		all, ends := allOf(len(net.Ways)), allOf(min(net.Nodes, impl.MaxNodes))
		for _, call := range []func(net impl.Net){
			func(net impl.Net) { impl.DearestOf(net, all) },
			func(net impl.Net) { impl.LeastDearest(net, ends) },
			func(net impl.Net) { spoil(impl.NearestRow(net, ends), 77) },
			func(net impl.Net) { impl.CoverCost(net, ends) },
			func(net impl.Net) { impl.FewestEnds(net, 1) },
			func(net impl.Net) { spoil(impl.FarthestRow(net), 77) },
			func(net impl.Net) { impl.CentreOf(net) },
		} {
			checkUnwritten(t, net.Ways, way(2, 1, 3), func(ways []impl.Way) { call(netOf(net.Nodes, ways...)) })
		}
	}
}

func TestTreesAndCodesAreNewMemory(t *testing.T) {
	for places := 2; places <= impl.MaxNodes; places++ {
		trees := treesOf(places)
		trees = append(trees[:min(len(trees), 40)], trees[0])
		checkNewRows(t, func() [][]int {
			var rows [][]int
			for _, links := range trees {
				row, _ := impl.CodeOf(places, links)
				rows = append(rows, row)
			}
			return rows
		})
		checkNewMemory(t, pair(77, 77), func() [][]impl.Pair {
			var found [][]impl.Pair
			for _, links := range trees {
				tree, _ := impl.TreeOfCode(places, wantRow(places, links))
				found = append(found, tree)
			}
			return found
		})
	}
}

// deskCalls are all functions that answer a desk for a desk, each with deeds or lines that are done, and that are not.
func deskCalls() []func(d impl.Desk) impl.Desk {
	calls := []func(d impl.Desk) impl.Desk{
		func(d impl.Desk) impl.Desk { after, _ := impl.DeskNew(d.Now); return after },
		func(d impl.Desk) impl.Desk { after, _ := impl.DeskDo(d, deed(4, 0, 0, 0)); return after },
		func(d impl.Desk) impl.Desk { after, _ := impl.DeskDo(d, deed(impl.DkBack, 0, 1, 0)); return after },
		func(d impl.Desk) impl.Desk { after, _ := impl.DeskRun(d, nil); return after },
		func(d impl.Desk) impl.Desk { after, _ := impl.DeskRun(d, deedsIn("drop 99", "end 99")); return after },
		func(d impl.Desk) impl.Desk { after, _ := impl.DeskSay(d, nil); return after },
		func(d impl.Desk) impl.Desk { after, _ := impl.DeskSay(d, []string{"place", "what"}); return after },
		func(d impl.Desk) impl.Desk { after, _ := impl.DeskLine(d, ""); return after },
		func(d impl.Desk) impl.Desk { after, _ := impl.DeskLine(d, "may"); return after },
		func(d impl.Desk) impl.Desk { after, _ := impl.DeskLine(d, "far 0 1"); return after },
	}
	for _, text := range []string{"way 0 1 1", "way 1 0 9", "way 1 1 1", "drop 0", "drop 1", "drop 99", "end 0", "end 1", "end 99", "back"} {
		a := deedIn(text)
		calls = append(calls,
			func(d impl.Desk) impl.Desk { after, _ := impl.DeskDo(d, a); return after },
			func(d impl.Desk) impl.Desk { after, _ := impl.DeskLine(d, text); return after },
			func(d impl.Desk) impl.Desk { after, _ := impl.DeskRun(d, []impl.Deed{a, backDeed(), a}); return after },
			func(d impl.Desk) impl.Desk { after, _ := impl.DeskSay(d, []string{text, "cost", text}); return after })
	}
	return calls
}

// roomy is the same desk with spare room behind all that it has.
func roomy(d impl.Desk) impl.Desk {
	room := func(p impl.Place) impl.Place {
		p.Of.Ways = append(slices.Clone(p.Of.Ways), way(5, 4, 3), way(3, 4, 5))[:len(p.Of.Ways)]
		return p
	}
	past := make([]impl.Place, 0, len(d.Past)+2)
	for _, p := range d.Past {
		past = append(past, room(p))
	}
	spare := room(placeOf(netOf(3, way(2, 1, 2)), 6))
	return deskOf(room(d.Now), append(past, spare, spare)[:len(past)]...)
}

// withRoom tells all of a desk, the spare room too.
func withRoom(d impl.Desk) told {
	var texts told
	for _, p := range append(slices.Clone(d.Past[:cap(d.Past)]), d.Now) {
		p.Of.Ways = p.Of.Ways[:cap(p.Of.Ways)]
		texts = append(texts, wantText(p))
	}
	return texts
}

func spoilDesk(d impl.Desk) {
	for _, p := range append(slices.Clone(d.Past[:cap(d.Past)]), d.Now) {
		spoil(p.Of.Ways, way(77, 77, 77))
	}
	spoil(d.Past, placeOf(netOf(77), 77))
}

func TestNoDeskIsWrittenTo(t *testing.T) {
	desks := append(someDesks(60), noDesks()[:60]...)
	for _, d := range desks {
		for i, call := range deskCalls() {
			given := roomy(d)
			before := withRoom(given)
			answered := call(given)
			if !slices.Equal(withRoom(given), before) {
				t.Fatalf("call %d: %q, before %q", i, withRoom(given), before)
			}
			spoilDesk(answered)
			if !slices.Equal(withRoom(given), before) {
				t.Fatalf("call %d shares memory: %q, before %q", i, withRoom(given), before)
			}
		}
	}
}

// sharing are desks of which all places have the same ways in memory.
func sharing() []impl.Desk {
	var desks []impl.Desk
	for _, text := range []string{"2 0-1:1 3", "3 0-1:1,1-2:5,2-0:0 6", "6 0-5:1,5-3:2 0"} {
		p := placeIn(text)
		for count := range impl.MaxPast + 1 {
			desks = append(desks, deskOf(p, slices.Repeat([]impl.Place{p}, count)...))
		}
	}
	return desks
}

func TestNoTwoPlacesOfADeskShareMemory(t *testing.T) {
	for _, d := range append(someDesks(60), sharing()...) {
		calls := append(deskCalls(), func(d impl.Desk) impl.Desk {
			opened, _ := impl.StoreOpen(storeOf(wantText(d.Now), "way 1 0 3\nend 0\nend 1\ndrop 0\nback\nend 1\n", 0))
			return opened
		})
		for i, call := range calls {
			first, second := call(d), call(d)
			want := toldOf(first)
			spoilDesk(second)
			if !want.is(first) {
				t.Fatalf("call %d changes with another one: %q, not %q", i, toldOf(first), want)
			}
			places := append(slices.Clone(first.Past), first.Now)
			for at, p := range places {
				spoil(p.Of.Ways, way(77, 77, 77))
				for behind := at + 1; behind < len(places); behind++ {
					if wantText(places[behind]) != want[behind] {
						t.Fatalf("call %d: the place %d changes with the place %d", i, behind, at)
					}
				}
			}
			if !want.is(call(d)) {
				t.Fatalf("call %d answers anew %q, not %q", i, toldOf(call(d)), want)
			}
		}
	}
}

func TestNoListOfDeedsOrLinesIsWrittenTo(t *testing.T) {
	for _, d := range append(someDesks(10), impl.Desk{}) {
		for _, list := range [][]impl.Deed{nil, deedsIn("end 0"), deedsIn("drop 9", "back", "way 0 1 1"), slices.Repeat(deedsIn("end 0"), impl.MaxLines+1), {deed(4, 0, 0, 0), deed(-1, 1, 1, 1)}} {
			checkUnwritten(t, list, backDeed(), func(list []impl.Deed) {
				impl.DeskRun(d, list)
				impl.JournalText(list)
			})
		}
		for _, lines := range [][]string{nil, {"end 0"}, {"what", "place", "back"}, slices.Repeat([]string{"cost"}, impl.MaxLines+1)} {
			checkUnwritten(t, lines, "end 1", func(lines []string) {
				_, answers := impl.DeskSay(d, lines)
				spoil(answers, "spoiled")
			})
		}
	}
}

func TestReadTextsAndAnswersAreNewMemory(t *testing.T) {
	checkNewMemory(t, way(77, 77, 77), func() [][]impl.Way {
		var rows [][]impl.Way
		for _, text := range []string{"2 . 0", "2 0-1:1 3", "2 0-1:1 3", "3 0-1:1,1-2:2,2-0:3 1", "3 0-1:1,1-2:2,2-0:3 1"} {
			p, _ := impl.ReadPlace(text)
			d, _ := impl.DeskNew(p)
			rows = append(rows, p.Of.Ways, d.Now.Of.Ways)
		}
		return rows
	})
	checkNewMemory(t, deed(77, 77, 77, 77), func() [][]impl.Deed {
		var rows [][]impl.Deed
		for _, text := range []string{"", "end 0\n", "end 0\n", "end 0\nback\ndrop 1\nwa", "end 0\nback\ndrop 1\nwa"} {
			list, _ := impl.ReadJournal(text)
			rows = append(rows, list)
		}
		return rows
	})
	checkNewMemory(t, "spoiled", func() [][]string {
		var rows [][]string
		for _, d := range someDesks(3) {
			_, first := impl.DeskSay(d, []string{"place", "cost", "end 0", "what"})
			_, second := impl.DeskSay(d, []string{"place", "cost", "end 0", "what"})
			rows = append(rows, first, second)
		}
		return rows
	})
}

// dearerWays has the ways of the net in which each way costs 1 more, and then 2 more.
func dearerWays(net impl.Net) [][]impl.Way {
	var rows [][]impl.Way
	for more := 1; more <= 2; more++ {
		for i := range net.Ways {
			dearer, _ := impl.DearerNet(net, i, more)
			rows = append(rows, dearer.Ways)
		}
	}
	return rows
}

// distanceRows has the nearest ends for all ends of small numbers, two times over, and the greatest distances.
func distanceRows(net impl.Net) [][]int {
	rows := [][]int{impl.FarthestRow(net), impl.FarthestRow(net)}
	for ends := range 8 {
		rows = append(rows, impl.NearestRow(net, ends), impl.NearestRow(net, ends))
	}
	return rows
}

func checkNewRows(t *testing.T, result func() [][]int) {
	t.Helper()
	checkNewMemory(t, 77, result)
}

// checkNewMemory writes over each row with its spare room, and looks for it in a result of before, in the rows behind,
// and in a later result.
func checkNewMemory[E comparable](t *testing.T, other E, result func() [][]E) {
	t.Helper()
	rows, later := result(), result()
	want := copyOf(rows)
	for _, row := range later {
		spoil(row, other)
	}
	if !reflect.DeepEqual(rows, want) {
		t.Fatal("a result changes with that of another call")
	}
	for i := range rows {
		spoil(rows[i], other)
		for j := i + 1; j < len(rows); j++ {
			if !slices.Equal(rows[j], want[j]) {
				t.Fatalf("row %d changes with row %d", j, i)
			}
		}
	}
	if !reflect.DeepEqual(result(), want) {
		t.Fatal("a later call returns another result")
	}
}

func copyOf[E any](rows [][]E) [][]E {
	copied := slices.Clone(rows)
	for i := range copied {
		copied[i] = slices.Clone(copied[i])
	}
	return copied
}

func spoil[E any](row []E, other E) {
	row = row[:cap(row)]
	for i := range row {
		row[i] = other
	}
}

func TestNoArgumentStopsTheProgram(t *testing.T) {
	numbers := []int{math.MinInt, -64, -1, 0, 1, 5, 6, 9, 63, 64, 511, 512, 1 << 32, math.MaxInt}
	nets := []impl.Net{netOf(2), netOf(6), edgeNets()["mesh of MaxWays ways"]}
	for _, net := range badNets() {
		nets = append(nets, net)
	}
	for _, net := range nets {
		for _, set := range numbers {
			for _, place := range numbers {
				callAll(net, set, place, set)
				callAll(net, set, place, place)
			}
		}
	}
}
