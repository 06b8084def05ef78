package tests

import (
	"cmp"
	"maps"
	"math"
	"math/bits"
	"math/rand/v2"
	"slices"
	"testing"

	"loop.example/fieldroots/impl"
)

// way keeps the nets of the tests short to write.
func way(a, b, cost int) impl.Way { return impl.Way{A: a, B: b, Cost: cost} }

func netOf(nodes int, ways ...impl.Way) impl.Net { return impl.Net{Nodes: nodes, Ways: ways} }

func allOf(count int) int { return 1<<count - 1 }

func has(set, number int) bool { return set>>number&1 == 1 }

func wayPlaces(w impl.Way) int { return 1<<w.A | 1<<w.B }

// edgeNets are the cases that the document names: several ways between the same two places, ways of no cost,
// places that are not come to, roots through places that are no ends, choices that do not hang together, ends that are
// as near, least paths through other ends, paths that share ways, no ways, MaxNodes places, MaxWays ways.
func edgeNets() map[string]impl.Net {
	same := slices.Repeat([]impl.Way{way(0, 1, 9)}, impl.MaxWays)
	free := slices.Repeat([]impl.Way{way(1, 0, 0)}, impl.MaxWays)
	return map[string]impl.Net{
		"no ways, 2 places":           netOf(2),
		"no ways, MaxNodes places":    netOf(impl.MaxNodes),
		"one way":                     netOf(2, way(1, 0, 5)),
		"one way of no cost":          netOf(2, way(0, 1, 0)),
		"several ways, other order":   netOf(2, way(0, 1, 3), way(1, 0, 1), way(0, 1, 1), way(1, 0, 2)),
		"MaxWays ways between two":    netOf(2, same...),
		"MaxWays free ways":           netOf(3, free...),
		"free round":                  netOf(4, way(0, 1, 0), way(1, 2, 0), way(2, 3, 0), way(3, 0, 0)),
		"free detour":                 netOf(3, way(0, 2, 0), way(0, 1, 0), way(1, 2, 0)),
		"free detour of two":          netOf(4, way(0, 3, 1), way(0, 1, 0), way(1, 2, 1), way(2, 3, 0)),
		"equal costs, fewer ways":     netOf(3, way(0, 1, 1), way(1, 2, 1), way(0, 2, 2)),
		"equal costs, as many ways":   netOf(4, way(0, 1, 2), way(0, 2, 2), way(1, 3, 2), way(2, 3, 2)),
		"equal ways":                  netOf(3, way(0, 1, 2), way(1, 2, 2), way(2, 1, 2), way(1, 0, 2)),
		"two parts":                   netOf(5, way(4, 2, 3), way(1, 3, 0)),
		"place 0 alone":               netOf(6, way(1, 2, 1), way(2, 3, 1), way(3, 4, 1), way(4, 5, 1)),
		"last place alone":            netOf(6, way(0, 1, 1), way(1, 2, 1), way(2, 3, 1), way(3, 4, 1)),
		"three parts":                 netOf(6, way(5, 0, 9), way(4, 1, 9), way(3, 2, 9)),
		"long path, ways from behind": netOf(6, way(4, 5, 9), way(3, 4, 9), way(2, 3, 9), way(1, 2, 9), way(0, 1, 9)),
		"path cheaper than way":       netOf(6, way(0, 5, 9), way(0, 1, 1), way(1, 2, 1), way(2, 3, 1), way(3, 4, 1), way(4, 5, 1)),
		"round beside a way":          netOf(5, way(0, 1, 1), way(1, 2, 1), way(2, 0, 1), way(3, 4, 1)),
		"double way beside a way":     netOf(4, way(0, 1, 1), way(1, 0, 1), way(2, 3, 1)),
		"rounds joined by a bridge":   netOf(6, way(0, 1, 2), way(1, 2, 1), way(2, 0, 1), way(2, 3, 9), way(3, 4, 1), way(4, 5, 1), way(5, 3, 0)),
		"double way and a bridge":     netOf(3, way(0, 1, 2), way(1, 0, 1), way(1, 2, 0)),
		"star":                        netOf(6, way(0, 5, 5), way(4, 0, 4), way(0, 3, 3), way(2, 0, 2), way(0, 1, 1)),
		"fork with long arms":         netOf(6, way(2, 1, 0), way(1, 0, 9), way(2, 3, 0), way(4, 2, 0), way(4, 5, 9)),
		"two threes, all ways between": netOf(6, way(0, 3, 9), way(0, 4, 8), way(0, 5, 7), way(1, 3, 6), way(1, 4, 5),
			way(1, 5, 4), way(2, 3, 3), way(2, 4, 2), way(2, 5, 1)),
		"hub of three": netOf(4, way(0, 3, 2), way(1, 3, 2), way(2, 3, 2), way(0, 1, 3), way(1, 2, 3)),
		"two hubs": netOf(6, way(0, 4, 1), way(1, 4, 1), way(4, 5, 1), way(5, 2, 1), way(5, 3, 1),
			way(0, 1, 3), way(2, 3, 3), way(0, 2, 3), way(1, 3, 3)),
		"two hubs, no ways round them":                  netOf(6, way(0, 4, 1), way(1, 4, 1), way(4, 5, 0), way(5, 2, 1), way(5, 3, 1)),
		"equal costs, fewer places of a greater number": netOf(5, way(0, 2, 1), way(2, 3, 1), way(3, 1, 1), way(0, 4, 1), way(4, 1, 2)),
		"equal costs, last ways over the first place":   netOf(4, way(0, 2, 2), way(2, 3, 2), way(0, 1, 2), way(1, 3, 2)),
		"star of equal arms":                            netOf(6, way(5, 0, 1), way(1, 5, 1), way(5, 2, 1), way(3, 5, 1), way(5, 4, 1)),
		"free way before a dear one":                    netOf(3, way(0, 1, 0), way(1, 2, 5)),
		"dear way before a free one":                    netOf(3, way(0, 2, 5), way(2, 1, 0)),
		"two hubs, and a way past one":                  netOf(6, way(3, 4, 3), way(5, 3, 1), way(1, 5, 1), way(0, 3, 2), way(5, 2, 1), way(1, 3, 2)),
		"mesh of MaxWays ways": netOf(6, way(0, 1, 2), way(0, 2, 2), way(1, 2, 1), way(1, 3, 4), way(2, 3, 1),
			way(3, 4, 0), way(2, 5, 9), way(4, 5, 3), way(0, 5, 7)),
		"all greatest costs": netOf(6, way(0, 1, 9), way(1, 2, 9), way(2, 3, 9), way(3, 4, 9), way(4, 5, 9),
			way(5, 0, 9), way(0, 3, 9), way(1, 4, 9), way(2, 5, 9)),
	}
}

// badNets are no nets, each for one reason alone.
func badNets() map[string]impl.Net {
	good := []impl.Way{way(0, 1, 1)}
	return map[string]impl.Net{
		"nothing":                  {},
		"no place":                 netOf(0, good...),
		"one place":                netOf(1),
		"one place, one way":       netOf(1, good...),
		"places below 0":           netOf(-1),
		"least number of places":   netOf(math.MinInt),
		"one place too many":       netOf(impl.MaxNodes + 1),
		"too many, with ways":      netOf(impl.MaxNodes+1, good...),
		"64 places":                netOf(64),
		"greatest places":          netOf(math.MaxInt),
		"one way too many":         netOf(2, slices.Repeat(good, impl.MaxWays+1)...),
		"100 ways":                 netOf(2, slices.Repeat(good, 100)...),
		"way to itself":            netOf(3, way(1, 1, 1)),
		"way to itself from 0":     netOf(3, way(0, 0, 0)),
		"last way to itself":       netOf(3, way(0, 1, 1), way(1, 2, 1), way(2, 2, 1)),
		"A below 0":                netOf(3, way(-1, 1, 1)),
		"B below 0":                netOf(3, way(1, -1, 1)),
		"A past the places":        netOf(3, way(3, 1, 1)),
		"B past the places":        netOf(3, way(1, 3, 1)),
		"least A":                  netOf(3, way(math.MinInt, 1, 1)),
		"greatest B":               netOf(3, way(1, math.MaxInt, 1)),
		"last A past the places":   netOf(2, way(0, 1, 1), way(2, 1, 1)),
		"B past MaxNodes":          netOf(impl.MaxNodes, way(0, impl.MaxNodes, 1)),
		"cost below 0":             netOf(3, way(0, 1, -1)),
		"cost past MaxCost":        netOf(3, way(0, 1, impl.MaxCost+1)),
		"last cost past MaxCost":   netOf(3, way(0, 1, 1), way(0, 1, impl.MaxCost+1)),
		"least cost that there is": netOf(3, way(0, 1, math.MinInt)),
		"greatest cost":            netOf(3, way(0, 1, math.MaxInt)),
	}
}

// drawnNets are always the same, for the seed is; few costs make equal ones frequent.
func drawnNets(count int) []impl.Net {
	r := rand.New(rand.NewPCG(1, 2))
	nets := make([]impl.Net, count)
	for i := range nets {
		top := []int{0, 1, 3, impl.MaxCost}[r.IntN(4)]
		nets[i].Nodes = 2 + r.IntN(impl.MaxNodes-1)
		for range r.IntN(impl.MaxWays + 1) {
			a := r.IntN(nets[i].Nodes)
			b := (a + 1 + r.IntN(nets[i].Nodes-1)) % nets[i].Nodes
			nets[i].Ways = append(nets[i].Ways, way(a, b, r.IntN(top+1)))
		}
	}
	return nets
}

// smallNets are all nets of 2 or 3 places with at most 2 ways at a cost in 0..1.
func smallNets() []impl.Net {
	var nets []impl.Net
	for nodes := 2; nodes <= 3; nodes++ {
		var ways []impl.Way
		for a := range nodes {
			for b := range nodes {
				if a != b {
					ways = append(ways, way(a, b, 0), way(a, b, 1))
				}
			}
		}
		nets = append(nets, netOf(nodes))
		for _, first := range ways {
			nets = append(nets, netOf(nodes, first))
			for _, second := range ways {
				nets = append(nets, netOf(nodes, first, second))
			}
		}
	}
	return nets
}

func someNets() []impl.Net {
	nets := append(smallNets(), drawnNets(150)...)
	edges := edgeNets()
	for _, name := range slices.Sorted(maps.Keys(edges)) {
		nets = append(nets, edges[name])
	}
	return nets
}

func eachNet(t *testing.T, check func(t *testing.T, net impl.Net)) {
	t.Helper()
	for _, net := range someNets() {
		check(t, net)
		if t.Failed() {
			t.Fatalf("net: %+v", net)
		}
	}
}

func eachBadNet(t *testing.T, check func(t *testing.T, net impl.Net)) {
	t.Helper()
	bad := badNets()
	for _, name := range slices.Sorted(maps.Keys(bad)) {
		t.Run(name, func(t *testing.T) { check(t, bad[name]) })
	}
}

func wantCases(seen map[string]int, t *testing.T, cases ...string) {
	t.Helper()
	slices.Sort(cases)
	if !slices.Equal(slices.Sorted(maps.Keys(seen)), cases) {
		t.Errorf("the nets do not show just the cases %q: %v", cases, seen)
	}
}

// badSets are numbers that tell no set of so many.
func badSets(count int) []int {
	return []int{-1, -2, math.MinInt, allOf(count) + 1, allOf(count) + 2, allOf(count + 1), 1 << 32, math.MaxInt}
}

// badPlaces are no places of a net with so many.
func badPlaces(nodes int) []int {
	return []int{-1, -nodes, math.MinInt, nodes, nodes + 1, 63, 64, math.MaxInt}
}

func exchanged(net impl.Net) impl.Net {
	other := impl.Net{Nodes: net.Nodes}
	for _, w := range net.Ways {
		other.Ways = append(other.Ways, way(w.B, w.A, w.Cost))
	}
	return other
}

// wantCost takes the number apart digit by digit.
func wantCost(net impl.Net, set int) int {
	cost := 0
	for i := 0; set > 0; i, set = i+1, set/2 {
		cost += set % 2 * net.Ways[i].Cost
	}
	return cost
}

// wantReach follows each way of the set from the place on, one place at a time.
func wantReach(net impl.Net, set, place int) int {
	var seen [impl.MaxNodes]bool
	open := []int{place}
	for len(open) > 0 {
		at := open[0]
		open = open[1:]
		if seen[at] {
			continue
		}
		seen[at] = true
		for i, w := range net.Ways {
			if has(set, i) && w.A == at {
				open = append(open, w.B)
			} else if has(set, i) && w.B == at {
				open = append(open, w.A)
			}
		}
	}
	reach := 0
	for at, ok := range seen {
		if ok {
			reach |= 1 << at
		}
	}
	return reach
}

func wantJoins(net impl.Net, set, ends int) bool {
	for place := range net.Nodes {
		if has(ends, place) && ends&^wantReach(net, set, place) != 0 {
			return false
		}
	}
	return true
}

// wantLeast sorts all sets that join the ends by cost, number of ways, and number.
func wantLeast(net impl.Net, ends int) int {
	var sets []int
	for set := range 1 << len(net.Ways) {
		if wantJoins(net, set, ends) {
			sets = append(sets, set)
		}
	}
	if len(sets) == 0 {
		return -1
	}
	return slices.MinFunc(sets, func(a, b int) int {
		return cmp.Or(
			cmp.Compare(wantCost(net, a), wantCost(net, b)),
			cmp.Compare(bits.OnesCount(uint(a)), bits.OnesCount(uint(b))),
			cmp.Compare(a, b))
	})
}

func wantFar(net impl.Net, a, b int) int {
	set := wantLeast(net, 1<<a|1<<b)
	if set < 0 {
		return -1
	}
	return wantCost(net, set)
}
