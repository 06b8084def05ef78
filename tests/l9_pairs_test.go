package tests

import (
	"cmp"
	"math"
	"math/rand/v2"
	"slices"
	"strings"
	"testing"

	"loop.example/fieldroots/impl"
)

func pair(a, b int) impl.Pair { return impl.Pair{A: a, B: b} }

func listed(pairs ...impl.Pair) []impl.Pair { return pairs }

// pairsIn reads pairs of places of one digit, with spaces between them: "01 32".
func pairsIn(text string) []impl.Pair {
	var pairs []impl.Pair
	for _, word := range strings.Fields(text) {
		pairs = append(pairs, pair(int(word[0]-'0'), int(word[1]-'0')))
	}
	return pairs
}

func turned(pairs []impl.Pair) []impl.Pair {
	var other []impl.Pair
	for _, p := range pairs {
		other = append(other, pair(p.B, p.A))
	}
	return other
}

func placesOf(pairs []impl.Pair) int {
	places := 0
	for _, p := range pairs {
		places |= 1<<p.A | 1<<p.B
	}
	return places
}

// haveFirst reports whether all pairs have the first place of the first one.
func haveFirst(pairs []impl.Pair) bool {
	for _, p := range pairs {
		if p.A != pairs[0].A && p.B != pairs[0].A {
			return false
		}
	}
	return true
}

// labelledSet is a set of ways with its cost, and for each place a label that just the places of its part have.
type labelledSet struct {
	set, cost int
	labels    []int
}

func (s labelledSet) joins(p impl.Pair) bool { return s.labels[p.A] == s.labels[p.B] }

func (s labelledSet) joinsAll(pairs []impl.Pair) bool {
	return !slices.ContainsFunc(pairs, func(p impl.Pair) bool { return !s.joins(p) })
}

// parts counts labels that more than one place has: a place that no way has is alone.
func (s labelledSet) parts() int {
	var places [impl.MaxNodes]int
	parts := 0
	for _, label := range s.labels {
		places[label]++
		if places[label] == 2 {
			parts++
		}
	}
	return parts
}

// hasRound reports whether the set joins what it does without one of its ways too.
func (s labelledSet) hasRound(net impl.Net) bool {
	for i := range net.Ways {
		if has(s.set, i) && slices.Equal(labelsOf(net, without(s.set, i)), s.labels) {
			return true
		}
	}
	return false
}

// labelsOf lets each way put the lesser label of its places on all places that have the other one.
func labelsOf(net impl.Net, set int) []int {
	labels := make([]int, net.Nodes)
	for place := range labels {
		labels[place] = place
	}
	for i, w := range net.Ways {
		if !has(set, i) {
			continue
		}
		a, b := labels[w.A], labels[w.B]
		for place, label := range labels {
			if label == max(a, b) {
				labels[place] = min(a, b)
			}
		}
	}
	return labels
}

// pairNet is a net with all its sets of ways, sorted by cost, number of ways, and number, and with what a root of each
// set of ends costs.
type pairNet struct {
	impl.Net
	sets  []labelledSet
	roots []int
}

func pairNetOf(net impl.Net) pairNet {
	known := pairNet{Net: net}
	for set := range 1 << len(net.Ways) {
		known.sets = append(known.sets, labelledSet{set, wantCost(net, set), labelsOf(net, set)})
	}
	slices.SortFunc(known.sets, func(a, b labelledSet) int {
		return cmp.Or(cmp.Compare(a.cost, b.cost), cmp.Compare(size(a.set), size(b.set)), cmp.Compare(a.set, b.set))
	})
	for ends := range 1 << net.Nodes {
		known.roots = append(known.roots, wantRootCost(net, ends))
	}
	return known
}

// least is the first set that joins all pairs, if there is one.
func (net pairNet) least(pairs []impl.Pair) (labelledSet, bool) {
	for _, s := range net.sets {
		if s.joinsAll(pairs) {
			return s, true
		}
	}
	return labelledSet{set: -1}, false
}

// costInGroups puts the pairs together in groups in all ways, and joins the places of each group by a root.
func (net pairNet) costInGroups(groups []int, pairs []impl.Pair) int {
	if len(pairs) == 0 {
		return net.costOfGroups(groups)
	}
	places := placesOf(pairs[:1])
	best := net.costInGroups(append(slices.Clone(groups), places), pairs[1:])
	for i := range groups {
		with := slices.Clone(groups)
		with[i] |= places
		if cost := net.costInGroups(with, pairs[1:]); cost >= 0 && (best < 0 || cost < best) {
			best = cost
		}
	}
	return best
}

func (net pairNet) costOfGroups(groups []int) int {
	cost := 0
	for _, places := range groups {
		if net.roots[places] < 0 {
			return -1
		}
		cost += net.roots[places]
	}
	return cost
}

// whyNoPairs tells why a list has no pairs of a net, and nothing if it has.
func whyNoPairs(net impl.Net, pairs []impl.Pair) string {
	if len(pairs) > impl.MaxPairs {
		return "too many"
	}
	for _, p := range pairs {
		switch {
		case p.A < 0:
			return "A below 0"
		case p.A >= net.Nodes:
			return "A past the net"
		case p.B < 0:
			return "B below 0"
		case p.B >= net.Nodes:
			return "B past the net"
		}
	}
	return ""
}

func drawnPair(r *rand.Rand, nodes int) impl.Pair { return pair(r.IntN(nodes), r.IntN(nodes)) }

func drawnPairs(r *rand.Rand, nodes, count int) []impl.Pair {
	var pairs []impl.Pair
	for range count {
		pairs = append(pairs, drawnPair(r, nodes))
	}
	return pairs
}

// apartPairs have each place once at most.
func apartPairs(r *rand.Rand, nodes int) []impl.Pair {
	var pairs []impl.Pair
	for order := r.Perm(nodes); len(order) >= 2; order = order[2:] {
		pairs = append(pairs, pair(order[0], order[1]))
	}
	return pairs
}

// chainPairs have each the last place of the one before.
func chainPairs(r *rand.Rand, nodes int) []impl.Pair {
	var pairs []impl.Pair
	order := r.Perm(nodes)
	for i := 1; i < nodes && len(pairs) < impl.MaxPairs; i++ {
		pairs = append(pairs, pair(order[i-1], order[i]))
	}
	return pairs
}

// starPairs have all the first place of the first one, in the first or in the second place.
func starPairs(r *rand.Rand, nodes, count int) []impl.Pair {
	pairs := drawnPairs(r, nodes, count)
	for i := range pairs {
		if pairs[i].A = pairs[0].A; i > 0 && r.IntN(2) == 0 {
			pairs[i] = pair(pairs[i].B, pairs[i].A)
		}
	}
	return pairs
}

// wayPairs have both places of ways.
func wayPairs(r *rand.Rand, net impl.Net) []impl.Pair {
	var pairs []impl.Pair
	for _, i := range r.Perm(len(net.Ways)) {
		if len(pairs) < impl.MaxPairs {
			pairs = append(pairs, pair(net.Ways[i].A, net.Ways[i].B))
		}
	}
	return pairs
}

func somePairs(r *rand.Rand, net impl.Net) [][]impl.Pair {
	lists := [][]impl.Pair{nil, {}}
	for a := range net.Nodes {
		for b := range net.Nodes {
			lists = append(lists, listed(pair(a, b)))
		}
	}
	for range 3 {
		p, self := drawnPair(r, net.Nodes), r.IntN(net.Nodes)
		back := pair(p.B, p.A)
		lists = append(lists,
			listed(p, p), listed(p, back), listed(p, p, back), listed(p, back, p, p),
			listed(p, pair(self, self)), listed(pair(self, self), p, pair(self, self)),
			apartPairs(r, net.Nodes), chainPairs(r, net.Nodes), wayPairs(r, net),
			starPairs(r, net.Nodes, 2), starPairs(r, net.Nodes, 3), starPairs(r, net.Nodes, impl.MaxPairs),
			drawnPairs(r, net.Nodes, 2), drawnPairs(r, net.Nodes, 3), drawnPairs(r, net.Nodes, impl.MaxPairs))
	}
	return lists
}

// eachPairs takes pairs of each net.
func eachPairs(t *testing.T, check func(t *testing.T, net pairNet, pairs []impl.Pair)) {
	t.Helper()
	r := rand.New(rand.NewPCG(13, 14))
	eachNet(t, func(t *testing.T, net impl.Net) {
		known := pairNetOf(net)
		for _, pairs := range somePairs(r, net) {
			check(t, known, pairs)
			if t.Failed() {
				t.Fatalf("pairs: %v", pairs)
			}
		}
	})
}

// noPairs differ from pairs in one place, or are too many.
func noPairs(net impl.Net) [][]impl.Pair {
	good := listed(pair(0, 1), pair(1, 0), pair(1, 1), pair(0, net.Nodes-1))
	lists := [][]impl.Pair{append(slices.Clone(good), pair(0, 0)), append(slices.Clone(good), pair(0, 1)), slices.Repeat(good, 25)}
	for _, place := range badPlaces(net.Nodes) {
		lists = append(lists, listed(pair(place, 0)), listed(pair(0, place)), listed(pair(place, place)))
		for i := range good {
			first, second := slices.Clone(good), slices.Clone(good)
			first[i].A, second[i].B = place, place
			lists = append(lists, first, second)
		}
	}
	return lists
}

// eachNoPairs takes nets with lists that have no pairs of them, and then all that are no nets.
func eachNoPairs(t *testing.T, check func(t *testing.T, net impl.Net, pairs []impl.Pair)) {
	t.Helper()
	eachNet(t, func(t *testing.T, net impl.Net) {
		for _, pairs := range noPairs(net) {
			check(t, net, pairs)
			if t.Failed() {
				t.Fatalf("pairs: %v", pairs)
			}
		}
	})
	eachBadNet(t, func(t *testing.T, net impl.Net) {
		for _, pairs := range []string{"", "00", "01", "10 00", "01 10 11 00", "00 00 00 00 00"} {
			check(t, net, pairsIn(pairs))
		}
	})
}

// Promise 54.

func TestNoPairsArePairs(t *testing.T) {
	seen := map[string]int{}
	r := rand.New(rand.NewPCG(15, 16))
	eachNet(t, func(t *testing.T, net impl.Net) {
		if !impl.PairsOk(net, nil) || !impl.PairsOk(net, []impl.Pair{}) {
			t.Error("no pairs are none")
		}
		for _, pairs := range append(somePairs(r, net), noPairs(net)...) {
			ok, why := impl.PairsOk(net, pairs), whyNoPairs(net, pairs)
			if ok != (why == "") {
				t.Fatalf("%v are pairs: %v, but %q", pairs, ok, why)
			}
			if impl.PairsOk(net, turned(pairs)) != ok {
				t.Errorf("%v are pairs: %v, and not so with the places of each exchanged", pairs, ok)
			}
			seen[why]++
		}
	})
	wantCases(seen, t, "", "too many", "A below 0", "A past the net", "B below 0", "B past the net")
}

func TestPairsOkOfSomeLists(t *testing.T) {
	for _, c := range []struct {
		name  string
		pairs []impl.Pair
		want  bool
	}{
		{"no ways, 2 places", nil, true},
		{"no ways, MaxNodes places", listed(), true},
		{"no ways, 2 places", pairsIn("01"), true},
		{"no ways, MaxNodes places", pairsIn("05 50 55 00"), true},
		// A place with itself, and the same pair again, once more with its places exchanged.
		{"one way", pairsIn("00"), true},
		{"one way", pairsIn("11 11"), true},
		{"one way", pairsIn("01 01"), true},
		{"one way", pairsIn("01 01 10"), true},
		// MaxPairs pairs and one more.
		{"one way", pairsIn("01 10 00 11"), true},
		{"one way", pairsIn("01 10 00 11 01"), false},
		{"one way", pairsIn("00 00 00 00"), true},
		{"one way", pairsIn("00 00 00 00 00"), false},
		{"all greatest costs", pairsIn("03 14 25 50"), true},
		{"all greatest costs", pairsIn("03 14 25 50 55"), false},
		// Past the net's places, in the first and in the second place, of each pair.
		{"one way", pairsIn("02"), false},
		{"one way", pairsIn("20"), false},
		{"one way", pairsIn("22"), false},
		{"no ways, 2 places", pairsIn("01 12"), false},
		{"free round", pairsIn("33 30 03"), true},
		{"free round", pairsIn("43 30 03"), false},
		{"free round", pairsIn("33 40 03"), false},
		{"free round", pairsIn("33 30 04"), false},
		{"all greatest costs", pairsIn("55 05 50"), true},
		{"all greatest costs", pairsIn("05 06"), false},
		{"all greatest costs", pairsIn("05 60"), false},
		{"one way", listed(pair(math.MaxInt, 0)), false},
		{"one way", listed(pair(0, math.MaxInt)), false},
		// Below 0.
		{"one way", listed(pair(-1, 0)), false},
		{"one way", listed(pair(0, -1)), false},
		{"one way", listed(pair(-1, -1)), false},
		{"one way", listed(pair(0, 1), pair(1, -1)), false},
		{"one way", listed(pair(0, 1), pair(-1, 1)), false},
		{"one way", listed(pair(math.MinInt, math.MaxInt)), false},
		{"one way", listed(pair(0, 1), pair(0, 1), pair(0, 1), pair(0, math.MinInt)), false},
	} {
		if got := impl.PairsOk(namedNet(t, c.name), c.pairs); got != c.want {
			t.Errorf("%s, %v: %v", c.name, c.pairs, got)
		}
	}
}

func TestPairsOkOfOthers(t *testing.T) {
	eachNoPairs(t, func(t *testing.T, net impl.Net, pairs []impl.Pair) {
		if impl.PairsOk(net, pairs) {
			t.Errorf("%v are pairs", pairs)
		}
	})
}

// Promise 55.

func TestPairsAreJoinedOneByOne(t *testing.T) {
	seen := map[string]int{}
	eachPairs(t, func(t *testing.T, net pairNet, pairs []impl.Pair) {
		byAll := impl.JoinsPairs(net.Net, pairs, allOf(len(net.Ways)))
		for _, s := range net.sets {
			joins, joined := impl.JoinsPairs(net.Net, pairs, s.set), 0
			for _, p := range pairs {
				if impl.JoinsEnds(net.Net, s.set, 1<<p.A|1<<p.B) {
					joined++
				}
			}
			if joins != s.joinsAll(pairs) || joins != (joined == len(pairs)) {
				t.Fatalf("set %b joins them: %v, and %d of %d", s.set, joins, joined, len(pairs))
			}
			if joins && !byAll {
				t.Errorf("set %b joins them, but not all ways do", s.set)
			}
			seeJoined(seen, s, joined, len(pairs), placesOf(pairs))
		}
	})
	wantCases(seen, t, "no pairs", "all, in one part", "all, in more than one part", "some", "none")
}

func seeJoined(seen map[string]int, s labelledSet, joined, of, places int) {
	ends := listOf(places)
	switch {
	case of == 0:
		seen["no pairs"]++
	case joined == of && slices.ContainsFunc(ends, func(end int) bool { return s.labels[end] != s.labels[ends[0]] }):
		seen["all, in more than one part"]++
	case joined == of:
		seen["all, in one part"]++
	case joined > 0:
		seen["some"]++
	default:
		seen["none"]++
	}
}

func TestJoinsPairsOfSomeSets(t *testing.T) {
	for _, c := range []struct {
		name  string
		pairs string
		set   int
		want  bool
	}{
		// No pairs, and pairs of a place with itself, by each set.
		{"no ways, 2 places", "", 0, true},
		{"no ways, MaxNodes places", "00 55", 0, true},
		{"one way", "", 0, true},
		{"one way", "", 1, true},
		{"one way", "00", 0, true},
		{"one way", "11", 1, true},
		{"one way", "01", 0, false},
		{"one way", "01", 1, true},
		{"one way", "10", 1, true},
		{"one way", "11 01", 0, false},
		{"one way", "11 01", 1, true},
		// The same pair twice, and once more with its places exchanged.
		{"one way", "01 01", 0, false},
		{"one way", "01 01 10", 1, true},
		// Parts: each pair for itself, whatever the others do.
		{"three parts", "05 14 23", 0b111, true},
		{"three parts", "05 14 23", 0b110, false},
		{"three parts", "05 14 23", 0b101, false},
		{"three parts", "05 14 23", 0b011, false},
		{"three parts", "05 14 21", 0b111, false},
		{"three parts", "05 50 55", 0b001, true},
		{"three parts", "05 22", 0b001, true},
		{"long path, ways from behind", "01 23 45", 0b10101, true},
		{"long path, ways from behind", "01 23 34", 0b10101, false},
		{"long path, ways from behind", "12 01 45", 0b10101, false},
		{"long path, ways from behind", "02 35", 0b11011, true},
		{"long path, ways from behind", "02 25", 0b11011, false},
		// Pairs that share a place, and one that the ways to another one join.
		{"star", "10 20", 0b11000, true},
		{"star", "10 20", 0b10000, false},
		{"star", "12 10 20", 0b11000, true},
		{"path cheaper than way", "05 13 24", 0b111110, true},
		{"path cheaper than way", "05 13 24", 0b111111, true},
		{"path cheaper than way", "05 13 24", 0b101111, true},
		{"path cheaper than way", "05 13 24", 0b000001, false},
		// Nothing joins the last pair, or the first one.
		{"place 0 alone", "12 34 45", 0b1101, true},
		{"place 0 alone", "12 34 40", 0b1111, false},
		{"place 0 alone", "01 12 34", 0b1111, false},
		{"last place alone", "01 12 55", 0b0011, true},
		{"MaxWays free ways", "01 02", 0b111111111, false},
		{"MaxWays free ways", "01 22", 0b100000000, true},
		// MaxPairs pairs, MaxNodes places, and MaxWays ways.
		{"all greatest costs", "03 14 25 00", 0b111000000, true},
		{"all greatest costs", "03 14 25 01", 0b111000000, false},
		{"all greatest costs", "03 14 25 01", 0b111111111, true},
	} {
		if got := impl.JoinsPairs(namedNet(t, c.name), pairsIn(c.pairs), c.set); got != c.want {
			t.Errorf("%s, %s, set %b: %v", c.name, c.pairs, c.set, got)
		}
	}
}

func TestJoinsPairsOfOthers(t *testing.T) {
	eachNet(t, func(t *testing.T, net impl.Net) {
		for _, set := range badSets(len(net.Ways)) {
			for _, pairs := range []string{"", "00", "11 00", "01"} {
				if impl.JoinsPairs(net, pairsIn(pairs), set) {
					t.Errorf("set %d joins %s", set, pairs)
				}
			}
		}
	})
	eachNoPairs(t, func(t *testing.T, net impl.Net, pairs []impl.Pair) {
		for _, set := range []int{-1, 0, 1, allOf(min(len(net.Ways), impl.MaxWays)), allOf(impl.MaxWays)} {
			if impl.JoinsPairs(net, pairs, set) {
				t.Errorf("set %d joins %v", set, pairs)
			}
		}
	})
}

// Promise 56.

func TestLeastSetsForPairsHaveNoNeedlessWays(t *testing.T) {
	seen := map[string]int{}
	eachPairs(t, func(t *testing.T, net pairNet, pairs []impl.Pair) {
		best, cost := impl.PairsOf(net.Net, pairs), impl.PairsCost(net.Net, pairs)
		want, ok := net.least(pairs)
		if best != want.set {
			t.Fatalf("%b, not %b", best, want.set)
		}
		if !ok {
			seen["nothing joins them"]++
			return
		}
		if !impl.JoinsPairs(net.Net, pairs, best) || impl.CostOf(net.Net, best) != cost {
			t.Errorf("%b does not join them, or does not cost %d", best, cost)
		}
		for i := range net.Ways {
			if has(best, i) && impl.JoinsPairs(net.Net, pairs, without(best, i)) {
				t.Errorf("%b: the way %d is needless", best, i)
			}
		}
		seen[[]string{"no ways", "one part", "two parts", "three parts"}[want.parts()]]++
		for _, s := range net.sets {
			if s.set != best && s.cost == want.cost && s.joinsAll(pairs) {
				seeEqual(seen, joinedSet{set: s.set}, joinedSet{set: best})
			}
		}
	})
	wantCases(seen, t, "nothing joins them", "no ways", "one part", "two parts", "three parts",
		"more ways, greater number", "more ways, lesser number", "as many ways")
}

// somePairSets have the least set of ways, and what it costs.
var somePairSets = []struct {
	name, pairs string
	ways, cost  int
}{
	// Nets without ways.
	{"no ways, 2 places", "", 0, 0},
	{"no ways, 2 places", "00", 0, 0},
	{"no ways, 2 places", "01", -1, -1},
	{"no ways, 2 places", "00 01", -1, -1},
	{"no ways, MaxNodes places", "", 0, 0},
	{"no ways, MaxNodes places", "55 00 33 11", 0, 0},
	{"no ways, MaxNodes places", "11 22 34 55", -1, -1},
	// No pairs, pairs of a place with itself, alone and among others, and the same pair more than once.
	{"one way", "", 0, 0},
	{"one way", "00", 0, 0},
	{"one way", "11 00", 0, 0},
	{"one way", "01", 1, 5},
	{"one way", "10", 1, 5},
	{"one way", "11 01", 1, 5},
	{"one way", "01 00", 1, 5},
	{"one way", "01 01", 1, 5},
	{"one way", "01 01 10", 1, 5},
	{"one way", "01 10 01 10", 1, 5},
	{"all greatest costs", "", 0, 0},
	{"all greatest costs", "33", 0, 0},
	{"all greatest costs", "33 03 00 55", 0b001000000, 9},
	{"two hubs", "02 11 20 02", 0b010000000, 3},
	// Ways of no cost.
	{"one way of no cost", "", 0, 0},
	{"one way of no cost", "11", 0, 0},
	{"one way of no cost", "01", 1, 0},
	{"MaxWays free ways", "01", 1, 0},
	{"MaxWays free ways", "22 10", 1, 0},
	{"free round", "02", 0b0011, 0},
	{"free round", "01 23", 0b0101, 0},
	{"free round", "01 12", 0b0011, 0},
	{"free round", "03 12", 0b1010, 0},
	{"free round", "02 13", 0b0111, 0},
	{"free detour", "02", 0b001, 0},
	{"free detour", "12", 0b100, 0},
	{"free detour", "02 12", 0b011, 0},
	{"free detour", "01 12", 0b011, 0},
	{"free detour of two", "03", 0b0001, 1},
	{"free detour of two", "01 23", 0b1010, 0},
	{"free detour of two", "03 01 23", 0b1011, 1},
	{"fork with long arms", "13 24", 0b01101, 0},
	{"fork with long arms", "01 45", 0b10010, 18},
	{"fork with long arms", "05 13", 0b11111, 18},
	// Several ways between the same two places.
	{"several ways, other order", "01", 0b0010, 1},
	{"several ways, other order", "01 10", 0b0010, 1},
	{"MaxWays ways between two", "01 01", 1, 9},
	{"equal ways", "02", 0b0011, 4},
	{"equal ways", "01 12", 0b0011, 4},
	{"double way beside a way", "01 23", 0b101, 2},
	{"double way and a bridge", "12", 0b100, 0},
	{"double way and a bridge", "01 12", 0b110, 1},
	// The same cost: fewer ways, though of a greater number, and then the least number.
	{"equal costs, fewer ways", "02", 0b100, 2},
	{"equal costs, fewer ways", "02 11", 0b100, 2},
	{"equal costs, fewer ways", "02 01", 0b011, 2},
	{"equal costs, fewer ways", "02 12", 0b011, 2},
	{"equal costs, fewer places of a greater number", "01", 0b11000, 3},
	{"equal costs, fewer places of a greater number", "01 02", 0b00111, 3},
	{"hub of three", "01 12", 0b11000, 6},
	{"hub of three", "01 12 20", 0b11000, 6},
	{"equal costs, as many ways", "03", 0b0101, 4},
	{"equal costs, as many ways", "12", 0b0011, 4},
	{"equal costs, as many ways", "03 12", 0b0111, 6},
	{"equal costs, last ways over the first place", "03", 0b0011, 4},
	{"rounds joined by a bridge", "01 45", 0b0100001, 3},
	{"rounds joined by a bridge", "01 34 35", 0b1010001, 3},
	{"two hubs, and a way past one", "13", 0b100000, 2},
	{"two hubs, and a way past one", "13 25", 0b110000, 3},
	{"all greatest costs", "02 13", 0b000000111, 27},
	{"mesh of MaxWays ways", "05 12", 0b010110101, 7},
	// The least set falls into two parts, and into three.
	{"two parts", "24 13", 0b11, 3},
	{"round beside a way", "34 02", 0b1100, 2},
	{"round beside a way", "34 01 12 20", 0b1011, 3},
	{"equal costs, as many ways", "02 13", 0b0110, 4},
	{"hub of three", "01 23", 0b01100, 5},
	{"two hubs", "01 23", 0b000011011, 4},
	{"two hubs, no ways round them", "01 23", 0b11011, 4},
	{"mesh of MaxWays ways", "01 34", 0b000100001, 2},
	{"long path, ways from behind", "02 35", 0b11011, 36},
	{"long path, ways from behind", "01 23 45", 0b10101, 27},
	{"path cheaper than way", "01 23 45", 0b101010, 3},
	{"three parts", "05 14 23", 0b111, 27},
	{"three parts", "50 41 32 05", 0b111, 27},
	{"two threes, all ways between", "03 14 25", 0b100010001, 15},
	{"all greatest costs", "03 14 25", 0b111000000, 27},
	{"all greatest costs", "03 14 25 44", 0b111000000, 27},
	// One part is cheaper, though the pairs share no place.
	{"two hubs", "02", 0b010000000, 3},
	{"two hubs", "13", 0b100000000, 3},
	{"two hubs", "02 13", 0b000011111, 5},
	{"two hubs", "03 12", 0b000011111, 5},
	{"free detour of two", "03 12", 0b1011, 1},
	{"two hubs, and a way past one", "13 02", 0b011110, 5},
	// The way to another pair joins a pair, or some of it.
	{"long path, ways from behind", "03 12", 0b11100, 27},
	{"long path, ways from behind", "12 03", 0b11100, 27},
	{"long path, ways from behind", "02 13", 0b11100, 27},
	{"place 0 alone", "14 23 12", 0b0111, 3},
	{"path cheaper than way", "05 13", 0b111110, 5},
	{"path cheaper than way", "05 00 24 31", 0b111110, 5},
	{"rounds joined by a bridge", "03 14", 0b0011110, 12},
	{"mesh of MaxWays ways", "05 01", 0b010110101, 7},
	// Pairs that share a place, and pairs that all have the first place of the first one.
	{"long path, ways from behind", "02 24", 0b11110, 36},
	{"all greatest costs", "01 12 23 34", 0b000001111, 36},
	{"star", "15 25", 0b11001, 8},
	{"star", "05 01", 0b10001, 6},
	{"star", "01 20 03 40", 0b11110, 10},
	{"hub of three", "01 03", 0b00011, 4},
	{"hub of three", "31 03", 0b00011, 4},
	// Pairs that nothing joins, alone and among others that are joined.
	{"MaxWays free ways", "02", -1, -1},
	{"MaxWays free ways", "01 02", -1, -1},
	{"two parts", "12", -1, -1},
	{"two parts", "24 13 12", -1, -1},
	{"two parts", "03 24", -1, -1},
	{"two parts", "13 00", 0b10, 0},
	{"place 0 alone", "01", -1, -1},
	{"place 0 alone", "10 25 34", -1, -1},
	{"place 0 alone", "25 34 10", -1, -1},
	{"place 0 alone", "12 45 00", 0b1001, 2},
	{"last place alone", "12 45 23", -1, -1},
	{"three parts", "05 14 20", -1, -1},
	{"three parts", "05 32", 0b101, 18},
	{"round beside a way", "02 13", -1, -1},
	// MaxNodes places and MaxWays ways, MaxPairs pairs.
	{"two threes, all ways between", "01 12 34 45", 0b111100100, 17},
	{"all greatest costs", "01 23 45 05", 0b000110101, 36},
}

func TestPairsOfSomePairs(t *testing.T) {
	for _, c := range somePairSets {
		net := namedNet(t, c.name)
		for _, pairs := range [][]impl.Pair{pairsIn(c.pairs), turned(pairsIn(c.pairs))} {
			if got := impl.PairsOf(net, pairs); got != c.ways {
				t.Errorf("%s, %v: %b, not %b", c.name, pairs, got, c.ways)
			}
			slices.Reverse(pairs)
			if got := impl.PairsOf(net, pairs); got != c.ways {
				t.Errorf("%s, %v: %b, not %b", c.name, pairs, got, c.ways)
			}
		}
	}
}

func TestPairsOfOthers(t *testing.T) {
	eachNoPairs(t, func(t *testing.T, net impl.Net, pairs []impl.Pair) {
		if got := impl.PairsOf(net, pairs); got != -1 {
			t.Errorf("%v: %d", pairs, got)
		}
	})
}

// Promise 57.

func TestPairsTogetherCostNoMoreThanEachAlone(t *testing.T) {
	seen := map[string]int{}
	eachPairs(t, func(t *testing.T, net pairNet, pairs []impl.Pair) {
		cost, far, root := impl.PairsCost(net.Net, pairs), impl.FarTable(net.Net), impl.RootCost(net.Net, placesOf(pairs))
		if want := net.costInGroups(nil, pairs); cost != want {
			t.Fatalf("%d, not %d", cost, want)
		}
		if haveFirst(pairs) && cost != root {
			t.Errorf("%d, and a root of all places %d", cost, root)
		}
		if cost < 0 {
			if !slices.ContainsFunc(pairs, func(p impl.Pair) bool { return far[p.A][p.B] < 0 }) {
				t.Error("not told, though there is a path for each")
			}
			seen["nothing joins them"]++
			return
		}
		sum, greatest := 0, 0
		for _, p := range pairs {
			if far[p.A][p.B] < 0 {
				t.Fatalf("%d, though there is no path for %v", cost, p)
			}
			sum, greatest = sum+far[p.A][p.B], max(greatest, far[p.A][p.B])
		}
		if cost > sum || cost < greatest || root >= 0 && cost > root {
			t.Errorf("%d, all paths %d, the greatest %d, and a root %d", cost, sum, greatest, root)
		}
		seePaths(seen, cost, sum, greatest)
		seeRoots(seen, pairs, cost, root)
	})
	wantCases(seen, t, "nothing joins them", "all paths, and the greatest", "all paths", "less, but more than the greatest", "the greatest",
		"no root", "all have the first place", "a root, though not all have the first place", "less than a root")
}

func seePaths(seen map[string]int, cost, sum, greatest int) {
	switch {
	case cost == sum && cost == greatest:
		seen["all paths, and the greatest"]++
	case cost == sum:
		seen["all paths"]++
	case cost == greatest:
		seen["the greatest"]++
	default:
		seen["less, but more than the greatest"]++
	}
}

func seeRoots(seen map[string]int, pairs []impl.Pair, cost, root int) {
	switch {
	case root < 0:
		seen["no root"]++
	case haveFirst(pairs):
		seen["all have the first place"]++
	case cost == root:
		seen["a root, though not all have the first place"]++
	default:
		seen["less than a root"]++
	}
}

func TestPairsCostOfSomePairs(t *testing.T) {
	for _, c := range somePairSets {
		net := namedNet(t, c.name)
		for _, pairs := range [][]impl.Pair{pairsIn(c.pairs), turned(pairsIn(c.pairs))} {
			if got := impl.PairsCost(net, pairs); got != c.cost {
				t.Errorf("%s, %v: %d, not %d", c.name, pairs, got, c.cost)
			}
		}
	}
}

func TestPairsCostOfOthers(t *testing.T) {
	eachNoPairs(t, func(t *testing.T, net impl.Net, pairs []impl.Pair) {
		if got := impl.PairsCost(net, pairs); got != -1 {
			t.Errorf("%v: %d", pairs, got)
		}
	})
}

// Promise 58.

func TestPartsOfSetsWithoutRoundsAreCountedByPlacesAndWays(t *testing.T) {
	seen := map[string]int{}
	eachNet(t, func(t *testing.T, net impl.Net) {
		for set := range 1 << len(net.Ways) {
			s := labelledSet{set: set, labels: labelsOf(net, set)}
			many, less := impl.PartMany(net, set), size(impl.NodesOf(net, set))-size(set)
			if many != s.parts() {
				t.Fatalf("set %b: %d, not %d", set, many, s.parts())
			}
			if round := s.hasRound(net); many < less || round != (many > less) {
				t.Errorf("set %b: %d parts, places less ways are %d, and it has a round: %v", set, many, less, round)
			}
			if set > 0 && impl.TreeOk(net, set) && many != 1 {
				t.Errorf("set %b: a tree of %d parts", set, many)
			}
			seeMany(seen, set, many, less)
		}
	})
	wantCases(seen, t, "no ways", "one way", "a tree", "a round", "2 parts", "2 parts, with a round", "3 parts")
}

func seeMany(seen map[string]int, set, many, less int) {
	switch {
	case set == 0:
		seen["no ways"]++
	case size(set) == 1:
		seen["one way"]++
	case many == 1 && less == 1:
		seen["a tree"]++
	case many == 1:
		seen["a round"]++
	case many == 2 && less < 2:
		seen["2 parts, with a round"]++
	case many == 2:
		seen["2 parts"]++
	case many == 3:
		seen["3 parts"]++
	}
}

func TestPartManyOfSomeSets(t *testing.T) {
	for _, c := range []struct {
		name      string
		set, want int
	}{
		// No ways.
		{"no ways, 2 places", 0, 0},
		{"no ways, MaxNodes places", 0, 0},
		{"one way", 0, 0},
		{"three parts", 0, 0},
		{"all greatest costs", 0, 0},
		// One way, and several between the same two places.
		{"one way", 1, 1},
		{"one way of no cost", 1, 1},
		{"place 0 alone", 0b1000, 1},
		{"several ways, other order", 0b0100, 1},
		{"several ways, other order", 0b0110, 1},
		{"MaxWays ways between two", 0b111111111, 1},
		{"MaxWays free ways", 0b111111111, 1},
		// Trees, with the place 0 and without it.
		{"star", 0b11111, 1},
		{"star", 0b01010, 1},
		{"long path, ways from behind", 0b11111, 1},
		{"long path, ways from behind", 0b00111, 1},
		{"fork with long arms", 0b11111, 1},
		{"place 0 alone", 0b1111, 1},
		{"last place alone", 0b1110, 1},
		{"two threes, all ways between", 0b111100100, 1},
		// Rounds.
		{"free round", 0b1111, 1},
		{"round beside a way", 0b0111, 1},
		{"equal ways", 0b1111, 1},
		{"path cheaper than way", 0b111111, 1},
		{"rounds joined by a bridge", 0b1111111, 1},
		{"all greatest costs", 0b111111111, 1},
		// Two parts.
		{"two parts", 0b11, 2},
		{"free round", 0b0101, 2},
		{"free round", 0b1010, 2},
		{"long path, ways from behind", 0b11011, 2},
		{"path cheaper than way", 0b011011, 2},
		{"round beside a way", 0b1001, 2},
		{"round beside a way", 0b1111, 2},
		{"double way beside a way", 0b111, 2},
		{"rounds joined by a bridge", 0b1110111, 2},
		{"rounds joined by a bridge", 0b1010001, 2},
		{"three parts", 0b101, 2},
		{"three parts", 0b110, 2},
		// Three parts.
		{"three parts", 0b111, 3},
		{"long path, ways from behind", 0b10101, 3},
		{"path cheaper than way", 0b101010, 3},
		{"path cheaper than way", 0b010101, 3},
		{"all greatest costs", 0b111000000, 3},
		{"all greatest costs", 0b000010101, 3},
		{"two threes, all ways between", 0b001010100, 3},
	} {
		if got := impl.PartMany(namedNet(t, c.name), c.set); got != c.want {
			t.Errorf("%s, set %b: %d, not %d", c.name, c.set, got, c.want)
		}
	}
}

func TestPartManyOfOthers(t *testing.T) {
	eachNet(t, func(t *testing.T, net impl.Net) {
		for _, set := range badSets(len(net.Ways)) {
			if got := impl.PartMany(net, set); got != -1 {
				t.Errorf("set %d: %d", set, got)
			}
		}
	})
	eachBadNet(t, func(t *testing.T, net impl.Net) {
		for _, set := range []int{-1, 0, 1, allOf(min(len(net.Ways), impl.MaxWays)), allOf(impl.MaxWays)} {
			if got := impl.PartMany(net, set); got != -1 {
				t.Errorf("set %d: %d", set, got)
			}
		}
	})
}

// Promise 59.

func TestAFurtherPairCostsNoMoreThanItsPath(t *testing.T) {
	seen := map[string]int{}
	eachPairs(t, func(t *testing.T, net pairNet, pairs []impl.Pair) {
		if len(pairs) == 0 {
			if cost := impl.PairsCost(net.Net, pairs); cost != 0 {
				t.Errorf("no pairs: %d", cost)
			}
			return
		}
		last := pairs[len(pairs)-1]
		before, with := impl.PairsCost(net.Net, pairs[:len(pairs)-1]), impl.PairsCost(net.Net, pairs)
		far := impl.FarTable(net.Net)[last.A][last.B]
		switch {
		case (with < 0) != (before < 0 || far < 0):
			t.Errorf("%d, without the last pair %d, and its path costs %d", with, before, far)
		case before < 0:
			seen["nothing joins the others"]++
		case far < 0:
			seen["nothing joins the last one"]++
		case with < before || with > before+far:
			t.Errorf("%d, without the last pair %d, and its path costs %d", with, before, far)
		default:
			seeFurther(seen, with-before, far)
		}
	})
	wantCases(seen, t, "nothing joins the others", "nothing joins the last one",
		"no more, for its path costs nothing", "no more", "more, but less than its path", "its path")
}

func seeFurther(seen map[string]int, more, far int) {
	switch {
	case far == 0:
		seen["no more, for its path costs nothing"]++
	case more == 0:
		seen["no more"]++
	case more < far:
		seen["more, but less than its path"]++
	default:
		seen["its path"]++
	}
}
