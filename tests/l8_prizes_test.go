package tests

import (
	"cmp"
	"math"
	"math/rand/v2"
	"slices"
	"testing"

	"loop.example/fieldroots/impl"
)

// joinedSet is a set of ways with the places that it joins with the place 0, and its cost.
type joinedSet struct {
	set, places, cost int
}

func (s joinedSet) gain(prizes []int) int { return paidBy(prizes, s.places) - s.cost }

// wantJoined has all sets of ways of a net, in ascending order; it asks each place whether one comes back from it.
func wantJoined(net impl.Net) []joinedSet {
	var sets []joinedSet
	for set := range 1 << len(net.Ways) {
		joined := joinedSet{set: set, cost: wantCost(net, set)}
		for place := range net.Nodes {
			if has(wantReach(net, set, place), 0) {
				joined.places |= 1 << place
			}
		}
		sets = append(sets, joined)
	}
	return sets
}

// wantBest sorts all sets by gain, number of ways, and number.
func wantBest(sets []joinedSet, prizes []int) joinedSet {
	return slices.MinFunc(sets, func(a, b joinedSet) int {
		return cmp.Or(
			cmp.Compare(b.gain(prizes), a.gain(prizes)),
			cmp.Compare(size(a.set), size(b.set)),
			cmp.Compare(a.set, b.set))
	})
}

// wantRootsFromSource has for each set of ends what a root of them and the place 0 costs.
func wantRootsFromSource(net impl.Net) []int {
	costs := make([]int, 1<<net.Nodes)
	for ends := range costs {
		costs[ends] = wantRootCost(net, ends|1)
	}
	return costs
}

type endsGain struct {
	gain int
	ok   bool
}

// gainsOfEnds has what each set of ends gains, in the order of their numbers.
func gainsOfEnds(net impl.Net, prizes []int) []endsGain {
	gains := make([]endsGain, 1<<net.Nodes)
	for ends := range gains {
		gains[ends].gain, gains[ends].ok = impl.EndsGain(net, prizes, ends)
	}
	return gains
}

// cheapestTo has -1 for a place that no set of ways joins with the place 0.
func cheapestTo(sets []joinedSet, place int) int {
	best := -1
	for _, s := range sets {
		if has(s.places, place) && (best < 0 || s.cost < best) {
			best = s.cost
		}
	}
	return best
}

// whyNoPrizes tells why a row has no prizes of a net, and nothing if it has.
func whyNoPrizes(net impl.Net, row []int) string {
	switch {
	case len(row) < net.Nodes:
		return "too short"
	case len(row) > net.Nodes:
		return "too long"
	case slices.Min(row) < 0:
		return "a prize below 0"
	case slices.Max(row) > impl.MaxPrize:
		return "a prize too great"
	}
	return ""
}

// evenPrizes has the same prize for all places but the place 0.
func evenPrizes(nodes, first, others int) []int {
	prizes := slices.Repeat([]int{others}, nodes)
	prizes[0] = first
	return prizes
}

// payingPrizes just pay for the ways to a place, or for all ways of the least tree, or are one less, or one more.
func payingPrizes(net impl.Net, sets []joinedSet) [][]int {
	var rows [][]int
	for place := 1; place < net.Nodes; place++ {
		for more := -1; more <= 1; more++ {
			row := make([]int, net.Nodes)
			row[place] = cheapestTo(sets, place) + more
			rows = append(rows, row)
		}
	}
	if shares := wantShares(net); shares != nil {
		rows = append(rows, shares)
		for place := range shares {
			more, less := slices.Clone(shares), slices.Clone(shares)
			more[place]++
			less[place]--
			rows = append(rows, more, less)
		}
	}
	return rows
}

// lonelyPrizes are great just where no way joins a place with the place 0.
func lonelyPrizes(net impl.Net, sets []joinedSet) []int {
	prizes := make([]int, net.Nodes)
	for place := range prizes {
		if cheapestTo(sets, place) < 0 {
			prizes[place] = impl.MaxPrize
		}
	}
	return prizes
}

func somePrizes(r *rand.Rand, net impl.Net, sets []joinedSet) [][]int {
	rows := append(payingPrizes(net, sets), lonelyPrizes(net, sets))
	for _, first := range []int{0, 1, impl.MaxPrize} {
		for _, others := range []int{0, 1, impl.MaxPrize} {
			rows = append(rows, evenPrizes(net.Nodes, first, others))
		}
	}
	for _, top := range []int{1, 3, impl.MaxCost, impl.MaxPrize} {
		row := make([]int, net.Nodes)
		for place := range row {
			row[place] = r.IntN(top + 1)
		}
		rows = append(rows, row)
	}
	return slices.DeleteFunc(rows, func(row []int) bool { return whyNoPrizes(net, row) != "" })
}

// eachPrizes takes prizes of each net, with all its sets of ways.
func eachPrizes(t *testing.T, check func(t *testing.T, net impl.Net, sets []joinedSet, prizes []int)) {
	t.Helper()
	r := rand.New(rand.NewPCG(7, 8))
	eachNet(t, func(t *testing.T, net impl.Net) {
		sets := wantJoined(net)
		for _, prizes := range somePrizes(r, net, sets) {
			check(t, net, sets, prizes)
			if t.Failed() {
				t.Fatalf("prizes: %v", prizes)
			}
		}
	})
}

// eachNoPrizes takes nets with rows that have no prizes of them, and then all that are no nets.
func eachNoPrizes(t *testing.T, check func(t *testing.T, net impl.Net, row []int)) {
	t.Helper()
	eachNet(t, func(t *testing.T, net impl.Net) {
		for _, row := range noPrizes(evenPrizes(net.Nodes, 1, 2)) {
			check(t, net, row)
			if t.Failed() {
				t.Fatalf("row: %v", row)
			}
		}
	})
	eachBadNet(t, func(t *testing.T, net impl.Net) {
		for _, length := range []int{0, 1, 2, 3, impl.MaxNodes, impl.MaxNodes + 1, 64} {
			check(t, net, make([]int, length))
			check(t, net, slices.Repeat([]int{impl.MaxPrize}, length))
		}
	})
}

// noPrizes differ from a row of prizes in one number, or two, or in how many there are.
func noPrizes(row []int) [][]int {
	rows := [][]int{nil, row[:1], row[:len(row)-1], append(slices.Clone(row), 0), slices.Repeat(row, 20)}
	for place := range row {
		for _, number := range []int{-1, math.MinInt, impl.MaxPrize + 1, math.MaxInt} {
			other := slices.Clone(row)
			other[place] = number
			rows = append(rows, other)
		}
		// Together these are as much as the prizes.
		other := slices.Clone(row)
		other[place] += impl.MaxPrize
		other[(place+1)%len(row)] -= impl.MaxPrize
		rows = append(rows, other)
	}
	return rows
}

// Promise 48.

func TestNoPrizesArePrizes(t *testing.T) {
	seen := map[string]int{}
	r := rand.New(rand.NewPCG(9, 10))
	eachNet(t, func(t *testing.T, net impl.Net) {
		if !impl.PrizesOk(net, make([]int, net.Nodes)) {
			t.Error("prizes of 0 are none")
		}
		rows := somePrizes(r, net, wantJoined(net))
		for _, row := range append(rows, noPrizes(rows[len(rows)-1])...) {
			ok, why := impl.PrizesOk(net, row), whyNoPrizes(net, row)
			if ok != (why == "") {
				t.Fatalf("%v are prizes: %v, but %q", row, ok, why)
			}
			behind := slices.Clone(row)
			slices.Reverse(behind)
			if impl.PrizesOk(net, behind) != ok {
				t.Errorf("%v are prizes: %v, and not so the other way round", row, ok)
			}
			seen[why]++
		}
	})
	wantCases(seen, t, "", "too short", "too long", "a prize below 0", "a prize too great")
}

func TestPrizesOkOfSomeRows(t *testing.T) {
	for _, c := range []struct {
		name string
		row  []int
		want bool
	}{
		{"no ways, 2 places", []int{0, 0}, true},
		{"no ways, 2 places", []int{20, 20}, true},
		{"no ways, MaxNodes places", []int{0, 0, 0, 0, 0, 0}, true},
		{"no ways, MaxNodes places", []int{20, 19, 0, 1, 10, 20}, true},
		{"one way", []int{0, 20}, true},
		{"one way", []int{20, 0}, true},
		{"two parts", []int{1, 2, 3, 4, 5}, true},
		{"all greatest costs", []int{20, 20, 20, 20, 20, 20}, true},
		// One too great, or below 0, at each end and within.
		{"one way", []int{21, 0}, false},
		{"one way", []int{0, 21}, false},
		{"one way", []int{-1, 0}, false},
		{"one way", []int{0, -1}, false},
		{"one way", []int{21, -1}, false},
		{"one way", []int{math.MaxInt, math.MinInt}, false},
		{"free round", []int{1, 21, 2, 3}, false},
		{"free round", []int{1, 2, -1, 3}, false},
		{"all greatest costs", []int{20, 20, 20, 20, 20, 21}, false},
		{"all greatest costs", []int{0, 0, 0, 0, 0, -1}, false},
		// Too short and too long.
		{"one way", nil, false},
		{"one way", []int{}, false},
		{"one way", []int{1}, false},
		{"one way", []int{1, 2, 0}, false},
		{"no ways, 2 places", nil, false},
		{"no ways, MaxNodes places", []int{0, 0, 0, 0, 0}, false},
		{"no ways, MaxNodes places", []int{0, 0, 0, 0, 0, 0, 0}, false},
		{"free round", []int{0, 0, 0}, false},
		{"free round", []int{0, 0, 0, 0, 0}, false},
	} {
		if got := impl.PrizesOk(namedNet(t, c.name), c.row); got != c.want {
			t.Errorf("%s, %v: %v", c.name, c.row, got)
		}
	}
}

func TestPrizesOkOfOthers(t *testing.T) {
	eachNoPrizes(t, func(t *testing.T, net impl.Net, row []int) {
		if impl.PrizesOk(net, row) {
			t.Errorf("%v are prizes", row)
		}
	})
}

// Promise 49.

func TestWithoutWaysJustTheOwnPrizeIsGained(t *testing.T) {
	seen := map[string]int{}
	eachPrizes(t, func(t *testing.T, net impl.Net, sets []joinedSet, prizes []int) {
		if gain, ok := impl.GainOf(net, prizes, 0); !ok || gain != prizes[0] {
			t.Errorf("without ways: %d, %v, not %d", gain, ok, prizes[0])
		}
		all, best := paidBy(prizes, allOf(net.Nodes)), impl.BestGain(net, prizes)
		for _, s := range sets {
			gain, ok := impl.GainOf(net, prizes, s.set)
			if want := s.gain(prizes); !ok || gain != want {
				t.Fatalf("set %b: %d, %v, not %d", s.set, gain, ok, want)
			}
			if gain > all || gain > best {
				t.Errorf("set %b: %d, all prizes are %d, and the best gain %d", s.set, gain, all, best)
			}
			seeGain(seen, prizes, s)
		}
	})
	wantCases(seen, t, "no ways", "below 0", "nothing", "less than without ways", "as much", "more", "paid for nothing")
}

func seeGain(seen map[string]int, prizes []int, s joinedSet) {
	switch gain := s.gain(prizes); {
	case s.set == 0:
		seen["no ways"]++
	case s.places == 1 && s.cost > 0:
		seen["paid for nothing"]++
	case gain < 0:
		seen["below 0"]++
	case gain == 0:
		seen["nothing"]++
	case gain < prizes[0]:
		seen["less than without ways"]++
	case gain == prizes[0]:
		seen["as much"]++
	default:
		seen["more"]++
	}
}

func TestGainOfSomeSets(t *testing.T) {
	for _, c := range []struct {
		name      string
		prizes    []int
		set, want int
	}{
		{"no ways, 2 places", []int{7, 20}, 0, 7},
		{"no ways, MaxNodes places", []int{0, 20, 20, 20, 20, 20}, 0, 0},
		{"one way", []int{0, 0}, 0, 0},
		{"one way", []int{3, 8}, 0, 3},
		{"one way", []int{3, 8}, 1, 6},
		{"one way", []int{3, 5}, 1, 3},
		{"one way", []int{3, 4}, 1, 2},
		{"one way", []int{0, 4}, 1, -1},
		{"one way", []int{0, 0}, 1, -5},
		{"one way", []int{20, 20}, 1, 35},
		{"one way of no cost", []int{3, 8}, 1, 11},
		{"one way of no cost", []int{0, 0}, 1, 0},
		// More than one way between the same two places are all paid.
		{"several ways, other order", []int{0, 9}, 0b0010, 8},
		{"several ways, other order", []int{0, 9}, 0b0001, 6},
		{"several ways, other order", []int{0, 9}, 0b1111, 2},
		{"MaxWays ways between two", []int{20, 20}, 0b111111111, -41},
		{"MaxWays free ways", []int{1, 2, 20}, 0b111111111, 3},
		// Ways of no cost: each place once, whatever rounds there are.
		{"free round", []int{1, 2, 3, 4}, 0b0001, 3},
		{"free round", []int{1, 2, 3, 4}, 0b0101, 3},
		{"free round", []int{1, 2, 3, 4}, 0b0111, 10},
		{"free round", []int{1, 2, 3, 4}, 0b1111, 10},
		// What does not hang together with the place 0 is paid for nothing.
		{"two parts", []int{2, 20, 20, 20, 20}, 0b01, -1},
		{"two parts", []int{2, 20, 20, 20, 20}, 0b10, 2},
		{"two parts", []int{2, 20, 20, 20, 20}, 0b11, -1},
		{"three parts", []int{1, 20, 20, 20, 20, 5}, 0b001, -3},
		{"three parts", []int{1, 20, 20, 20, 20, 5}, 0b110, -17},
		{"three parts", []int{1, 20, 20, 20, 20, 5}, 0b111, -21},
		{"place 0 alone", []int{0, 20, 20, 20, 20, 20}, 0b1111, -4},
		{"last place alone", []int{0, 1, 2, 3, 4, 20}, 0b1111, 6},
		{"last place alone", []int{0, 1, 2, 3, 4, 20}, 0b1110, -3},
		{"path cheaper than way", []int{1, 2, 3, 4, 5, 6}, 0b111110, 16},
		{"path cheaper than way", []int{1, 2, 3, 4, 5, 6}, 0b000001, -2},
		{"path cheaper than way", []int{1, 2, 3, 4, 5, 6}, 0b011110, 11},
		{"path cheaper than way", []int{1, 2, 3, 4, 5, 6}, 0b111100, -3},
		{"path cheaper than way", []int{1, 2, 3, 4, 5, 6}, 0b111111, 7},
		// From the place 0 on, not from others.
		{"star", []int{0, 0, 20, 0, 0, 0}, 0b01000, 18},
		{"star", []int{0, 0, 20, 0, 0, 0}, 0b10000, -1},
		{"star", []int{1, 1, 2, 3, 4, 5}, 0b11111, 1},
		{"all greatest costs", []int{20, 20, 20, 20, 20, 20}, 0b000011111, 75},
		{"all greatest costs", []int{20, 20, 20, 20, 20, 20}, 0b111111111, 39},
		{"all greatest costs", []int{0, 0, 0, 0, 0, 0}, 0b111111111, -81},
	} {
		if got, ok := impl.GainOf(namedNet(t, c.name), c.prizes, c.set); !ok || got != c.want {
			t.Errorf("%s, %v, set %b: %d, %v, not %d", c.name, c.prizes, c.set, got, ok, c.want)
		}
	}
}

func TestGainOfOthers(t *testing.T) {
	eachNet(t, func(t *testing.T, net impl.Net) {
		for _, set := range badSets(len(net.Ways)) {
			for _, prizes := range [][]int{make([]int, net.Nodes), evenPrizes(net.Nodes, 20, 3)} {
				if gain, ok := impl.GainOf(net, prizes, set); ok || gain != 0 {
					t.Errorf("set %d, %v: %d, %v", set, prizes, gain, ok)
				}
			}
		}
	})
	eachNoPrizes(t, func(t *testing.T, net impl.Net, row []int) {
		for _, set := range []int{-1, 0, 1, allOf(len(net.Ways)), allOf(len(net.Ways)) + 1} {
			if gain, ok := impl.GainOf(net, row, set); ok || gain != 0 {
				t.Errorf("set %d, %v: %d, %v", set, row, gain, ok)
			}
		}
	})
}

// Promise 50.

func TestTheMostIsGainedByRoots(t *testing.T) {
	seen := map[string]int{}
	eachPrizes(t, func(t *testing.T, net impl.Net, sets []joinedSet, prizes []int) {
		best := impl.BestGain(net, prizes)
		if want := wantBest(sets, prizes).gain(prizes); best != want {
			t.Fatalf("%d, not %d", best, want)
		}
		byEnds := math.MinInt
		for _, ends := range gainsOfEnds(net, prizes) {
			if ends.ok {
				byEnds = max(byEnds, ends.gain)
			}
		}
		if best != byEnds || best < prizes[0] {
			t.Errorf("%d, by ends %d, and the prize of the place 0 is %d", best, byEnds, prizes[0])
		}
		switch {
		case best == 0:
			seen["nothing"]++
		case best == prizes[0]:
			seen["the prize of the place 0"]++
		case best == paidBy(prizes, allOf(net.Nodes)):
			seen["all prizes"]++
		default:
			seen["some more"]++
		}
	})
	wantCases(seen, t, "nothing", "the prize of the place 0", "all prizes", "some more")
}

// someBest have the greatest gain, and the set of ways that gains it.
var someBest = []struct {
	name       string
	prizes     []int
	gain, ways int
}{
	// Nets without ways.
	{"no ways, 2 places", []int{0, 0}, 0, 0},
	{"no ways, 2 places", []int{7, 20}, 7, 0},
	{"no ways, MaxNodes places", []int{0, 20, 20, 20, 20, 20}, 0, 0},
	{"no ways, MaxNodes places", []int{20, 20, 20, 20, 20, 20}, 20, 0},
	// Prizes that just pay for the ways, one less, and one more.
	{"one way", []int{0, 4}, 0, 0},
	{"one way", []int{0, 5}, 0, 0},
	{"one way", []int{0, 6}, 1, 1},
	{"one way", []int{2, 4}, 2, 0},
	{"one way", []int{2, 5}, 2, 0},
	{"one way", []int{2, 6}, 3, 1},
	{"long path, ways from behind", []int{0, 0, 18, 0, 0, 0}, 0, 0},
	{"long path, ways from behind", []int{0, 0, 19, 0, 0, 0}, 1, 0b11000},
	{"long path, ways from behind", []int{0, 9, 9, 9, 9, 9}, 0, 0},
	{"long path, ways from behind", []int{0, 9, 9, 9, 9, 10}, 1, 0b11111},
	{"long path, ways from behind", []int{0, 10, 8, 9, 9, 9}, 1, 0b10000},
	{"long path, ways from behind", []int{0, 10, 8, 9, 9, 10}, 1, 0b10000},
	{"long path, ways from behind", []int{0, 8, 10, 9, 8, 11}, 1, 0b11111},
	{"path cheaper than way", []int{0, 0, 0, 0, 0, 5}, 0, 0},
	{"path cheaper than way", []int{0, 0, 0, 0, 0, 6}, 1, 0b111110},
	{"path cheaper than way", []int{0, 1, 1, 1, 1, 1}, 0, 0},
	{"path cheaper than way", []int{0, 2, 0, 2, 1, 1}, 1, 0b000010},
	{"path cheaper than way", []int{0, 2, 0, 3, 0, 0}, 2, 0b001110},
	{"star", []int{0, 1, 2, 3, 4, 5}, 0, 0},
	{"star", []int{0, 0, 1, 2, 3, 4}, 0, 0},
	{"star", []int{0, 2, 3, 4, 5, 6}, 5, 0b11111},
	{"star", []int{0, 2, 2, 4, 4, 6}, 3, 0b10101},
	{"star", []int{9, 1, 3, 0, 20, 5}, 26, 0b01010},
	{"all greatest costs", []int{9, 9, 9, 9, 9, 9}, 9, 0},
	{"all greatest costs", []int{10, 10, 10, 10, 10, 10}, 15, 0b000011111},
	{"all greatest costs", []int{20, 20, 20, 20, 20, 20}, 75, 0b000011111},
	{"all greatest costs", []int{0, 20, 0, 0, 20, 0}, 22, 0b010000001},
	// Prizes of nothing: for all, for the place 0 alone, and for all others.
	{"one way", []int{0, 0}, 0, 0},
	{"one way", []int{0, 20}, 15, 1},
	{"one way", []int{20, 0}, 20, 0},
	{"one way of no cost", []int{0, 0}, 0, 0},
	{"one way of no cost", []int{0, 1}, 1, 1},
	{"one way of no cost", []int{1, 0}, 1, 0},
	{"MaxWays free ways", []int{0, 0, 0}, 0, 0},
	{"all greatest costs", []int{0, 0, 0, 0, 0, 0}, 0, 0},
	{"all greatest costs", []int{0, 20, 20, 20, 20, 20}, 55, 0b000011111},
	{"all greatest costs", []int{20, 0, 0, 0, 0, 0}, 20, 0},
	{"mesh of MaxWays ways", []int{0, 0, 0, 0, 0, 0}, 0, 0},
	{"mesh of MaxWays ways", []int{1, 0, 0, 0, 0, 0}, 1, 0},
	// Ways of no cost, and just those that lead to prizes.
	{"free round", []int{0, 1, 0, 0}, 1, 0b0001},
	{"free round", []int{0, 0, 1, 0}, 1, 0b0011},
	{"free round", []int{0, 0, 0, 1}, 1, 0b1000},
	{"free round", []int{1, 1, 0, 1}, 3, 0b1001},
	{"free round", []int{1, 1, 1, 1}, 4, 0b0111},
	{"free round", []int{0, 0, 0, 0}, 0, 0},
	{"free detour", []int{0, 0, 3}, 3, 0b001},
	{"free detour", []int{0, 3, 0}, 3, 0b010},
	{"free detour", []int{0, 3, 3}, 6, 0b011},
	{"free detour of two", []int{0, 0, 0, 1}, 0, 0},
	{"free detour of two", []int{0, 0, 0, 2}, 1, 0b0001},
	{"free detour of two", []int{0, 0, 1, 1}, 1, 0b1001},
	{"free detour of two", []int{0, 1, 1, 1}, 2, 0b1011},
	{"free way before a dear one", []int{0, 0, 5}, 0, 0},
	{"free way before a dear one", []int{0, 1, 5}, 1, 0b01},
	{"free way before a dear one", []int{0, 0, 6}, 1, 0b11},
	{"dear way before a free one", []int{0, 3, 2}, 0, 0},
	{"dear way before a free one", []int{0, 3, 3}, 1, 0b11},
	{"dear way before a free one", []int{0, 0, 6}, 1, 0b01},
	// The same gain: fewer ways, though of a greater number, and then the least number.
	{"equal costs, fewer ways", []int{0, 0, 5}, 3, 0b100},
	{"equal costs, fewer ways", []int{0, 1, 5}, 4, 0b011},
	{"equal costs, fewer ways", []int{0, 2, 1}, 1, 0b001},
	{"equal costs, as many ways", []int{0, 0, 0, 9}, 5, 0b0101},
	{"equal costs, as many ways", []int{0, 1, 1, 9}, 6, 0b0101},
	{"equal costs, as many ways", []int{0, 1, 2, 9}, 7, 0b1010},
	{"equal costs, as many ways", []int{0, 9, 9, 9}, 21, 0b0111},
	{"equal costs, last ways over the first place", []int{0, 0, 0, 9}, 5, 0b0011},
	{"equal ways", []int{0, 9, 9}, 14, 0b0011},
	{"several ways, other order", []int{0, 9}, 8, 0b0010},
	{"several ways, other order", []int{0, 1}, 0, 0},
	{"MaxWays ways between two", []int{0, 10}, 1, 1},
	{"MaxWays free ways", []int{0, 1, 20}, 1, 1},
	// A hub without a prize, for one place, and for more.
	{"hub of three", []int{0, 4, 0, 0}, 1, 0b01000},
	{"hub of three", []int{0, 4, 4, 0}, 2, 0b11000},
	{"hub of three", []int{0, 4, 4, 1}, 3, 0b00111},
	{"hub of three", []int{0, 0, 5, 0}, 1, 0b00101},
	{"two hubs", []int{0, 0, 3, 3, 0, 0}, 2, 0b000011101},
	{"two hubs", []int{0, 0, 4, 0, 0, 0}, 1, 0b010000000},
	{"two hubs", []int{0, 3, 3, 3, 0, 0}, 4, 0b000011111},
	{"two hubs, and a way past one", []int{0, 2, 2, 0, 0, 0}, 0, 0},
	{"two hubs, and a way past one", []int{0, 3, 2, 0, 0, 1}, 1, 0b011110},
	// Places that no way joins with the place 0, with great prizes.
	{"place 0 alone", []int{3, 20, 20, 20, 20, 20}, 3, 0},
	{"place 0 alone", []int{0, 20, 20, 20, 20, 20}, 0, 0},
	{"last place alone", []int{0, 0, 0, 0, 0, 20}, 0, 0},
	{"last place alone", []int{0, 0, 0, 0, 5, 20}, 1, 0b1111},
	{"two parts", []int{1, 20, 20, 20, 20}, 1, 0},
	{"three parts", []int{0, 20, 20, 20, 20, 20}, 11, 0b001},
	{"three parts", []int{0, 20, 20, 20, 20, 9}, 0, 0},
	{"MaxWays free ways", []int{0, 0, 20}, 0, 0},
	{"round beside a way", []int{0, 2, 2, 20, 20}, 2, 0b00011},
	{"double way beside a way", []int{0, 2, 20, 20}, 1, 0b0001},
	// MaxNodes places and MaxWays ways.
	{"two threes, all ways between", []int{20, 20, 20, 20, 20, 20}, 103, 0b111100100},
	{"two threes, all ways between", []int{0, 0, 6, 0, 0, 0}, 0, 0},
	{"two threes, all ways between", []int{0, 0, 7, 0, 0, 3}, 2, 0b100000100},
	{"mesh of MaxWays ways", []int{1, 2, 3, 4, 5, 6}, 14, 0b010110101},
	{"mesh of MaxWays ways", []int{0, 0, 0, 0, 0, 6}, 0, 0},
	{"mesh of MaxWays ways", []int{0, 0, 0, 0, 0, 7}, 1, 0b010110010},
}

func TestBestGainOfSomePrizes(t *testing.T) {
	for _, c := range someBest {
		if got := impl.BestGain(namedNet(t, c.name), c.prizes); got != c.gain {
			t.Errorf("%s, %v: %d, not %d", c.name, c.prizes, got, c.gain)
		}
	}
}

func TestBestGainOfOthers(t *testing.T) {
	eachNoPrizes(t, func(t *testing.T, net impl.Net, row []int) {
		if got := impl.BestGain(net, row); got != -1 {
			t.Errorf("%v: %d", row, got)
		}
	})
}

// Promise 51.

func TestBestSetsAreRootsOfWhatTheyJoin(t *testing.T) {
	seen := map[string]int{}
	eachPrizes(t, func(t *testing.T, net impl.Net, sets []joinedSet, prizes []int) {
		best, want := impl.BestWays(net, prizes), wantBest(sets, prizes)
		if best != want.set {
			t.Fatalf("%b, not %b", best, want.set)
		}
		if gain, ok := impl.GainOf(net, prizes, best); !ok || gain != impl.BestGain(net, prizes) {
			t.Errorf("%b gains %d, %v, not %d", best, gain, ok, impl.BestGain(net, prizes))
		}
		places := impl.ReachOf(net, best, 0)
		if cost := impl.CostOf(net, best); !impl.TreeOk(net, best) || cost != impl.RootCost(net, places) {
			t.Errorf("%b is no tree, or costs %d, and a root of %b %d", best, cost, places, impl.RootCost(net, places))
		}
		for _, s := range sets {
			if s.set != best && s.gain(prizes) == want.gain(prizes) {
				seeEqual(seen, s, want)
			}
		}
	})
	wantCases(seen, t, "more ways, greater number", "more ways, lesser number", "as many ways")
}

func seeEqual(seen map[string]int, other, best joinedSet) {
	switch {
	case size(other.set) == size(best.set):
		seen["as many ways"]++
	case other.set < best.set:
		seen["more ways, lesser number"]++
	default:
		seen["more ways, greater number"]++
	}
}

func TestBestWaysOfSomePrizes(t *testing.T) {
	for _, c := range someBest {
		if got := impl.BestWays(namedNet(t, c.name), c.prizes); got != c.ways {
			t.Errorf("%s, %v: %b, not %b", c.name, c.prizes, got, c.ways)
		}
	}
}

func TestBestWaysOfOthers(t *testing.T) {
	eachNoPrizes(t, func(t *testing.T, net impl.Net, row []int) {
		if got := impl.BestWays(net, row); got != -1 {
			t.Errorf("%v: %d", row, got)
		}
	})
}

// Promise 52.

func TestEndsGainNoMoreThanTheBest(t *testing.T) {
	seen := map[string]int{}
	r := rand.New(rand.NewPCG(11, 12))
	eachNet(t, func(t *testing.T, net impl.Net) {
		costs := wantRootsFromSource(net)
		for _, prizes := range somePrizes(r, net, wantJoined(net)) {
			best, gains := impl.BestGain(net, prizes), gainsOfEnds(net, prizes)
			if none := (endsGain{prizes[0], true}); gains[0] != none {
				t.Fatalf("%v, no ends: %v", prizes, gains[0])
			}
			for ends, got := range gains {
				if want := wantEndsGain(prizes, ends, costs[ends]); got != want {
					t.Fatalf("%v, ends %b: %v, not %v", prizes, ends, got, want)
				}
				if with := gains[ends|1]; with != got || got.ok && got.gain > best {
					t.Errorf("%v, ends %b: %v, with the place 0 %v, and the best gain is %d", prizes, ends, got, with, best)
				}
				seeEnds(seen, ends, got, best)
			}
		}
	})
	wantCases(seen, t, "no ends", "no root", "below 0", "less than the best", "the best")
}

// wantEndsGain counts the prize of the place 0 once, whether it is an end or not.
func wantEndsGain(prizes []int, ends, cost int) endsGain {
	if cost < 0 {
		return endsGain{}
	}
	gain := prizes[0] - cost
	for place := 1; place < len(prizes); place++ {
		if has(ends, place) {
			gain += prizes[place]
		}
	}
	return endsGain{gain, true}
}

func seeEnds(seen map[string]int, ends int, got endsGain, best int) {
	switch {
	case ends == 0:
		seen["no ends"]++
	case !got.ok:
		seen["no root"]++
	case got.gain < 0:
		seen["below 0"]++
	case got.gain < best:
		seen["less than the best"]++
	default:
		seen["the best"]++
	}
}

func TestEndsGainOfSomeEnds(t *testing.T) {
	for _, c := range []struct {
		name       string
		prizes     []int
		ends, want int
		ok         bool
	}{
		// No ends, and the place 0 alone.
		{"no ways, 2 places", []int{7, 20}, 0, 7, true},
		{"no ways, 2 places", []int{7, 20}, 0b01, 7, true},
		{"no ways, MaxNodes places", []int{0, 20, 20, 20, 20, 20}, 0, 0, true},
		{"all greatest costs", []int{20, 1, 1, 1, 1, 1}, 0, 20, true},
		{"place 0 alone", []int{3, 20, 20, 20, 20, 20}, 0, 3, true},
		{"place 0 alone", []int{3, 20, 20, 20, 20, 20}, 0b000001, 3, true},
		// There is no root with the place 0, though there may be one of the ends.
		{"no ways, 2 places", []int{7, 20}, 0b10, 0, false},
		{"no ways, 2 places", []int{7, 20}, 0b11, 0, false},
		{"no ways, MaxNodes places", []int{20, 20, 20, 20, 20, 20}, 0b100000, 0, false},
		{"place 0 alone", []int{3, 20, 20, 20, 20, 20}, 0b000010, 0, false},
		{"place 0 alone", []int{3, 20, 20, 20, 20, 20}, 0b111110, 0, false},
		{"last place alone", []int{3, 20, 20, 20, 20, 20}, 0b100000, 0, false},
		{"last place alone", []int{3, 20, 20, 20, 20, 20}, 0b111111, 0, false},
		{"two parts", []int{1, 20, 20, 20, 20}, 0b10100, 0, false},
		{"MaxWays free ways", []int{1, 2, 3}, 0b100, 0, false},
		{"last place alone", []int{3, 20, 20, 20, 20, 20}, 0b011110, 79, true},
		{"MaxWays free ways", []int{1, 2, 3}, 0b010, 3, true},
		// With and without the place 0.
		{"one way", []int{3, 8}, 0b10, 6, true},
		{"one way", []int{3, 8}, 0b11, 6, true},
		{"one way", []int{3, 2}, 0b10, 0, true},
		{"one way", []int{0, 0}, 0b10, -5, true},
		{"one way", []int{0, 0}, 0b11, -5, true},
		{"one way of no cost", []int{3, 8}, 0b10, 11, true},
		// Places that the root goes through, and that are no ends, have no prize.
		{"path cheaper than way", []int{1, 2, 3, 4, 5, 6}, 0b100000, 2, true},
		{"path cheaper than way", []int{1, 2, 3, 4, 5, 6}, 0b110000, 7, true},
		{"path cheaper than way", []int{1, 2, 3, 4, 5, 6}, 0b111111, 16, true},
		{"hub of three", []int{0, 4, 4, 9}, 0b0110, 2, true},
		{"hub of three", []int{0, 4, 4, 9}, 0b1110, 11, true},
		{"two hubs", []int{0, 3, 3, 3, 9, 9}, 0b001110, 4, true},
		{"two hubs", []int{0, 3, 3, 3, 9, 9}, 0b111110, 22, true},
		// All places.
		{"free round", []int{1, 2, 3, 4}, 0b1111, 10, true},
		{"all greatest costs", []int{20, 20, 20, 20, 20, 20}, 0b111111, 75, true},
		{"all greatest costs", []int{0, 0, 0, 0, 0, 0}, 0b111111, -45, true},
		{"mesh of MaxWays ways", []int{1, 2, 3, 4, 5, 6}, 0b111111, 14, true},
		{"mesh of MaxWays ways", []int{1, 2, 3, 4, 5, 6}, 0b100000, 1, true},
	} {
		if got, ok := impl.EndsGain(namedNet(t, c.name), c.prizes, c.ends); ok != c.ok || got != c.want {
			t.Errorf("%s, %v, ends %b: %d, %v, not %d, %v", c.name, c.prizes, c.ends, got, ok, c.want, c.ok)
		}
	}
}

func TestEndsGainOfOthers(t *testing.T) {
	eachNet(t, func(t *testing.T, net impl.Net) {
		for _, ends := range badSets(net.Nodes) {
			if gain, ok := impl.EndsGain(net, evenPrizes(net.Nodes, 20, 20), ends); ok || gain != 0 {
				t.Errorf("ends %d: %d, %v", ends, gain, ok)
			}
		}
	})
	eachNoPrizes(t, func(t *testing.T, net impl.Net, row []int) {
		for _, ends := range []int{-1, 0, 1, 3, allOf(impl.MaxNodes), allOf(impl.MaxNodes) + 1} {
			if gain, ok := impl.EndsGain(net, row, ends); ok || gain != 0 {
				t.Errorf("ends %d, %v: %d, %v", ends, row, gain, ok)
			}
		}
	})
}

// Promise 53.

func TestAGreaterPrizeGainsAtMostAsMuchMore(t *testing.T) {
	seen := map[string]int{}
	eachPrizes(t, func(t *testing.T, net impl.Net, _ []joinedSet, prizes []int) {
		if gain := impl.BestGain(net, make([]int, net.Nodes)); gain != 0 {
			t.Errorf("no prizes: %d", gain)
		}
		greater := slices.Clone(prizes)
		greater[len(greater)-1]++
		best, more := impl.BestGain(net, prizes), impl.BestGain(net, greater)
		switch {
		case prizes[len(prizes)-1] == impl.MaxPrize && more != -1:
			t.Errorf("a prize past MaxPrize: %d", more)
		case prizes[len(prizes)-1] == impl.MaxPrize:
			seen["that may not be"]++
		case more != best && more != best+1:
			t.Errorf("%d, and with one more %d", best, more)
		case more == best:
			seen["as before"]++
		default:
			seen["one more"]++
		}
	})
	wantCases(seen, t, "that may not be", "as before", "one more")
}
