package impl

import "math/bits"

// MaxNodes is the maximum number of places of a net, MaxWays that of ways, and MaxCost that of the cost of a way.
const (
	MaxNodes = 6
	MaxWays  = 9
	MaxCost  = 9
)

// Way is between two places (A, B), at a cost (Cost).
type Way struct {
	A    int
	B    int
	Cost int
}

// Net has a number of places (Nodes), and ways (Ways).
type Net struct {
	Nodes int
	Ways  []Way
}

// NetOk reports whether a net has 2..MaxNodes places, and at most MaxWays ways, each between two different places, from 0 on, at a cost in 0..MaxCost; several ways may be between the same two.
func NetOk(net Net) bool {
	if net.Nodes < 2 || net.Nodes > MaxNodes || len(net.Ways) > MaxWays {
		return false
	}
	for _, way := range net.Ways {
		if !wayOk(net, way) {
			return false
		}
	}
	return true
}

// CostOf returns the costs of all ways of a set together (NetOk), told by a number to which each of them adds 1 for the way 0, 2 for 1, and so on, each next one twice as much, from 0 on, and less than 2 to the power of the number of ways; -1 for others.
func CostOf(net Net, set int) int {
	if !waysOk(net, set) {
		return -1
	}
	return setCost(net, set)
}

// ReachOf returns the set of all places to which one comes from a place, from 0 on, by ways of a set (NetOk, CostOf), itself among them, told as sets of ways are; -1 for others.
func ReachOf(net Net, set int, place int) int {
	if !waysOk(net, set) || !hasPlace(net, place) {
		return -1
	}
	return setReach(net, set, place)
}

// JoinsEnds reports whether one comes from each place of a set of places, its ends, to each other one by ways of a set (NetOk, ReachOf); false for others.
func JoinsEnds(net Net, set int, ends int) bool {
	if !waysOk(net, set) || !hasPlaces(net, ends) {
		return false
	}
	return setJoins(net, set, ends)
}

// NodesOf returns the set of all places that are A or B of a way of a set (NetOk, CostOf), told as sets of ways are; -1 for others.
func NodesOf(net Net, set int) int {
	if !waysOk(net, set) {
		return -1
	}
	places := 0
	for i, way := range net.Ways {
		if inSet(set, i) {
			places |= wayPlaces(way)
		}
	}
	return places
}

// FarTable returns for each place of a net a row that has for each place the least cost of a set of ways that joins both (NetOk, JoinsEnds), 0 for the place itself, and -1 if none does; nil for others.
func FarTable(net Net) [][]int {
	if !NetOk(net) {
		return nil
	}
	table := nextTable(net)
	for over := range net.Nodes {
		for from := range net.Nodes {
			for to := range net.Nodes {
				shorten(table, from, over, to)
			}
		}
	}
	return table
}

// PathOf returns the set of ways that joins two places of a net, from 0 on, with the least cost, of those with the fewest ways, and of these with the least number (NetOk, JoinsEnds): no ways for the same place twice; -1 if none does, and for others.
func PathOf(net Net, a int, b int) int {
	if !NetOk(net) || !hasPlace(net, a) || !hasPlace(net, b) {
		return -1
	}
	return leastJoining(net, 1<<a|1<<b)
}

// PartsOf returns for each place of a net the least place to which one comes from it by all ways (NetOk, ReachOf); nil for others.
func PartsOf(net Net) []int {
	if !NetOk(net) {
		return nil
	}
	row := make([]int, net.Nodes)
	for place := range row {
		row[place] = bits.TrailingZeros(uint(setReach(net, allWays(net), place)))
	}
	return row
}

func wayOk(net Net, way Way) bool {
	return hasPlace(net, way.A) && hasPlace(net, way.B) && way.A != way.B &&
		way.Cost >= 0 && way.Cost <= MaxCost
}

func hasPlace(net Net, place int) bool {
	return place >= 0 && place < net.Nodes
}

// hasPlaces is asked only of nets that are ok: with more places the shift could overflow.
func hasPlaces(net Net, places int) bool {
	return places >= 0 && places < 1<<net.Nodes
}

func waysOk(net Net, set int) bool {
	return NetOk(net) && set >= 0 && set <= allWays(net)
}

func allWays(net Net) int {
	return 1<<len(net.Ways) - 1
}

func inSet(set int, number int) bool {
	return set>>number&1 == 1
}

func wayPlaces(way Way) int {
	return 1<<way.A | 1<<way.B
}

func setCost(net Net, set int) int {
	cost := 0
	for i, way := range net.Ways {
		if inSet(set, i) {
			cost += way.Cost
		}
	}
	return cost
}

func setReach(net Net, set int, place int) int {
	reached := 1 << place
	for {
		further := wave(net, set, reached)
		if further == reached {
			return reached
		}
		reached = further
	}
}

func wave(net Net, set int, reached int) int {
	for i, way := range net.Ways {
		if inSet(set, i) && wayPlaces(way)&reached != 0 {
			reached |= wayPlaces(way)
		}
	}
	return reached
}

// setJoins asks one end alone: ways lead back, so who comes from it to all ends comes from each of them to all.
func setJoins(net Net, set int, ends int) bool {
	if ends == 0 {
		return true
	}
	first := bits.TrailingZeros(uint(ends))
	return ends&^setReach(net, set, first) == 0
}

func nextTable(net Net) [][]int {
	table := make([][]int, net.Nodes)
	for from := range table {
		table[from] = make([]int, net.Nodes)
		for to := range table[from] {
			if to != from {
				table[from][to] = -1
			}
		}
	}
	for _, way := range net.Ways {
		lower(table, way.A, way.B, way.Cost)
		lower(table, way.B, way.A, way.Cost)
	}
	return table
}

func lower(table [][]int, from int, to int, cost int) {
	if table[from][to] < 0 || cost < table[from][to] {
		table[from][to] = cost
	}
}

func shorten(table [][]int, from int, over int, to int) {
	if table[from][over] >= 0 && table[over][to] >= 0 {
		lower(table, from, to, table[from][over]+table[over][to])
	}
}

// leastJoining goes up through the numbers of sets, so of equally good ones the least number stays.
func leastJoining(net Net, ends int) int {
	best := -1
	for set := range allWays(net) + 1 {
		if (best < 0 || cheaper(net, set, best)) && setJoins(net, set, ends) {
			best = set
		}
	}
	return best
}

func cheaper(net Net, set int, than int) bool {
	cost, thanCost := setCost(net, set), setCost(net, than)
	if cost != thanCost {
		return cost < thanCost
	}
	return bits.OnesCount(uint(set)) < bits.OnesCount(uint(than))
}
