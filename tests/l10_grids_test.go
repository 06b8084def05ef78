package tests

import (
	"fmt"
	"math"
	"math/rand/v2"
	"slices"
	"strconv"
	"strings"
	"testing"

	"loop.example/fieldroots/impl"
)

func point(row, column int) impl.Point { return impl.Point{Row: row, Column: column} }

// pointsIn reads points with spaces between them: "0,0 4,2 -1,5".
func pointsIn(text string) []impl.Point {
	var points []impl.Point
	for _, word := range strings.Fields(text) {
		row, column, _ := strings.Cut(word, ",")
		points = append(points, point(numberIn(row), numberIn(column)))
	}
	return points
}

func numberIn(text string) int {
	number, err := strconv.Atoi(text)
	if err != nil {
		panic(err)
	}
	return number
}

// crossed has rows and columns exchanged.
func crossed(points []impl.Point) []impl.Point {
	var other []impl.Point
	for _, p := range points {
		other = append(other, point(p.Column, p.Row))
	}
	return other
}

// stepTable has for each row and column how many steps to the next place lead there.
type stepTable [impl.MaxPlace + 1][impl.MaxPlace + 1]int

func (table *stepTable) has(at impl.Point) bool {
	return at.Row >= 0 && at.Row < len(table) && at.Column >= 0 && at.Column < len(table)
}

// stepsFrom goes from place to place, and counts.
func stepsFrom(from impl.Point) *stepTable {
	var table stepTable
	for row := range table {
		for column := range table[row] {
			table[row][column] = -1
		}
	}
	table[from.Row][from.Column] = 0
	for wave := []impl.Point{from}; len(wave) > 0; wave = wave[1:] {
		at := wave[0]
		for _, step := range []impl.Point{point(-1, 0), point(1, 0), point(0, -1), point(0, 1)} {
			next := point(at.Row+step.Row, at.Column+step.Column)
			if table.has(next) && table[next.Row][next.Column] < 0 {
				table[next.Row][next.Column] = table[at.Row][at.Column] + 1
				wave = append(wave, next)
			}
		}
	}
	return &table
}

// walked are points with the steps from each of them, and the steps from all of them together.
type walked struct {
	points []impl.Point
	steps  []*stepTable
	sums   stepTable
}

func walkedOf(points []impl.Point) *walked {
	list := &walked{points: points}
	for _, p := range points {
		steps := stepsFrom(p)
		list.steps = append(list.steps, steps)
		for row := range steps {
			for column := range steps[row] {
				list.sums[row][column] += steps[row][column]
			}
		}
	}
	return list
}

func (list *walked) far(a, b int) int {
	to := list.points[b]
	return list.steps[a][to.Row][to.Column]
}

func (list *walked) sum(at impl.Point) int { return list.sums[at.Row][at.Column] }

// cheapest are all places from which the points are least far together.
func (list *walked) cheapest() []impl.Point {
	var best []impl.Point
	for _, at := range allPoints() {
		if len(best) > 0 && list.sum(at) < list.sum(best[0]) {
			best = nil
		}
		if len(best) == 0 || list.sum(at) == list.sum(best[0]) {
			best = append(best, at)
		}
	}
	return best
}

func allPoints() []impl.Point {
	var points []impl.Point
	for row := range impl.MaxPlace + 1 {
		for column := range impl.MaxPlace + 1 {
			points = append(points, point(row, column))
		}
	}
	return points
}

// linesBetween counts the steps from a row to the next one, or from a column to the next one, that have points on both sides.
func linesBetween(points []impl.Point) int {
	lines := 0
	for line := range impl.MaxPlace {
		above := func(p impl.Point) bool { return p.Row <= line }
		before := func(p impl.Point) bool { return p.Column <= line }
		for _, side := range []func(impl.Point) bool{above, before} {
			other := func(p impl.Point) bool { return !side(p) }
			if slices.ContainsFunc(points, side) && slices.ContainsFunc(points, other) {
				lines++
			}
		}
	}
	return lines
}

// whyNoPoints tells why a list has no points, and nothing if it has.
func whyNoPoints(points []impl.Point) string {
	if len(points) == 0 {
		return "none"
	}
	if len(points) > impl.MaxPoints {
		return "too many"
	}
	for _, p := range points {
		switch {
		case p.Row < 0:
			return "row below 0"
		case p.Row > impl.MaxPlace:
			return "row past the end"
		case p.Column < 0:
			return "column below 0"
		case p.Column > impl.MaxPlace:
			return "column past the end"
		}
	}
	return ""
}

func drawnPoint(r *rand.Rand, top int) impl.Point { return point(r.IntN(top+1), r.IntN(top+1)) }

func drawnPoints(r *rand.Rand, top, count int) []impl.Point {
	var points []impl.Point
	for range count {
		points = append(points, drawnPoint(r, top))
	}
	return points
}

// cornerPoints are all in corners of one box.
func cornerPoints(r *rand.Rand, count int) []impl.Point {
	a, b := drawnPoint(r, impl.MaxPlace), drawnPoint(r, impl.MaxPlace)
	corners := []impl.Point{a, b, point(a.Row, b.Column), point(b.Row, a.Column)}
	var points []impl.Point
	for i := range count {
		points = append(points, corners[(i+r.IntN(2))%len(corners)])
	}
	return points
}

// rowPoints are all in one row.
func rowPoints(r *rand.Rand, count int) []impl.Point {
	points := drawnPoints(r, impl.MaxPlace, count)
	for i := range points {
		points[i].Row = points[0].Row
	}
	return points
}

// endPoints have rows and columns of 0 and MaxPlace alone.
func endPoints(r *rand.Rand, count int) []impl.Point {
	points := drawnPoints(r, 1, count)
	for i, p := range points {
		points[i] = point(p.Row*impl.MaxPlace, p.Column*impl.MaxPlace)
	}
	return points
}

func somePoints() [][]impl.Point {
	r := rand.New(rand.NewPCG(17, 18))
	var lists [][]impl.Point
	for count := 1; count <= impl.MaxPoints; count++ {
		for range 15 {
			row := rowPoints(r, count)
			lists = append(lists, drawnPoints(r, 1, count), drawnPoints(r, 4, count), drawnPoints(r, impl.MaxPlace, count),
				slices.Repeat(drawnPoints(r, impl.MaxPlace, 1), count), row, crossed(row), cornerPoints(r, count), endPoints(r, count))
		}
	}
	return lists
}

func eachPoints(t *testing.T, check func(t *testing.T, list *walked)) {
	t.Helper()
	for _, points := range somePoints() {
		check(t, walkedOf(points))
		if t.Failed() {
			t.Fatalf("points: %v", points)
		}
	}
}

// badLines are no rows and no columns.
func badLines() []int {
	return []int{-1, -2, -impl.MaxPlace, math.MinInt, impl.MaxPlace + 1, impl.MaxPlace + 2, 1 << 32, math.MaxInt}
}

// noPoints are none, too many, or differ from points in one row or column.
func noPoints() [][]impl.Point {
	good := pointsIn("0,0 20,20 0,20 20,0 3,4 3,4")
	lists := [][]impl.Point{nil, {}, append(slices.Clone(good), point(0, 0)), slices.Repeat(good, 2), slices.Repeat(good[:1], impl.MaxPoints+1)}
	for count := 1; count <= len(good); count++ {
		for i := range count {
			for _, line := range badLines() {
				row, column := slices.Clone(good[:count]), slices.Clone(good[:count])
				row[i].Row, column[i].Column = line, line
				lists = append(lists, row, column)
			}
		}
	}
	return lists
}

func eachNoPoints(t *testing.T, check func(t *testing.T, points []impl.Point)) {
	t.Helper()
	for _, points := range noPoints() {
		check(t, points)
		if t.Failed() {
			t.Fatalf("points: %v", points)
		}
	}
}

// Promise 60.

func TestOnePointIsEnough(t *testing.T) {
	if !impl.PointsOk([]impl.Point{{}}) {
		t.Error("the point in the row and the column 0 is one")
	}
	seen := map[string]int{}
	for _, points := range append(somePoints(), noPoints()...) {
		ok, why := impl.PointsOk(points), whyNoPoints(points)
		if ok != (why == "") {
			t.Fatalf("%v are points: %v, but %q", points, ok, why)
		}
		if impl.PointsOk(crossed(points)) != ok {
			t.Errorf("%v are points: %v, and not so with rows and columns exchanged", points, ok)
		}
		seen[why]++
	}
	wantCases(seen, t, "", "none", "too many", "row below 0", "row past the end", "column below 0", "column past the end")
}

func TestPointsOkOfEachPoint(t *testing.T) {
	for row := -3; row <= impl.MaxPlace+3; row++ {
		for column := -3; column <= impl.MaxPlace+3; column++ {
			want := row >= 0 && row <= 20 && column >= 0 && column <= 20
			if got := impl.PointsOk([]impl.Point{point(row, column)}); got != want {
				t.Errorf("%d,%d: %v", row, column, got)
			}
		}
	}
}

func TestPointsOkOfSomeLists(t *testing.T) {
	for _, c := range []struct {
		points string
		want   bool
	}{
		{"", false},
		{"0,0", true},
		{"7,3", true},
		{"0,20", true},
		{"20,0", true},
		{"20,20", true},
		{"5,5 5,5", true},
		{"1,2 3,4 5,6 7,8 9,10", true},
		{"1,2 3,4 5,6 7,8 9,10 11,12", true},
		{"0,0 0,0 0,0 0,0 0,0 0,0", true},
		{"0,0 0,0 0,0 0,0 0,0 0,0 0,0", false},
		{"1,2 3,4 5,6 7,8 9,10 11,12 13,14", false},
		{"-1,0", false},
		{"0,-1", false},
		{"21,0", false},
		{"0,21", false},
		{"-1,-1", false},
		{"21,21", false},
		{"-1,21", false},
		{"-1,0 0,0", false},
		{"0,0 0,-1", false},
		{"21,20 20,20", false},
		{"20,20 20,21", false},
		{"0,0 1,1 -1,2 3,3", false},
		{"1,2 3,4 5,6 7,8 9,10 11,21", false},
		{"1,2 3,4 5,6 7,8 9,10 -1,12", false},
	} {
		if got := impl.PointsOk(pointsIn(c.points)); got != c.want {
			t.Errorf("%q: %v", c.points, got)
		}
	}
}

// Promise 61.

func TestNoDetourOverAPointIsShorter(t *testing.T) {
	seen := map[string]int{}
	eachPoints(t, func(t *testing.T, list *walked) {
		half := impl.HalfRound(list.points)
		for a, from := range list.points {
			for b, to := range list.points {
				far := impl.PointsFar(list.points, a, b)
				if far != list.far(a, b) || far != impl.PointsFar(list.points, b, a) {
					t.Fatalf("from %d to %d: %d, not %d, and back %d", a, b, far, list.far(a, b), impl.PointsFar(list.points, b, a))
				}
				if (far == 0) != (from == to) || far > half {
					t.Errorf("from %d to %d: %d, and half round %d", a, b, far, half)
				}
				seeFar(seen, from, to, a == b, far == half)
				for c := range list.points {
					over := impl.PointsFar(list.points, a, c) + impl.PointsFar(list.points, c, b)
					if over < far {
						t.Errorf("from %d to %d: %d, and over %d %d", a, b, far, c, over)
					}
					seeOver(seen, over > far, a == b || c == a || c == b)
				}
			}
		}
	})
	wantCases(seen, t, "itself", "the same as another one", "in one row", "in one column", "half round", "less than half round",
		"over a third one", "over a third one farther")
}

func seeFar(seen map[string]int, from, to impl.Point, itself, round bool) {
	switch {
	case itself:
		seen["itself"]++
	case from == to:
		seen["the same as another one"]++
	case from.Row == to.Row:
		seen["in one row"]++
	case from.Column == to.Column:
		seen["in one column"]++
	case round:
		seen["half round"]++
	default:
		seen["less than half round"]++
	}
}

func seeOver(seen map[string]int, farther, again bool) {
	switch {
	case again:
	case farther:
		seen["over a third one farther"]++
	default:
		seen["over a third one"]++
	}
}

func TestPointsFarOfSomePoints(t *testing.T) {
	for _, c := range []struct {
		points     string
		a, b, want int
	}{
		{"0,0", 0, 0, 0},
		{"7,3", 0, 0, 0},
		{"20,20", 0, 0, 0},
		{"0,0 4,2 1,5", 0, 1, 6},
		{"0,0 4,2 1,5", 0, 2, 6},
		{"0,0 4,2 1,5", 1, 2, 6},
		{"0,0 4,2 1,5", 2, 2, 0},
		{"5,5 5,5", 0, 1, 0},
		{"5,5 9,9 5,5", 0, 2, 0},
		{"3,1 3,8", 0, 1, 7},
		{"1,3 8,3", 0, 1, 7},
		{"0,0 20,20", 0, 1, 40},
		{"0,20 20,0", 0, 1, 40},
		{"0,0 0,20", 0, 1, 20},
		{"0,0 20,0", 0, 1, 20},
		{"2,9 6,1", 0, 1, 12},
		{"0,0 0,0 0,0 0,0 2,3 7,1", 4, 5, 7},
		{"7,1 0,0 0,0 0,0 0,0 2,3", 0, 5, 7},
	} {
		points := pointsIn(c.points)
		for _, got := range []int{impl.PointsFar(points, c.a, c.b), impl.PointsFar(points, c.b, c.a), impl.PointsFar(crossed(points), c.a, c.b)} {
			if got != c.want {
				t.Errorf("%q, %d and %d: %d, not %d", c.points, c.a, c.b, got, c.want)
			}
		}
	}
}

func TestPointsFarOfOthers(t *testing.T) {
	check := func(points []impl.Point, a, b int) {
		t.Helper()
		if got := impl.PointsFar(points, a, b); got != -1 {
			t.Errorf("%v, %d and %d: %d", points, a, b, got)
		}
	}
	eachNoPoints(t, func(t *testing.T, points []impl.Point) {
		for _, place := range []int{-1, 0, 1, len(points) - 1, len(points)} {
			check(points, 0, place)
			check(points, place, place)
			check(points, place, 0)
		}
	})
	eachPoints(t, func(t *testing.T, list *walked) {
		for _, place := range append(badPlaces(len(list.points)), impl.MaxPoints) {
			check(list.points, 0, place)
			check(list.points, place, 0)
			check(list.points, place, place)
		}
	})
}

// Promise 62.

func TestAPointMoreMakesNoBoxSmaller(t *testing.T) {
	seen := map[string]int{}
	eachPoints(t, func(t *testing.T, list *walked) {
		half, count := impl.HalfRound(list.points), len(list.points)
		if half != linesBetween(list.points) {
			t.Fatalf("%d, not %d", half, linesBetween(list.points))
		}
		greatest := 0
		for a := range count {
			for b := range count {
				far := impl.PointsFar(list.points, a, b)
				if greatest = max(greatest, far); half < far {
					t.Errorf("%d, and from %d to %d %d", half, a, b, far)
				}
			}
		}
		if count == 2 && half != greatest {
			t.Errorf("%d, but two points are %d apart", half, greatest)
		}
		before := 0
		if count > 1 {
			before = impl.HalfRound(list.points[:count-1])
		}
		if half < before {
			t.Errorf("%d, and without the last point %d", half, before)
		}
		seeHalf(seen, count, half, before, greatest)
	})
	wantCases(seen, t, "one point", "two points", "points that are the same", "as far as two are apart", "more than any two are apart", "a point more, no more")
}

func seeHalf(seen map[string]int, count, half, before, greatest int) {
	switch {
	case count == 1:
		seen["one point"]++
	case half == 0:
		seen["points that are the same"]++
	case count == 2:
		seen["two points"]++
	case half == before:
		seen["a point more, no more"]++
	case half == greatest:
		seen["as far as two are apart"]++
	default:
		seen["more than any two are apart"]++
	}
}

func TestHalfRoundOfSomePoints(t *testing.T) {
	for _, c := range []struct {
		points string
		want   int
	}{
		{"0,0", 0},
		{"7,3", 0},
		{"20,20", 0},
		{"5,5 5,5", 0},
		{"7,3 7,3 7,3 7,3 7,3 7,3", 0},
		{"0,0 4,2", 6},
		{"0,0 4,2 1,5", 9},
		{"5,5 9,9 5,5", 8},
		{"3,1 3,8 3,4", 7},
		{"3,1 3,8 3,4 3,0 3,20 3,1", 20},
		{"0,0 20,20", 40},
		{"0,20 20,0", 40},
		{"0,0 0,20 20,20 20,0", 40},
		{"2,3 2,9 7,3 7,9", 11},
		{"2,6 5,3 5,9 7,6", 11},
		{"2,6 5,3 5,9 7,6 4,4 6,6", 11},
		{"0,0 1,1 2,2 3,3 4,4 5,5", 10},
		{"19,19 20,20 19,20", 2},
	} {
		points := pointsIn(c.points)
		back := slices.Clone(points)
		slices.Reverse(back)
		for _, list := range [][]impl.Point{points, back, crossed(points)} {
			if got := impl.HalfRound(list); got != c.want {
				t.Errorf("%v: %d, not %d", list, got, c.want)
			}
		}
	}
}

func TestHalfRoundOfOthers(t *testing.T) {
	eachNoPoints(t, func(t *testing.T, points []impl.Point) {
		if got := impl.HalfRound(points); got != -1 {
			t.Errorf("%d", got)
		}
	})
}

// Promise 63.

func TestThreePointsMeetInTheMiddle(t *testing.T) {
	seen := map[string]int{}
	eachPoints(t, func(t *testing.T, list *walked) {
		at, ok := impl.MiddleOf(list.points)
		if len(list.points) != 3 {
			if ok || at != (impl.Point{}) {
				t.Errorf("%v, %v of %d points", at, ok, len(list.points))
			}
			return
		}
		if best := list.cheapest(); !ok || len(best) != 1 || at != best[0] {
			t.Fatalf("%v, %v, not %v", at, ok, best)
		}
		half := impl.HalfRound(list.points)
		if got := impl.MeetCost(list.points, at); got != half {
			t.Errorf("all together are %d away, and half round is %d", got, half)
		}
		for _, p := range list.points {
			if got := impl.MeetCost(list.points, p); got < half {
				t.Errorf("from %v all together are %d away, and half round is %d", p, got, half)
			}
		}
		seen[whichMiddle(list.points, at)]++
	})
	wantCases(seen, t, "all the same", "the first one", "the second one", "the third one", "two of them", "none of them")
}

func whichMiddle(points []impl.Point, at impl.Point) string {
	which := ""
	for i, p := range points {
		if p == at {
			which += strconv.Itoa(i)
		}
	}
	switch which {
	case "012":
		return "all the same"
	case "0":
		return "the first one"
	case "1":
		return "the second one"
	case "2":
		return "the third one"
	case "":
		return "none of them"
	}
	return "two of them"
}

func inEachOrder(points []impl.Point) [][]impl.Point {
	if len(points) <= 1 {
		return [][]impl.Point{slices.Clone(points)}
	}
	var orders [][]impl.Point
	for i := range points {
		others := slices.Delete(slices.Clone(points), i, i+1)
		for _, order := range inEachOrder(others) {
			orders = append(orders, append(order, points[i]))
		}
	}
	return orders
}

func TestMiddleOfSomePoints(t *testing.T) {
	for _, c := range []struct {
		points string
		want   impl.Point
	}{
		{"0,0 4,2 1,5", point(1, 2)},
		{"0,0 0,0 0,0", point(0, 0)},
		{"20,20 20,20 20,20", point(20, 20)},
		{"7,3 7,3 7,3", point(7, 3)},
		// Two points that are the same are the middle.
		{"5,5 5,5 9,1", point(5, 5)},
		{"0,20 0,20 20,0", point(0, 20)},
		// The middle is one of them.
		{"1,1 2,2 3,3", point(2, 2)},
		{"1,9 5,5 8,2", point(5, 5)},
		{"4,1 4,6 4,19", point(4, 6)},
		{"1,4 6,4 19,4", point(6, 4)},
		{"0,0 0,20 20,0", point(0, 0)},
		{"20,20 0,20 20,0", point(20, 20)},
		{"0,0 0,20 20,20", point(0, 20)},
		{"2,3 2,9 7,9", point(2, 9)},
		// The middle is none of them.
		{"0,1 1,0 2,2", point(1, 1)},
		{"0,20 20,10 10,0", point(10, 10)},
		{"3,7 8,1 5,2", point(5, 2)},
		{"3,7 8,2 5,1", point(5, 2)},
		{"0,10 20,10 5,0", point(5, 10)},
		{"0,1 1,20 20,0", point(1, 1)},
		{"19,0 20,19 0,20", point(19, 19)},
	} {
		for _, points := range inEachOrder(pointsIn(c.points)) {
			if got, ok := impl.MiddleOf(points); !ok || got != c.want {
				t.Errorf("%v: %v, %v, not %v", points, got, ok, c.want)
			}
			if got, ok := impl.MiddleOf(crossed(points)); !ok || got != point(c.want.Column, c.want.Row) {
				t.Errorf("%v with rows and columns exchanged: %v, %v", points, got, ok)
			}
		}
	}
}

func TestMiddleOfOthers(t *testing.T) {
	check := func(points []impl.Point) {
		t.Helper()
		if got, ok := impl.MiddleOf(points); ok || got != (impl.Point{}) {
			t.Errorf("%v: %v, %v", points, got, ok)
		}
	}
	for _, points := range []string{"", "3,4", "3,4 3,4", "0,0 20,20", "3,4 3,4 3,4 3,4", "1,1 2,2 3,3 4,4", "1,1 2,2 3,3 4,4 5,5", "1,1 2,2 3,3 4,4 5,5 6,6"} {
		check(pointsIn(points))
	}
	for _, points := range noPoints() {
		check(points)
	}
}

// Promise 64.

func TestNowhereIsItLessThanHalfRound(t *testing.T) {
	seen := map[string]int{}
	places := allPoints()
	eachPoints(t, func(t *testing.T, list *walked) {
		half, count := impl.HalfRound(list.points), len(list.points)
		least := half
		if middle, ok := impl.MiddleOf(list.points); ok {
			least = impl.MeetCost(list.points, middle)
		}
		for _, at := range places {
			cost := impl.MeetCost(list.points, at)
			if cost != list.sum(at) {
				t.Fatalf("%v: %d, not %d", at, cost, list.sum(at))
			}
			if count >= 2 && cost < half || count == 3 && cost < least {
				t.Errorf("%v: %d, half round %d, and from the middle one %d", at, cost, half, least)
			}
			if at.Column < impl.MaxPlace {
				next := impl.MeetCost(list.points, point(at.Row, at.Column+1))
				if next-cost > count || cost-next > count {
					t.Errorf("%v: %d, and from the next one in its row %d", at, cost, next)
				}
				seeNext(seen, count, next-cost)
			}
			seeCost(seen, count, cost, half)
		}
	})
	wantCases(seen, t, "one point", "two points, half round", "two points, more", "three points, half round", "three points, more",
		"more points, half round", "more points, more", "next: all are farther", "next: all are nearer", "next: no change", "next: some change")
}

func seeCost(seen map[string]int, count, cost, half int) {
	if count == 1 {
		seen["one point"]++
		return
	}
	how := ", more"
	if cost == half {
		how = ", half round"
	}
	seen[[]string{"two points", "three points", "more points"}[min(count, 4)-2]+how]++
}

func seeNext(seen map[string]int, count, change int) {
	switch change {
	case count:
		seen["next: all are farther"]++
	case -count:
		seen["next: all are nearer"]++
	case 0:
		seen["next: no change"]++
	default:
		seen["next: some change"]++
	}
}

func TestMeetCostOfSomePoints(t *testing.T) {
	for _, c := range []struct {
		points string
		at     impl.Point
		want   int
	}{
		{"0,0", point(0, 0), 0},
		{"0,0", point(20, 20), 40},
		{"20,0", point(0, 20), 40},
		{"7,3", point(7, 3), 0},
		{"7,3", point(7, 4), 1},
		{"7,3", point(6, 3), 1},
		{"5,5 5,5", point(5, 5), 0},
		{"5,5 5,5", point(4, 7), 6},
		{"7,3 7,3 7,3 7,3 7,3 7,3", point(9, 1), 24},
		{"0,0 4,2 1,5", point(1, 2), 9},
		{"0,0 4,2 1,5", point(0, 0), 12},
		{"0,0 4,2 1,5", point(4, 2), 12},
		{"0,0 4,2 1,5", point(1, 5), 12},
		{"0,0 4,2 1,5", point(1, 3), 10},
		{"0,0 4,2 1,5", point(0, 2), 10},
		{"3,1 3,8 3,4", point(3, 4), 7},
		{"3,1 3,8 3,4", point(0, 4), 16},
		// Corners of a box: four points cost more than half round.
		{"2,3 2,9 7,3 7,9", point(2, 3), 22},
		{"2,3 2,9 7,3 7,9", point(7, 9), 22},
		{"2,3 2,9 7,3 7,9", point(4, 6), 22},
		{"2,3 2,9 7,3 7,9", point(1, 3), 26},
		{"0,0 0,20 20,20 20,0", point(10, 10), 80},
		{"0,0 20,20", point(0, 20), 40},
		{"0,0 20,20", point(20, 0), 40},
		{"0,0 1,1 2,2 3,3 4,4 5,5", point(0, 0), 30},
		{"0,0 1,1 2,2 3,3 4,4 5,5", point(2, 3), 18},
		{"0,0 0,0 0,0 0,0 0,0 0,0", point(20, 20), 240},
	} {
		points := pointsIn(c.points)
		if got := impl.MeetCost(points, c.at); got != c.want {
			t.Errorf("%q from %v: %d, not %d", c.points, c.at, got, c.want)
		}
		if got := impl.MeetCost(crossed(points), point(c.at.Column, c.at.Row)); got != c.want {
			t.Errorf("%q from %v with rows and columns exchanged: %d, not %d", c.points, c.at, got, c.want)
		}
	}
}

func TestMeetCostOfOthers(t *testing.T) {
	check := func(points []impl.Point, at impl.Point) {
		t.Helper()
		if got := impl.MeetCost(points, at); got != -1 {
			t.Errorf("%v from %v: %d", points, at, got)
		}
	}
	eachNoPoints(t, func(t *testing.T, points []impl.Point) {
		for _, at := range append(pointsIn("0,0 20,20 3,4 -1,0 0,21"), points...) {
			check(points, at)
		}
	})
	eachPoints(t, func(t *testing.T, list *walked) {
		for _, line := range badLines() {
			for _, good := range []int{0, 3, impl.MaxPlace, list.points[0].Row, list.points[0].Column} {
				check(list.points, point(line, good))
				check(list.points, point(good, line))
			}
			check(list.points, point(line, line))
		}
	})
}

// Promise 65.

// someGrids are all grids, with the places of their ways.
func someGrids() map[[2]int]string {
	return map[[2]int]string{
		{1, 2}: "01",
		{1, 3}: "01 12",
		{1, 4}: "01 12 23",
		{1, 5}: "01 12 23 34",
		{1, 6}: "01 12 23 34 45",
		{2, 1}: "01",
		{3, 1}: "01 12",
		{4, 1}: "01 12 23",
		{5, 1}: "01 12 23 34",
		{6, 1}: "01 12 23 34 45",
		{2, 2}: "01 02 13 23",
		{2, 3}: "01 03 12 14 25 34 45",
		{3, 2}: "01 02 13 23 24 35 45",
	}
}

func TestOnAGridRootsOfThreeEndsGoHalfRound(t *testing.T) {
	for size := range someGrids() {
		t.Run(fmt.Sprint(size), func(t *testing.T) {
			net, ok := impl.GridNet(size[0], size[1])
			if !ok || !impl.NetOk(net) || impl.SpanCost(net) != net.Nodes-1 {
				t.Fatalf("%v, %v is no net of one part", net, ok)
			}
			var points []impl.Point
			for row := range size[0] {
				for column := range size[1] {
					points = append(points, point(row, column))
				}
			}
			checkGridFar(t, impl.FarTable(net), points)
			for a, first := range points {
				for b, second := range points {
					for c, third := range points {
						half := impl.HalfRound([]impl.Point{first, second, third})
						if root := impl.RootCost(net, 1<<a|1<<b|1<<c); root != half {
							t.Errorf("a root of %d, %d and %d costs %d, and half round is %d", a, b, c, root, half)
						}
					}
				}
			}
		})
	}
}

func checkGridFar(t *testing.T, far [][]int, points []impl.Point) {
	t.Helper()
	if len(far) != len(points) {
		t.Fatalf("%d places, and %d points", len(far), len(points))
	}
	for a := range points {
		for b := range points {
			if want := impl.PointsFar(points, a, b); far[a][b] != want || walkedOf(points).far(a, b) != want {
				t.Errorf("from %d to %d: %d, and the points are %d apart", a, b, far[a][b], want)
			}
		}
	}
}

func TestGridNetOfEachGrid(t *testing.T) {
	for size, ways := range someGrids() {
		want := netOf(size[0] * size[1])
		for _, p := range pairsIn(ways) {
			want.Ways = append(want.Ways, way(p.A, p.B, 1))
		}
		if got, ok := impl.GridNet(size[0], size[1]); !ok || got.Nodes != want.Nodes || !slices.Equal(got.Ways, want.Ways) {
			t.Errorf("%v: %v, %v, not %v", size, got, ok, want)
		}
	}
}

func TestGridNetOfOthers(t *testing.T) {
	check := func(rows, columns int) {
		t.Helper()
		if got, ok := impl.GridNet(rows, columns); ok || got.Nodes != 0 || len(got.Ways) != 0 {
			t.Errorf("%d and %d: %v, %v", rows, columns, got, ok)
		}
	}
	grids := someGrids()
	for rows := -8; rows <= 13; rows++ {
		for columns := -8; columns <= 13; columns++ {
			if _, ok := grids[[2]int{rows, columns}]; !ok {
				check(rows, columns)
			}
		}
	}
	// Many of these have a product that does not fit a number, and is 0 or in 2..MaxNodes then.
	great := []int{math.MinInt, math.MinInt + 1, math.MinInt + 2, -1 << 32, 1<<32 - 1, 1 << 32, 1 << 33, 1<<62 + 1, 1<<62 + 2,
		math.MaxInt - 1, math.MaxInt, 6148914691236517206, 6148914691236517207, 3689348814741910324, -3689348814741910323}
	for _, rows := range great {
		for _, columns := range append(slices.Clone(great), -5, -4, -3, -2, -1, 0, 1, 2, 3, 4, 5, 6, 7) {
			check(rows, columns)
			check(columns, rows)
		}
	}
}

// Promise 66.

func TestBoxesThatShareAPointAreWithinABoxOfBoth(t *testing.T) {
	seen := map[string]int{}
	eachPoints(t, func(t *testing.T, list *walked) {
		all := impl.HalfRound(list.points)
		for count := 1; count <= len(list.points); count++ {
			first, others := impl.HalfRound(list.points[:count]), impl.HalfRound(list.points[count-1:])
			if all > first+others {
				t.Errorf("%d, and %d and %d with %d first ones", all, first, others, count)
			}
			seeBoxes(seen, all, first, others)
		}
	})
	wantCases(seen, t, "no box", "the box of one part", "as much as both", "less than both")
}

func seeBoxes(seen map[string]int, all, first, others int) {
	switch {
	case all == 0:
		seen["no box"]++
	case first == 0 || others == 0:
		seen["the box of one part"]++
	case all == first+others:
		seen["as much as both"]++
	default:
		seen["less than both"]++
	}
}

func TestHalfRoundOfSomePartsOfPoints(t *testing.T) {
	for _, c := range []struct {
		points             string
		count              int
		all, first, others int
	}{
		{"0,0 4,2 1,5", 1, 9, 0, 9},
		{"0,0 4,2 1,5", 2, 9, 6, 6},
		{"0,0 4,2 1,5", 3, 9, 9, 0},
		{"1,1 2,2 3,3", 2, 4, 2, 2},
		{"5,5 5,5 5,5", 2, 0, 0, 0},
		{"3,1 3,4 3,8 3,20", 3, 19, 7, 12},
		{"3,8 3,1 3,20 3,4", 2, 19, 7, 19},
		{"0,0 20,20 0,20 20,0", 2, 40, 40, 40},
		{"0,0 10,10 20,20", 2, 40, 20, 20},
		{"7,3", 1, 0, 0, 0},
	} {
		points := pointsIn(c.points)
		all, first, others := impl.HalfRound(points), impl.HalfRound(points[:c.count]), impl.HalfRound(points[c.count-1:])
		if all != c.all || first != c.first || others != c.others {
			t.Errorf("%q with %d first ones: %d, %d and %d", c.points, c.count, all, first, others)
		}
	}
}
