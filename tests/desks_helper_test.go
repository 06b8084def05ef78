package tests

import (
	"fmt"
	"maps"
	"math"
	"math/big"
	"math/rand/v2"
	"regexp"
	"slices"
	"strings"
	"testing"

	"loop.example/fieldroots/impl"
)

// The forms of texts, for just as many places and ways, and such costs, as a net may have.
var (
	placeForm   = regexp.MustCompile(`\A([2-6]) (\.|[0-5]-[0-5]:[0-9](?:,[0-5]-[0-5]:[0-9]){0,8}) (0|[1-9][0-9]?)\z`)
	wayForm     = regexp.MustCompile(`([0-9])-([0-9]):([0-9])`)
	deedForm    = regexp.MustCompile(`\A(?:` + deedPart + `)\z`)
	journalForm = regexp.MustCompile(`\A(?:(?:` + deedPart + `)\n)*`)
)

const deedPart = `way(?: (?:0|[1-9][0-9]?)){3}|(?:drop|end) (?:0|[1-9][0-9]?)|back`

var kindWords = []string{"way", "drop", "end", "back"}

func placeOf(net impl.Net, ends int) impl.Place { return impl.Place{Of: net, Ends: ends} }

func deskOf(now impl.Place, past ...impl.Place) impl.Desk { return impl.Desk{Now: now, Past: past} }

func deed(kind, a, b, cost int) impl.Deed { return impl.Deed{Kind: kind, A: a, B: b, Cost: cost} }

func backDeed() impl.Deed { return deed(impl.DkBack, 0, 0, 0) }

func samePlace(p, q impl.Place) bool {
	return p.Of.Nodes == q.Of.Nodes && slices.Equal(p.Of.Ways, q.Of.Ways) && p.Ends == q.Ends
}

func sameDesk(d, e impl.Desk) bool {
	return samePlace(d.Now, e.Now) && slices.EqualFunc(d.Past, e.Past, samePlace)
}

func isNoPlace(p impl.Place) bool { return samePlace(p, impl.Place{}) }

func isNoDesk(d impl.Desk) bool { return sameDesk(d, impl.Desk{}) }

// wantPlace holds the text against its form, and then each place against their number.
func wantPlace(s string) (impl.Place, bool) {
	parts := placeForm.FindStringSubmatch(s)
	if parts == nil {
		return impl.Place{}, false
	}
	p := placeOf(netOf(numberIn(parts[1])), numberIn(parts[3]))
	for _, numbers := range wayForm.FindAllStringSubmatch(parts[2], -1) {
		w := way(numberIn(numbers[1]), numberIn(numbers[2]), numberIn(numbers[3]))
		if w.A == w.B || max(w.A, w.B) >= p.Of.Nodes {
			return impl.Place{}, false
		}
		p.Of.Ways = append(p.Of.Ways, w)
	}
	if p.Ends > allOf(p.Of.Nodes) {
		return impl.Place{}, false
	}
	return p, true
}

// wantText writes what is no place too, so that such a text is refused by its form.
func wantText(p impl.Place) string {
	var ways []string
	for _, w := range p.Of.Ways {
		ways = append(ways, fmt.Sprintf("%d-%d:%d", w.A, w.B, w.Cost))
	}
	return textOf(p.Of.Nodes, ways, p.Ends)
}

func textOf(nodes int, ways []string, ends int) string {
	if len(ways) == 0 {
		ways = []string{"."}
	}
	return fmt.Sprintf("%d %s %d", nodes, strings.Join(ways, ","), ends)
}

// placeIn is for texts of places alone.
func placeIn(text string) impl.Place {
	p, ok := wantPlace(text)
	if !ok {
		panic("no place: " + text)
	}
	return p
}

func wantDeed(s string) (impl.Deed, bool) {
	if !deedForm.MatchString(s) {
		return impl.Deed{}, false
	}
	words := strings.Fields(s)
	a := deed(slices.Index(kindWords, words[0]), 0, 0, 0)
	for i, word := range words[1:] {
		*[]*int{&a.A, &a.B, &a.Cost}[i] = numberIn(word)
	}
	return a, true
}

// deedIn is for texts of deeds alone.
func deedIn(text string) impl.Deed {
	a, ok := wantDeed(text)
	if !ok {
		panic("no deed: " + text)
	}
	return a
}

func deedsIn(texts ...string) []impl.Deed {
	var list []impl.Deed
	for _, text := range texts {
		list = append(list, deedIn(text))
	}
	return list
}

// wantDeedText writes all deeds whose other numbers are 0, and holds what it wrote against the form of texts.
func wantDeedText(a impl.Deed) string {
	text := ""
	switch {
	case a.Kind == 0:
		text = fmt.Sprintf("way %d %d %d", a.A, a.B, a.Cost)
	case (a.Kind == 1 || a.Kind == 2) && a.B == 0 && a.Cost == 0:
		text = fmt.Sprintf("%s %d", kindWords[a.Kind], a.A)
	case a == deed(3, 0, 0, 0):
		text = "back"
	}
	if !deedForm.MatchString(text) {
		return ""
	}
	return text
}

func wantJournal(s string) ([]impl.Deed, int) {
	read := journalForm.FindString(s)
	lines := strings.Split(read, "\n")
	return deedsIn(lines[:len(lines)-1]...), len(read)
}

func logOf(list ...impl.Deed) string {
	log := ""
	for _, a := range list {
		log += wantDeedText(a) + "\n"
	}
	return log
}

// told is a desk as texts: those of the places of before, and behind them that of its place.
type told []string

func toldOf(d impl.Desk) told {
	var texts told
	for _, p := range d.Past {
		texts = append(texts, wantText(p))
	}
	return append(texts, wantText(d.Now))
}

func (d told) is(desk impl.Desk) bool { return slices.Equal(d, toldOf(desk)) }

// after changes the last text, and looks at the form of the new one.
func (d told) after(a impl.Deed) (told, bool) {
	last := len(d) - 1
	if a.Kind == impl.DkBack {
		if a.A != 0 || a.B != 0 || a.Cost != 0 || last == 0 {
			return d, false
		}
		return slices.Clone(d[:last]), true
	}
	next := changed(d[last], a)
	if _, ok := wantPlace(next); !ok {
		return d, false
	}
	texts := append(slices.Clone(d), next)
	return texts[max(0, len(texts)-1-impl.MaxPast):], true
}

// changed is no text of a place if the deed cannot be done.
func changed(text string, a impl.Deed) string {
	p := placeIn(text)
	ways := strings.FieldsFunc(strings.Fields(text)[1], func(sign rune) bool { return sign == ',' || sign == '.' })
	switch {
	case a.Kind == impl.DkWay:
		return textOf(p.Of.Nodes, append(ways, fmt.Sprintf("%d-%d:%d", a.A, a.B, a.Cost)), p.Ends)
	case a.B != 0 || a.Cost != 0 || a.A < 0:
		return ""
	case a.Kind == impl.DkDrop && a.A < len(ways):
		return textOf(p.Of.Nodes, append(slices.Clone(ways[:a.A]), ways[a.A+1:]...), p.Ends)
	case a.Kind == impl.DkEnd && a.A < p.Of.Nodes && has(p.Ends, a.A):
		return textOf(p.Of.Nodes, ways, p.Ends-1<<a.A)
	case a.Kind == impl.DkEnd && a.A < p.Of.Nodes:
		return textOf(p.Of.Nodes, ways, p.Ends+1<<a.A)
	}
	return ""
}

func (d told) afterAll(list []impl.Deed) (told, int) {
	many := 0
	for _, a := range list {
		next, ok := d.after(a)
		if ok {
			many++
		}
		d = next
	}
	return d, many
}

// somePlaces have nets without ways, with MaxWays ways, with 2 and with MaxNodes places, and no ends, all places for
// ends, and some.
func somePlaces() []impl.Place {
	r := rand.New(rand.NewPCG(31, 32))
	var places []impl.Place
	for _, net := range someNets() {
		for _, ends := range []int{0, allOf(net.Nodes), r.IntN(1 << net.Nodes), r.IntN(1 << net.Nodes)} {
			places = append(places, placeOf(net, ends))
		}
	}
	return places
}

func eachPlace(t *testing.T, check func(t *testing.T, p impl.Place)) {
	t.Helper()
	for _, p := range somePlaces() {
		check(t, p)
		if t.Failed() {
			t.Fatalf("place: %+v", p)
		}
	}
}

// noPlaces are none, each for one reason alone: a net that is none, or ends that are none of its places.
func noPlaces() []impl.Place {
	var places []impl.Place
	bad := badNets()
	for _, name := range slices.Sorted(maps.Keys(bad)) {
		places = append(places, placeOf(bad[name], 0), placeOf(bad[name], 1), placeOf(bad[name], 3))
	}
	edges := edgeNets()
	for _, name := range []string{"no ways, 2 places", "no ways, MaxNodes places", "one way", "mesh of MaxWays ways"} {
		for _, ends := range badSets(edges[name].Nodes) {
			places = append(places, placeOf(edges[name], ends))
		}
	}
	return places
}

// someDesks have no places of before, some, and MaxPast of them, which need not have become each other by deeds.
func someDesks(count int) []impl.Desk {
	r := rand.New(rand.NewPCG(33, 34))
	places := somePlaces()
	var desks []impl.Desk
	for _, text := range []string{"2 . 0", "6 . 63", "2 0-1:5 3", "4 0-3:2,1-3:2,2-3:2 7", "6 " + strings.Repeat("5-0:9,", 8) + "4-5:0 33"} {
		p := placeIn(text)
		full := slices.Repeat([]impl.Place{p, placeIn("3 0-2:1 5")}, impl.MaxPast/2)
		desks = append(desks, deskOf(p), deskOf(p, p), deskOf(p, full...), deskOf(p, full[1:]...))
	}
	for range count {
		d := deskOf(places[r.IntN(len(places))])
		for range r.IntN(impl.MaxPast + 1) {
			d.Past = append(d.Past, places[r.IntN(len(places))])
		}
		desks = append(desks, d)
	}
	return desks
}

func eachDesk(t *testing.T, count int, check func(t *testing.T, d impl.Desk)) {
	t.Helper()
	for _, d := range someDesks(count) {
		check(t, d)
		if t.Failed() {
			t.Fatalf("desk: %q", toldOf(d))
		}
	}
}

// noDesks are none for one reason alone: a bad place, one bad place of before, or more than MaxPast of these.
func noDesks() []impl.Desk {
	good := placeIn("3 0-1:1,1-2:0 5")
	all := slices.Repeat([]impl.Place{good}, impl.MaxPast)
	desks := []impl.Desk{
		{},
		{Past: all[:1]},
		deskOf(good, append(slices.Clone(all), good)...),
		deskOf(good, slices.Repeat(all, 10)...),
	}
	for _, bad := range noPlaces() {
		desks = append(desks, deskOf(bad), deskOf(bad, good), deskOf(good, bad))
		for at := range all {
			past := slices.Clone(all)
			past[at] = bad
			desks = append(desks, deskOf(good, past...))
		}
	}
	return desks
}

func eachNoDesk(t *testing.T, check func(t *testing.T, d impl.Desk)) {
	t.Helper()
	for i, d := range noDesks() {
		check(t, d)
		if t.Failed() {
			t.Fatalf("desk %d that is none: %+v", i, d)
		}
	}
}

// someDeeds are all deeds of some numbers and kinds: such as can be done at some desks, and such as never can.
func someDeeds() []impl.Deed {
	var list []impl.Deed
	numbers := []int{-1, 0, 1, 2, 3, 5, 6, 9, 99, 100, math.MinInt, math.MaxInt}
	for _, kind := range []int{impl.DkWay, impl.DkDrop, impl.DkEnd, impl.DkBack, -1, 4, 99, math.MinInt, math.MaxInt} {
		for _, a := range numbers {
			for _, b := range numbers {
				for _, cost := range []int{0, 1, 9, 10, -1, 99, 100, math.MinInt, math.MaxInt} {
					list = append(list, deed(kind, a, b, cost))
				}
			}
		}
	}
	return list
}

// drawnDeed is mostly one that can be done at small places, and sometimes one that has no text.
func drawnDeed(r *rand.Rand) impl.Deed {
	if r.IntN(12) == 0 {
		return []impl.Deed{
			deed(4, 0, 0, 0), deed(-1, 0, 0, 0), deed(impl.DkDrop, 0, 1, 0), deed(impl.DkEnd, 0, 0, 1),
			deed(impl.DkBack, 1, 0, 0), deed(impl.DkWay, 0, 100, 1), deed(impl.DkWay, -1, 0, 1), deed(impl.DkEnd, 100, 0, 0),
		}[r.IntN(8)]
	}
	return drawnText(r)
}

// drawnText is a deed that has a text, although it may not be done.
func drawnText(r *rand.Rand) impl.Deed {
	switch r.IntN(9) {
	case 0, 1, 2:
		return deed(impl.DkWay, r.IntN(3), r.IntN(3), r.IntN(impl.MaxCost+1))
	case 3, 4:
		return deed(impl.DkDrop, r.IntN(3), 0, 0)
	case 5, 6:
		return deed(impl.DkEnd, r.IntN(3), 0, 0)
	case 7:
		return deed(impl.DkWay, r.IntN(100), r.IntN(7), r.IntN(12))
	}
	return backDeed()
}

func drawnDeeds(r *rand.Rand, count int, draw func(r *rand.Rand) impl.Deed) []impl.Deed {
	var list []impl.Deed
	for range count {
		list = append(list, draw(r))
	}
	return list
}

// textSigns are put into texts: such as stand in some of them, such as numbers have elsewhere, and bytes that are no text.
var textSigns = []string{" ", "\n", "\r", "\t", "\x00", ".", ",", ":", "-", "+", "_", ";", "0", "1", "2", "3", "5", "6", "7", "9", "a", "w", "E", "\xff", "\x80", "\u00e9", "\u0663", "\uff11"}

// spoiled are texts that differ from a text by a sign, by where they begin or end, or by a number.
func spoiled(text string) []string {
	texts := []string{text + text, text + " " + text, text + "\n" + text, strings.ToUpper(text), strings.ReplaceAll(text, " ", "  ")}
	for at := range len(text) + 1 {
		texts = append(texts, text[:at], text[at:])
		for _, sign := range textSigns {
			texts = append(texts, text[:at]+sign+text[at:])
		}
	}
	for at := range len(text) {
		texts = append(texts, text[:at]+text[at+1:])
		for _, sign := range textSigns {
			texts = append(texts, text[:at]+sign+text[at+1:])
		}
	}
	for _, part := range regexp.MustCompile(`[0-9]+`).FindAllStringIndex(text, -1) {
		for _, number := range spoiledNumbers(text[part[0]:part[1]]) {
			texts = append(texts, text[:part[0]]+number+text[part[1]:])
		}
	}
	return texts
}

// spoiledNumbers would be read as the number if one did not look, for their last bits, their digits or their value are the same.
func spoiledNumbers(number string) []string {
	texts := []string{
		"", "0" + number, "00" + number, strings.Repeat("0", 100) + number, "+" + number, "-" + number, "--" + number, number + ".0", number + "e0",
		"0x" + number, "0b" + number, "0o" + number, number + "_0", strings.Repeat("9", 400), "10", "64", "99", "100", "-9223372036854775808", "9223372036854775807", "9223372036854775808",
	}
	value, _ := new(big.Int).SetString(number, 10)
	for _, bits := range []uint{8, 16, 32, 63, 64, 128} {
		power := new(big.Int).Lsh(big.NewInt(1), bits)
		texts = append(texts, new(big.Int).Add(power, value).String(), new(big.Int).Sub(value, power).String())
	}
	return texts
}
