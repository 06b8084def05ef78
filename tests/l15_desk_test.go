package tests

import (
	"fmt"
	"math/rand/v2"
	"slices"
	"strconv"
	"strings"
	"testing"

	"loop.example/fieldroots/impl"
)

// Promise 106.

func TestDesksCanForget(t *testing.T) {
	seen := map[string]int{}
	eachDesk(t, 400, func(t *testing.T, d impl.Desk) {
		if !impl.DeskOk(d) {
			t.Error("is none")
		}
		for first := range len(d.Past) + 1 {
			if !impl.DeskOk(deskOf(d.Now, d.Past[first:]...)) || !impl.DeskOk(deskOf(d.Now, d.Past[:first]...)) {
				t.Errorf("is none with just the first or the last places of before, parted at %d", first)
			}
		}
		switch len(d.Past) {
		case 0:
			seen["none of before"]++
		case impl.MaxPast:
			seen["MaxPast of before"]++
			if impl.DeskOk(deskOf(d.Now, append(slices.Clone(d.Past), d.Now)...)) {
				t.Error("is one with one place of before more")
			}
		default:
			seen["some of before"]++
		}
	})
	wantCases(seen, t, "none of before", "some of before", "MaxPast of before")
}

func TestDeskOkOfOthers(t *testing.T) {
	eachNoDesk(t, func(t *testing.T, d impl.Desk) {
		if impl.DeskOk(d) {
			t.Error("is one")
		}
	})
}

// Promise 107.

func TestNewDesksHaveOnePlace(t *testing.T) {
	eachPlace(t, func(t *testing.T, p impl.Place) {
		d, ok := impl.DeskNew(p)
		if !ok || !impl.DeskOk(d) || !samePlace(d.Now, p) || len(d.Past) != 0 {
			t.Errorf("%+v, %v", d, ok)
		}
	})
	for _, p := range noPlaces() {
		if d, ok := impl.DeskNew(p); ok || !isNoDesk(d) {
			t.Errorf("%+v: %+v, %v", p, d, ok)
		}
	}
}

// checkDo compares with what becomes of the texts of the desk.
func checkDo(t *testing.T, d impl.Desk, a impl.Deed) (impl.Desk, bool) {
	t.Helper()
	want, wantOk := toldOf(d).after(a)
	got, ok := impl.DeskDo(d, a)
	if ok != wantOk || !want.is(got) {
		t.Fatalf("%+v: %q, %v, not %q, %v", a, toldOf(got), ok, want, wantOk)
	}
	return got, ok
}

func TestAllDeedsAtSomeDesks(t *testing.T) {
	seen := map[string]int{}
	list := someDeeds()
	eachDesk(t, 10, func(t *testing.T, d impl.Desk) {
		for _, a := range list {
			if _, ok := checkDo(t, d, a); ok {
				seen[kindWords[a.Kind]]++
			} else {
				seen["not done"]++
			}
		}
	})
	wantCases(seen, t, append([]string{"not done"}, kindWords...)...)
}

func TestEachDeedWithATextAtSomeDesks(t *testing.T) {
	eachDesk(t, 10, func(t *testing.T, d impl.Desk) {
		for number := range 100 {
			checkDo(t, d, deed(impl.DkDrop, number, 0, 0))
			checkDo(t, d, deed(impl.DkEnd, number, 0, 0))
			for cost := range 12 {
				checkDo(t, d, deed(impl.DkWay, number%8, number/8, cost))
			}
		}
		checkDo(t, d, backDeed())
	})
}

func TestDeskDoOfSomeDeeds(t *testing.T) {
	for _, c := range []struct {
		desk, deed, want string
	}{
		{"2 . 0", "way 0 1 0", "2 . 0;2 0-1:0 0"},
		{"2 . 0", "way 1 0 9", "2 . 0;2 1-0:9 0"},
		{"2 . 0", "way 0 1 10", ""},
		{"2 . 0", "way 0 2 1", ""},
		{"2 . 0", "way 2 0 1", ""},
		{"2 . 0", "way 1 1 1", ""},
		{"2 . 0", "drop 0", ""},
		{"2 . 0", "end 0", "2 . 0;2 . 1"},
		{"2 . 0", "end 2", ""},
		{"2 . 3", "end 0", "2 . 3;2 . 2"},
		{"2 . 3", "end 1", "2 . 3;2 . 1"},
		{"2 . 0", "back", ""},
		{"3 0-2:1 4;2 . 3", "back", "3 0-2:1 4"},
		{"2 . 0;2 . 1;2 . 2;2 . 3", "back", "2 . 0;2 . 1;2 . 2"},
		// A way that is there may be laid again; it is put behind all others.
		{"3 0-1:5,1-2:5 7", "way 0 1 5", "3 0-1:5,1-2:5 7;3 0-1:5,1-2:5,0-1:5 7"},
		{"3 0-1:1,1-2:2,2-0:3 7", "drop 0", "3 0-1:1,1-2:2,2-0:3 7;3 1-2:2,2-0:3 7"},
		{"3 0-1:1,1-2:2,2-0:3 7", "drop 1", "3 0-1:1,1-2:2,2-0:3 7;3 0-1:1,2-0:3 7"},
		{"3 0-1:1,1-2:2,2-0:3 7", "drop 2", "3 0-1:1,1-2:2,2-0:3 7;3 0-1:1,1-2:2 7"},
		{"3 0-1:1,1-2:2,2-0:3 7", "drop 3", ""},
		{"2 0-1:1 3", "drop 0", "2 0-1:1 3;2 . 3"},
		// MaxWays ways.
		{"2 0-1:1,0-1:1,0-1:1,0-1:1,0-1:1,0-1:1,0-1:1,0-1:1 0", "way 1 0 2", "2 0-1:1,0-1:1,0-1:1,0-1:1,0-1:1,0-1:1,0-1:1,0-1:1 0;2 0-1:1,0-1:1,0-1:1,0-1:1,0-1:1,0-1:1,0-1:1,0-1:1,1-0:2 0"},
		{"2 0-1:1,0-1:1,0-1:1,0-1:1,0-1:1,0-1:1,0-1:1,0-1:1,0-1:2 0", "way 1 0 2", ""},
		{"2 0-1:1,0-1:1,0-1:1,0-1:1,0-1:1,0-1:1,0-1:1,0-1:1,0-1:2 0", "drop 9", ""},
		{"6 . 0", "end 5", "6 . 0;6 . 32"},
		{"6 . 0", "end 6", ""},
		{"6 . 63", "end 5", "6 . 63;6 . 31"},
		// MaxPast places of before, and one more.
		{"2 . 0;2 . 1;2 . 2;2 . 3;3 . 0;3 . 1;3 . 2;3 . 3", "end 2", "2 . 0;2 . 1;2 . 2;2 . 3;3 . 0;3 . 1;3 . 2;3 . 3;3 . 7"},
		{"2 . 0;2 . 1;2 . 2;2 . 3;3 . 0;3 . 1;3 . 2;3 . 3;3 . 4", "end 0", "2 . 1;2 . 2;2 . 3;3 . 0;3 . 1;3 . 2;3 . 3;3 . 4;3 . 5"},
		{"2 . 0;2 . 1;2 . 2;2 . 3;3 . 0;3 . 1;3 . 2;3 . 3;3 . 4", "back", "2 . 0;2 . 1;2 . 2;2 . 3;3 . 0;3 . 1;3 . 2;3 . 3"},
		{"2 . 0;2 . 1;2 . 2;2 . 3;3 . 0;3 . 1;3 . 2;3 . 3;3 . 4", "end 3", ""},
	} {
		want := c.want
		if want == "" {
			want = c.desk
		}
		got, ok := impl.DeskDo(deskIn(c.desk), deedIn(c.deed))
		if ok != (c.want != "") || strings.Join(toldOf(got), ";") != want {
			t.Errorf("%s, %s: %q, %v", c.desk, c.deed, toldOf(got), ok)
		}
	}
}

// deskIn reads texts of places, that of the desk behind those of before.
func deskIn(texts string) impl.Desk {
	var places []impl.Place
	for _, text := range strings.Split(texts, ";") {
		places = append(places, placeIn(text))
	}
	return deskOf(places[len(places)-1], places[:len(places)-1]...)
}

func TestDeskDoOfOthers(t *testing.T) {
	eachNoDesk(t, func(t *testing.T, d impl.Desk) {
		for _, a := range append(deedsIn("way 0 1 1", "drop 0", "end 0", "back", "end 99"), deed(4, 0, 0, 0), deed(impl.DkBack, 1, 0, 0), deed(-1, -1, -1, -1)) {
			if got, ok := impl.DeskDo(d, a); ok || !isNoDesk(got) {
				t.Errorf("%+v: %+v, %v", a, got, ok)
			}
		}
	})
}

// Promise 90.

func TestWhateverIsDoneItIsAPlace(t *testing.T) {
	r := rand.New(rand.NewPCG(41, 42))
	seen := map[string]int{}
	eachDesk(t, 600, func(t *testing.T, d impl.Desk) {
		list := drawnDeeds(r, []int{0, 1, r.IntN(impl.MaxLines), impl.MaxLines}[r.IntN(4)], drawnDeed)
		want, wantMany := toldOf(d).afterAll(list)
		got, many := impl.DeskRun(d, list)
		if !impl.DeskOk(got) || many != wantMany || !want.is(got) {
			t.Fatalf("%+v: %q, %d, not %q, %d", list, toldOf(got), many, want, wantMany)
		}
		parted := r.IntN(len(list) + 1)
		between, first := impl.DeskRun(d, list[:parted])
		last, second := impl.DeskRun(between, list[parted:])
		if !sameDesk(last, got) || first+second != many {
			t.Errorf("parted at %d: %q and %d done, not %q and %d", parted, toldOf(last), first+second, toldOf(got), many)
		}
		seeRun(seen, len(list), many)
	})
	wantCases(seen, t, "no deeds", "none done", "some done", "all done", "MaxLines deeds")
}

func seeRun(seen map[string]int, count, many int) {
	switch {
	case count == 0:
		seen["no deeds"]++
	case count == impl.MaxLines:
		seen["MaxLines deeds"]++
	case many == 0:
		seen["none done"]++
	case many == count:
		seen["all done"]++
	default:
		seen["some done"]++
	}
}

func TestDeskRunOfSomeDeeds(t *testing.T) {
	d := deskIn("3 0-1:1 0")
	for _, c := range []struct {
		list []impl.Deed
		want string
		many int
	}{
		{nil, "3 0-1:1 0", 0},
		{deedsIn("back"), "3 0-1:1 0", 0},
		{deedsIn("drop 1", "back", "end 3"), "3 0-1:1 0", 0},
		{deedsIn("end 2", "drop 1", "end 0"), "3 0-1:1 0;3 0-1:1 4;3 0-1:1 5", 2},
		{deedsIn("end 2", "back", "back", "drop 0"), "3 0-1:1 0;3 . 0", 3},
		{[]impl.Deed{deed(4, 0, 0, 0), deed(impl.DkEnd, 1, 0, 0), deed(impl.DkEnd, 1, 1, 0)}, "3 0-1:1 0;3 0-1:1 2", 1},
		{slices.Repeat(deedsIn("end 2"), 8), strings.Repeat("3 0-1:1 0;3 0-1:1 4;", 4) + "3 0-1:1 0", 8},
		{slices.Repeat(deedsIn("end 2"), 9), strings.Repeat("3 0-1:1 4;3 0-1:1 0;", 4) + "3 0-1:1 4", 9},
		{slices.Repeat(deedsIn("end 2"), impl.MaxLines), strings.Repeat("3 0-1:1 0;3 0-1:1 4;", 4) + "3 0-1:1 0", impl.MaxLines},
	} {
		got, many := impl.DeskRun(d, c.list)
		if many != c.many || strings.Join(toldOf(got), ";") != c.want {
			t.Errorf("%+v: %q, %d", c.list, toldOf(got), many)
		}
	}
}

func TestDeskRunOfOthers(t *testing.T) {
	eachNoDesk(t, func(t *testing.T, d impl.Desk) {
		for _, list := range [][]impl.Deed{nil, deedsIn("back"), deedsIn("end 0", "end 0"), slices.Repeat(deedsIn("end 0"), impl.MaxLines+1)} {
			if got, many := impl.DeskRun(d, list); !isNoDesk(got) || many != 0 {
				t.Errorf("%+v: %+v, %d", list, got, many)
			}
		}
	})
	eachDesk(t, 20, func(t *testing.T, d impl.Desk) {
		for _, count := range []int{impl.MaxLines + 1, impl.MaxLines + 2, 10 * impl.MaxLines} {
			for _, a := range append(deedsIn("end 0", "back", "drop 99"), deed(4, 0, 0, 0)) {
				if got, many := impl.DeskRun(d, slices.Repeat([]impl.Deed{a}, count)); !isNoDesk(got) || many != 0 {
					t.Errorf("%d times %+v: %+v, %d", count, a, got, many)
				}
			}
		}
	})
}

// Promise 104.

func TestWhatWasDoneCanBeUndone(t *testing.T) {
	r := rand.New(rand.NewPCG(43, 44))
	seen := map[string]int{}
	eachDesk(t, 600, func(t *testing.T, d impl.Desk) {
		for _, a := range append(drawnDeeds(r, 8, drawnDeed), deed(impl.DkDrop, len(d.Now.Of.Ways)-1, 0, 0), deed(impl.DkEnd, d.Now.Of.Nodes-1, 0, 0)) {
			after, ok := impl.DeskDo(d, a)
			if !impl.DeskOk(after) || !ok && !sameDesk(after, d) {
				t.Fatalf("%+v: %q, %v", a, toldOf(after), ok)
			}
			if !ok {
				seen["cannot be done"]++
				continue
			}
			checkRootsAfter(t, d.Now, after.Now, a)
			if a.Kind != impl.DkBack {
				checkUndone(t, seen, d, after)
			}
		}
	})
	wantCases(seen, t, "cannot be done", "all as before", "the first one is gone")
}

// checkUndone knows that with MaxPast places of before the first one was gone.
func checkUndone(t *testing.T, seen map[string]int, d, after impl.Desk) {
	t.Helper()
	undone, ok := impl.DeskDo(after, backDeed())
	want := d
	if len(d.Past) == impl.MaxPast {
		want = deskOf(d.Now, d.Past[1:]...)
		seen["the first one is gone"]++
	} else {
		seen["all as before"]++
	}
	if !ok || !sameDesk(undone, want) {
		t.Errorf("undone %q, %v, not %q", toldOf(undone), ok, toldOf(want))
	}
}

func checkRootsAfter(t *testing.T, before, after impl.Place, a impl.Deed) {
	t.Helper()
	old, now := impl.RootCost(before.Of, before.Ends), impl.RootCost(after.Of, after.Ends)
	switch {
	case a.Kind == impl.DkWay && old >= 0 && (now < 0 || now > old):
		t.Errorf("with the way of %+v roots cost %d, and before %d", a, now, old)
	case a.Kind == impl.DkDrop && now >= 0 && (old < 0 || now < old):
		t.Errorf("without the way of %+v roots cost %d, and before %d", a, now, old)
	}
}

// Promises 92 and 111: what lines are answered.

// wantNumbers tries all sets of ways, and all choices of places; -1 is told by none.
func wantNumbers(net impl.Net, spans []int, far [][]int, ends int) map[string]int {
	joining := joiningSets(net, ends)
	cost := wantRootCost(net, ends)
	return map[string]int{
		"cost":    cost,
		"root":    wantLeast(net, ends),
		"must":    wantMust(net, joining),
		"may":     wantMay(net, ends),
		"choice":  wantBestChoice(spans, ends, cost),
		"tree":    wantEndTree(far, ends),
		"dearest": wantLeastDearest(net, joining),
		"span":    spans[allOf(net.Nodes)],
	}
}

func wantAnswer(number int) string {
	if number == -1 {
		return "none"
	}
	return strconv.Itoa(number)
}

// askedNets are small ones and drawn ones, not all of each, and those that the document names.
func askedNets() []impl.Net {
	var nets []impl.Net
	for i, net := range someNets() {
		if i%5 == 0 || i >= len(smallNets())+150 {
			nets = append(nets, net)
		}
	}
	return nets
}

func TestQuestionsAreAnsweredByWhatIsAsked(t *testing.T) {
	seen := map[string]int{}
	for _, net := range askedNets() {
		spans, far := wantSpans(net), farOf(net, wantPaths(net))
		for ends := range 1 << net.Nodes {
			d := deskOf(placeOf(net, ends), placeOf(netOf(2), 1))
			checkLine(t, d, "place", wantText(d.Now))
			for line, number := range wantNumbers(net, spans, far, ends) {
				checkLine(t, d, line, wantAnswer(number))
				if number < 0 {
					seen[line+" none"]++
				} else {
					seen[line]++
				}
			}
		}
	}
	wantCases(seen, t, "cost", "cost none", "root", "root none", "must", "must none", "may", "may none",
		"choice", "choice none", "tree", "tree none", "dearest", "dearest none", "span", "span none")
}

// checkLine is for lines that are no deeds: the desk stays.
func checkLine(t *testing.T, d impl.Desk, line, want string) {
	t.Helper()
	if got, answer := impl.DeskLine(d, line); answer != want || !sameDesk(got, d) {
		t.Errorf("%q, %q: answered by %q, not by %q, and then %q", toldOf(d), line, answer, want, toldOf(got))
	}
}

func TestFarIsAnsweredForPlacesOfOneDigit(t *testing.T) {
	seen := map[string]int{}
	for _, net := range askedNets() {
		far := farOf(net, wantPaths(net))
		d := deskOf(placeOf(net, allOf(net.Nodes)))
		for a := range 102 {
			for b := range 12 {
				line := fmt.Sprintf("far %d %d", a, b)
				want := "none"
				switch {
				case a > 9 || b > 9:
					want = "what"
				case a < net.Nodes && b < net.Nodes:
					want = wantAnswer(far[a][b])
				}
				checkLine(t, d, line, want)
				seeFarLine(seen, net, a, b, want)
			}
		}
	}
	wantCases(seen, t, "two digits", "no such place", "no way", "the place itself", "a distance")
}

func seeFarLine(seen map[string]int, net impl.Net, a, b int, want string) {
	switch {
	case want == "what":
		seen["two digits"]++
	case max(a, b) >= net.Nodes:
		seen["no such place"]++
	case want == "none":
		seen["no way"]++
	case a == b:
		seen["the place itself"]++
	default:
		seen["a distance"]++
	}
}

// nearLines are nearly questions, and are answered by what.
func nearLines() []string {
	lines := []string{
		"", " ", "  ", "\n", ".", "what", "ok", "not", "none", "0", "farther 0 1", "far", "far ", "far 0", "far 0 ", "far 0 1 ", "far 0 1 2", " far 0 1", "far  0 1", "far 0  1",
		"far 01 1", "far 0 01", "far 10 1", "far 0 10", "far 00 11", "far -1 1", "far 0 -1", "far +0 1", "far 0 +1", "far a 1", "far 0 b", "far 0,1", "far 0-1", "far\t0 1", "far 0\t1", "far 0 1\n",
		"far 0 1\x00", "far 0_1", "far0 1", "far 01", "FAR 0 1", "Far 0 1", "far / 1", "far 0 :", "far ? 1", "far 0 @", "far \xff 1", "far 0 \x80", "far \u0663 1", "far 0 \uff11", "far: 0 1",
		"fax 0 1", "bar 0 1", "far 18446744073709551616 1", "far 0 4294967297", "far 1 1 1", "far 0 0 0", "far . .", "far    ", "far - -",
		"way", "way 0 1", "way 0 1 1 ", "way 0 1 100", "way 00 1 1", "way -1 1 1", "drop", "drop 00", "drop 100", "drop -1", "drop 0 0", "end", "end 01", "end 0 0", "end 0 ", "end 100", "back ", "back 0", " back", "Back",
		"costs", "cos", "Cost", "roots", "span 0", "spans", "place\n", "places", "plac", "2 . 0", "place 0", "cost root", "cost\nroot", "may\x00", "must\xff", "\xff\xfe", strings.Repeat("cost", 1000), strings.Repeat("9", 1000),
	}
	for _, word := range []string{"place", "cost", "root", "must", "may", "choice", "tree", "dearest", "span"} {
		lines = append(lines, word+" ", " "+word, word+"\n", word+word, word+" 0", strings.ToUpper(word), word[:len(word)-1], word[1:], strings.ToUpper(word[:1])+word[1:])
	}
	return lines
}

// Promise 111.

func TestQuestionsChangeNothing(t *testing.T) {
	eachDesk(t, 30, func(t *testing.T, d impl.Desk) {
		for _, line := range nearLines() {
			checkLine(t, d, line, "what")
		}
		checkLine(t, d, "place", wantText(d.Now))
		for _, line := range []string{"cost", "root", "must", "may", "choice", "tree", "dearest", "span", "far 0 1", "far 9 9"} {
			got, answer := impl.DeskLine(d, line)
			if !impl.DeskOk(got) || !sameDesk(got, d) || strings.Trim(answer, "0123456789") != "" && answer != "none" {
				t.Errorf("%q: %q, and then %q", line, answer, toldOf(got))
			}
		}
	})
}

func TestLinesThatAreDeedsAreDone(t *testing.T) {
	r := rand.New(rand.NewPCG(45, 46))
	seen := map[string]int{}
	eachDesk(t, 600, func(t *testing.T, d impl.Desk) {
		for _, a := range append(drawnDeeds(r, 10, drawnText), deedsIn("way 99 99 99", "drop 99", "end 6", "back")...) {
			want, ok := toldOf(d).after(a)
			got, answer := impl.DeskLine(d, wantDeedText(a))
			if !impl.DeskOk(got) || !want.is(got) || answer != map[bool]string{true: "ok", false: "not"}[ok] {
				t.Errorf("%+v: %q, and then %q, not %q", a, answer, toldOf(got), want)
			}
			if answer != "ok" && !sameDesk(got, d) {
				t.Errorf("%+v: %q, and then %q", a, answer, toldOf(got))
			}
			seen[kindWords[a.Kind]+" "+answer]++
		}
	})
	wantCases(seen, t, "way ok", "way not", "drop ok", "drop not", "end ok", "end not", "back ok", "back not")
}

func TestDeskLineOfOthers(t *testing.T) {
	eachNoDesk(t, func(t *testing.T, d impl.Desk) {
		for _, line := range []string{"", "place", "cost", "span", "far 0 1", "way 0 1 1", "drop 0", "end 0", "back", "what"} {
			if got, answer := impl.DeskLine(d, line); !isNoDesk(got) || answer != "" {
				t.Errorf("%q: %q, and then %+v", line, answer, got)
			}
		}
	})
}

// Promise 92.

func drawnLine(r *rand.Rand) string {
	switch r.IntN(6) {
	case 0, 1, 2:
		return wantDeedText(drawnText(r))
	case 3:
		return []string{"place", "cost", "root", "must", "may", "choice", "tree", "dearest", "span"}[r.IntN(9)]
	case 4:
		return fmt.Sprintf("far %d %d", r.IntN(8), r.IntN(4))
	}
	near := nearLines()
	return near[r.IntN(len(near))]
}

func TestWhateverIsSaidThePlaceIsTold(t *testing.T) {
	r := rand.New(rand.NewPCG(47, 48))
	seen := map[string]int{}
	eachDesk(t, 300, func(t *testing.T, d impl.Desk) {
		var lines []string
		for range []int{0, 1, r.IntN(impl.MaxLines), impl.MaxLines}[r.IntN(4)] {
			lines = append(lines, drawnLine(r))
		}
		last, answers := impl.DeskSay(d, lines)
		parted := r.IntN(len(lines) + 1)
		between, first := impl.DeskSay(d, lines[:parted])
		both, second := impl.DeskSay(between, lines[parted:])
		if !impl.DeskOk(last) || len(answers) != len(lines) || !sameDesk(last, both) || !slices.Equal(answers, slices.Concat(first, second)) {
			t.Fatalf("%q: %q, and then %q; in two parts %q and %q", lines, answers, toldOf(last), first, second)
		}
		for i, line := range lines {
			var answer string
			d, answer = impl.DeskLine(d, line)
			if answers[i] != answer || answer == "" {
				t.Errorf("%q is answered by %q, and alone by %q", line, answers[i], answer)
			}
		}
		seeSaid(seen, answers)
		_, told := impl.DeskSay(last, []string{"place"})
		p, ok := impl.ReadPlace(told[0])
		if !sameDesk(d, last) || !ok || !samePlace(p, last.Now) {
			t.Errorf("%q, told as %q", toldOf(last), told)
		}
	})
	wantCases(seen, t, "no lines", "ok", "not", "none", "what", "a number", "a place", "MaxLines lines")
}

func seeSaid(seen map[string]int, answers []string) {
	switch len(answers) {
	case 0:
		seen["no lines"]++
	case impl.MaxLines:
		seen["MaxLines lines"]++
	}
	for _, answer := range answers {
		if _, err := strconv.Atoi(answer); err == nil {
			answer = "a number"
		} else if strings.Contains(answer, " ") {
			answer = "a place"
		}
		seen[answer]++
	}
}

func TestDeskSayOfOthers(t *testing.T) {
	eachNoDesk(t, func(t *testing.T, d impl.Desk) {
		for _, lines := range [][]string{nil, {"place"}, {"", "end 0"}, slices.Repeat([]string{"what"}, impl.MaxLines+1)} {
			if got, answers := impl.DeskSay(d, lines); !isNoDesk(got) || len(answers) != 0 {
				t.Errorf("%q: %q, and then %+v", lines, answers, got)
			}
		}
	})
	eachDesk(t, 20, func(t *testing.T, d impl.Desk) {
		for _, count := range []int{impl.MaxLines + 1, impl.MaxLines + 2, 10 * impl.MaxLines} {
			for _, line := range []string{"", "end 0", "place", "back"} {
				if got, answers := impl.DeskSay(d, slices.Repeat([]string{line}, count)); !isNoDesk(got) || len(answers) != 0 {
					t.Errorf("%d times %q: %q, and then %+v", count, line, answers, got)
				}
			}
		}
	})
}

// The document's examples, and some further lines at the same desk.

const exampleLines = `
cost         6
root         7
choice       8
tree         8
dearest      2
far 0 1      4
way 0 1 3    ok
way 1 2 3    ok
root         24
must         0
may          31
drop 0       ok
must         12
end 3        ok
cost         7
`

func TestExamples(t *testing.T) {
	checkTold(t, "4 0-3:2,1-3:2,2-3:2 7", exampleLines)
	checkTold(t, "4 0-3:2,1-3:2,2-3:2 7", `
place        4 0-3:2,1-3:2,2-3:2 7
must         7
may          7
span         6
far 0 4      none
far 3 3      0
way 0 1 10   not
drop 3       not
drop 2       ok
cost         none
root         none
must         none
may          none
choice       none
tree         none
dearest      none
span         none
far 2 0      none
far 1 0      4
place        4 0-3:2,1-3:2 7
end 2        ok
cost         4
span         none
place        4 0-3:2,1-3:2 3
back         ok
back         ok
back         not
place        4 0-3:2,1-3:2,2-3:2 7
far 0        what
far 0 1 2    what
`)
	checkTold(t, "2 . 0", `
cost         0
root         0
must         0
may          0
choice       0
tree         0
dearest      0
span         none
end 0        ok
cost         0
end 1        ok
cost         none
way 1 0 0    ok
cost         0
root         1
span         0
place        2 1-0:0 3
`)
}

// checkTold takes the last words of each line, from where many spaces end, for the answer.
func checkTold(t *testing.T, place, text string) {
	t.Helper()
	d, _ := impl.DeskNew(placeIn(place))
	var lines, want []string
	for _, line := range strings.Split(strings.TrimSpace(text), "\n") {
		asked, answer, _ := strings.Cut(line, "  ")
		lines, want = append(lines, asked), append(want, strings.TrimSpace(answer))
	}
	_, answers := impl.DeskSay(d, lines)
	if !slices.Equal(answers, want) {
		t.Errorf("%s: %q, not %q", place, answers, want)
	}
}
