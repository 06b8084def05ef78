package tests

import (
	"math/rand/v2"
	"slices"
	"strings"
	"testing"

	"loop.example/fieldroots/impl"
)

// Promise 103.

func TestNoEndsAreEnds(t *testing.T) {
	eachNet(t, func(t *testing.T, net impl.Net) {
		for ends := range 1 << net.Nodes {
			if !impl.PlaceOk(placeOf(net, ends)) {
				t.Errorf("ends %b are none", ends)
			}
		}
	})
	for _, p := range noPlaces() {
		if impl.PlaceOk(p) {
			t.Errorf("%+v is a place", p)
		}
	}
	for _, p := range somePlaces() {
		none, all := placeOf(p.Of, 0), placeOf(p.Of, allOf(p.Of.Nodes))
		if !impl.PlaceOk(p) || !impl.PlaceOk(none) || !impl.PlaceOk(all) || impl.PlaceOk(placeOf(p.Of, all.Ends+1)) {
			t.Errorf("%+v, without ends, with all, and with one more", p)
		}
	}
}

// Promise 88.

func TestTextsOfPlacesAreRead(t *testing.T) {
	seen := map[string]int{}
	eachPlace(t, func(t *testing.T, p impl.Place) {
		text := impl.PlaceText(p)
		if want := wantText(p); text != want {
			t.Fatalf("%q, not %q", text, want)
		}
		if got, ok := impl.ReadPlace(text); !ok || !samePlace(got, p) {
			t.Errorf("%q is read as %+v, %v", text, got, ok)
		}
		for _, c := range []struct {
			name string
			is   bool
		}{
			{"no ways", len(p.Of.Ways) == 0}, {"one way", len(p.Of.Ways) == 1}, {"MaxWays ways", len(p.Of.Ways) == impl.MaxWays},
			{"2 places", p.Of.Nodes == 2}, {"MaxNodes places", p.Of.Nodes == impl.MaxNodes},
			{"no ends", p.Ends == 0}, {"some ends", p.Ends > 0 && p.Ends < allOf(p.Of.Nodes)}, {"all ends", p.Ends == allOf(p.Of.Nodes)},
		} {
			if c.is {
				seen[c.name]++
			}
		}
	})
	wantCases(seen, t, "no ways", "one way", "MaxWays ways", "2 places", "MaxNodes places", "no ends", "some ends", "all ends")
}

func TestPlaceTextOfSomePlaces(t *testing.T) {
	for _, c := range []struct {
		place impl.Place
		want  string
	}{
		{placeOf(netOf(2), 0), "2 . 0"},
		{placeOf(netOf(2), 3), "2 . 3"},
		{placeOf(netOf(impl.MaxNodes), 63), "6 . 63"},
		{placeOf(netOf(2, way(1, 0, 0)), 1), "2 1-0:0 1"},
		{placeOf(netOf(3, way(2, 0, 9), way(2, 0, 9)), 5), "3 2-0:9,2-0:9 5"},
		{placeOf(netOf(4, way(0, 3, 2), way(1, 3, 2), way(2, 3, 2)), 7), "4 0-3:2,1-3:2,2-3:2 7"},
		{placeOf(edgeNets()["mesh of MaxWays ways"], 32), "6 0-1:2,0-2:2,1-2:1,1-3:4,2-3:1,3-4:0,2-5:9,4-5:3,0-5:7 32"},
		{placeOf(edgeNets()["MaxWays free ways"], 4), "3 1-0:0,1-0:0,1-0:0,1-0:0,1-0:0,1-0:0,1-0:0,1-0:0,1-0:0 4"},
	} {
		got, ok := impl.ReadPlace(c.want)
		if text := impl.PlaceText(c.place); text != c.want || !ok || !samePlace(got, c.place) {
			t.Errorf("%q, not %q, and read as %+v, %v", text, c.want, got, ok)
		}
	}
}

func TestPlaceTextOfOthers(t *testing.T) {
	for _, p := range noPlaces() {
		if text := impl.PlaceText(p); text != "" {
			t.Errorf("%+v: %q", p, text)
		}
	}
}

// Promise 89.

func TestReadTextsOfPlacesAreCanonical(t *testing.T) {
	read, refused := 0, 0
	places := somePlaces()
	for i := 0; i < len(places); i += 9 {
		text := wantText(places[i])
		other := wantText(places[(i*7+5)%len(places)])
		texts := append(spoiled(text), text+other, other+text, strings.Fields(text)[0]+" "+other)
		for at := range 3 {
			texts = append(texts, crossedAt(text, other, at), crossedAt(other, text, at))
		}
		for _, s := range texts {
			checkReadPlace(t, s)
			if _, ok := wantPlace(s); ok {
				read++
			} else {
				refused++
			}
		}
		for _, s := range []string{text + " ", " " + text, text + "\n", "\n" + text} {
			if p, ok := impl.ReadPlace(s); ok || !isNoPlace(p) {
				t.Errorf("%q is read as %+v", s, p)
			}
		}
	}
	if read < 1000 || refused < 1000 {
		t.Error(read, "texts were read, and refused", refused)
	}
}

// crossedAt has the words of a text up to a place, and from there on those of another one.
func crossedAt(text, other string, at int) string {
	words, others := strings.Fields(text), strings.Fields(other)
	return strings.Join(append(slices.Clone(words[:min(at, len(words))]), others[min(at, len(others)):]...), " ")
}

func checkReadPlace(t *testing.T, s string) {
	t.Helper()
	want, wantOk := wantPlace(s)
	got, ok := impl.ReadPlace(s)
	if ok != wantOk || !samePlace(got, want) {
		t.Errorf("%q is read as %+v, %v, not as %+v, %v", s, got, ok, want, wantOk)
	}
	if ok && impl.PlaceText(got) != s {
		t.Errorf("%q is read, and written as %q", s, impl.PlaceText(got))
	}
}

func TestTextsThatAreNoPlaces(t *testing.T) {
	for _, s := range []string{
		"", " ", "  ", ".", "2", "2 .", "2 . ", " . 0", "2  0", "2 . 0 ", " 2 . 0", "2 . 0\n", "2 . 0\x00", "2\t.\t0", "2 .\n0", "2 . 0 0",
		"0 . 0", "1 . 0", "1 . 1", "7 . 0", "10 . 0", "-2 . 0", "+2 . 0", "02 . 0", "2.0 . 0", "two . 0", "18446744073709551618 . 0", "4294967298 . 0",
		"2 . 4", "2 . -1", "2 . +1", "2 . 00", "2 . 01", "2 . .", "6 . 64", "6 . 18446744073709551616", "6 . 4294967296", "2 . 9223372036854775808",
		"2 .. 0", "2 ., 0", "2 ,. 0", "2 .,0-1:1 0", "2 0-1:1,. 0", "2 0-1:1, 0", "2 ,0-1:1 0", "2 0-1:1,,0-1:1 0", "2 0-1:1, 0-1:1 0", "2 0-1:1;0-1:1 0",
		"2 0-0:1 0", "2 0-2:1 0", "2 2-0:1 0", "2 0-1:10 0", "2 0-1:-1 0", "2 0-1:01 0", "2 00-1:1 0", "2 0-01:1 0", "2 -0-1:1 0", "2 0--1:1 0", "2 +0-1:1 0",
		"2 0-1 0", "2 0-1: 0", "2 0:1-1 0", "2 01:1 0", "2 -1:1 0", "2 0-:1 0", "2 0-1:1:1 0", "2 0-1-1:1 0", "2 0_1:1 0", "2 0-1=1 0", "2 0-1.1 0", "2 0 - 1 : 1 0",
		"2 0-1:18446744073709551617 0", "2 18446744073709551616-1:1 0", "2 0-4294967297:1 0", "2 0-1:1e0 0", "2 0-1:0x1 0", "2 0-1:1_0 0",
		"2 " + strings.Repeat("0-1:1,", impl.MaxWays) + "0-1:1 0", "2 " + strings.Repeat("0-1:1,", 1000) + "0-1:1 0", strings.Repeat("9", 1000) + " . 0", "2 . " + strings.Repeat("0", 1000),
		"2 \xff 0", "\xff\xfe\xfd", "2 . \x80", "\uff12 . 0", "2 . \u0663", "2\u00a0. 0", "way 0 1 1", "drop 0", "back", "back\n", "place", "nothing at all",
	} {
		if p, ok := impl.ReadPlace(s); ok || !isNoPlace(p) {
			t.Errorf("%q: %+v, %v", s, p, ok)
		}
	}
}

// Promise 108.

func TestTextsOfDeedsAreRead(t *testing.T) {
	seen := map[string]int{}
	list := someDeeds()
	for number := -2; number <= 102; number++ {
		list = append(list, deed(impl.DkDrop, number, 0, 0), deed(impl.DkEnd, number, 0, 0), deed(impl.DkBack, number, 0, 0))
		list = append(list, deed(impl.DkWay, number, 99-number, 7), deed(impl.DkWay, 7, 7, number), deed(impl.DkWay, 0, number, 0))
	}
	for _, a := range list {
		text := impl.DeedText(a)
		if want := wantDeedText(a); text != want {
			t.Fatalf("%+v: %q, not %q", a, text, want)
		}
		if text == "" {
			seen["no text"]++
			continue
		}
		seen[strings.Fields(text)[0]]++
		if got, ok := impl.ReadDeed(text); !ok || got != a {
			t.Fatalf("%q is read as %+v, %v, not as %+v", text, got, ok, a)
		}
	}
	wantCases(seen, t, append([]string{"no text"}, kindWords...)...)
}

func TestDeedTextOfSomeDeeds(t *testing.T) {
	for _, c := range []struct {
		deed impl.Deed
		want string
	}{
		{impl.Deed{}, "way 0 0 0"},
		{deed(impl.DkWay, 1, 2, 9), "way 1 2 9"},
		{deed(impl.DkWay, 99, 99, 99), "way 99 99 99"},
		{deed(impl.DkWay, 100, 0, 0), ""},
		{deed(impl.DkWay, 0, 100, 0), ""},
		{deed(impl.DkWay, 0, 0, 100), ""},
		{deed(impl.DkWay, -1, 0, 0), ""},
		{deed(impl.DkWay, 0, -1, 0), ""},
		{deed(impl.DkWay, 0, 0, -1), ""},
		{deed(impl.DkDrop, 0, 0, 0), "drop 0"},
		{deed(impl.DkDrop, 99, 0, 0), "drop 99"},
		{deed(impl.DkDrop, 100, 0, 0), ""},
		{deed(impl.DkDrop, 0, 1, 0), ""},
		{deed(impl.DkDrop, 0, 0, 1), ""},
		{deed(impl.DkDrop, 0, 1, -1), ""},
		{deed(impl.DkEnd, 10, 0, 0), "end 10"},
		{deed(impl.DkEnd, -1, 0, 0), ""},
		{deed(impl.DkEnd, 0, 1, 0), ""},
		{deed(impl.DkEnd, 0, 0, -1), ""},
		{deed(impl.DkBack, 0, 0, 0), "back"},
		{deed(impl.DkBack, 1, 0, 0), ""},
		{deed(impl.DkBack, 0, 1, 0), ""},
		{deed(impl.DkBack, 0, 0, 1), ""},
		{deed(impl.DkBack+1, 0, 0, 0), ""},
		{deed(-1, 0, 0, 0), ""},
	} {
		if got := impl.DeedText(c.deed); got != c.want {
			t.Errorf("%+v: %q, not %q", c.deed, got, c.want)
		}
	}
}

// Promise 109.

func TestReadTextsOfDeedsAreCanonical(t *testing.T) {
	read, refused := 0, 0
	texts := []string{"way 0 0 0", "way 1 2 9", "way 99 98 90", "way 10 0 7", "drop 0", "drop 7", "drop 42", "end 0", "end 5", "end 99", "back"}
	for _, text := range texts {
		all := spoiled(text)
		for _, other := range texts {
			all = append(all, text+other, crossedAt(text, other, 1), crossedAt(text, other, 2), crossedAt(text, other, 3))
		}
		for _, s := range all {
			checkReadDeed(t, s)
			if _, ok := wantDeed(s); ok {
				read++
			} else {
				refused++
			}
		}
		for _, s := range []string{text + " ", " " + text, text + "\n", "\n" + text} {
			if a, ok := impl.ReadDeed(s); ok || a != (impl.Deed{}) {
				t.Errorf("%q is read as %+v", s, a)
			}
		}
	}
	if read < 100 || refused < 1000 {
		t.Error(read, "texts were read, and refused", refused)
	}
}

func checkReadDeed(t *testing.T, s string) {
	t.Helper()
	want, wantOk := wantDeed(s)
	got, ok := impl.ReadDeed(s)
	if ok != wantOk || got != want {
		t.Errorf("%q is read as %+v, %v, not as %+v, %v", s, got, ok, want, wantOk)
	}
	if ok && impl.DeedText(got) != s {
		t.Errorf("%q is read, and written as %q", s, impl.DeedText(got))
	}
}

func TestTextsThatAreNoDeeds(t *testing.T) {
	for _, s := range []string{
		"", " ", "\n", "way", "way ", "way 0", "way 0 1", "way 0 1 ", "way 0 1 2 ", "way 0 1 2 3", "way  0 1 2", "way 0  1 2", " way 0 1 2", "way\t0 1 2", "way 0 1 2\n", "way 0 1 2\x00",
		"way 00 1 2", "way 0 01 2", "way 0 1 02", "way -0 1 2", "way -1 1 2", "way +0 1 2", "way 100 1 2", "way 0 100 2", "way 0 1 100", "way a 1 2", "way 0 1 x", "way 0,1,2", "way 0-1:2",
		"drop", "drop ", "drop 0 ", "drop 0 0", "drop 0 0 0", "drop 00", "drop 07", "drop -1", "drop +1", "drop 100", "drop  0", "drop 0\n", "drop a", "drop0", "Drop 0", "drops 0", "dro 0",
		"end", "end ", "end 0 ", "end 0 0", "end 0 0 0", "end 01", "end -1", "end +1", "end 100", "end  0", "end0", "END 0", "en 0", "end 0x0", "end 1e1", "end 1_0",
		"back ", " back", "back 0", "back 0 0 0", "back\n", "backs", "bac", "ack", "Back", "back\x00", "b\u0430ck",
		"drop 18446744073709551616", "drop 4294967296", "end 18446744073709551617", "way 18446744073709551616 1 2", "drop 9223372036854775807", "drop -9223372036854775808",
		"drop " + strings.Repeat("9", 1000), "drop " + strings.Repeat("0", 1000), "way 0 1 " + strings.Repeat(" ", 100), "\xff", "drop \xff", "drop \x800", "drop \u0663", "drop \uff15",
		"place", "cost", "far 0 1", "2 . 0", "0", "0 0 0", "0 1 2", "1 0", "way 0 1 2 drop 0", "drop 0back", "back back", "go 0", "back0",
	} {
		if a, ok := impl.ReadDeed(s); ok || a != (impl.Deed{}) {
			t.Errorf("%q: %+v, %v", s, a, ok)
		}
	}
}

// Promise 110.

func TestJournalsAreRead(t *testing.T) {
	r := rand.New(rand.NewPCG(35, 36))
	seen := map[string]int{}
	for range 3000 {
		list := drawnDeeds(r, r.IntN(6)*r.IntN(6), drawnDeed)
		text := impl.JournalText(list)
		got, read := impl.ReadJournal(text)
		untold := slices.ContainsFunc(list, func(a impl.Deed) bool { return wantDeedText(a) == "" })
		switch {
		case untold:
			if text != "" {
				t.Fatalf("%+v: %q", list, text)
			}
			seen["a deed has no text"]++
		case text != logOf(list...) || !slices.Equal(got, list) || read != len(text):
			t.Fatalf("%q, not %q, and read as %+v, %d bytes", text, logOf(list...), got, read)
		case len(list) == 0:
			seen["no deeds"]++
		case len(list) == 1:
			seen["one deed"]++
		default:
			seen["some deeds"]++
		}
	}
	wantCases(seen, t, "a deed has no text", "no deeds", "one deed", "some deeds")
}

func TestJournalTextWithADeedWithoutText(t *testing.T) {
	good := deedsIn("way 0 1 2", "drop 3", "end 99", "back")
	if got := impl.JournalText(good); got != "way 0 1 2\ndrop 3\nend 99\nback\n" {
		t.Errorf("%q", got)
	}
	for _, bad := range someDeeds() {
		if wantDeedText(bad) != "" {
			continue
		}
		for at := range len(good) + 1 {
			if got := impl.JournalText(slices.Insert(slices.Clone(good), at, bad)); got != "" {
				t.Fatalf("with %+v at %d: %q", bad, at, got)
			}
		}
	}
}

func TestJournalsOfAnyLengthAreRead(t *testing.T) {
	list := slices.Repeat(deedsIn("way 99 99 99", "back", "end 7"), 5*impl.MaxLog)
	text := impl.JournalText(list)
	got, read := impl.ReadJournal(text)
	if len(text) != 5*impl.MaxLog*(13+5+6) || read != len(text) || !slices.Equal(got, list) {
		t.Error(len(text), read, len(got))
	}
}

// Promise 91.

func TestWhereverAJournalIsCutADeskOfBeforeIsFound(t *testing.T) {
	r := rand.New(rand.NewPCG(37, 38))
	seen := map[string]int{}
	desks := someDesks(60)
	for _, text := range someLogs(400) {
		list, read := impl.ReadJournal(text)
		if want, wantRead := wantJournal(text); !slices.Equal(list, want) || read != wantRead {
			t.Fatalf("%q is read as %+v, %d, not as %+v, %d", text, list, read, want, wantRead)
		}
		if impl.JournalText(list) != text[:read] {
			t.Fatalf("%q is read, and written as %q", text[:read], impl.JournalText(list))
		}
		for left := range len(text) + 1 {
			first, some := impl.ReadJournal(text[:left])
			if len(first) > len(list) || !slices.Equal(first, list[:len(first)]) || some != len(logOf(first...)) || some > left {
				t.Fatalf("%d bytes of %q are read as %+v, %d", left, text, first, some)
			}
			// The next deed is left out only if its line is not whole.
			if next := len(first) + 1; next <= len(list) && len(logOf(list[:next]...)) <= left {
				t.Fatalf("%d bytes of %q are read as %+v alone", left, text, first)
			}
			seeCut(seen, text, list, read, left)
		}
		if len(list) <= impl.MaxLines {
			checkSaid(t, desks[r.IntN(len(desks))], list)
		}
	}
	wantCases(seen, t, "nothing left", "between two lines", "before the newline", "within a line", "past what is read", "all is left and read")
}

func seeCut(seen map[string]int, text string, list []impl.Deed, read, left int) {
	switch {
	case left == 0:
		seen["nothing left"]++
	case left > read:
		seen["past what is read"]++
	case left == len(text):
		seen["all is left and read"]++
	case text[left-1] == '\n':
		seen["between two lines"]++
	case text[left] == '\n':
		seen["before the newline"]++
	default:
		seen["within a line"]++
	}
}

func checkSaid(t *testing.T, d impl.Desk, list []impl.Deed) {
	t.Helper()
	run, _ := impl.DeskRun(d, list)
	lines := strings.Split(strings.TrimSuffix(logOf(list...), "\n"), "\n")
	said, answers := impl.DeskSay(d, lines[:len(list)])
	if !sameDesk(run, said) || len(answers) != len(list) {
		t.Errorf("run %+v, and said %+v, answered %q", run, said, answers)
	}
}

// noDeedLines are ended by a newline in logs, and are no deeds.
func noDeedLines() []string {
	return []string{"", " ", "what", "drop", "drop 0 ", "way 0 1", "way 0 1 100", "back 0", "end 01", "\x00", "\xff\xfe", "drop 1\r", "dro", "place", strings.Repeat("9", 50), "back\x00", "2 . 0"}
}

// someLogs are whole, torn at their ends, or have a line that is no deed: the first one, one in the middle, or the last one.
func someLogs(count int) []string {
	r := rand.New(rand.NewPCG(39, 40))
	logs := []string{"", "\n", "\n\n", " \n", "b", "back", "back\n", "\nback\n", "back\n\n", "back\n\nback\n", "back\nback", "back\r\nback\r\n", "drop 1\nend 0\nba", strings.Repeat("back\n", 60), strings.Repeat("end 0\n", 41) + "end"}
	for range count {
		list := drawnDeeds(r, r.IntN(9), drawnText)
		log := logOf(list...)
		switch r.IntN(4) {
		case 0:
			log = log[:r.IntN(len(log)+1)]
		case 1, 2:
			at := r.IntN(len(list) + 1)
			log = logOf(list[:at]...) + noDeedLines()[r.IntN(len(noDeedLines()))] + "\n" + logOf(list[at:]...)
		}
		logs = append(logs, log)
	}
	return logs
}

func TestReadJournalOfSomeTexts(t *testing.T) {
	for _, c := range []struct {
		text string
		want []impl.Deed
		read int
	}{
		{"", nil, 0},
		{"\n", nil, 0},
		{"back", nil, 0},
		{"back\n", deedsIn("back"), 5},
		{"back\nback", deedsIn("back"), 5},
		{"back\n\nback\n", deedsIn("back"), 5},
		{"back \nback\n", nil, 0},
		{" back\nback\n", nil, 0},
		{"back\r\n", nil, 0},
		{"drop 1\nend 0\nba", deedsIn("drop 1", "end 0"), 13},
		{"drop 1\nend 100\nback\n", deedsIn("drop 1"), 7},
		{"drop 1\nend 0 0\nback\n", deedsIn("drop 1"), 7},
		// What is left of a torn number is a number too, but its line has no end.
		{"drop 12", nil, 0},
		{"drop 1", nil, 0},
		{"drop 1\ndrop 12", deedsIn("drop 1"), 7},
		{"way 99 99 99\nway 0 0 0\n", deedsIn("way 99 99 99", "way 0 0 0"), 23},
		{"way 0 1 2\ncost\nback\n", deedsIn("way 0 1 2"), 10},
		{"\x00back\n", nil, 0},
	} {
		list, read := impl.ReadJournal(c.text)
		if !slices.Equal(list, c.want) || read != c.read {
			t.Errorf("%q is read as %+v, %d, not as %+v, %d", c.text, list, read, c.want, c.read)
		}
	}
}
