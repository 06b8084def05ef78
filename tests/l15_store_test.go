package tests

import (
	"math"
	"math/rand/v2"
	"slices"
	"strings"
	"testing"

	"loop.example/fieldroots/impl"
)

func storeOf(saved, log string, sure int) impl.Store {
	return impl.Store{Saved: saved, Log: log, Sure: sure}
}

func isNoStore(s impl.Store) bool { return s == impl.Store{} }

// logWith is a log of just so many bytes, from 20 on: each number is some fives and some sixes.
func logWith(bytes int) string {
	backs := 0
	for (bytes-backs*len("back\n"))%len("end 0\n") != 0 {
		backs++
	}
	return strings.Repeat("back\n", backs) + strings.Repeat("end 0\n", (bytes-backs*len("back\n"))/len("end 0\n"))
}

// fullLogs have MaxLog bytes, or one less, and are whole, torn, or no lines at all.
func fullLogs() []string {
	logs := []string{strings.Repeat("x", impl.MaxLog), strings.Repeat("\n", impl.MaxLog), logWith(impl.MaxLog - 4)[:impl.MaxLog-4] + "back"}
	for less := range 14 {
		logs = append(logs, logWith(impl.MaxLog-less))
	}
	return logs
}

// someStores have logs that are whole, torn or broken, of which none, all or some bytes are sure.
func someStores(count int) []impl.Store {
	r := rand.New(rand.NewPCG(51, 52))
	places := somePlaces()
	var stores []impl.Store
	for _, log := range append(someLogs(count), fullLogs()...) {
		saved := wantText(places[r.IntN(len(places))])
		stores = append(stores, storeOf(saved, log, []int{0, len(log), r.IntN(len(log) + 1), r.IntN(len(log) + 1)}[r.IntN(4)]))
	}
	return stores
}

func eachStore(t *testing.T, count int, check func(t *testing.T, s impl.Store)) {
	t.Helper()
	for _, s := range someStores(count) {
		check(t, s)
		if t.Failed() {
			t.Fatalf("store: %+v", s)
		}
	}
}

// noStores are none for one reason alone: Saved is no text of a place, the log is too long, or Sure is not within it.
func noStores() []impl.Store {
	stores := []impl.Store{{}, {Log: "back\n"}, {Log: "back\n", Sure: 5}}
	for _, saved := range []string{" ", "2 .", "2 . 0 ", " 2 . 0", "2 . 0\n", "2 . 4", "2 . 00", "1 . 0", "7 . 0", "2 0-0:1 0", "2 0-1:10 0", "2 .. 0", "place", "back", "\xff", strings.Repeat("9", 2000)} {
		stores = append(stores, storeOf(saved, "", 0), storeOf(saved, "end 0\n", 6))
	}
	for _, log := range []string{logWith(impl.MaxLog + 1), strings.Repeat("x", impl.MaxLog+1), logWith(10 * impl.MaxLog), logWith(impl.MaxLog) + "b"} {
		stores = append(stores, storeOf("2 . 0", log, 0), storeOf("2 . 0", log, impl.MaxLog), storeOf("2 . 0", log, len(log)))
	}
	for _, log := range []string{"", "back", "end 0\nend 1\n", logWith(impl.MaxLog)} {
		for _, sure := range []int{-1, -len(log) - 1, math.MinInt, len(log) + 1, len(log) + 100, 1 << 32, math.MaxInt} {
			stores = append(stores, storeOf("2 . 0", log, sure))
		}
	}
	return stores
}

func eachNoStore(t *testing.T, check func(t *testing.T, s impl.Store)) {
	t.Helper()
	for _, s := range noStores() {
		check(t, s)
		if t.Failed() {
			t.Fatalf("store that is none: %+v", s)
		}
	}
}

// wantOpen lets the texts of the log change the saved text.
func wantOpen(s impl.Store) told {
	list, _ := wantJournal(s.Log)
	d, _ := told{s.Saved}.afterAll(list)
	return d
}

func checkOpen(t *testing.T, s impl.Store, want told) {
	t.Helper()
	if d, ok := impl.StoreOpen(s); !ok || !want.is(d) {
		t.Fatalf("%+v is opened as %q, %v, not as %q", s, toldOf(d), ok, want)
	}
}

// Promise 93.

func TestEmptyLogsAreLogs(t *testing.T) {
	eachPlace(t, func(t *testing.T, p impl.Place) {
		if !impl.StoreOk(storeOf(wantText(p), "", 0)) {
			t.Error("with an empty log it is no store")
		}
	})
	eachStore(t, 200, func(t *testing.T, s impl.Store) {
		if !impl.StoreOk(s) || !impl.StoreOk(storeOf(s.Saved, "", 0)) {
			t.Error("is none, or with an empty log")
		}
		for sure := range len(s.Log) + 1 {
			if !impl.StoreOk(storeOf(s.Saved, s.Log, sure)) {
				t.Errorf("is none with %d bytes sure", sure)
			}
		}
		if impl.StoreOk(storeOf(s.Saved, s.Log, len(s.Log)+1)) || impl.StoreOk(storeOf(s.Saved, s.Log, -1)) {
			t.Error("is one with more bytes sure than there are, or fewer than none")
		}
	})
}

func TestStoreOkOfOthers(t *testing.T) {
	eachNoStore(t, func(t *testing.T, s impl.Store) {
		if impl.StoreOk(s) {
			t.Error("is one")
		}
	})
	for _, text := range spoiled("3 0-2:1,1-2:0 5") {
		if _, ok := wantPlace(text); impl.StoreOk(storeOf(text, "back\n", 2)) != ok {
			t.Errorf("with %q saved it is a store: %v", text, !ok)
		}
	}
}

// Promise 94.

func TestNewStoresOpenWithTheirPlace(t *testing.T) {
	eachPlace(t, func(t *testing.T, p impl.Place) {
		s, ok := impl.StoreNew(p)
		if !ok || s != storeOf(wantText(p), "", 0) || !impl.StoreOk(s) {
			t.Fatalf("%+v, %v", s, ok)
		}
		fresh, _ := impl.DeskNew(p)
		if d, ok := impl.StoreOpen(s); !ok || !sameDesk(d, fresh) || !sameDesk(d, deskOf(p)) {
			t.Errorf("is opened as %+v, %v", d, ok)
		}
	})
	for _, p := range noPlaces() {
		if s, ok := impl.StoreNew(p); ok || !isNoStore(s) {
			t.Errorf("%+v: %+v, %v", p, s, ok)
		}
	}
}

// Promise 95.

func TestOpenedAgainItIsTheSame(t *testing.T) {
	seen := map[string]int{}
	eachStore(t, 600, func(t *testing.T, s impl.Store) {
		want := wantOpen(s)
		d, ok := impl.StoreOpen(s)
		if !ok || !impl.DeskOk(d) || !want.is(d) {
			t.Fatalf("is opened as %q, %v, not as %q", toldOf(d), ok, want)
		}
		mended, _ := impl.StoreMend(s)
		synced, _ := impl.StoreSync(s)
		checkOpen(t, s, want)
		checkOpen(t, mended, want)
		checkOpen(t, synced, want)
		list, read := wantJournal(s.Log)
		_, many := told{s.Saved}.afterAll(list)
		switch {
		case read == 0:
			seen["nothing is read"]++
		case len(list) > impl.MaxLines:
			seen["more than MaxLines deeds"]++
		case many < len(list):
			seen["some cannot be done"]++
		case read < len(s.Log):
			seen["the end is torn"]++
		default:
			seen["all is read"]++
		}
	})
	wantCases(seen, t, "nothing is read", "more than MaxLines deeds", "some cannot be done", "the end is torn", "all is read")
}

func TestStoreOpenOfSomeLogs(t *testing.T) {
	for _, c := range []struct{ log, want string }{
		{"", "3 0-1:4 3"},
		{"back\n", "3 0-1:4 3"},
		{"end 2\n", "3 0-1:4 3;3 0-1:4 7"},
		{"end 2\nend 2\n", "3 0-1:4 3;3 0-1:4 7;3 0-1:4 3"},
		{"end 2", "3 0-1:4 3"},
		{"end 2\nend", "3 0-1:4 3;3 0-1:4 7"},
		{"end 3\nend 2\n", "3 0-1:4 3;3 0-1:4 7"},
		{"end 2\nback\nback\nway 2 1 0\n", "3 0-1:4 3;3 0-1:4,2-1:0 3"},
		{"\nend 2\n", "3 0-1:4 3"},
		{"end 2\n\nend 0\n", "3 0-1:4 3;3 0-1:4 7"},
		{"end 2\nwhat\nend 0\n", "3 0-1:4 3;3 0-1:4 7"},
		{"end 2\nend 0 \nend 1\n", "3 0-1:4 3;3 0-1:4 7"},
		{strings.Repeat("end 2\n", 100), strings.Repeat("3 0-1:4 3;3 0-1:4 7;", 4) + "3 0-1:4 3"},
		{strings.Repeat("drop 5\n", 100) + "drop 0\n", "3 0-1:4 3;3 . 3"},
	} {
		if d, ok := impl.StoreOpen(storeOf("3 0-1:4 3", c.log, 0)); !ok || strings.Join(toldOf(d), ";") != c.want {
			t.Errorf("%q: %q, %v, not %s", c.log, toldOf(d), ok, c.want)
		}
	}
}

// Promise 96.

func TestWhatIsActedAtTheStoreIsDoneAtTheDesk(t *testing.T) {
	r := rand.New(rand.NewPCG(53, 54))
	seen := map[string]int{}
	eachStore(t, 600, func(t *testing.T, s impl.Store) {
		for _, a := range append(drawnDeeds(r, 6, drawnDeed), deedsIn("end 0", "back", "drop 0", "way 0 1 5")...) {
			checkAct(t, seen, s, a)
		}
	})
	wantCases(seen, t, "is acted", "is acted, and the log is full", "cannot be done", "not all is read", "the log has no room", "nothing is read, and all is torn")
}

// checkAct has just one reason why a deed is not acted, or the first one of several.
func checkAct(t *testing.T, seen map[string]int, s impl.Store, a impl.Deed) {
	t.Helper()
	before, _ := impl.StoreOpen(s)
	next, done := wantOpen(s).after(a)
	_, read := wantJournal(s.Log)
	log := s.Log + wantDeedText(a) + "\n"
	got, ok := impl.StoreAct(s, a)
	if !done || read < len(s.Log) || len(log) > impl.MaxLog {
		if ok || got != s {
			t.Fatalf("%+v: %+v, %v", a, got, ok)
		}
		switch {
		case !done:
			seen["cannot be done"]++
		case read == 0 && s.Log != "":
			seen["nothing is read, and all is torn"]++
		case read < len(s.Log):
			seen["not all is read"]++
		default:
			seen["the log has no room"]++
		}
		return
	}
	if !ok || got != storeOf(s.Saved, log, s.Sure) || !impl.StoreOk(got) {
		t.Fatalf("%+v: %+v, %v", a, got, ok)
	}
	checkOpen(t, got, next)
	if after, _ := impl.DeskDo(before, a); !next.is(after) {
		t.Errorf("%+v: at the desk %q, at the store %q", a, toldOf(after), next)
	}
	seen[map[bool]string{true: "is acted, and the log is full", false: "is acted"}[len(log) == impl.MaxLog]]++
}

func TestTheLogHasRoomForMaxLogBytes(t *testing.T) {
	for _, text := range []string{"end 0", "end 2", "drop 0", "way 0 1 5", "way 2 1 0", "back"} {
		room := impl.MaxLog - len(text) - 1
		for bytes := room - 7; bytes <= impl.MaxLog; bytes++ {
			s := storeOf("3 0-1:4 3", logWith(bytes), 40)
			want := s
			if bytes <= room {
				want.Log += text + "\n"
			}
			if got, ok := impl.StoreAct(s, deedIn(text)); ok != (bytes <= room) || got != want {
				t.Errorf("%q behind %d bytes: %v, then %d bytes, of which %d are sure", text, bytes, ok, len(got.Log), got.Sure)
			}
		}
	}
}

func TestStoreActOfSomeDeeds(t *testing.T) {
	for _, c := range []struct{ log, deed, want string }{
		{"", "end 0", "end 0\n"},
		{"", "drop 0", "drop 0\n"},
		{"", "drop 1", ""},
		{"", "back", ""},
		{"", "way 0 1 10", ""},
		{"", "end 3", ""},
		{"end 0\n", "back", "end 0\nback\n"},
		{"drop 0\n", "drop 0", ""},
		{"drop 0\n", "way 2 0 9", "drop 0\nway 2 0 9\n"},
		{"drop 0", "end 0", ""},
		{"drop 0\nend", "end 0", ""},
		{"\n", "end 0", ""},
		{"what\nend 0\n", "end 0", ""},
		{"end 0\n\nend 0\n", "end 0", ""},
		// Deeds that could not be done do not matter.
		{"drop 9\nback\n", "end 0", "drop 9\nback\nend 0\n"},
	} {
		want := c.want
		if want == "" {
			want = c.log
		}
		got, ok := impl.StoreAct(storeOf("3 0-1:4 3", c.log, 0), deedIn(c.deed))
		if ok != (c.want != "") || got != storeOf("3 0-1:4 3", want, 0) {
			t.Errorf("%q, %s: %+v, %v", c.log, c.deed, got, ok)
		}
	}
}

func TestStoreActOfOtherDeeds(t *testing.T) {
	s := storeOf("3 0-1:4,1-2:0 3", "end 0\n", 3)
	for _, a := range someDeeds() {
		checkAct(t, map[string]int{}, s, a)
	}
}

// Promise 97.

func TestWhatIsSureCannotBeLost(t *testing.T) {
	eachStore(t, 200, func(t *testing.T, s impl.Store) {
		synced, ok := impl.StoreSync(s)
		if !ok || synced != storeOf(s.Saved, s.Log, len(s.Log)) || !impl.StoreOk(synced) {
			t.Fatalf("%+v, %v", synced, ok)
		}
		for left := -1; left <= len(s.Log)+1; left++ {
			broken, ok := impl.StoreCrash(synced, left)
			if ok != (left == len(s.Log)) || ok && broken != synced || !ok && !isNoStore(broken) {
				t.Errorf("with %d bytes left %+v, %v", left, broken, ok)
			}
		}
		if again, ok := impl.StoreSync(synced); !ok || again != synced {
			t.Errorf("made sure again %+v, %v", again, ok)
		}
	})
}

// Promise 98.

func TestSavedIsSaved(t *testing.T) {
	changed := 0
	eachStore(t, 400, func(t *testing.T, s impl.Store) {
		before := wantOpen(s)
		place := before[len(before)-1]
		saved, ok := impl.StoreSave(s)
		if !ok || saved != storeOf(place, "", 0) || !impl.StoreOk(saved) {
			t.Fatalf("%+v, %v, and its place is %s", saved, ok, place)
		}
		checkOpen(t, saved, told{place})
		if broken, ok := impl.StoreCrash(saved, 0); !ok || broken != saved {
			t.Errorf("broken down %+v, %v", broken, ok)
		}
		if again, ok := impl.StoreSave(saved); !ok || again != saved {
			t.Errorf("saved again %+v, %v", again, ok)
		}
		// Places of before are not saved.
		if got, ok := impl.StoreAct(saved, backDeed()); ok || got != saved {
			t.Errorf("put back %+v, %v", got, ok)
		}
		if place != s.Saved {
			changed++
		}
	})
	if changed < 50 {
		t.Error("just so many stores had another place:", changed)
	}
}

// Promise 99.

func TestBrokenDownTwiceIsBrokenDownOnce(t *testing.T) {
	eachStore(t, 100, func(t *testing.T, s impl.Store) {
		for left := s.Sure; left <= len(s.Log); left++ {
			broken, ok := impl.StoreCrash(s, left)
			if !ok || broken != storeOf(s.Saved, s.Log[:left], s.Sure) || !impl.StoreOk(broken) {
				t.Fatalf("with %d bytes left %+v, %v", left, broken, ok)
			}
			for _, fewer := range []int{left, left - 1, (left + s.Sure) / 2, s.Sure} {
				if fewer < s.Sure {
					continue
				}
				again, ok := impl.StoreCrash(broken, fewer)
				first, _ := impl.StoreCrash(s, fewer)
				if !ok || again != first || fewer == left && again != broken {
					t.Errorf("with %d bytes left, and then %d, %+v, %v", left, fewer, again, ok)
				}
			}
			if more, ok := impl.StoreCrash(broken, left+1); ok || !isNoStore(more) {
				t.Errorf("with %d bytes left, and then one more, %+v", left, more)
			}
		}
	})
}

func TestStoreCrashOfOthers(t *testing.T) {
	eachStore(t, 200, func(t *testing.T, s impl.Store) {
		for _, left := range []int{-1, s.Sure - 1, -s.Sure - 1, len(s.Log) + 1, len(s.Log) + 100, math.MinInt, math.MaxInt, 1 << 32, -1 << 32} {
			if broken, ok := impl.StoreCrash(s, left); ok || !isNoStore(broken) {
				t.Errorf("with %d bytes left %+v, %v", left, broken, ok)
			}
		}
	})
	eachNoStore(t, func(t *testing.T, s impl.Store) {
		for _, left := range []int{0, s.Sure, len(s.Log), -1, 5, impl.MaxLog, impl.MaxLog + 1} {
			if broken, ok := impl.StoreCrash(s, left); ok || !isNoStore(broken) {
				t.Errorf("with %d bytes left %+v, %v", left, broken, ok)
			}
		}
	})
}

// Promise 100.

func TestWhatWasSureIsNeverLost(t *testing.T) {
	seen := map[string]int{}
	eachStore(t, 200, func(t *testing.T, s impl.Store) {
		list, _ := impl.ReadJournal(s.Log)
		sure, _ := impl.ReadJournal(s.Log[:s.Sure])
		for left := s.Sure; left <= len(s.Log); left++ {
			broken, ok := impl.StoreCrash(s, left)
			kept, _ := impl.ReadJournal(broken.Log)
			if !ok || len(kept) < len(sure) || len(kept) > len(list) || !slices.Equal(kept, list[:len(kept)]) || !slices.Equal(sure, kept[:len(sure)]) {
				t.Fatalf("with %d bytes left %+v is kept of %+v, and %+v was sure", left, kept, list, sure)
			}
			d, ok := impl.StoreOpen(broken)
			if !ok || !sameDesk(d, ranFrom(s.Saved, kept)) {
				t.Errorf("with %d bytes left it is opened as %q, %v", left, toldOf(d), ok)
			}
			switch {
			case len(kept) == len(list):
				seen["all is kept"]++
			case len(kept) == len(sure):
				seen["just what was sure is kept"]++
			default:
				seen["more than was sure is kept"]++
			}
		}
	})
	wantCases(seen, t, "all is kept", "just what was sure is kept", "more than was sure is kept")
}

// ranFrom runs at most MaxLines deeds at once.
func ranFrom(saved string, list []impl.Deed) impl.Desk {
	d := deskOf(placeIn(saved))
	for part := range slices.Chunk(list, impl.MaxLines) {
		d, _ = impl.DeskRun(d, part)
	}
	return d
}

// Promise 101.

func TestByAnyWayItIsTheSamePlace(t *testing.T) {
	r := rand.New(rand.NewPCG(55, 56))
	for _, p := range somePlaces() {
		list := drawnDeeds(r, r.IntN(40), drawnDeed)
		d, _ := impl.DeskNew(p)
		s, _ := impl.StoreNew(p)
		for _, a := range list {
			next, done := impl.DeskDo(d, a)
			acted, ok := impl.StoreAct(s, a)
			if done != ok {
				t.Fatalf("%+v, %+v: done at the desk %v, at the store %v", p, a, done, ok)
			}
			d, s = next, acted
			if r.IntN(4) == 0 {
				s, _ = impl.StoreSync(s)
			}
			if opened, ok := impl.StoreOpen(s); !ok || !sameDesk(opened, d) {
				t.Fatalf("%+v, %+v: at the desk %q, at the store %q", p, a, toldOf(d), toldOf(opened))
			}
		}
	}
}

// Behind a save there are no places of before, so that nothing is put back here.
func TestByAnyWayItIsTheSamePlaceIfItIsSaved(t *testing.T) {
	r := rand.New(rand.NewPCG(57, 58))
	saves := 0
	for _, p := range somePlaces() {
		list := drawnDeeds(r, r.IntN(40), drawnDeed)
		list = slices.DeleteFunc(list, func(a impl.Deed) bool { return a.Kind == impl.DkBack })
		d, _ := impl.DeskNew(p)
		s, _ := impl.StoreNew(p)
		for _, a := range list {
			d, _ = impl.DeskDo(d, a)
			s, _ = impl.StoreAct(s, a)
			switch r.IntN(5) {
			case 0:
				s, _ = impl.StoreSave(s)
				saves++
			case 1:
				s, _ = impl.StoreSync(s)
			}
		}
		if opened, ok := impl.StoreOpen(s); !ok || !samePlace(opened.Now, d.Now) {
			t.Fatalf("%+v, %+v: at the desk %q, at the store %q", p, list, toldOf(d), toldOf(opened))
		}
	}
	if saves < 100 {
		t.Error("saved just so often:", saves)
	}
}

// Promise 102.

func TestInTheEndAllIsThereAgain(t *testing.T) {
	seen := map[string]int{}
	eachStore(t, 150, func(t *testing.T, s impl.Store) {
		want := wantOpen(s)
		list, _ := impl.ReadJournal(s.Log)
		// Long logs are not broken at each byte, for all that is lost of them is acted once more.
		step := 1 + len(s.Log)/200*12
		for left := s.Sure; left <= len(s.Log); left += step {
			broken, _ := impl.StoreCrash(s, left)
			mended, ok := impl.StoreMend(broken)
			kept, _ := impl.ReadJournal(mended.Log)
			if !ok || len(kept) > len(list) {
				t.Fatalf("with %d bytes left it is mended as %+v, %v", left, mended, ok)
			}
			for _, a := range list[len(kept):] {
				var acted bool
				mended, acted = impl.StoreAct(mended, a)
				seen[map[bool]string{true: "acted again", false: "cannot be done again"}[acted]]++
			}
			checkOpen(t, mended, want)
		}
	})
	wantCases(seen, t, "acted again", "cannot be done again")
}

// Promise 105.

func TestMendedTheLogIsReadWhole(t *testing.T) {
	seen := map[string]int{}
	eachStore(t, 600, func(t *testing.T, s impl.Store) {
		_, read := wantJournal(s.Log)
		mended, ok := impl.StoreMend(s)
		if !ok || mended != storeOf(s.Saved, s.Log[:read], min(s.Sure, read)) || !impl.StoreOk(mended) {
			t.Fatalf("%+v, %v", mended, ok)
		}
		if _, read := impl.ReadJournal(mended.Log); read != len(mended.Log) {
			t.Errorf("just %d bytes are read of %q", read, mended.Log)
		}
		if again, ok := impl.StoreMend(mended); !ok || again != mended {
			t.Errorf("mended again %+v, %v", again, ok)
		}
		want, room := mended, len(mended.Log)+len("end 0\n") <= impl.MaxLog
		if room {
			want.Log += "end 0\n"
		}
		if acted, ok := impl.StoreAct(mended, deedIn("end 0")); ok != room || acted != want {
			t.Errorf("acted %+v, %v", acted, ok)
		}
		switch {
		case !room:
			seen["no room"]++
		case read == len(s.Log):
			seen["all was read"]++
		case s.Sure > read:
			seen["fewer are sure"]++
		default:
			seen["as many are sure"]++
		}
	})
	wantCases(seen, t, "no room", "all was read", "fewer are sure", "as many are sure")
}

func TestStoreMendOfSomeLogs(t *testing.T) {
	for _, c := range []struct {
		log  string
		sure int
		want string
		left int
	}{
		{"", 0, "", 0},
		{"x", 1, "", 0},
		{"back", 4, "", 0},
		{"back\n", 4, "back\n", 4},
		{"back\n", 5, "back\n", 5},
		{"back\nb", 6, "back\n", 5},
		{"back\nb", 5, "back\n", 5},
		{"back\nb", 2, "back\n", 2},
		{"drop 2\nen", 7, "drop 2\n", 7},
		{"\nback\n", 6, "", 0},
		{"end 0\n\nend 1\n", 13, "end 0\n", 6},
		{"end 0\nend 07\nend 1\n", 8, "end 0\n", 6},
	} {
		if got, ok := impl.StoreMend(storeOf("2 . 0", c.log, c.sure)); !ok || got != storeOf("2 . 0", c.want, c.left) {
			t.Errorf("%q, %d bytes sure: %+v, %v", c.log, c.sure, got, ok)
		}
	}
}

// All functions of a store that take no other argument, and StoreAct.

func TestStoresThatAreNone(t *testing.T) {
	eachNoStore(t, func(t *testing.T, s impl.Store) {
		if d, ok := impl.StoreOpen(s); ok || !isNoDesk(d) {
			t.Errorf("opened %+v, %v", d, ok)
		}
		if got, ok := impl.StoreSync(s); ok || !isNoStore(got) {
			t.Errorf("made sure %+v, %v", got, ok)
		}
		if got, ok := impl.StoreSave(s); ok || !isNoStore(got) {
			t.Errorf("saved %+v, %v", got, ok)
		}
		if got, ok := impl.StoreMend(s); ok || !isNoStore(got) {
			t.Errorf("mended %+v, %v", got, ok)
		}
		for _, a := range append(deedsIn("end 0", "way 0 1 1", "drop 0", "back", "way 99 99 99"), deed(4, 0, 0, 0), deed(impl.DkEnd, -1, 0, 0)) {
			if got, ok := impl.StoreAct(s, a); ok || !isNoStore(got) {
				t.Errorf("%+v is acted: %+v, %v", a, got, ok)
			}
		}
	})
}
