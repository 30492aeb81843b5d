package tests

import (
	"fmt"
	"math/rand"
	"slices"
	"testing"

	"loop.example/wharfquorum/impl"
)

// reached is a world that some turns of a drawn run have led to.
func reached(t *testing.T, rnd *rand.Rand, of int, turns int) impl.RecWorld {
	t.Helper()
	h := newHistory(rnd, of)
	for turn := range turns {
		h.turn(t, fmt.Sprint("turn ", turn), rnd)
	}
	return h.w
}

// roundsOf is calm rounds by events, one by one.
func roundsOf(w impl.RecWorld, rounds int) impl.RecWorld {
	for range rounds {
		w = tickWorld(w)
		for range len(w.Flight) {
			w = impl.RecDo(w, impl.RecEvent{Kind: impl.RecEvBring})
		}
	}
	return w
}

func TestCalmIsTicksAndBrings(t *testing.T) {
	rnd := rand.New(rand.NewSource(13))
	for run := range 60 {
		w := reached(t, rnd, 1+run%impl.RecMaxRecorders, rnd.Intn(120))
		for _, rounds := range []int{0, 1, 2, 3, 12, 30} {
			name := fmt.Sprint("run ", run, ", ", rounds, " rounds")
			got := checkedCalm(t, name, w, rounds)
			if want := roundsOf(w, rounds); !sameWorld(got, want) {
				t.Fatalf("%s:\n got  %+v\n want %+v", name, got, want)
			}
			checkWorldForth(t, name, w, got, impl.RecEvent{})
			if rounds > 0 && len(got.Flight) > 0 {
				t.Errorf("%s: %d are left in flight", name, len(got.Flight))
			}
			if !impl.RecAgree(got) {
				t.Errorf("%s: no agreement", name)
			}
		}
	}
}

func TestCalmInTwoParts(t *testing.T) {
	rnd := rand.New(rand.NewSource(10))
	most := impl.RecMaxCalm
	for run := range 12 {
		w := reached(t, rnd, 1+run%impl.RecMaxRecorders, rnd.Intn(100))
		parts := [][2]int{{0, 0}, {0, 1}, {1, 0}, {1, 1}, {7, 8}, {20, 1}, {0, most}, {most, 0}, {1, most - 1}, {most - 1, 1}, {most / 2, most / 2}}
		for range 4 {
			parts = append(parts, [2]int{rnd.Intn(60), rnd.Intn(60)})
		}
		for _, p := range parts {
			twice, once := impl.RecCalm(impl.RecCalm(w, p[0]), p[1]), impl.RecCalm(w, p[0]+p[1])
			if !sameWorld(twice, once) {
				t.Errorf("run %d, %v rounds:\n in parts %+v\n at once  %+v", run, p, twice, once)
			}
		}
	}
}

func TestCalmBeyondItsEnds(t *testing.T) {
	// One that leads alone counts every tick in Heard, so no two numbers of rounds answer the same.
	w := impl.RecCalm(impl.RecNewWorld(3), 15)
	if !w.Recorders[0].Lead {
		t.Fatalf("the first does not lead: %+v", w)
	}
	for _, rounds := range []int{-far - 1, -impl.RecMaxCalm, -2, -1, 0} {
		if got := checkedCalm(t, fmt.Sprint(rounds), w, rounds); !sameWorld(got, w) {
			t.Errorf("%d rounds: %+v", rounds, got)
		}
	}
	heard := w.Recorders[0].Heard
	for _, rounds := range []int{1, 2, impl.RecMaxCalm - 1, impl.RecMaxCalm} {
		if got := checkedCalm(t, fmt.Sprint(rounds), w, rounds); got.Recorders[0].Heard != heard+rounds {
			t.Errorf("%d rounds: %d ticks", rounds, got.Recorders[0].Heard-heard)
		}
	}
	want := impl.RecCalm(w, impl.RecMaxCalm)
	for _, rounds := range []int{impl.RecMaxCalm + 1, impl.RecMaxCalm + 2, 5 * impl.RecMaxCalm, far} {
		if got := checkedCalm(t, fmt.Sprint(rounds), w, rounds); !sameWorld(got, want) {
			t.Errorf("%d rounds: %d ticks", rounds, got.Recorders[0].Heard-heard)
		}
	}
}

// What the messages of a calm round let one know is noted in that round, though no disk has it safe yet, and what is fixed is not noted anew.
func TestCalmNotesWhatIsKnown(t *testing.T) {
	chosen := func(index int, text string) impl.RecMessage {
		return impl.RecMessage{Kind: impl.RecChosen, From: 2, To: 1, Ballot: 3, Index: index, Text: text}
	}
	w := impl.RecNewWorld(3)
	w.Recorders[0].Disk.Promise = 3
	w.Flight = []impl.RecMessage{chosen(1, "x"), chosen(2, "y"), chosen(4, "no"), chosen(3, "z")}
	w.Fixed = []impl.RecFix{{Index: 2, Text: "other"}, {Index: 9, Text: "nine"}}
	got := checkedCalm(t, "chosen", w, 1)
	want := []impl.RecFix{{Index: 1, Text: "x"}, {Index: 2, Text: "other"}, {Index: 3, Text: "z"}, {Index: 9, Text: "nine"}}
	if !slices.Equal(got.Fixed, want) || len(got.Flight) != 0 || len(got.Recorders[0].Safe.Slots) != 0 {
		t.Errorf("%+v", got)
	}
}

func TestCalmOfAFullWorld(t *testing.T) {
	w := fullWorld()
	for _, rounds := range []int{0, 1, 2} {
		got := checkedCalm(t, "a full world", w, rounds)
		if !impl.RecWorldOk(got) || !sameWorld(got, roundsOf(w, rounds)) {
			t.Errorf("%d rounds", rounds)
		}
	}
}

// allTexts are the different texts in all slots, wishes and messages of a world.
func allTexts(w impl.RecWorld) map[string]bool {
	texts := map[string]bool{}
	slots := func(list []impl.RecSlot) {
		for _, s := range list {
			texts[s.Text] = true
		}
	}
	messages := func(list []impl.RecMessage) {
		for _, m := range list {
			texts[m.Text] = true
			slots(m.Slots)
		}
	}
	messages(w.Flight)
	for _, r := range w.Recorders {
		slots(r.Safe.Slots)
		slots(r.Disk.Slots)
		slots(r.Best)
		messages(r.Held)
		for _, text := range r.Wishes {
			texts[text] = true
		}
	}
	return texts
}

func mostSlots(w impl.RecWorld) int {
	most := 0
	for _, r := range w.Recorders {
		most = max(most, len(r.Safe.Slots), len(r.Disk.Slots), len(r.Best))
	}
	for _, m := range w.Flight {
		most = max(most, len(m.Slots), m.Index)
	}
	return most
}

// checkLiveness hands a wish to the recorder at and holds promise 8, if the world is one that it speaks of.
func checkLiveness(t *testing.T, name string, w impl.RecWorld, at int, text string) bool {
	t.Helper()
	r := w.Recorders[at]
	if 2*countUp(w) <= len(w.Recorders) || !r.Up || len(r.Wishes) >= impl.RecMaxWishes || mostSlots(w) > 20 {
		return false
	}
	w = wishIn(w, at, text)
	if len(allTexts(w)) > 40 {
		return false
	}
	after := impl.RecCalm(w, 200)
	for _, r := range after.Recorders {
		if r.Up && !slices.Contains(impl.RecBook(r), text) {
			t.Errorf("%s: %q is not in the book of %d: %q\n before: %+v\n after: %+v", name, text, r.Number, impl.RecBook(r), w, after)
		}
	}
	if !impl.RecAgree(after) {
		t.Errorf("%s: no agreement: %+v", name, after)
	}
	return true
}

func countUp(w impl.RecWorld) int {
	up := 0
	for _, r := range w.Recorders {
		if r.Up {
			up++
		}
	}
	return up
}

// mostUp lets drawn recorders rise until more than half are up, and then some fall or rise as far as this stays so.
func mostUp(rnd *rand.Rand, w impl.RecWorld) impl.RecWorld {
	of := len(w.Recorders)
	for _, at := range rnd.Perm(of) {
		switch up := w.Recorders[at].Up; {
		case !up && (2*countUp(w) <= of || rnd.Intn(3) == 0):
			w = impl.RecDo(w, impl.RecEvent{Kind: impl.RecEvRise, A: at})
		case up && 2*(countUp(w)-1) > of && rnd.Intn(2) == 0:
			w = impl.RecDo(w, impl.RecEvent{Kind: impl.RecEvFall, A: at})
		}
	}
	return w
}

func TestLiveness(t *testing.T) {
	rnd := rand.New(rand.NewSource(8))
	held, down := 0, 0
	for run := range 400 {
		w := mostUp(rnd, reached(t, rnd, 1+run%impl.RecMaxRecorders, rnd.Intn(150)))
		for at, r := range w.Recorders {
			if !r.Up {
				down++
			}
			text := fmt.Sprint("w", rnd.Intn(35))
			if checkLiveness(t, fmt.Sprint("run ", run, ", to ", at+1), w, at, text) {
				held++
			}
		}
		if t.Failed() {
			return
		}
	}
	if held < 700 || down < 100 {
		t.Errorf("%d wishes handed in, %d recorders down: too few to tell", held, down)
	}
}

// crowded is a world at the edge of promise 8: one that led has 20 places, of which not all have all, and others wish for as many other texts; the flight is full.
func crowded(rnd *rand.Rand) impl.RecWorld {
	w := impl.RecCalm(impl.RecNewWorld(impl.RecMaxRecorders), 15)
	for i := range 20 {
		w = wishIn(w, 0, fmt.Sprint("slot ", i))
	}
	w = tickWorld(w)
	w = bringAll(w, func(m impl.RecMessage) bool { return rnd.Intn(3) == 0 })
	w = tickWorld(w)
	w = impl.RecDo(w, impl.RecEvent{Kind: impl.RecEvFall, A: rnd.Intn(5)})
	for at := range w.Recorders {
		for i := range 18 {
			w = wishIn(w, at, fmt.Sprint("wish ", i))
		}
	}
	for len(w.Flight) < impl.RecMaxFlight {
		w = impl.RecDo(w, impl.RecEvent{Kind: impl.RecEvDouble, A: rnd.Intn(len(w.Flight))})
	}
	return w
}

func TestLivenessOfACrowd(t *testing.T) {
	rnd := rand.New(rand.NewSource(9))
	held := 0
	for run := range 25 {
		w := crowded(rnd)
		for at := range w.Recorders {
			if checkLiveness(t, fmt.Sprint("run ", run, ", to ", at+1), w, at, "the last one") {
				held++
			}
		}
		w = impl.RecDo(w, impl.RecEvent{Kind: impl.RecEvFall, A: rnd.Intn(5)})
		for at := range w.Recorders {
			checkLiveness(t, fmt.Sprint("run ", run, ", one more down, to ", at+1), w, at, "the last one")
		}
	}
	if held < 60 {
		t.Errorf("%d wishes handed in: too few to tell", held)
	}
}

// Without most of them up nothing more is fixed, however long.
func TestCalmWithoutMost(t *testing.T) {
	for of := 2; of <= impl.RecMaxRecorders; of++ {
		w := impl.RecCalm(wishIn(impl.RecNewWorld(of), 0, "one"), 20)
		for at := range (of + 1) / 2 {
			w = impl.RecDo(w, impl.RecEvent{Kind: impl.RecEvFall, A: at})
		}
		after := impl.RecCalm(wishIn(w, of-1, "two"), impl.RecMaxCalm)
		if !slices.Equal(after.Fixed, []impl.RecFix{{Index: 1, Text: "one"}}) || !impl.RecAgree(after) {
			t.Errorf("%d recorders: %+v", of, after.Fixed)
		}
		after = impl.RecCalm(impl.RecDo(after, impl.RecEvent{Kind: impl.RecEvRise, A: 0}), 60)
		if !slices.Equal(after.Fixed, []impl.RecFix{{Index: 1, Text: "one"}, {Index: 2, Text: "two"}}) {
			t.Errorf("%d recorders, one is back: %+v", of, after.Fixed)
		}
	}
}
