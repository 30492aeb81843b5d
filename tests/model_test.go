package tests

import (
	"fmt"
	"math/rand"
	"slices"
	"testing"

	"loop.example/wharfquorum/impl"
)

// modelMajor holds each recorder's slot against all others', without the program's own means.
func modelMajor(w impl.RecWorld, index int) told {
	for _, r := range w.Recorders {
		same := 0
		for _, other := range w.Recorders {
			if index >= 1 && index <= len(r.Safe.Slots) && index <= len(other.Safe.Slots) && r.Safe.Slots[index-1] == other.Safe.Slots[index-1] {
				same++
			}
		}
		if same > len(w.Recorders)/2 && r.Safe.Slots[index-1].Ballot > 0 {
			return told{r.Safe.Slots[index-1].Text, true}
		}
	}
	return told{}
}

func modelKnown(w impl.RecWorld, index int) told {
	for _, r := range w.Recorders {
		if book := impl.RecBook(r); len(book) >= index {
			return told{book[index-1], true}
		}
	}
	return told{}
}

func modelFixed(w impl.RecWorld, index int) told {
	for _, f := range w.Fixed {
		if f.Index == index {
			return told{f.Text, true}
		}
	}
	return told{}
}

func modelNote(w *impl.RecWorld) {
	var fixed []impl.RecFix
	for index := 1; index <= impl.RecMaxSlots; index++ {
		for _, find := range []func(w impl.RecWorld, index int) told{modelFixed, modelMajor, modelKnown} {
			if found := find(*w, index); found.is {
				fixed = append(fixed, impl.RecFix{Index: index, Text: found.text})
				break
			}
		}
	}
	w.Fixed = fixed
}

func modelAgree(w impl.RecWorld) bool {
	for index := 1; index <= impl.RecMaxSlots; index++ {
		fixed := modelFixed(w, index)
		if major := modelMajor(w, index); major.is && major != fixed {
			return false
		}
		for _, r := range w.Recorders {
			if book := impl.RecBook(r); len(book) >= index && fixed != (told{book[index-1], true}) {
				return false
			}
		}
	}
	return true
}

// modelDo says the document's words of each kind of event, one recorder and one message at a time.
func modelDo(w impl.RecWorld, e impl.RecEvent) impl.RecWorld {
	w = plainWorld(w)
	message := e.A >= 0 && e.A < len(w.Flight)
	recorder := e.A >= 0 && e.A < len(w.Recorders)
	switch {
	case e.Kind == 1:
		for i, r := range w.Recorders {
			after, sent := impl.RecTick(r)
			w.Recorders[i] = after
			w.Flight = append(w.Flight, sent[:min(len(sent), impl.RecMaxFlight-len(w.Flight))]...)
		}
		modelNote(&w)
	case e.Kind == 2 && message:
		m := w.Flight[e.A]
		w.Flight = slices.Delete(w.Flight, e.A, e.A+1)
		w.Recorders[m.To-1] = impl.RecTake(w.Recorders[m.To-1], m)
		modelNote(&w)
	case e.Kind == 3 && message && len(w.Flight) < impl.RecMaxFlight:
		w.Flight = append(w.Flight, w.Flight[e.A])
	case e.Kind == 4 && message:
		w.Flight = slices.Delete(w.Flight, e.A, e.A+1)
	case e.Kind == 5 && recorder:
		w.Recorders[e.A] = impl.RecFall(w.Recorders[e.A])
	case e.Kind == 6 && recorder:
		w.Recorders[e.A] = impl.RecRise(w.Recorders[e.A])
	case e.Kind == 7 && recorder:
		w.Recorders[e.A] = impl.RecWish(w.Recorders[e.A], e.Text)
	}
	return w
}

func modelCalm(w impl.RecWorld, rounds int) impl.RecWorld {
	for range rounds {
		w = modelDo(w, impl.RecEvent{Kind: 1})
		for range len(w.Flight) {
			w = modelDo(w, impl.RecEvent{Kind: 2})
		}
	}
	return w
}

// someWorld is ok, reached or not; disks are often alike, so that most of them have the same.
func someWorld(rnd *rand.Rand) impl.RecWorld {
	var w impl.RecWorld
	of := 1 + rnd.Intn(impl.RecMaxRecorders)
	common := someDisk(rnd, 7)
	common.Promise = 6
	for number := 1; number <= of; number++ {
		r := someRecorderOf(rnd, number, of)
		if rnd.Intn(3) > 0 {
			r.Safe = plain(impl.Recorder{Safe: common}).Safe
		}
		if rnd.Intn(3) == 0 {
			r.Disk = plain(impl.Recorder{Disk: common}).Disk
		}
		if rnd.Intn(6) == 0 {
			r = plain(fallen(r))
		}
		w.Recorders = append(w.Recorders, r)
	}
	count := rnd.Intn(12)
	if rnd.Intn(12) == 0 {
		count = impl.RecMaxFlight - rnd.Intn(4)
	}
	for range count {
		w.Flight = append(w.Flight, aptMessage(rnd, w.Recorders[rnd.Intn(of)]))
	}
	for index := 1; index <= impl.RecMaxSlots; index++ {
		if rnd.Intn(3) == 0 {
			w.Fixed = append(w.Fixed, impl.RecFix{Index: index, Text: someText(rnd)})
		}
	}
	if rnd.Intn(3) == 0 {
		w.Fixed = nil
	}
	return w
}

// someEvent is mostly one that finds its message or recorder.
func someEvent(rnd *rand.Rand, w impl.RecWorld) impl.RecEvent {
	e := impl.RecEvent{Kind: rnd.Intn(impl.RecEvWish+2) - rnd.Intn(2), A: rnd.Intn(len(w.Recorders)+2) - 1, Text: someText(rnd)}
	if e.Kind >= impl.RecEvBring && e.Kind <= impl.RecEvLose {
		e.A = rnd.Intn(len(w.Flight)+2) - 1
	}
	return e
}

// Worlds that no run of events may ever lead to are held to the document's words too.
func TestEventsOfSomeWorlds(t *testing.T) {
	rnd := rand.New(rand.NewSource(11))
	var changed, noted [impl.RecEvWish + 2]int
	agree, differ := 0, 0
	for round := range 1200 {
		w := someWorld(rnd)
		if !impl.RecWorldOk(w) {
			t.Fatalf("round %d begins with a world that is not ok: %+v", round, w)
		}
		for step := range 5 {
			e := someEvent(rnd, w)
			name := fmt.Sprintf("round %d, step %d, %+v", round, step, e)
			after := checkedDo(t, name, w, e)
			if want := modelDo(w, e); !sameWorld(after, want) {
				t.Fatalf("%s:\n got  %+v\n want %+v", name, after, want)
			}
			checkWorldForth(t, name, w, after, e)
			if e.Kind > 0 && !sameWorld(after, w) {
				changed[e.Kind]++
				if len(after.Fixed) > len(w.Fixed) {
					noted[e.Kind]++
				}
			}
			w = after
			if modelAgree(w) {
				agree++
			} else {
				differ++
			}
			if got := impl.RecAgree(w); got != modelAgree(w) {
				t.Fatalf("%s: agrees %v: %+v", name, got, w)
			}
			for index := -1; index <= impl.RecMaxSlots+2; index++ {
				if got := majorIn(w, index); got != modelMajor(w, index) {
					t.Fatalf("%s: the major of %d is %+v: %+v", name, index, got, w)
				}
			}
			if t.Failed() {
				return
			}
		}
	}
	for kind := impl.RecEvTick; kind <= impl.RecEvWish; kind++ {
		if changed[kind] < 50 {
			t.Errorf("kind %d changed something %d times: too few to tell", kind, changed[kind])
		}
	}
	if min(noted[impl.RecEvTick], noted[impl.RecEvBring], agree, differ) < 50 {
		t.Errorf("noted %v, %d agree and %d differ: too few to tell", noted, agree, differ)
	}
}

// checkWorldForth holds an event to promises 3 and 4.
func checkWorldForth(t *testing.T, name string, before impl.RecWorld, after impl.RecWorld, e impl.RecEvent) {
	t.Helper()
	if !impl.RecWorldOk(after) || len(after.Recorders) != len(before.Recorders) {
		t.Errorf("%s: not ok: %+v", name, after)
		return
	}
	for i, r := range before.Recorders {
		if e.Kind == impl.RecEvFall && e.A == i {
			checkFallen(t, name, r, after.Recorders[i])
		} else {
			checkForth(t, name, r, after.Recorders[i])
		}
	}
}

func TestCalmOfSomeWorlds(t *testing.T) {
	rnd := rand.New(rand.NewSource(12))
	for round := range 100 {
		w := someWorld(rnd)
		rounds := rnd.Intn(6)
		name := fmt.Sprint("round ", round, ", ", rounds, " calm ones")
		got := checkedCalm(t, name, w, rounds)
		if want := modelCalm(w, rounds); !sameWorld(got, want) {
			t.Fatalf("%s:\n got  %+v\n want %+v", name, got, want)
		}
		checkWorldForth(t, name, w, got, impl.RecEvent{})
		more := rnd.Intn(40)
		if twice, once := impl.RecCalm(got, more), impl.RecCalm(w, rounds+more); !sameWorld(twice, once) {
			t.Fatalf("%s, then %d more: %+v, and at once %+v", name, more, twice, once)
		}
		if t.Failed() {
			return
		}
	}
}
