package tests

import (
	"fmt"
	"slices"
	"testing"

	"loop.example/wharfquorum/impl"
)

// unnotedWorld has much to note, and nobody is up to change it: at place 1 most have "m"; place 2 two of them know, each another text; place 3 is fixed against what most have; at place 4 there is nothing; at place 5 most have an empty text; and the last place most have too.
func unnotedWorld() impl.RecWorld {
	var w impl.RecWorld
	for number := 1; number <= 3; number++ {
		safe := make([]impl.RecSlot, impl.RecMaxSlots)
		safe[0], safe[2] = impl.RecSlot{Ballot: 2, Text: "m"}, impl.RecSlot{Ballot: 3, Text: "most"}
		safe[3] = impl.RecSlot{Ballot: number, Text: "d"}
		safe[4], safe[59] = impl.RecSlot{Ballot: 4}, impl.RecSlot{Ballot: 5, Text: "last"}
		r := impl.Recorder{Number: number, Of: 3, Safe: impl.RecDisk{Promise: 5, Slots: safe}}
		r.Disk = impl.RecDisk{Promise: 1, Slots: []impl.RecSlot{{Ballot: 1, Text: fmt.Sprint("first of ", number)}, {Ballot: 1, Text: fmt.Sprint("second of ", number)}}}
		r.Disk.Known = 2
		w.Recorders = append(w.Recorders, r)
	}
	w.Recorders[0].Disk.Known = 1
	w.Flight = []impl.RecMessage{{Kind: impl.RecWished, From: 1, To: 2, Text: "x"}, {Kind: impl.RecBeat, From: 2, To: 3, Ballot: 9}, {Kind: impl.RecBeat, From: 2, To: 1, Ballot: 9}}
	w.Fixed = []impl.RecFix{{Index: 3, Text: "fixed"}, {Index: 7, Text: "seven"}}
	return w
}

func TestNote(t *testing.T) {
	noted := []impl.RecFix{{Index: 1, Text: "m"}, {Index: 2, Text: "second of 2"}, {Index: 3, Text: "fixed"}, {Index: 5}, {Index: 7, Text: "seven"}, {Index: 60, Text: "last"}}
	w := unnotedWorld()
	cases := []eventCase{{"tick", w, impl.RecEvent{Kind: impl.RecEvTick}, func(w *impl.RecWorld) { w.Fixed = noted }}}
	for at := range w.Flight {
		cases = append(cases, eventCase{fmt.Sprint("bring ", at), w, impl.RecEvent{Kind: impl.RecEvBring, A: at}, func(w *impl.RecWorld) {
			w.Flight, w.Fixed = slices.Delete(w.Flight, at, at+1), noted
		}})
	}
	up := func(change func(w *impl.RecWorld)) impl.RecWorld {
		return amendedWorld(w, func(w *impl.RecWorld) { change(w) })
	}
	cases = append(cases,
		eventCase{"bring to one that is up", up(func(w *impl.RecWorld) { w.Recorders[1].Up = true }), impl.RecEvent{Kind: impl.RecEvBring}, func(w *impl.RecWorld) {
			w.Flight, w.Fixed = w.Flight[1:], noted
			w.Recorders[1].Wishes = []string{"x"}
		}},
		eventCase{"the first of those who know", up(func(w *impl.RecWorld) { w.Recorders[0].Disk.Known = 2 }), impl.RecEvent{Kind: impl.RecEvTick}, func(w *impl.RecWorld) {
			w.Fixed = slices.Clone(noted)
			w.Fixed[1].Text = "second of 1"
		}},
		eventCase{"the last alone knows", up(func(w *impl.RecWorld) { w.Recorders[1].Disk.Known = 0 }), impl.RecEvent{Kind: impl.RecEvTick}, func(w *impl.RecWorld) {
			w.Fixed = slices.Clone(noted)
			w.Fixed[1].Text = "second of 3"
		}},
		eventCase{"taken, and not known", up(func(w *impl.RecWorld) {
			for i := range w.Recorders {
				w.Recorders[i].Disk.Known = 1
			}
		}), impl.RecEvent{Kind: impl.RecEvTick}, func(w *impl.RecWorld) { w.Fixed = slices.Delete(slices.Clone(noted), 1, 2) }},
	)
	checkEvents(t, cases)
}

func TestNothingIsNoted(t *testing.T) {
	w := unnotedWorld()
	var cases []eventCase
	for kind := impl.RecEvDouble; kind <= impl.RecEvWish; kind++ {
		for at := range 3 {
			cases = append(cases, eventCase{fmt.Sprint("kind ", kind, " at ", at), w, impl.RecEvent{Kind: kind, A: at, Text: "x"}, func(w *impl.RecWorld) {
				switch kind {
				case impl.RecEvDouble:
					w.Flight = append(w.Flight, w.Flight[at])
				case impl.RecEvLose:
					w.Flight = slices.Delete(w.Flight, at, at+1)
				case impl.RecEvFall:
					w.Recorders[at] = fallen(w.Recorders[at])
				case impl.RecEvRise:
					w.Recorders[at].Up = true
				}
			}})
		}
	}
	cases = append(cases,
		eventCase{"bring one beyond", w, impl.RecEvent{Kind: impl.RecEvBring, A: 3}, nil},
		eventCase{"bring one below", w, impl.RecEvent{Kind: impl.RecEvBring, A: -1}, nil},
	)
	checkEvents(t, cases)
	if got := checkedCalm(t, "no round", w, 0); !sameWorld(got, w) {
		t.Errorf("no round: %+v", got.Fixed)
	}
}

// A tick makes the disks safe first; what most have is noted behind that.
func TestNoteBehindATick(t *testing.T) {
	w := impl.RecNewWorld(3)
	for i := range w.Recorders {
		w.Recorders[i].Disk = impl.RecDisk{Promise: 4, Slots: []impl.RecSlot{{}, {Ballot: 4, Text: "b"}}}
		w.Recorders[i].Safe = impl.RecDisk{Promise: 4, Slots: []impl.RecSlot{{Ballot: 1, Text: "lost"}}}
	}
	w.Recorders[2] = impl.Recorder{Number: 3, Of: 3}
	got := checkedDo(t, "tick", w, impl.RecEvent{Kind: impl.RecEvTick})
	if want := []impl.RecFix{{Index: 2, Text: "b"}}; !slices.Equal(got.Fixed, want) {
		t.Errorf("two of three: %+v", got.Fixed)
	}
	w.Recorders[1] = impl.Recorder{Number: 2, Of: 3}
	if got = checkedDo(t, "tick", w, impl.RecEvent{Kind: impl.RecEvTick}); len(got.Fixed) != 0 {
		t.Errorf("one of three: %+v", got.Fixed)
	}
}

// bringAll brings, in order, the messages that are in flight now and that are asked for, and leaves the others there.
func bringAll(w impl.RecWorld, asked func(m impl.RecMessage) bool) impl.RecWorld {
	for at := 0; at < len(w.Flight); {
		if !asked(w.Flight[at]) {
			at++
			continue
		}
		w = impl.RecDo(w, impl.RecEvent{Kind: impl.RecEvBring, A: at})
	}
	return w
}

func loseAll(w impl.RecWorld) impl.RecWorld {
	return loseAllBut(w, func(impl.RecMessage) bool { return false })
}

func loseAllBut(w impl.RecWorld, kept func(m impl.RecMessage) bool) impl.RecWorld {
	for at := 0; at < len(w.Flight); {
		if kept(w.Flight[at]) {
			at++
			continue
		}
		w = impl.RecDo(w, impl.RecEvent{Kind: impl.RecEvLose, A: at})
	}
	return w
}

func tickWorld(w impl.RecWorld) impl.RecWorld {
	return impl.RecDo(w, impl.RecEvent{Kind: impl.RecEvTick})
}

func wishIn(w impl.RecWorld, at int, text string) impl.RecWorld {
	return impl.RecDo(w, impl.RecEvent{Kind: impl.RecEvWish, A: at, Text: text})
}

func TestNoteAGreaterPlaceFirst(t *testing.T) {
	w := impl.RecCalm(impl.RecNewWorld(3), 15)
	if !w.Recorders[0].Lead {
		t.Fatalf("the first does not lead: %+v", w)
	}
	w = tickWorld(wishIn(wishIn(wishIn(w, 0, "x"), 0, "y"), 0, "z"))
	w = bringAll(w, func(m impl.RecMessage) bool { return m.Kind == impl.RecAccept && m.Index == 2 })
	w = tickWorld(loseAll(w))
	if want := []impl.RecFix{{Index: 2, Text: "y"}}; !slices.Equal(w.Fixed, want) || !impl.RecAgree(w) {
		t.Fatalf("the second place alone: %+v", w.Fixed)
	}
	w = bringAll(w, func(m impl.RecMessage) bool { return m.Kind == impl.RecAccept && m.Index == 3 })
	w = tickWorld(loseAll(w))
	if want := []impl.RecFix{{Index: 2, Text: "y"}, {Index: 3, Text: "z"}}; !slices.Equal(w.Fixed, want) || !impl.RecAgree(w) {
		t.Fatalf("the third place too: %+v", w.Fixed)
	}
	w = impl.RecCalm(w, 5)
	if want := []impl.RecFix{{Index: 1, Text: "x"}, {Index: 2, Text: "y"}, {Index: 3, Text: "z"}}; !slices.Equal(w.Fixed, want) || !impl.RecAgree(w) {
		t.Errorf("all: %+v", w.Fixed)
	}
}

// Two leaders bring one text under two ballots, and the third that one of them counts is overwritten by the other before it is safe: no slot is ever on most disks, and yet one leader knows.
func TestNoteWhatOneAloneKnows(t *testing.T) {
	w := impl.RecCalm(impl.RecNewWorld(5), 15)
	beats := func(m impl.RecMessage) bool { return m.Kind == impl.RecBeat && m.From == 1 && m.To != 5 }
	one := func(kind int, from int, to int) func(m impl.RecMessage) bool {
		return func(m impl.RecMessage) bool { return m.Kind == kind && m.From == from && m.To == to }
	}
	late := one(impl.RecAccepted, 4, 1)
	w = tickWorld(wishIn(w, 0, "x"))
	w = bringAll(bringAll(w, one(impl.RecAccept, 1, 4)), beats)
	for range 40 {
		if w.Recorders[4].Trying {
			break
		}
		w = bringAll(tickWorld(loseAllBut(w, late)), beats)
	}
	w = tickWorld(loseAllBut(w, late))
	w = bringAll(bringAll(w, one(impl.RecPrepare, 5, 3)), one(impl.RecPrepare, 5, 4))
	w = tickWorld(w)
	w = bringAll(bringAll(w, one(impl.RecPromised, 3, 5)), one(impl.RecPromised, 4, 5))
	if !w.Recorders[0].Lead || !w.Recorders[4].Lead || len(w.Fixed) != 0 {
		t.Fatalf("not two that lead: %+v", w)
	}
	w = tickWorld(loseAllBut(w, late))
	w = bringAll(bringAll(w, one(impl.RecAccept, 1, 2)), one(impl.RecAccept, 5, 2))
	w = tickWorld(loseAllBut(w, late))
	if len(w.Fixed) != 0 {
		t.Fatalf("noted too soon: %+v", w.Fixed)
	}
	w = bringAll(bringAll(w, one(impl.RecAccepted, 2, 1)), late)
	if got := majorIn(w, 1); got.is || w.Recorders[0].Disk.Known != 1 {
		t.Fatalf("%+v: %+v", got, w)
	}
	if want := []impl.RecFix{{Index: 1, Text: "x"}}; !slices.Equal(w.Fixed, want) || !impl.RecAgree(w) {
		t.Errorf("known, and not noted: %+v", w.Fixed)
	}
	w = impl.RecCalm(w, 40)
	for _, r := range w.Recorders {
		if !slices.Equal(impl.RecBook(r), []string{"x"}) {
			t.Errorf("the book of %d is %q", r.Number, impl.RecBook(r))
		}
	}
}
