package tests

import (
	"reflect"
	"testing"

	"loop.example/wharfquorum/impl"
)

// plainWorld is w as a value: two worlds are the same if reflect.DeepEqual holds of what plainWorld gives.
func plainWorld(w impl.RecWorld) impl.RecWorld {
	w.Recorders = ownList(w.Recorders)
	for i := range w.Recorders {
		w.Recorders[i] = plain(w.Recorders[i])
	}
	w.Flight, w.Fixed = plainMessages(w.Flight), ownList(w.Fixed)
	return w
}

func sameWorld(a impl.RecWorld, b impl.RecWorld) bool {
	return reflect.DeepEqual(plainWorld(a), plainWorld(b))
}

// roomyWorld is w with spare room behind each of its lists.
func roomyWorld(w impl.RecWorld) impl.RecWorld {
	w.Recorders = roomy(w.Recorders, impl.Recorder{Number: 77, Wishes: []string{"mark"}})
	for i := range w.Recorders {
		w.Recorders[i] = roomyRecorder(w.Recorders[i])
	}
	w.Flight = roomy(w.Flight, impl.RecMessage{Kind: 77, Text: "mark"})
	for i := range w.Flight {
		w.Flight[i] = roomyMessage(w.Flight[i])
	}
	w.Fixed = roomy(w.Fixed, impl.RecFix{Index: 77, Text: "mark"})
	return w
}

// checkedWorld is a call with a world, which is held to be as it was, spare room too, and the answer to be new memory.
func checkedWorld[A any](t *testing.T, name string, w impl.RecWorld, call func(w impl.RecWorld) A) A {
	t.Helper()
	was := roomyWorld(w)
	w = roomyWorld(w)
	got := call(w)
	if !sameWhole(reflect.ValueOf(w), reflect.ValueOf(was)) {
		t.Errorf("%s: the argument was changed", name)
	}
	checkOwnMemory(t, name, got, w)
	return got
}

func checkedDo(t *testing.T, name string, w impl.RecWorld, e impl.RecEvent) impl.RecWorld {
	t.Helper()
	return checkedWorld(t, name, w, func(w impl.RecWorld) impl.RecWorld { return impl.RecDo(w, e) })
}

func checkedCalm(t *testing.T, name string, w impl.RecWorld, rounds int) impl.RecWorld {
	t.Helper()
	return checkedWorld(t, name, w, func(w impl.RecWorld) impl.RecWorld { return impl.RecCalm(w, rounds) })
}

// told is the answer of RecMajor as one value.
type told struct {
	text string
	is   bool
}

func majorIn(w impl.RecWorld, index int) told {
	text, is := impl.RecMajor(w, index)
	return told{text, is}
}

func checkedMajor(t *testing.T, name string, w impl.RecWorld, index int) told {
	t.Helper()
	return checkedWorld(t, name, w, func(w impl.RecWorld) told { return majorIn(w, index) })
}

func checkedAgree(t *testing.T, name string, w impl.RecWorld) bool {
	t.Helper()
	// An answer without lists is put into a struct, since memory is looked for within one.
	return checkedWorld(t, name, w, func(w impl.RecWorld) told { return told{is: impl.RecAgree(w)} }).is
}

// Lists that share memory in the world share none in what an event and calm rounds answer.
func TestWorldOfSharedLists(t *testing.T) {
	slots, numbers := fullSlots(8, 6), []int{1, 2, 3}
	messages := []impl.RecMessage{
		{Kind: impl.RecPromised, From: 1, To: 2, Ballot: 6, Slots: slots[:4]},
		{Kind: impl.RecPromised, From: 1, To: 2, Ballot: 6, Slots: slots[:4]},
		{Kind: impl.RecBeat, From: 1, To: 3, Ballot: 6, Known: 4, Slots: slots[2:2]},
		{Kind: impl.RecPrepare, From: 1, To: 1, Ballot: 7, Slots: slots[1:3]},
	}
	disk := impl.RecDisk{Promise: 6, Known: 2, Slots: slots[:5]}
	shared := func() impl.RecWorld {
		w := impl.RecNewWorld(4)
		for i := range w.Recorders {
			w.Recorders[i].Safe, w.Recorders[i].Disk = disk, disk
			w.Recorders[i].Wishes = []string{"t0", "w", "v"}[:2]
		}
		w.Recorders[0].Held, w.Flight = messages[:4], messages[:4]
		tries, leads := &w.Recorders[1], &w.Recorders[2]
		tries.Trying, tries.Ballot, tries.Yes, tries.Best = true, 6, numbers[:1], slots[:6]
		leads.Lead, leads.Ballot = true, 6
		leads.Acks = []impl.RecAck{{Index: 3, From: numbers[:1]}, {Index: 4, From: numbers[:2]}, {Index: 5, From: numbers[:0]}}
		w.Recorders[3] = impl.Recorder{Number: 4, Of: 4, Safe: disk, Disk: disk}
		return w
	}
	w, was := shared(), plainWorld(shared())
	if !impl.RecWorldOk(w) {
		t.Fatal("the world of the test is not ok")
	}
	for kind := impl.RecEvTick - 1; kind <= impl.RecEvWish+1; kind++ {
		for a := -1; a <= 4; a++ {
			e := impl.RecEvent{Kind: kind, A: a, Text: "n"}
			got := impl.RecDo(w, e)
			checkOwnMemory(t, "an event", got, w)
			for _, next := range []impl.RecEvent{{Kind: impl.RecEvTick}, {Kind: impl.RecEvDouble, A: 1}, {Kind: impl.RecEvBring}} {
				checkOwnMemory(t, "an event and another", impl.RecDo(got, next), got, w)
			}
		}
	}
	for _, rounds := range []int{-1, 0, 1, 2, 3, 20} {
		checkOwnMemory(t, "calm", impl.RecCalm(w, rounds), w)
	}
	impl.RecAgree(w)
	impl.RecMajor(w, 1)
	if !sameWorld(w, was) {
		t.Error("the arguments were changed")
	}
}
