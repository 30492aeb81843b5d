package tests

import (
	"fmt"
	"testing"

	"loop.example/wharfquorum/impl"
)

// safeWorld is a world of recorders that have just these slots at the place index of their Safe disks; nil is one with fewer places.
func safeWorld(index int, at ...*impl.RecSlot) impl.RecWorld {
	w := impl.RecNewWorld(len(at))
	for i, s := range at {
		r := &w.Recorders[i]
		r.Safe.Promise, r.Disk.Promise = impl.RecMaxBallot, impl.RecMaxBallot
		r.Safe.Slots = make([]impl.RecSlot, index-1)
		if s != nil {
			r.Safe.Slots = append(r.Safe.Slots, *s)
		}
	}
	return w
}

func TestMajor(t *testing.T) {
	slot := func(ballot int, text string) *impl.RecSlot { return &impl.RecSlot{Ballot: ballot, Text: text} }
	x, y, later, empty, nothing := slot(3, "x"), slot(3, "y"), slot(4, "x"), slot(3, ""), slot(0, "")
	yes, no := told{"x", true}, told{}
	for i, c := range []struct {
		at   []*impl.RecSlot
		want told
	}{
		{[]*impl.RecSlot{nil}, no}, {[]*impl.RecSlot{x}, yes}, {[]*impl.RecSlot{nothing}, no}, {[]*impl.RecSlot{empty}, told{"", true}},
		{[]*impl.RecSlot{x, nil}, no}, {[]*impl.RecSlot{nil, x}, no}, {[]*impl.RecSlot{x, x}, yes}, {[]*impl.RecSlot{x, y}, no}, {[]*impl.RecSlot{x, later}, no},
		{[]*impl.RecSlot{x, nil, nil}, no}, {[]*impl.RecSlot{x, x, nil}, yes}, {[]*impl.RecSlot{x, nil, x}, yes}, {[]*impl.RecSlot{nil, x, x}, yes}, {[]*impl.RecSlot{x, x, x}, yes},
		{[]*impl.RecSlot{y, x, x}, yes}, {[]*impl.RecSlot{x, y, later}, no}, {[]*impl.RecSlot{later, x, x}, yes}, {[]*impl.RecSlot{x, later, later}, yes}, {[]*impl.RecSlot{y, y, x}, told{"y", true}},
		{[]*impl.RecSlot{nothing, nothing, x}, no}, {[]*impl.RecSlot{nothing, nothing, nothing}, no}, {[]*impl.RecSlot{nothing, nil, nothing}, no}, {[]*impl.RecSlot{empty, empty, x}, told{"", true}}, {[]*impl.RecSlot{empty, nothing, x}, no}, {[]*impl.RecSlot{empty, nothing, nil}, no},
		{[]*impl.RecSlot{x, x, nil, nil}, no}, {[]*impl.RecSlot{x, nothing, x, nothing}, no}, {[]*impl.RecSlot{x, y, x, y}, no}, {[]*impl.RecSlot{x, x, later, later}, no}, {[]*impl.RecSlot{x, x, y, x}, yes}, {[]*impl.RecSlot{nil, x, x, x}, yes}, {[]*impl.RecSlot{x, x, x, x}, yes}, {[]*impl.RecSlot{x, later, x, y}, no},
		{[]*impl.RecSlot{x, x, nil, nil, nil}, no}, {[]*impl.RecSlot{x, x, y, y, later}, no}, {[]*impl.RecSlot{x, x, later, later, nothing}, no}, {[]*impl.RecSlot{y, x, y, x, x}, yes}, {[]*impl.RecSlot{nil, nil, x, x, x}, yes}, {[]*impl.RecSlot{later, later, x, x, x}, yes}, {[]*impl.RecSlot{x, x, x, x, nothing}, yes}, {[]*impl.RecSlot{nothing, nothing, nothing, x, x}, no},
	} {
		for _, index := range []int{1, 2, impl.RecMaxSlots - 1, impl.RecMaxSlots} {
			w := safeWorld(index, c.at...)
			name := fmt.Sprint("case ", i, ", place ", index)
			if !impl.RecWorldOk(w) {
				t.Errorf("%s: the world of the case is not ok", name)
			}
			if got := checkedMajor(t, name, w, index); got != c.want {
				t.Errorf("%s: %+v, and not %+v", name, got, c.want)
			}
			for _, other := range []int{-far - 1, -1, 0, index - 1, index + 1, impl.RecMaxSlots + 1, far} {
				if got := checkedMajor(t, name, w, other); got != no {
					t.Errorf("%s: at %d: %+v", name, other, got)
				}
			}
			for k := range w.Recorders {
				w.Recorders[k].Up = false
			}
			if got := checkedMajor(t, name+", all down", w, index); got != c.want {
				t.Errorf("%s, all down: %+v, and not %+v", name, got, c.want)
			}
		}
	}
}

// What is on the disk, but not safe yet, does not count, and what is safe counts though the disk has it otherwise.
func TestMajorAsksWhatIsSafe(t *testing.T) {
	w := impl.RecNewWorld(3)
	for i := range w.Recorders {
		w.Recorders[i].Disk = impl.RecDisk{Promise: 5, Known: 2, Slots: fullSlots(3, 5)}
	}
	for index := -1; index <= 5; index++ {
		if got := checkedMajor(t, "on the disk alone", w, index); got != (told{}) {
			t.Errorf("on the disk alone: place %d: %+v", index, got)
		}
	}
	for i := range 2 {
		w.Recorders[i].Safe = impl.RecDisk{Promise: 4, Slots: []impl.RecSlot{{Ballot: 4, Text: "s"}}}
	}
	for index, want := range map[int]told{0: {}, 1: {"s", true}, 2: {}, 3: {}} {
		if got := checkedMajor(t, "safe", w, index); got != want {
			t.Errorf("safe: place %d: %+v", index, got)
		}
	}
}

// knowing is a world of three in which the second knows these texts, and the others nothing.
func knowing(texts ...string) impl.RecWorld {
	w := impl.RecNewWorld(3)
	disk := impl.RecDisk{Promise: 2, Known: len(texts)}
	for _, text := range texts {
		disk.Slots = append(disk.Slots, impl.RecSlot{Ballot: 2, Text: text})
	}
	w.Recorders[1].Disk = disk
	return w
}

func withFixed(w impl.RecWorld, fixed ...impl.RecFix) impl.RecWorld {
	return amendedWorld(w, func(w *impl.RecWorld) { w.Fixed = fixed })
}

func TestAgree(t *testing.T) {
	fix := func(index int, text string) impl.RecFix { return impl.RecFix{Index: index, Text: text} }
	slot := &impl.RecSlot{Ballot: 3, Text: "x"}
	blank := &impl.RecSlot{Ballot: 3}
	most := func(index int) impl.RecWorld { return safeWorld(index, slot, slot, nil) }
	half := func(index int) impl.RecWorld { return safeWorld(index, slot, slot, nil, nil) }
	down := amendedWorld(knowing("a"), func(w *impl.RecWorld) { w.Recorders[1].Up = false })
	notKnown := amendedWorld(knowing("a", "b"), func(w *impl.RecWorld) { w.Recorders[1].Disk.Known = 1 })
	twoKnow := amendedWorld(knowing("a"), func(w *impl.RecWorld) {
		w.Recorders[2].Disk = impl.RecDisk{Promise: 2, Known: 1, Slots: []impl.RecSlot{{Ballot: 1, Text: "c"}}}
	})
	last := impl.RecMaxSlots
	cases := []struct {
		name string
		w    impl.RecWorld
		want bool
	}{
		{"a new world", impl.RecNewWorld(3), true},
		{"one alone", impl.RecNewWorld(1), true},
		{"fixed, and nobody knows", withFixed(impl.RecNewWorld(3), fix(1, "a"), fix(9, "b"), fix(last, "")), true},
		{"a book that has it", withFixed(knowing("a", "b"), fix(1, "a"), fix(2, "b")), true},
		{"a book that has less", withFixed(knowing("a"), fix(1, "a"), fix(2, "b")), true},
		{"a book, and nothing fixed", knowing("a"), false},
		{"an empty text, and nothing fixed", knowing(""), false},
		{"an empty text that is fixed", withFixed(knowing(""), fix(1, "")), true},
		{"an empty text that is fixed otherwise", withFixed(knowing(""), fix(1, "a")), false},
		{"a book with another first text", withFixed(knowing("a", "b"), fix(1, "x"), fix(2, "b")), false},
		{"a book with another last text", withFixed(knowing("a", "b"), fix(1, "a"), fix(2, "x")), false},
		{"texts at each other's places", withFixed(knowing("a", "b"), fix(1, "b"), fix(2, "a")), false},
		{"fixed has not the first", withFixed(knowing("a", "b"), fix(2, "b")), false},
		{"fixed has not the last", withFixed(knowing("a", "b"), fix(1, "a"), fix(3, "b")), false},
		{"taken, and not known", withFixed(notKnown, fix(1, "a")), true},
		{"taken, not known, fixed otherwise", withFixed(notKnown, fix(1, "a"), fix(2, "x")), true},
		{"one that is down knows", withFixed(down, fix(1, "a")), true},
		{"one that is down knows what is not fixed", down, false},
		{"two know two texts, the first is fixed", withFixed(twoKnow, fix(1, "a")), false},
		{"two know two texts, the second is fixed", withFixed(twoKnow, fix(1, "c")), false},
		{"most have the first place", most(1), false},
		{"most have the first place, fixed", withFixed(most(1), fix(1, "x")), true},
		{"most have the first place, fixed otherwise", withFixed(most(1), fix(1, "y")), false},
		{"most have the first place, another is fixed", withFixed(most(1), fix(2, "x")), false},
		{"most have a place between", withFixed(most(30), fix(29, "x"), fix(31, "x")), false},
		{"most have a place between, fixed", withFixed(most(30), fix(29, "u"), fix(30, "x"), fix(31, "v")), true},
		{"most have the last place", most(last), false},
		{"most have the last place, fixed", withFixed(most(last), fix(last, "x")), true},
		{"most have the last place, fixed otherwise", withFixed(most(last), fix(last, "")), false},
		{"most have an empty text", safeWorld(4, blank, blank, nil), false},
		{"most have an empty text, fixed", withFixed(safeWorld(4, blank, blank, nil), fix(4, "")), true},
		{"half have a place", half(4), true},
		{"half have a place, fixed otherwise", withFixed(half(4), fix(4, "y")), true},
	}
	for _, c := range cases {
		if !impl.RecWorldOk(c.w) {
			t.Errorf("%s: the world of the case is not ok", c.name)
		}
		if got := checkedAgree(t, c.name, c.w); got != c.want {
			t.Errorf("%s: %v", c.name, got)
		}
	}
}

// Each place of a full book counts, and each recorder's.
func TestAgreeOfFullBooks(t *testing.T) {
	w := impl.RecNewWorld(impl.RecMaxRecorders)
	for i := range w.Recorders {
		w.Recorders[i].Disk = impl.RecDisk{Promise: 1 + i, Known: impl.RecMaxSlots, Slots: fullSlots(impl.RecMaxSlots, 1+i)}
	}
	for i, s := range fullSlots(impl.RecMaxSlots, 1) {
		w.Fixed = append(w.Fixed, impl.RecFix{Index: i + 1, Text: s.Text})
	}
	if !checkedAgree(t, "full books", w) {
		t.Error("full books differ")
	}
	for i := range w.Recorders {
		for place := range impl.RecMaxSlots {
			other := amendedWorld(w, func(w *impl.RecWorld) { w.Recorders[i].Disk.Slots[place].Text += "?" })
			if impl.RecAgree(other) {
				t.Errorf("place %d of recorder %d is another text", place+1, i+1)
			}
		}
	}
}
