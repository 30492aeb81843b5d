package tests

import (
	"fmt"
	"slices"
	"strings"
	"testing"

	"loop.example/wharfquorum/impl"
)

// textOf makes texts of a given size, so that a test can stand on a limit or one byte beyond it.
func textOf(size int) string {
	return strings.Repeat("\x00\xff", size/2) + strings.Repeat("z", size%2)
}

// fullSlots makes slots that differ from place to place.
func fullSlots(count int, ballot int) []impl.RecSlot {
	list := make([]impl.RecSlot, count)
	for i := range list {
		list[i] = impl.RecSlot{Ballot: ballot, Text: fmt.Sprint("t", i)}
	}
	return list
}

func TestDiskOk(t *testing.T) {
	cases := map[string]impl.RecDisk{
		"nothing":                    {},
		"an empty list":              {Slots: []impl.RecSlot{}},
		"a promise alone":            {Promise: 7},
		"the greatest promise":       {Promise: impl.RecMaxBallot},
		"the greatest ballot":        {Promise: impl.RecMaxBallot, Known: 1, Slots: []impl.RecSlot{{Ballot: impl.RecMaxBallot, Text: "a"}}},
		"a ballot at the promise":    {Promise: 3, Slots: []impl.RecSlot{{Ballot: 3, Text: "a"}}},
		"the longest text":           {Promise: 1, Slots: []impl.RecSlot{{Ballot: 1, Text: textOf(impl.RecMaxText)}}},
		"an empty text with ballot":  {Promise: 1, Known: 1, Slots: []impl.RecSlot{{Ballot: 1}}},
		"most slots, all empty":      {Slots: make([]impl.RecSlot, impl.RecMaxSlots)},
		"most slots, all known":      {Promise: 9, Known: impl.RecMaxSlots, Slots: fullSlots(impl.RecMaxSlots, 9)},
		"known up to an empty slot":  {Promise: 2, Known: 1, Slots: []impl.RecSlot{{Ballot: 2, Text: "a"}, {}, {Ballot: 1, Text: "b"}}},
		"known none, first is empty": {Promise: 2, Slots: []impl.RecSlot{{}, {Ballot: 2, Text: "b"}}},
	}
	for name, d := range cases {
		if !impl.RecDiskOk(d) {
			t.Errorf("%s: not ok", name)
		}
	}
}

func TestDiskNotOk(t *testing.T) {
	one := []impl.RecSlot{{Ballot: 1, Text: "a"}}
	cases := map[string]impl.RecDisk{
		"a promise below 0":           {Promise: -1},
		"a promise above the limit":   {Promise: impl.RecMaxBallot + 1},
		"known below 0":               {Promise: 1, Known: -1, Slots: one},
		"known beyond the slots":      {Promise: 1, Known: 2, Slots: one},
		"known beyond no slots":       {Known: 1},
		"known over an empty slot":    {Promise: 1, Known: 2, Slots: []impl.RecSlot{{Ballot: 1, Text: "a"}, {}}},
		"known over an empty first":   {Promise: 1, Known: 1, Slots: []impl.RecSlot{{}, {Ballot: 1, Text: "a"}}},
		"a slot above the promise":    {Promise: 2, Slots: []impl.RecSlot{{Ballot: 3, Text: "a"}}},
		"a late slot above it":        {Promise: 2, Slots: []impl.RecSlot{{Ballot: 1, Text: "a"}, {}, {Ballot: 3, Text: "b"}}},
		"a ballot below 0":            {Promise: 2, Slots: []impl.RecSlot{{Ballot: -1, Text: "a"}}},
		"a ballot below 0, no text":   {Promise: 2, Slots: []impl.RecSlot{{Ballot: -1}}},
		"a ballot above the limit":    {Promise: impl.RecMaxBallot, Slots: []impl.RecSlot{{Ballot: impl.RecMaxBallot + 1}}},
		"ballot 0 with a text":        {Promise: 2, Slots: []impl.RecSlot{{Text: "a"}}},
		"a text beyond the limit":     {Promise: 1, Slots: []impl.RecSlot{{Ballot: 1, Text: textOf(impl.RecMaxText + 1)}}},
		"one slot more than fits":     {Promise: 9, Slots: fullSlots(impl.RecMaxSlots+1, 9)},
		"one empty slot more":         {Slots: make([]impl.RecSlot, impl.RecMaxSlots+1)},
		"the last slot alone is off":  {Promise: 9, Slots: append(fullSlots(impl.RecMaxSlots-1, 9), impl.RecSlot{Text: "a"})},
		"far more slots than fit":     {Promise: 9, Slots: fullSlots(10*impl.RecMaxSlots, 9)},
		"known far beyond the limits": {Promise: 9, Known: 1 << 40, Slots: fullSlots(3, 9)},
	}
	for name, d := range cases {
		if impl.RecDiskOk(d) {
			t.Errorf("%s: ok", name)
		}
	}
}

// mergeWanted says promise 1's words place by place, without the program's own means.
func mergeWanted(a []impl.RecSlot, b []impl.RecSlot, place int) impl.RecSlot {
	switch {
	case place >= len(a):
		return b[place]
	case place >= len(b):
		return a[place]
	case b[place].Ballot > a[place].Ballot:
		return b[place]
	}
	return a[place]
}

func checkMerge(t *testing.T, a []impl.RecSlot, b []impl.RecSlot) {
	t.Helper()
	wasA, wasB := slices.Clone(a), slices.Clone(b)
	got := impl.RecMerge(a, b)
	if len(got) != max(len(a), len(b)) {
		t.Fatalf("merge of %v and %v has %d places", a, b, len(got))
	}
	for i, s := range got {
		if s != mergeWanted(a, b, i) {
			t.Fatalf("merge of %v and %v: place %d is %v", a, b, i, s)
		}
	}
	for _, again := range [][]impl.RecSlot{impl.RecMerge(got, a), impl.RecMerge(got, b), impl.RecMerge(a, got), impl.RecMerge(got, got)} {
		if !slices.Equal(again, got) {
			t.Fatalf("merge of %v and %v is %v, and merged again %v", a, b, got, again)
		}
	}
	if !slices.Equal(a, wasA) || !slices.Equal(b, wasB) {
		t.Fatalf("merge changed %v and %v to %v and %v", wasA, wasB, a, b)
	}
}

// shortLists gives every list of up to most of these slots.
func shortLists(most int) [][]impl.RecSlot {
	kinds := []impl.RecSlot{{}, {Ballot: 1, Text: "a"}, {Ballot: 1, Text: "b"}, {Ballot: 2, Text: "c"}, {Ballot: -1, Text: "d"}, {Text: "e"}}
	lists := [][]impl.RecSlot{nil}
	for first, size := 0, 0; size < most; size++ {
		last := len(lists)
		for _, l := range lists[first:last] {
			for _, k := range kinds {
				lists = append(lists, append(slices.Clone(l), k))
			}
		}
		first = last
	}
	return lists
}

func TestMergeOfAllShortLists(t *testing.T) {
	lists := shortLists(3)
	for _, a := range lists {
		for _, b := range lists {
			checkMerge(t, a, b)
		}
	}
}

func TestMergeOfLongLists(t *testing.T) {
	sizes := []int{0, 1, impl.RecMaxSlots - 1, impl.RecMaxSlots, impl.RecMaxSlots + 1, 2 * impl.RecMaxSlots, 2*impl.RecMaxSlots + 1, 500}
	for _, x := range sizes {
		for _, y := range sizes {
			a, b := fullSlots(x, 5), fullSlots(y, 5)
			for i := range b {
				b[i] = impl.RecSlot{Ballot: 4 + i%3, Text: fmt.Sprint("b", i)}
			}
			checkMerge(t, a, b)
			checkMerge(t, b, a)
		}
	}
}

func TestMergeAtTheEdges(t *testing.T) {
	least, greatest := -1<<63, 1<<63-1
	a := []impl.RecSlot{{Ballot: least, Text: "a"}, {Ballot: greatest, Text: "a"}, {Ballot: greatest, Text: "a"}}
	b := []impl.RecSlot{{Ballot: greatest, Text: "b"}, {Ballot: least, Text: "b"}, {Ballot: greatest, Text: textOf(1000)}}
	checkMerge(t, a, b)
	checkMerge(t, b, a)
	if got := impl.RecMerge(nil, []impl.RecSlot{}); len(got) != 0 {
		t.Errorf("merge of nothing is %v", got)
	}
	if got := impl.RecMerge([]impl.RecSlot{{Ballot: 1, Text: "a"}}, []impl.RecSlot{{Ballot: 1, Text: "b"}}); got[0].Text != "a" {
		t.Errorf("of equal ballots %v stands", got)
	}
}

func TestMergeSharesNoMemory(t *testing.T) {
	mark := impl.RecSlot{Ballot: 77, Text: "mark"}
	for _, sizes := range [][2]int{{3, 2}, {2, 3}, {3, 3}, {3, 0}, {0, 3}, {impl.RecMaxSlots, 1}, {1, impl.RecMaxSlots + 5}} {
		roomA, roomB := fullSlots(sizes[0]+4, 5), fullSlots(sizes[1]+4, 6)
		wasA, wasB := slices.Clone(roomA), slices.Clone(roomB)
		a, b := roomA[:sizes[0]], roomB[:sizes[1]]
		got := impl.RecMerge(a, b)
		kept := slices.Clone(got)
		all := got[:cap(got)]
		for i := range all {
			all[i] = mark
		}
		if !slices.Equal(roomA, wasA) || !slices.Equal(roomB, wasB) {
			t.Errorf("sizes %v: the answer's memory is an argument's", sizes)
		}
		got = impl.RecMerge(a, b)
		for i := range roomA {
			roomA[i] = mark
		}
		for i := range roomB {
			roomB[i] = mark
		}
		if !slices.Equal(got, kept) {
			t.Errorf("sizes %v: an argument's memory is the answer's", sizes)
		}
	}
}
