// Package impl: recorders that keep one book.
package impl

import (
	"cmp"
	"slices"
)

// Limits of recorders.
const (
	RecMaxRecorders = 5
	RecMaxSlots     = 60
	RecMaxText      = 100
	RecMaxBallot    = 1000000
	RecMaxWishes    = 20
	RecMaxHeld      = 400
)

// RecSlot is what a recorder took for a place of the book.
type RecSlot struct {
	Ballot int
	Text   string
}

// RecDisk is what a recorder keeps.
type RecDisk struct {
	Promise int
	Known   int
	Slots   []RecSlot
}

// page counts its cells because one that was never filled looks like one that holds nothing.
type page[T any] struct {
	cells [RecMaxSlots]T
	used  int
}

// RecDiskOk says whether a disk is such.
func RecDiskOk(d RecDisk) bool {
	if !within(d.Promise, 0, RecMaxBallot) || !slotsOk(d.Slots) || !within(d.Known, 0, len(d.Slots)) {
		return false
	}
	for i, s := range d.Slots {
		if s.Ballot > d.Promise || i < d.Known && s.Ballot == 0 {
			return false
		}
	}
	return true
}

// RecMerge takes the slots of the greater ballots. It answers for lists beyond RecMaxSlots too, so it goes page by page.
func RecMerge(a []RecSlot, b []RecSlot) []RecSlot {
	size := max(len(a), len(b))
	merged := make([]RecSlot, 0, size)
	for start := 0; start < size; start += RecMaxSlots {
		p := mergePages(pageFrom(a, start), pageFrom(b, start), compareBallots)
		merged = append(merged, p.cells[:p.used]...)
	}
	return merged
}

func pageFrom[T any](list []T, start int) page[T] {
	var p page[T]
	if start < len(list) {
		p.used = copy(p.cells[:], list[start:])
	}
	return p
}

// mergePages lets a's cell stand unless b's is truly greater: of equal ones it is a's that counts.
func mergePages[T any](a page[T], b page[T], compare func(x T, y T) int) page[T] {
	merged := a
	for i := range b.used {
		if i >= a.used || compare(a.cells[i], b.cells[i]) < 0 {
			merged.cells[i] = b.cells[i]
		}
	}
	merged.used = max(a.used, b.used)
	return merged
}

func compareBallots(x RecSlot, y RecSlot) int {
	return cmp.Compare(x.Ballot, y.Ballot)
}

func slotsOk(slots []RecSlot) bool {
	if len(slots) > RecMaxSlots {
		return false
	}
	for _, s := range slots {
		if !slotOk(s) {
			return false
		}
	}
	return true
}

func slotOk(s RecSlot) bool {
	if s.Ballot == 0 {
		return s.Text == ""
	}
	return within(s.Ballot, 1, RecMaxBallot) && len(s.Text) <= RecMaxText
}

func within(n int, low int, high int) bool {
	return low <= n && n <= high
}

func slotIsOf(d RecDisk, index int, ballot int) bool {
	return index <= len(d.Slots) && d.Slots[index-1].Ballot == ballot
}

func putSlot(d *RecDisk, index int, s RecSlot) {
	for len(d.Slots) < index {
		d.Slots = append(d.Slots, RecSlot{})
	}
	d.Slots[index-1] = s
}

func knowsText(d RecDisk, text string) bool {
	return slices.ContainsFunc(d.Slots[:d.Known], func(s RecSlot) bool {
		return s.Text == text
	})
}

func hasText(d RecDisk, text string) bool {
	return slices.ContainsFunc(d.Slots, func(s RecSlot) bool {
		return s.Ballot > 0 && s.Text == text
	})
}

// copyList leaves an empty list's memory behind too, which slices.Clone keeps hold of.
func copyList[T any](list []T) []T {
	return append([]T(nil), list...)
}
