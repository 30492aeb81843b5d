package tests

import (
	"cmp"
	"fmt"
	"reflect"
	"slices"
	"strings"
	"testing"

	"loop.example/wharfquorum/impl"
)

// span is the memory of one list, spare room included.
type span struct {
	start uintptr
	end   uintptr
	name  string
}

// spansOf finds the memory of every list within v; lists in the spare room of another count too.
func spansOf(v reflect.Value, name string) []span {
	var spans []span
	switch v.Kind() {
	case reflect.Struct:
		for i := range v.NumField() {
			if k := v.Field(i).Kind(); k == reflect.Struct || k == reflect.Slice {
				spans = append(spans, spansOf(v.Field(i), name+"."+v.Type().Field(i).Name)...)
			}
		}
	case reflect.Slice:
		if v.Cap() == 0 {
			return nil
		}
		size := uintptr(v.Cap()) * v.Type().Elem().Size()
		spans = append(spans, span{v.Pointer(), v.Pointer() + size, name})
		whole := v.Slice(0, v.Cap())
		for i := 0; i < whole.Len() && v.Type().Elem().Kind() == reflect.Struct; i++ {
			spans = append(spans, spansOf(whole.Index(i), name)...)
		}
	}
	return spans
}

// sameWhole holds two values against each other, the spare room of their lists too.
func sameWhole(a reflect.Value, b reflect.Value) bool {
	switch a.Kind() {
	case reflect.Struct:
		for i := range a.NumField() {
			if !sameWhole(a.Field(i), b.Field(i)) {
				return false
			}
		}
		return true
	case reflect.Slice:
		wholeA, wholeB := a.Slice(0, a.Cap()), b.Slice(0, b.Cap())
		if a.Len() != b.Len() || wholeA.Len() != wholeB.Len() {
			return false
		}
		for i := range wholeA.Len() {
			if !sameWhole(wholeA.Index(i), wholeB.Index(i)) {
				return false
			}
		}
		return true
	}
	return a.Equal(b)
}

// checkOwnMemory holds the answer's lists against each other and against the arguments', which may share memory among themselves.
func checkOwnMemory(t *testing.T, name string, answer any, arguments ...any) {
	t.Helper()
	spans := spansOf(reflect.ValueOf(answer), "answer")
	for k, a := range arguments {
		spans = append(spans, spansOf(reflect.ValueOf(a), fmt.Sprint("argument ", k))...)
	}
	slices.SortFunc(spans, func(a span, b span) int { return cmp.Compare(a.start, b.start) })
	var lastOwn, last span
	for _, s := range spans {
		before := lastOwn
		if strings.HasPrefix(s.name, "answer") {
			before = last
		}
		if s.start < before.end {
			t.Errorf("%s: %s shares memory with %s", name, s.name, before.name)
			return
		}
		if s.end > last.end {
			last = s
		}
		if strings.HasPrefix(s.name, "answer") {
			lastOwn = s
		}
	}
}

// roomy gives list spare room that is filled, so that a write behind its end is seen.
func roomy[T any](list []T, mark T) []T {
	return slices.Clip(append(ownList(list), mark, mark, mark))[:len(list)]
}

func roomySlots(list []impl.RecSlot) []impl.RecSlot {
	return roomy(list, impl.RecSlot{Ballot: 77, Text: "mark"})
}

func roomyMessage(m impl.RecMessage) impl.RecMessage {
	m.Slots = roomySlots(m.Slots)
	return m
}

// roomyRecorder is r with spare room behind each of its lists.
func roomyRecorder(r impl.Recorder) impl.Recorder {
	r.Safe.Slots, r.Disk.Slots, r.Best = roomySlots(r.Safe.Slots), roomySlots(r.Disk.Slots), roomySlots(r.Best)
	r.Held = roomy(r.Held, impl.RecMessage{Kind: 77, Text: "mark"})
	for i := range r.Held {
		r.Held[i] = roomyMessage(r.Held[i])
	}
	r.Wishes = roomy(r.Wishes, "mark")
	r.Yes = roomy(r.Yes, 77)
	r.Acks = roomy(r.Acks, impl.RecAck{Index: 77})
	for i := range r.Acks {
		r.Acks[i].From = roomy(r.Acks[i].From, 77)
	}
	return r
}

// ownList is list without spare room, and nil if it is empty, since the empty list and the nil list are the same value.
func ownList[T any](list []T) []T {
	if len(list) == 0 {
		return nil
	}
	return slices.Clip(slices.Clone(list))
}

// plain is r as a value: two recorders are the same if reflect.DeepEqual holds of what plain gives.
func plain(r impl.Recorder) impl.Recorder {
	r.Safe.Slots, r.Disk.Slots, r.Best = ownList(r.Safe.Slots), ownList(r.Disk.Slots), ownList(r.Best)
	r.Held = ownList(r.Held)
	for i := range r.Held {
		r.Held[i].Slots = ownList(r.Held[i].Slots)
	}
	r.Wishes, r.Yes, r.Acks = ownList(r.Wishes), ownList(r.Yes), ownList(r.Acks)
	for i := range r.Acks {
		r.Acks[i].From = ownList(r.Acks[i].From)
	}
	return r
}

func sameRecorder(a impl.Recorder, b impl.Recorder) bool {
	return reflect.DeepEqual(plain(a), plain(b))
}

// checkedTake is RecTake, with the arguments held to be as they were, spare room too, and the answer to be new memory.
func checkedTake(t *testing.T, name string, r impl.Recorder, m impl.RecMessage) impl.Recorder {
	t.Helper()
	wasR, wasM := roomyRecorder(r), roomyMessage(m)
	r, m = roomyRecorder(r), roomyMessage(m)
	got := impl.RecTake(r, m)
	if !sameWhole(reflect.ValueOf(r), reflect.ValueOf(wasR)) || !sameWhole(reflect.ValueOf(m), reflect.ValueOf(wasM)) {
		t.Errorf("%s: an argument was changed", name)
	}
	checkOwnMemory(t, name, got, r, m)
	return got
}

// checkedCall is a call with a recorder alone, held to the same.
func checkedCall[A any](t *testing.T, name string, r impl.Recorder, call func(r impl.Recorder) A) A {
	t.Helper()
	was := roomyRecorder(r)
	r = roomyRecorder(r)
	got := call(r)
	if !sameWhole(reflect.ValueOf(r), reflect.ValueOf(was)) {
		t.Errorf("%s: the argument was changed", name)
	}
	checkOwnMemory(t, name, got, r)
	return got
}

func checkedWish(t *testing.T, name string, r impl.Recorder, text string) impl.Recorder {
	t.Helper()
	return checkedCall(t, name, r, func(r impl.Recorder) impl.Recorder { return impl.RecWish(r, text) })
}

// ticked is the answer of RecTick as one value, since its two results share no memory either.
type ticked struct {
	R    impl.Recorder
	Sent []impl.RecMessage
}

func tickOf(r impl.Recorder) ticked {
	after, sent := impl.RecTick(r)
	return ticked{after, sent}
}

func checkedTick(t *testing.T, name string, r impl.Recorder) (impl.Recorder, []impl.RecMessage) {
	t.Helper()
	got := checkedCall(t, name, r, tickOf)
	return got.R, got.Sent
}
