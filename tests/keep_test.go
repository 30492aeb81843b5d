package tests

import (
	"fmt"
	"math/rand"
	"reflect"
	"slices"
	"testing"

	"loop.example/wharfquorum/impl"
)

// some texts, so few that they meet again, with the empty one and the longest among them.
func someText(rnd *rand.Rand) string {
	texts := []string{"", "a", "b", "c", "d", "e", textOf(impl.RecMaxText)}
	return texts[rnd.Intn(len(texts))]
}

func someSlots(rnd *rand.Rand, most int, ballot int) []impl.RecSlot {
	var slots []impl.RecSlot
	for range rnd.Intn(most + 1) {
		s := impl.RecSlot{Ballot: rnd.Intn(ballot + 1)}
		if s.Ballot > 0 {
			s.Text = someText(rnd)
		}
		slots = append(slots, s)
	}
	return slots
}

func someDisk(rnd *rand.Rand, most int) impl.RecDisk {
	d := impl.RecDisk{Promise: rnd.Intn(7)}
	d.Slots = someSlots(rnd, most, d.Promise)
	known := rnd.Intn(len(d.Slots) + 1)
	for d.Known < known && d.Slots[d.Known].Ballot > 0 {
		d.Known++
	}
	return d
}

func someNumbers(rnd *rand.Rand, of int) []int {
	var numbers []int
	for n := 1; n <= of; n++ {
		if rnd.Intn(2) == 0 {
			numbers = append(numbers, n)
		}
	}
	return numbers
}

// someMessage is ok for of, and mostly to number.
func someMessage(rnd *rand.Rand, number int, of int) impl.RecMessage {
	m := impl.RecMessage{Kind: 1 + rnd.Intn(9), From: 1 + rnd.Intn(of), To: number, Ballot: rnd.Intn(9), Index: rnd.Intn(9), Known: rnd.Intn(9), Text: someText(rnd)}
	if rnd.Intn(8) == 0 {
		m.To = 1 + rnd.Intn(of)
	}
	if rnd.Intn(10) == 0 {
		m.Index, m.Known = impl.RecMaxSlots-rnd.Intn(6), impl.RecMaxSlots-rnd.Intn(6)
	}
	if rnd.Intn(30) == 0 {
		m.Ballot = impl.RecMaxBallot
	}
	m.Slots = someSlots(rnd, 8, 6)
	return m
}

// aptMessage is one that r may well do something with: near its ballots and what it knows.
func aptMessage(rnd *rand.Rand, r impl.Recorder) impl.RecMessage {
	m := someMessage(rnd, r.Number, r.Of)
	if rnd.Intn(4) == 0 {
		return m
	}
	m.Ballot = min(r.Disk.Promise+rnd.Intn(2), impl.RecMaxBallot)
	if r.Ballot > 0 && rnd.Intn(3) > 0 {
		m.Ballot = r.Ballot
	}
	m.Index = min(r.Disk.Known+rnd.Intn(2), impl.RecMaxSlots)
	return m
}

// wrongMessage has one thing that is not ok.
func wrongMessage(rnd *rand.Rand, number int, of int) impl.RecMessage {
	m := someMessage(rnd, number, of)
	switch rnd.Intn(8) {
	case 0:
		m.Kind = []int{-1, 0, 10, 1 << 50}[rnd.Intn(4)]
	case 1:
		m.From = []int{-1, 0, of + 1}[rnd.Intn(3)]
	case 2:
		m.To = []int{-1, 0, of + 1}[rnd.Intn(3)]
	case 3:
		m.Ballot = []int{-1, impl.RecMaxBallot + 1}[rnd.Intn(2)]
	case 4:
		m.Index = []int{-1, impl.RecMaxSlots + 1}[rnd.Intn(2)]
	case 5:
		m.Known = []int{-1, impl.RecMaxSlots + 1}[rnd.Intn(2)]
	case 6:
		m.Text = textOf(impl.RecMaxText + 1)
	case 7:
		m.Slots = append(m.Slots, impl.RecSlot{Ballot: -1})
	}
	return m
}

func someRecorder(rnd *rand.Rand) impl.Recorder {
	of := 1 + rnd.Intn(impl.RecMaxRecorders)
	return someRecorderOf(rnd, 1+rnd.Intn(of), of)
}

// someRecorderOf is valid, in any role, at times with its lists nearly full.
func someRecorderOf(rnd *rand.Rand, number int, of int) impl.Recorder {
	r := impl.RecNew(number, of)
	most := 7
	if rnd.Intn(6) == 0 {
		most = impl.RecMaxSlots
	}
	r.Safe, r.Disk = someDisk(rnd, most), someDisk(rnd, most)
	if rnd.Intn(12) == 0 {
		r.Up = false
		return r
	}
	r.Heard = rnd.Intn(20)
	held := rnd.Intn(3)
	if rnd.Intn(40) == 0 {
		held = impl.RecMaxHeld - rnd.Intn(5)
	}
	for range held {
		m := someMessage(rnd, 1, of)
		m.From = r.Number
		r.Held = append(r.Held, m)
	}
	for i := range []int{0, 1, 3, impl.RecMaxWishes - 1, impl.RecMaxWishes}[rnd.Intn(5)] {
		r.Wishes = append(r.Wishes, string(rune('c'+i)))
	}
	if r.Disk.Promise > 0 {
		someRole(rnd, &r)
	}
	return r
}

func someRole(rnd *rand.Rand, r *impl.Recorder) {
	switch rnd.Intn(3) {
	case 0:
		r.Lead, r.Ballot = true, 1+rnd.Intn(r.Disk.Promise)
		for index := 1; index <= 9; index++ {
			if rnd.Intn(2) == 0 {
				r.Acks = append(r.Acks, impl.RecAck{Index: index, From: someNumbers(rnd, r.Of)})
			}
		}
	case 1:
		r.Trying, r.Ballot = true, 1+rnd.Intn(r.Disk.Promise)
		r.Yes, r.Best = someNumbers(rnd, r.Of), someSlots(rnd, 9, 6)
	}
}

// checkKept holds an answer to promises 3 and 4, and to what no message and no wish may touch.
func checkKept(t *testing.T, name string, before impl.Recorder, after impl.Recorder) {
	t.Helper()
	checkForth(t, name, before, after)
	for _, m := range after.Held {
		if !impl.RecMessageOk(m, before.Of) || m.From != before.Number {
			t.Errorf("%s: holds %+v", name, m)
		}
	}
	if after.Number != before.Number || after.Of != before.Of || after.Up != before.Up || !reflect.DeepEqual(plain(after).Safe, plain(before).Safe) {
		t.Errorf("%s: what it is or what is safe has changed: %+v", name, after)
	}
	if len(after.Held) < len(before.Held) || !reflect.DeepEqual(plain(before).Held, ownList(plain(after).Held[:len(before.Held)])) {
		t.Errorf("%s: what was held has changed", name)
	}
	if len(after.Wishes) < len(before.Wishes) || !slices.Equal(after.Wishes[:len(before.Wishes)], before.Wishes) {
		t.Errorf("%s: wishes are gone", name)
	}
}

func TestValidRecordersStaySo(t *testing.T) {
	rnd := rand.New(rand.NewSource(3))
	var done, all [impl.RecRefuse + 1]int
	for round := range 4000 {
		r := someRecorder(rnd)
		if !impl.RecValid(r) {
			t.Fatalf("round %d begins with one that is not valid: %+v", round, r)
		}
		for step := range 4 {
			m := aptMessage(rnd, r)
			name := fmt.Sprintf("round %d, step %d, %+v", round, step, m)
			after := checkedTake(t, name, r, m)
			checkKept(t, name, r, after)
			all[m.Kind]++
			if !sameRecorder(after, r) {
				done[m.Kind]++
			}
			wrong := wrongMessage(rnd, r.Number, r.Of)
			if got := checkedTake(t, name, r, wrong); !sameRecorder(got, r) {
				t.Errorf("round %d: %+v was taken", round, wrong)
			}
			r = after
		}
		text := someText(rnd)
		name := fmt.Sprintf("round %d, wish for %q", round, text)
		checkKept(t, name, r, checkedWish(t, name, r, text))
		if t.Failed() {
			return
		}
	}
	for kind := impl.RecPrepare; kind <= impl.RecRefuse; kind++ {
		if done[kind] < 50 {
			t.Errorf("kind %d changed something %d times of %d: too few to tell", kind, done[kind], all[kind])
		}
	}
}

func TestFullRecordersStayValid(t *testing.T) {
	for name, r := range map[string]impl.Recorder{"quiet": fullRecorder(), "leads": leadingRecorder(), "tries": tryingRecorder(), "down": downRecorder()} {
		for kind := impl.RecPrepare; kind <= impl.RecRefuse; kind++ {
			m := fullMessage()
			m.Kind = kind
			checkKept(t, name, r, checkedTake(t, name, r, m))
			m.From, m.Ballot = 1, impl.RecMaxBallot-1
			checkKept(t, name, r, checkedTake(t, name, r, m))
		}
		checkKept(t, name, r, checkedWish(t, name, r, "one more"))
	}
}

// Lists that share memory among the arguments share none in the answer.
func TestSharedArguments(t *testing.T) {
	shared := fullSlots(8, 4)
	numbers := []int{1, 2, 3}
	for _, role := range []string{"quiet", "leads", "tries"} {
		r := roles()[role]
		r.Of = 5
		r.Safe = impl.RecDisk{Promise: 5, Known: 2, Slots: shared[:3]}
		r.Disk = impl.RecDisk{Promise: 6, Known: 2, Slots: shared[:5]}
		r.Held = []impl.RecMessage{{Kind: impl.RecPromised, From: 2, To: 1, Slots: shared[:2]}, {Kind: impl.RecPromised, From: 2, To: 3, Slots: shared[2:2]}}
		switch role {
		case "leads":
			r.Acks = []impl.RecAck{{Index: 3, From: numbers[:1]}, {Index: 4, From: numbers[:2]}, {Index: 5, From: numbers[:0]}}
		case "tries":
			r.Yes, r.Best = numbers[:1], shared[:4]
		}
		was := fmt.Sprint(shared, numbers)
		for _, m := range manyKinds() {
			m.From, m.To, m.Slots = 4, 2, shared[:6]
			name := fmt.Sprint(role, ", kind ", m.Kind)
			got := impl.RecTake(r, m)
			checkOwnMemory(t, name, got, r, m)
			checkKept(t, name, r, got)
			checkOwnMemory(t, name+", to another", impl.RecTake(r, impl.RecMessage{Kind: m.Kind, From: 2, To: 1}), r)
		}
		checkOwnMemory(t, role, impl.RecWish(r, "n"), r)
		checkOwnMemory(t, role, impl.RecWish(r, ""), r)
		checkOwnMemory(t, role, impl.RecBook(r), r)
		if fmt.Sprint(shared, numbers) != was {
			t.Errorf("%s: the arguments were changed", role)
		}
	}
}
