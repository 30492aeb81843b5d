package tests

import (
	"fmt"
	"math/rand"
	"reflect"
	"slices"
	"testing"

	"loop.example/wharfquorum/impl"
)

// checkForth holds an answer to promises 3 and 4, as far as they say the same of a tick, a message, a wish and a rise.
func checkForth(t *testing.T, name string, before impl.Recorder, after impl.Recorder) {
	t.Helper()
	if !impl.RecValid(after) {
		t.Errorf("%s: not valid: %+v", name, after)
	}
	if after.Disk.Promise < before.Disk.Promise || after.Disk.Known < before.Disk.Known || len(after.Disk.Slots) < len(before.Disk.Slots) {
		t.Errorf("%s: the disk went back: %+v", name, after.Disk)
		return
	}
	if known := before.Disk.Known; !slices.Equal(after.Disk.Slots[:known], before.Disk.Slots[:known]) {
		t.Errorf("%s: what was known has changed", name)
	}
}

// checkTicked holds a tick to what it may do whatever the recorder is.
func checkTicked(t *testing.T, name string, before impl.Recorder, after impl.Recorder, sent []impl.RecMessage) {
	t.Helper()
	checkForth(t, name, before, after)
	if after.Number != before.Number || after.Of != before.Of || after.Up != before.Up {
		t.Errorf("%s: it is another one: %+v", name, after)
	}
	held := len(before.Held)
	if len(sent) < held || !reflect.DeepEqual(plainMessages(sent[:held]), plainMessages(before.Held)) {
		t.Errorf("%s: what was held is not what is sent first", name)
		return
	}
	for i, m := range sent {
		if !impl.RecMessageOk(m, before.Of) || m.From != before.Number {
			t.Errorf("%s: sent %+v", name, m)
		}
		if i >= held && (m.To == m.From || m.Ballot != after.Ballot || !after.Lead || m.Kind != impl.RecBeat && m.Kind != impl.RecAccept) {
			t.Errorf("%s: sent at once %+v", name, m)
		}
	}
	for _, m := range after.Held {
		if m.Kind != impl.RecPrepare || m.To == m.From || m.Ballot != after.Ballot || !after.Trying {
			t.Errorf("%s: holds %+v", name, m)
		}
	}
	safe := before.Safe
	if before.Up {
		safe = before.Disk
	}
	if !reflect.DeepEqual(plain(after).Safe, plain(impl.Recorder{Safe: safe}).Safe) {
		t.Errorf("%s: safe is %+v", name, after.Safe)
	}
	for _, text := range before.Wishes {
		if slices.Contains(after.Wishes, text) == slices.Contains(impl.RecBook(before), text) {
			t.Errorf("%s: of %q the wishes %q are left", name, before.Wishes, after.Wishes)
		}
	}
}

// checkFallen holds a fall to promise 4.
func checkFallen(t *testing.T, name string, before impl.Recorder, after impl.Recorder) {
	t.Helper()
	if !sameRecorder(after, fallen(before)) || !impl.RecValid(after) {
		t.Errorf("%s: %+v", name, after)
	}
}

func TestDisksGoForth(t *testing.T) {
	rnd := rand.New(rand.NewSource(4))
	var led, tried, waited, down int
	for round := range 3000 {
		r := someRecorder(rnd)
		for step := range 8 {
			name := fmt.Sprintf("round %d, step %d, %+v", round, step, r)
			before := r
			switch rnd.Intn(10) {
			case 0:
				r = checkedCall(t, name+", falls", before, impl.RecFall)
				checkFallen(t, name+", falls", before, r)
			case 1:
				r = checkedCall(t, name+", rises", before, impl.RecRise)
				checkForth(t, name+", rises", before, r)
			case 2:
				r = checkedWish(t, name+", wishes", before, someText(rnd))
				checkForth(t, name+", wishes", before, r)
			case 3, 4, 5:
				r = checkedTake(t, name+", takes", before, aptMessage(rnd, before))
				checkForth(t, name+", takes", before, r)
			default:
				after, sent := checkedTick(t, name+", ticks", before)
				checkTicked(t, name+", ticks", before, after, sent)
				switch r = after; {
				case !r.Up:
					down++
				case r.Lead && !before.Lead:
					led++
				case len(r.Held) > 0:
					tried++
				default:
					waited++
				}
			}
			if t.Failed() {
				return
			}
		}
	}
	if min(led, tried, waited, down) < 100 {
		t.Errorf("%d came to lead, %d to try, %d waited and %d were down: too few to tell", led, tried, waited, down)
	}
}

// Lists that share memory in the recorder share none in what a tick, a fall and a rise answer.
func TestTickAndFallOfSharedLists(t *testing.T) {
	shared, numbers := fullSlots(8, 6), []int{1, 2, 3}
	for name, r := range roles() {
		for _, ticks := range []int{0, 10} {
			r.Of, r.Heard = 5, ticks
			r.Safe = impl.RecDisk{Promise: 6, Known: 2, Slots: shared[:3]}
			r.Disk = impl.RecDisk{Promise: 6, Known: 2, Slots: shared[:5]}
			r.Held = []impl.RecMessage{{Kind: impl.RecPromised, From: 2, To: 1, Slots: shared[:2]}, {Kind: impl.RecPromised, From: 2, To: 3, Slots: shared[2:2]}}
			r.Wishes = []string{"t0", "w", "v"}
			if r.Lead {
				r.Acks = []impl.RecAck{{Index: 3, From: numbers[:1]}, {Index: 4, From: numbers[2:]}, {Index: 5, From: numbers[:0]}}
			}
			for _, yes := range [][]int{numbers[:0], numbers[:1], {1, 3}} {
				if r.Trying {
					r.Yes, r.Best = yes, shared[:4]
				}
				was := fmt.Sprint(shared, numbers)
				checkOwnMemory(t, name+" ticks", tickOf(r), r)
				checkOwnMemory(t, name+" falls", impl.RecFall(r), r)
				checkOwnMemory(t, name+" rises", impl.RecRise(r), r)
				after, sent := impl.RecTick(r)
				checkTicked(t, name+" ticks", r, after, sent)
				if fmt.Sprint(shared, numbers) != was {
					t.Errorf("%s: the arguments were changed", name)
				}
			}
		}
	}
	down := impl.Recorder{Number: 1, Of: 2, Safe: impl.RecDisk{Promise: 6, Slots: shared[:3]}, Disk: impl.RecDisk{Promise: 6, Slots: shared[:5]}}
	checkOwnMemory(t, "down ticks", tickOf(down), down)
	checkOwnMemory(t, "down falls", impl.RecFall(down), down)
	checkOwnMemory(t, "down rises", impl.RecRise(down), down)
}
