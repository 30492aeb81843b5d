package tests

import (
	"fmt"
	"reflect"
	"slices"
	"testing"

	"loop.example/wharfquorum/impl"
)

// tickCase is a tick of a recorder that is Up; want tells what it changes beside what every tick does, and sent what goes out behind Held.
type tickCase struct {
	name string
	r    impl.Recorder
	want func(r *impl.Recorder)
	sent []impl.RecMessage
}

// plainTick is what every tick does: Safe is the Disk, Held is empty and Heard is one more.
func plainTick(r impl.Recorder) impl.Recorder {
	r = plain(r)
	r.Safe = r.Disk
	r.Safe.Slots = ownList(r.Disk.Slots)
	r.Held = nil
	r.Heard++
	return r
}

func plainMessages(list []impl.RecMessage) []impl.RecMessage {
	list = ownList(list)
	for i := range list {
		list[i].Slots = ownList(list[i].Slots)
	}
	return list
}

func checkTick(t *testing.T, name string, r impl.Recorder, want impl.Recorder, behind []impl.RecMessage) {
	t.Helper()
	if !impl.RecValid(r) {
		t.Errorf("%s: the recorder of the case is not valid", name)
	}
	got, sent := checkedTick(t, name, r)
	if !sameRecorder(got, want) {
		t.Errorf("%s:\n got  %+v\n want %+v", name, got, want)
	}
	wantSent := append(ownList(r.Held), behind...)
	if !reflect.DeepEqual(plainMessages(sent), plainMessages(wantSent)) {
		t.Errorf("%s:\n sent %+v\n want %+v", name, sent, wantSent)
	}
	if !impl.RecValid(got) {
		t.Errorf("%s: the answer is not valid", name)
	}
	for _, m := range sent {
		if !impl.RecMessageOk(m, r.Of) {
			t.Errorf("%s: sent %+v", name, m)
		}
	}
}

func checkTicks(t *testing.T, cases []tickCase) {
	t.Helper()
	for _, c := range cases {
		want := plainTick(c.r)
		if c.want != nil {
			c.want(&want)
		}
		checkTick(t, c.name, c.r, want, c.sent)
	}
}

// others are the messages of which m is the pattern, to each but from.
func others(from int, of int, m impl.RecMessage) []impl.RecMessage {
	var list []impl.RecMessage
	for to := 1; to <= of; to++ {
		if to != from {
			m.From, m.To = from, to
			list = append(list, m)
		}
	}
	return list
}

// leadership is what a leader with these texts above known sends.
func leadership(from int, of int, ballot int, known int, texts ...string) []impl.RecMessage {
	list := others(from, of, impl.RecMessage{Kind: impl.RecBeat, Ballot: ballot, Known: known})
	for i, text := range texts {
		list = append(list, others(from, of, impl.RecMessage{Kind: impl.RecAccept, Ballot: ballot, Index: known + 1 + i, Text: text})...)
	}
	return list
}

// tries gives the change that a recorder asks for the lead under this ballot.
func tries(ballot int) func(r *impl.Recorder) {
	return func(r *impl.Recorder) {
		becomesQuiet(r)
		r.Disk.Promise, r.Ballot, r.Trying, r.Heard = ballot, ballot, true, 0
		r.Held = others(r.Number, r.Of, impl.RecMessage{Kind: impl.RecPrepare, Ballot: ballot})
	}
}

func heard(r impl.Recorder, ticks int) impl.Recorder {
	r.Heard = ticks
	return r
}

func TestTickOfOneThatIsQuiet(t *testing.T) {
	wishing := func(wishes ...string) impl.Recorder {
		return amended(quietOne(), func(r *impl.Recorder) { r.Wishes = wishes })
	}
	left := func(wishes ...string) func(r *impl.Recorder) {
		return func(r *impl.Recorder) { r.Wishes = wishes }
	}
	giveUp := func(r *impl.Recorder) { becomesQuiet(r); r.Heard = 0 }
	promised := func(r impl.Recorder, ballot int) impl.Recorder { r.Disk.Promise = ballot; return r }
	checkTicks(t, []tickCase{
		{"a new one", impl.RecNew(1, 3), nil, nil},
		{"one that waits", quietOne(), nil, nil},
		{"safe has more than the disk", amended(quietOne(), func(r *impl.Recorder) { r.Safe, r.Disk = r.Disk, r.Safe }), nil, nil},
		{"wishes of all kinds", wishing("a", "x", "b", "c", "d", "old"), left("x", "c", "d", "old"), nil},
		{"wishes that are all known", wishing("b", "a"), left(), nil},
		{"wishes of which none is known", wishing("x", "ab", "c"), nil, nil},
		{"nothing is known", amended(wishing("a", "b"), func(r *impl.Recorder) { r.Disk.Known = 0 }), nil, nil},
		{"heard at its end", heard(quietOne(), 9), nil, nil},
		{"heard one more", heard(quietOne(), 10), tries(8), nil},
		{"heard far more", heard(quietOne(), 5000), tries(8), nil},
		{"heard as much as can be", heard(quietOne(), impl.RecMaxBallot), tries(8), nil},
		{"tries with wishes", heard(wishing("a", "x"), 10), func(r *impl.Recorder) { left("x")(r); tries(8)(r) }, nil},
		{"the last ballot", heard(promised(impl.RecNew(1, 3), impl.RecMaxBallot-1), 7), tries(impl.RecMaxBallot), nil},
		{"the last ballot, from afar", heard(promised(impl.RecNew(1, 3), impl.RecMaxBallot-3), 7), tries(impl.RecMaxBallot), nil},
		{"no ballot left by one", heard(promised(quietOne(), impl.RecMaxBallot-1), 10), giveUp, nil},
		{"no ballot left", heard(promised(quietOne(), impl.RecMaxBallot), 10), giveUp, nil},
		{"no ballot left, and it waits", heard(promised(quietOne(), impl.RecMaxBallot), 9), nil, nil},
		{"one that tries and has no ballot left", heard(promised(tryingOne(), impl.RecMaxBallot), 10), giveUp, nil},
	})
}

func TestWaitOfEachNumber(t *testing.T) {
	for of := 1; of <= impl.RecMaxRecorders; of++ {
		for number := 1; number <= of; number++ {
			name := fmt.Sprint(number, " of ", of)
			for promise := range 2 * of {
				r := heard(impl.RecNew(number, of), 4+3*number-1)
				r.Disk.Promise = promise
				checkTick(t, name+", waits", r, plainTick(r), nil)
				r.Heard++
				want := plainTick(r)
				tries(nextWanted(promise, number, of))(&want)
				checkTick(t, name+", tries", r, want, nil)
			}
		}
	}
}

func TestTickOfOneThatTries(t *testing.T) {
	best := []impl.RecSlot{{Ballot: 4, Text: "a"}, {Ballot: 6, Text: "b"}, {Ballot: 6, Text: "c"}, {Ballot: 5, Text: "d"}}
	greater := []impl.RecSlot{{Ballot: 4, Text: "y"}, {Ballot: 5, Text: "y"}, {Ballot: 9, Text: "y"}, {}, {}, {Ballot: 2, Text: "z"}}
	merged := []impl.RecSlot{{Ballot: 4, Text: "y"}, {Ballot: 6, Text: "b"}, {Ballot: 9, Text: "y"}, {Ballot: 5, Text: "d"}, {}, {Ballot: 2, Text: "z"}}
	asked := func(of int, ballot int, yes []int, slots []impl.RecSlot) impl.Recorder {
		return amended(tryingOne(), func(r *impl.Recorder) { r.Of, r.Ballot, r.Yes, r.Best = of, ballot, yes, slots })
	}
	promised := func(yes []int, slots []impl.RecSlot) func(r *impl.Recorder) {
		return func(r *impl.Recorder) { r.Yes, r.Best = yes, slots }
	}
	leads := func(slots ...impl.RecSlot) func(r *impl.Recorder) {
		return func(r *impl.Recorder) {
			becomesQuiet(r)
			r.Lead, r.Ballot = true, 6
			r.Disk.Slots = slots
			// Of the places that it leads with, only the two that were of its ballot ahead of the tick are safe.
			r.Acks = []impl.RecAck{{Index: 2, From: []int{2}}, {Index: 3, From: []int{2}}}
		}
	}
	a, b := best[0], best[1]
	of6 := func(text string) impl.RecSlot { return impl.RecSlot{Ballot: 6, Text: text} }
	// Safe's Promise was its ballot ahead of the tick, which is not what is asked.
	stale := amended(asked(3, 5, nil, nil), func(r *impl.Recorder) { r.Safe = impl.RecDisk{Promise: 5} })
	checkTicks(t, []tickCase{
		{"a first promise", asked(3, 6, nil, nil), promised([]int{2}, best), nil},
		{"again a promise of itself", tryingOne(), promised([]int{2}, best), nil},
		{"what it took joins the best", asked(4, 6, nil, greater), promised([]int{2}, merged), nil},
		{"half of four", asked(4, 6, []int{4}, greater), promised([]int{2, 4}, merged), nil},
		{"two of five", asked(5, 6, []int{1}, greater), promised([]int{1, 2}, merged), nil},
		{"half of two", amended(impl.RecNew(1, 2), func(r *impl.Recorder) { r.Disk.Promise, r.Ballot, r.Trying = 3, 3, true }), promised([]int{1}, nil), nil},
		{"most of three", asked(3, 6, []int{1}, greater), leads(a, b, of6("y"), of6("d"), of6(""), of6("z")), leadership(2, 3, 6, 2, "y", "d", "", "z")},
		{"most of four", asked(4, 6, []int{1, 3}, nil), leads(a, b, of6("c"), of6("d")), leadership(2, 4, 6, 2, "c", "d")},
		{"most of five", asked(5, 6, []int{4, 5}, nil), leads(a, b, of6("c"), of6("d")), leadership(2, 5, 6, 2, "c", "d")},
		{"most already, and of itself again", asked(3, 6, []int{2, 3}, nil), leads(a, b, of6("c"), of6("d")), leadership(2, 3, 6, 2, "c", "d")},
		{"the promise is above its ballot", asked(3, 5, []int{1}, greater), nil, nil},
		{"the promise was its ballot", stale, nil, nil},
		{"heard at its end", heard(asked(4, 6, nil, greater), 9), promised([]int{2}, merged), nil},
		{"heard one more", heard(asked(4, 6, []int{4}, greater), 10), tries(10), nil},
		{"heard one more, below the promise", heard(asked(3, 5, []int{1}, greater), 10), tries(8), nil},
		{"leads at the last moment", heard(asked(3, 6, []int{1}, nil), 10), leads(a, b, of6("c"), of6("d")), leadership(2, 3, 6, 2, "c", "d")},
	})
}

func TestTickOfOneThatLeads(t *testing.T) {
	acked := func(acks ...impl.RecAck) impl.Recorder {
		return amended(leadingOne(), func(r *impl.Recorder) { r.Acks = acks })
	}
	knows := func(known int, acks ...impl.RecAck) func(r *impl.Recorder) {
		return func(r *impl.Recorder) { r.Disk.Known, r.Acks = known, acks }
	}
	ack := func(index int, from ...int) impl.RecAck { return impl.RecAck{Index: index, From: from} }
	allOfIts := func(r *impl.Recorder) { r.Disk.Slots[3].Ballot = 6 }
	bare := func(r impl.Recorder) impl.Recorder { r.Acks = nil; return r }
	checkTicks(t, []tickCase{
		{"acks that it has and has not", leadingOne(), knows(2, ack(2, 2, 3), ack(3, 2), ack(4, 3)), leadership(2, 3, 6, 2, "c", "d")},
		{"no acks", acked(), knows(2, ack(2, 2), ack(3, 2)), leadership(2, 3, 6, 2, "c", "d")},
		{"most took it", acked(ack(3, 1)), knows(3, ack(2, 2), ack(3, 1, 2)), leadership(2, 3, 6, 3, "d")},
		{"most took it, all but the leader", acked(ack(3, 1, 3)), knows(3, ack(2, 2), ack(3, 1, 2, 3)), leadership(2, 3, 6, 3, "d")},
		{"a slot of another ballot", acked(ack(4, 1, 3)), knows(2, ack(2, 2), ack(3, 2), ack(4, 1, 3)), leadership(2, 3, 6, 2, "c", "d")},
		{"one after the other", amended(acked(ack(3, 3), ack(4, 1)), allOfIts), knows(4, ack(2, 2), ack(3, 2, 3), ack(4, 1, 2)), leadership(2, 3, 6, 4)},
		{"half of four", amended(acked(ack(3, 1)), func(r *impl.Recorder) { r.Of = 4 }), knows(2, ack(2, 2), ack(3, 1, 2)), leadership(2, 4, 6, 2, "c", "d")},
		{"most of four", amended(acked(ack(3, 1, 4)), func(r *impl.Recorder) { r.Of = 4 }), knows(3, ack(2, 2), ack(3, 1, 2, 4)), leadership(2, 4, 6, 3, "d")},
		{"most of five", amended(acked(ack(3, 4, 5)), func(r *impl.Recorder) { r.Of = 5 }), knows(3, ack(2, 2), ack(3, 2, 4, 5)), leadership(2, 5, 6, 3, "d")},
		{"its ballot is below the promise", amended(acked(ack(3, 1)), func(r *impl.Recorder) { r.Ballot = 5 }), knows(2, ack(3, 1), ack(4, 2)), leadership(2, 3, 5, 2, "c", "d")},
		{"empty places", amended(bare(leadingOne()), func(r *impl.Recorder) {
			r.Disk = impl.RecDisk{Promise: 6, Slots: []impl.RecSlot{{}, {Ballot: 6, Text: "b"}, {}, {Ballot: 6}}}
		}), knows(0, ack(2, 2), ack(4, 2)), leadership(2, 3, 6, 0, "", "b", "", "")},
		{"nothing on the disk", amended(bare(leadingOne()), func(r *impl.Recorder) { r.Disk = impl.RecDisk{Promise: 6} }), nil, leadership(2, 3, 6, 0)},
		{"safe alone has its ballot", amended(bare(leadingOne()), func(r *impl.Recorder) {
			r.Safe, r.Disk = r.Disk, impl.RecDisk{Promise: 6, Known: 1, Slots: []impl.RecSlot{{Ballot: 5, Text: "a"}, {Ballot: 5, Text: "b"}}}
		}), nil, leadership(2, 3, 6, 1, "b")},
		{"heard beyond any wait", heard(leadingOne(), 5000), knows(2, ack(2, 2, 3), ack(3, 2), ack(4, 3)), leadership(2, 3, 6, 2, "c", "d")},
		{"heard one below its end", heard(acked(), impl.RecMaxBallot-1), knows(2, ack(2, 2), ack(3, 2)), leadership(2, 3, 6, 2, "c", "d")},
		{"heard at its end", heard(acked(), impl.RecMaxBallot), func(r *impl.Recorder) {
			knows(2, ack(2, 2), ack(3, 2))(r)
			r.Heard = impl.RecMaxBallot
		}, leadership(2, 3, 6, 2, "c", "d")},
	})
}

func TestTickOfALeaderAlone(t *testing.T) {
	alone := impl.RecNew(1, 1)
	alone.Disk = impl.RecDisk{Promise: 6, Known: 1, Slots: []impl.RecSlot{{Ballot: 2, Text: "a"}, {Ballot: 6, Text: "b"}, {Ballot: 6, Text: "c"}, {Ballot: 3, Text: "d"}, {Ballot: 6, Text: "e"}}}
	alone.Lead, alone.Ballot = true, 6
	alone.Wishes = []string{"a", "w", "b"}
	acks := []impl.RecAck{{Index: 2, From: []int{1}}, {Index: 3, From: []int{1}}, {Index: 5, From: []int{1}}}
	took := func(r *impl.Recorder) {
		r.Disk.Known, r.Acks, r.Wishes = 3, acks, []string{"w", "b"}
		r.Disk.Slots = append(r.Disk.Slots, impl.RecSlot{Ballot: 6, Text: "w"})
	}
	again := impl.RecNew(1, 1)
	again.Disk.Promise, again.Trying, again.Ballot = 9, true, 9
	again.Disk.Slots, again.Wishes = fullSlots(2, 7), []string{"w"}
	leads := func(r *impl.Recorder) {
		r.Trying, r.Lead = false, true
		r.Disk.Slots = append(fullSlots(2, 9), impl.RecSlot{Ballot: 9, Text: "w"})
	}
	checkTicks(t, []tickCase{{"leads", alone, took, nil}, {"comes to lead", again, leads, nil}})
	after, sent := impl.RecTick(again)
	after, more := impl.RecTick(after)
	if after.Disk.Known != 3 || len(after.Wishes) != 1 || len(sent)+len(more) != 0 {
		t.Errorf("%+v, %+v", after, more)
	}
	if after, _ = impl.RecTick(after); len(after.Wishes) != 0 {
		t.Errorf("%+v", after)
	}
}

func TestTickWithWishes(t *testing.T) {
	wishing := func(wishes ...string) impl.Recorder {
		return amended(leadingOne(), func(r *impl.Recorder) { r.Wishes, r.Acks = wishes, nil })
	}
	opens := func(left []string, texts ...string) func(r *impl.Recorder) {
		return func(r *impl.Recorder) {
			r.Wishes = left
			r.Acks = []impl.RecAck{{Index: 2, From: []int{2}}, {Index: 3, From: []int{2}}}
			for _, text := range texts {
				r.Disk.Slots = append(r.Disk.Slots, impl.RecSlot{Ballot: 6, Text: text})
			}
		}
	}
	knownNow := amended(wishing("c", "n"), func(r *impl.Recorder) { r.Acks = []impl.RecAck{{Index: 3, From: []int{3}}} })
	checkTicks(t, []tickCase{
		{"new ones, in their order", wishing("y", "x"), opens([]string{"y", "x"}, "y", "x"), leadership(2, 3, 6, 2, "c", "d", "y", "x")},
		{"one that is known", wishing("b", "x"), opens([]string{"x"}, "x"), leadership(2, 3, 6, 2, "c", "d", "x")},
		{"one in a slot behind", wishing("c", "x"), opens([]string{"c", "x"}, "x"), leadership(2, 3, 6, 2, "c", "d", "x")},
		{"one in a slot of another ballot", wishing("x", "d"), opens([]string{"x", "d"}, "x"), leadership(2, 3, 6, 2, "c", "d", "x")},
		{"one that only was safe", wishing("old"), opens([]string{"old"}, "old"), leadership(2, 3, 6, 2, "c", "d", "old")},
		{"one that comes to be known in this tick", knownNow, func(r *impl.Recorder) {
			opens([]string{"c", "n"}, "n")(r)
			r.Disk.Known, r.Acks[1].From = 3, []int{2, 3}
		}, leadership(2, 3, 6, 3, "d", "n")},
		{"a ballot below the promise", amended(wishing("x"), func(r *impl.Recorder) { r.Ballot = 5 }), func(r *impl.Recorder) {
			r.Disk.Slots = append(r.Disk.Slots, impl.RecSlot{Ballot: 5, Text: "x"})
			r.Acks = []impl.RecAck{{Index: 4, From: []int{2}}}
		}, leadership(2, 3, 5, 2, "c", "d", "x")},
	})
}

func TestTickWithoutRoom(t *testing.T) {
	texts := func(slots []impl.RecSlot) []string {
		var list []string
		for _, s := range slots {
			list = append(list, s.Text)
		}
		return list
	}
	for _, count := range []int{impl.RecMaxSlots - 3, impl.RecMaxSlots - 2, impl.RecMaxSlots - 1, impl.RecMaxSlots} {
		r := leadingOne()
		r.Disk = impl.RecDisk{Promise: 6, Slots: fullSlots(count, 4)}
		r.Wishes, r.Acks = []string{"x", "t7", "y"}, nil
		want := plainTick(r)
		for _, text := range []string{"x", "y"}[:min(2, impl.RecMaxSlots-count)] {
			want.Disk.Slots = append(want.Disk.Slots, impl.RecSlot{Ballot: 6, Text: text})
		}
		checkTick(t, fmt.Sprint(count, " slots"), r, want, leadership(2, 3, 6, 0, texts(want.Disk.Slots)...))
	}
}

// The order within a tick, seen from one tick to the next.
func TestTicksInARow(t *testing.T) {
	r := heard(quietOne(), 10)
	held := r.Held
	r.Wishes = []string{"w"}
	first, sent := impl.RecTick(r)
	if !reflect.DeepEqual(plainMessages(sent), plainMessages(held)) || first.Safe.Promise != 6 || first.Disk.Promise != 8 {
		t.Fatalf("the first tick sends %+v: %+v", sent, first)
	}
	second, sent := impl.RecTick(first)
	if !reflect.DeepEqual(sent, first.Held) || len(second.Held) != 0 || second.Safe.Promise != 8 || !slices.Equal(second.Yes, []int{2}) {
		t.Fatalf("the second tick sends %+v: %+v", sent, second)
	}
	second = impl.RecTake(second, impl.RecMessage{Kind: impl.RecWished, From: 3, To: 2, Text: "v"})
	leads := impl.RecTake(second, impl.RecMessage{Kind: impl.RecPromised, From: 3, To: 2, Ballot: 8})
	third, sent := impl.RecTick(leads)
	if !reflect.DeepEqual(sent, leadership(2, 3, 8, 2, "c", "d", "w", "v")) || len(third.Safe.Slots) != 4 || len(third.Disk.Slots) != 6 {
		t.Fatalf("the third tick sends %+v: %+v", sent, third)
	}
	if want := []impl.RecAck{{Index: 3, From: []int{2}}, {Index: 4, From: []int{2}}}; !reflect.DeepEqual(third.Acks, want) {
		t.Errorf("new slots are told as taken before they are safe: %+v", third.Acks)
	}
	fourth, _ := impl.RecTick(third)
	if len(fourth.Acks) != 4 || len(fourth.Safe.Slots) != 6 {
		t.Errorf("the fourth tick: %+v", fourth)
	}
}

func TestTickOfFullRecorders(t *testing.T) {
	quiet := plainTick(fullRecorder())
	quiet.Heard = 0
	checkTick(t, "quiet", fullRecorder(), quiet, nil)
	leads := plainTick(leadingRecorder())
	leads.Heard = impl.RecMaxBallot
	checkTick(t, "leads", leadingRecorder(), leads, leadership(5, 5, impl.RecMaxBallot, impl.RecMaxSlots))
	tries := plainTick(tryingRecorder())
	becomesQuiet(&tries)
	tries.Lead, tries.Ballot, tries.Heard = true, impl.RecMaxBallot, impl.RecMaxBallot
	for index := 1; index <= impl.RecMaxSlots; index++ {
		tries.Acks = append(tries.Acks, impl.RecAck{Index: index, From: []int{5}})
	}
	checkTick(t, "tries", tryingRecorder(), tries, leadership(5, 5, impl.RecMaxBallot, impl.RecMaxSlots))

	// More goes out at once than a recorder may hold or than may be under way.
	busy := amended(leadingRecorder(), func(r *impl.Recorder) { r.Disk.Known, r.Acks, r.Heard = 0, nil, 0 })
	_, sent := checkedTick(t, "busy", busy)
	if want := impl.RecMaxHeld + 4 + 4*impl.RecMaxSlots; len(sent) != want {
		t.Errorf("busy: %d messages are sent, and not %d", len(sent), want)
	}
}

func TestTickOfOneThatIsDown(t *testing.T) {
	down := amended(quietOne(), func(r *impl.Recorder) { r.Up, r.Held, r.Heard = false, nil, 0 })
	for _, r := range []impl.Recorder{down, downRecorder(), {Number: 1, Of: 1}} {
		if got, sent := checkedTick(t, "down", r); !sameRecorder(got, r) || len(sent) != 0 {
			t.Errorf("%+v: %+v, %+v", r, got, sent)
		}
	}
}

func TestTickOfOneThatIsNotValid(t *testing.T) {
	for name, r := range notValid() {
		if got, sent := checkedTick(t, name, r); !sameRecorder(got, impl.Recorder{}) || len(sent) != 0 {
			t.Errorf("%s: %+v, %+v", name, got, sent)
		}
	}
}
