package tests

import (
	"fmt"
	"testing"

	"loop.example/wharfquorum/impl"
)

// takeCase is a message to a recorder; want tells what it changes, and is nil where it changes nothing.
type takeCase struct {
	name string
	r    impl.Recorder
	m    impl.RecMessage
	want func(r *impl.Recorder)
}

// checkTakes fills in From and To where a case leaves them out: from the first recorder to the one of the case.
func checkTakes(t *testing.T, cases []takeCase) {
	t.Helper()
	for _, c := range cases {
		if c.m.From == 0 {
			c.m.From = 1
		}
		if c.m.To == 0 {
			c.m.To = c.r.Number
		}
		if !impl.RecValid(c.r) {
			t.Errorf("%s: the recorder of the case is not valid", c.name)
		}
		want := plain(c.r)
		if c.want != nil {
			c.want(&want)
		}
		got := checkedTake(t, c.name, c.r, c.m)
		if !sameRecorder(got, want) {
			t.Errorf("%s:\n got  %+v\n want %+v", c.name, got, want)
		}
		if !impl.RecValid(got) {
			t.Errorf("%s: the answer is not valid", c.name)
		}
	}
}

// quietOne is the second of three, with something in every list that a quiet one may have.
func quietOne() impl.Recorder {
	r := impl.RecNew(2, 3)
	r.Safe = impl.RecDisk{Promise: 4, Known: 1, Slots: []impl.RecSlot{{Ballot: 4, Text: "a"}, {Ballot: 3, Text: "old"}}}
	r.Disk = impl.RecDisk{Promise: 6, Known: 2, Slots: []impl.RecSlot{{Ballot: 4, Text: "a"}, {Ballot: 6, Text: "b"}, {Ballot: 6, Text: "c"}, {Ballot: 5, Text: "d"}}}
	r.Held = []impl.RecMessage{{Kind: impl.RecPromised, From: 2, To: 3, Ballot: 6, Slots: []impl.RecSlot{{Ballot: 4, Text: "a"}}}}
	r.Heard = 5
	return r
}

func leadingOne() impl.Recorder {
	r := quietOne()
	r.Lead, r.Ballot = true, 6
	r.Acks = []impl.RecAck{{Index: 2, From: []int{2, 3}}, {Index: 4, From: []int{3}}}
	return r
}

func tryingOne() impl.Recorder {
	r := quietOne()
	r.Trying, r.Ballot = true, 6
	r.Yes, r.Best = []int{2}, []impl.RecSlot{{Ballot: 4, Text: "a"}, {Ballot: 3, Text: "x"}}
	return r
}

// amended is r with one change.
func amended(r impl.Recorder, change func(r *impl.Recorder)) impl.Recorder {
	change(&r)
	return r
}

func becomesQuiet(r *impl.Recorder) {
	r.Lead, r.Trying, r.Ballot, r.Yes, r.Best, r.Acks = false, false, 0, nil, nil, nil
}

// holds gives the change that this message is put behind Held.
func holds(m impl.RecMessage) func(r *impl.Recorder) {
	return func(r *impl.Recorder) {
		m.From = r.Number
		r.Held = append(r.Held, m)
	}
}

func refuses(to int, promise int) func(r *impl.Recorder) {
	return holds(impl.RecMessage{Kind: impl.RecRefuse, To: to, Ballot: promise})
}

// roles are a quiet, a leading and a trying recorder whose Disk's Promise is 6.
func roles() map[string]impl.Recorder {
	return map[string]impl.Recorder{"quiet": quietOne(), "leads": leadingOne(), "tries": tryingOne()}
}

func TestPrepare(t *testing.T) {
	var cases []takeCase
	for role, r := range roles() {
		for _, ballot := range []int{0, 1, 5, 6} {
			cases = append(cases, takeCase{fmt.Sprint(role, ", ballot ", ballot), r, impl.RecMessage{Kind: impl.RecPrepare, Ballot: ballot}, refuses(1, 6)})
		}
		for _, ballot := range []int{7, 8, impl.RecMaxBallot} {
			for from := 1; from <= 3; from++ {
				cases = append(cases, takeCase{fmt.Sprint(role, ", ballot ", ballot, " from ", from), r, impl.RecMessage{Kind: impl.RecPrepare, From: from, Ballot: ballot}, func(r *impl.Recorder) {
					becomesQuiet(r)
					r.Disk.Promise, r.Heard = ballot, 0
					holds(impl.RecMessage{Kind: impl.RecPromised, To: from, Ballot: ballot, Slots: r.Disk.Slots})(r)
				}})
			}
		}
	}
	fresh := impl.RecNew(1, 1)
	cases = append(cases,
		takeCase{"a new one, ballot 0", fresh, impl.RecMessage{Kind: impl.RecPrepare}, refuses(1, 0)},
		takeCase{"a new one, ballot 1", fresh, impl.RecMessage{Kind: impl.RecPrepare, Ballot: 1}, func(r *impl.Recorder) {
			r.Disk.Promise = 1
			holds(impl.RecMessage{Kind: impl.RecPromised, To: 1, Ballot: 1})(r)
		}},
		takeCase{"promised the greatest", amended(quietOne(), func(r *impl.Recorder) { r.Disk.Promise = impl.RecMaxBallot }), impl.RecMessage{Kind: impl.RecPrepare, Ballot: impl.RecMaxBallot}, refuses(1, impl.RecMaxBallot)},
	)
	checkTakes(t, cases)
}

func TestPromised(t *testing.T) {
	slots := []impl.RecSlot{{Ballot: 9, Text: "no"}, {Ballot: 1, Text: "no"}, {Ballot: 2, Text: "c2"}, {}, {Ballot: 5, Text: "e"}}
	ofFour := amended(tryingOne(), func(r *impl.Recorder) { r.Of = 4 })
	ofFive := amended(tryingOne(), func(r *impl.Recorder) { r.Of = 5; r.Yes = []int{2, 5} })
	merged := []impl.RecSlot{{Ballot: 9, Text: "no"}, {Ballot: 3, Text: "x"}, {Ballot: 2, Text: "c2"}, {}, {Ballot: 5, Text: "e"}}
	leads := func(rest ...impl.RecSlot) func(r *impl.Recorder) {
		return func(r *impl.Recorder) {
			r.Lead, r.Trying, r.Yes, r.Best = true, false, nil, nil
			r.Disk.Slots = append(r.Disk.Slots[:2:2], rest...)
		}
	}
	checkTakes(t, []takeCase{
		{"most of three", tryingOne(), impl.RecMessage{Kind: impl.RecPromised, From: 3, Ballot: 6, Slots: slots}, leads(impl.RecSlot{Ballot: 6, Text: "c2"}, impl.RecSlot{Ballot: 6}, impl.RecSlot{Ballot: 6, Text: "e"})},
		{"best ends at known", tryingOne(), impl.RecMessage{Kind: impl.RecPromised, Ballot: 6}, leads(impl.RecSlot{Ballot: 6, Text: "c"}, impl.RecSlot{Ballot: 5, Text: "d"})},
		{"best is shorter than the disk", tryingOne(), impl.RecMessage{Kind: impl.RecPromised, Ballot: 6, Slots: slots[:3]}, leads(impl.RecSlot{Ballot: 6, Text: "c2"}, impl.RecSlot{Ballot: 5, Text: "d"})},
		{"a ballot below the promise", amended(tryingOne(), func(r *impl.Recorder) { r.Ballot = 5 }), impl.RecMessage{Kind: impl.RecPromised, Ballot: 5, Slots: slots[:3]}, leads(impl.RecSlot{Ballot: 5, Text: "c2"}, impl.RecSlot{Ballot: 5, Text: "d"})},
		{"half of four", ofFour, impl.RecMessage{Kind: impl.RecPromised, From: 4, Ballot: 6, Slots: slots}, func(r *impl.Recorder) { r.Yes, r.Best = []int{2, 4}, merged }},
		{"one ahead in yes", ofFour, impl.RecMessage{Kind: impl.RecPromised, From: 1, Ballot: 6}, func(r *impl.Recorder) { r.Yes = []int{1, 2} }},
		{"again of one who promised", tryingOne(), impl.RecMessage{Kind: impl.RecPromised, From: 2, Ballot: 6, Slots: slots}, func(r *impl.Recorder) { r.Best = merged }},
		{"most of five, between two", ofFive, impl.RecMessage{Kind: impl.RecPromised, From: 3, Ballot: 6}, leads(impl.RecSlot{Ballot: 6, Text: "c"}, impl.RecSlot{Ballot: 5, Text: "d"})},
		{"of five again", ofFive, impl.RecMessage{Kind: impl.RecPromised, From: 5, Ballot: 6}, func(r *impl.Recorder) {}},
		{"yes was most already", amended(tryingOne(), func(r *impl.Recorder) { r.Yes = []int{1, 2, 3} }), impl.RecMessage{Kind: impl.RecPromised, Ballot: 6}, leads(impl.RecSlot{Ballot: 6, Text: "c"}, impl.RecSlot{Ballot: 5, Text: "d"})},
		{"equal ballots", amended(ofFour, func(r *impl.Recorder) { r.Yes = nil }), impl.RecMessage{Kind: impl.RecPromised, Ballot: 6, Slots: []impl.RecSlot{{Ballot: 4, Text: "y"}}}, func(r *impl.Recorder) { r.Yes = []int{1} }},
		{"another ballot", tryingOne(), impl.RecMessage{Kind: impl.RecPromised, Ballot: 5, Slots: slots}, nil},
		{"a greater ballot", tryingOne(), impl.RecMessage{Kind: impl.RecPromised, Ballot: 7, Slots: slots}, nil},
		{"the promise, not its ballot", amended(tryingOne(), func(r *impl.Recorder) { r.Ballot = 5 }), impl.RecMessage{Kind: impl.RecPromised, Ballot: 6, Slots: slots}, nil},
		{"one that leads", leadingOne(), impl.RecMessage{Kind: impl.RecPromised, Ballot: 6, Slots: slots}, nil},
		{"one that is quiet", quietOne(), impl.RecMessage{Kind: impl.RecPromised, Ballot: 6, Slots: slots}, nil},
		{"one that is quiet, ballot 0", quietOne(), impl.RecMessage{Kind: impl.RecPromised, Slots: slots}, nil},
	})
}

func TestPromisedFillsTheBook(t *testing.T) {
	r := impl.RecNew(1, 1)
	r.Disk.Promise, r.Trying, r.Ballot = 9, true, 9
	slots := fullSlots(impl.RecMaxSlots, impl.RecMaxBallot)
	checkTakes(t, []takeCase{{"all places", r, impl.RecMessage{Kind: impl.RecPromised, Ballot: 9, Slots: slots}, func(r *impl.Recorder) {
		r.Trying, r.Lead = false, true
		r.Disk.Slots = fullSlots(impl.RecMaxSlots, 9)
	}}})
}

func TestAccept(t *testing.T) {
	var cases []takeCase
	put := func(ballot int, index int, slots ...impl.RecSlot) func(r *impl.Recorder) {
		return func(r *impl.Recorder) {
			if ballot != r.Ballot {
				becomesQuiet(r)
			}
			r.Disk.Promise, r.Heard = ballot, 0
			if slots != nil {
				r.Disk.Slots = slots
			}
			holds(impl.RecMessage{Kind: impl.RecAccepted, To: 1, Ballot: ballot, Index: index})(r)
		}
	}
	a, b, c, d := impl.RecSlot{Ballot: 4, Text: "a"}, impl.RecSlot{Ballot: 6, Text: "b"}, impl.RecSlot{Ballot: 6, Text: "c"}, impl.RecSlot{Ballot: 5, Text: "d"}
	for role, r := range roles() {
		for _, ballot := range []int{0, 1, 5} {
			for _, index := range []int{0, 1, 3} {
				for from := 1; from <= 3; from++ {
					cases = append(cases, takeCase{fmt.Sprint(role, ", ballot ", ballot, " index ", index, " from ", from), r, impl.RecMessage{Kind: impl.RecAccept, From: from, Ballot: ballot, Index: index, Text: "n"}, refuses(from, 6)})
				}
			}
		}
		for _, ballot := range []int{6, 7, impl.RecMaxBallot} {
			name := fmt.Sprint(role, ", ballot ", ballot)
			m := impl.RecMessage{Kind: impl.RecAccept, Ballot: ballot, Text: "n", Known: 60, Slots: fullSlots(3, 1)}
			at := func(index int) impl.RecMessage { m := m; m.Index = index; return m }
			n := impl.RecSlot{Ballot: ballot, Text: "n"}
			cases = append(cases,
				takeCase{name + ", no place", r, at(0), nil},
				takeCase{name + ", the first place", r, at(1), put(ballot, 1)},
				takeCase{name + ", at known", r, at(2), put(ballot, 2)},
				takeCase{name + ", behind known", r, at(3), put(ballot, 3, a, b, n, d)},
				takeCase{name + ", the last slot", r, at(4), put(ballot, 4, a, b, c, n)},
				takeCase{name + ", one more slot", r, at(5), put(ballot, 5, a, b, c, d, n)},
				takeCase{name + ", with empty ones ahead", r, at(8), put(ballot, 8, a, b, c, d, impl.RecSlot{}, impl.RecSlot{}, impl.RecSlot{}, n)},
				takeCase{name + ", from itself", r, func() impl.RecMessage { m := at(3); m.From = 2; return m }(), nil},
			)
		}
	}
	last := append(make([]impl.RecSlot, impl.RecMaxSlots-1), impl.RecSlot{Ballot: 1, Text: textOf(impl.RecMaxText)})
	cases = append(cases,
		takeCase{"the last place, the longest text", impl.RecNew(2, 2), impl.RecMessage{Kind: impl.RecAccept, Ballot: 1, Index: impl.RecMaxSlots, Text: textOf(impl.RecMaxText)}, put(1, impl.RecMaxSlots, last...)},
		takeCase{"a place beyond the last", impl.RecNew(2, 2), impl.RecMessage{Kind: impl.RecAccept, Ballot: 1, Index: impl.RecMaxSlots + 1, Text: "n"}, nil},
		takeCase{"a text too long", impl.RecNew(2, 2), impl.RecMessage{Kind: impl.RecAccept, Ballot: 1, Index: 1, Text: textOf(impl.RecMaxText + 1)}, nil},
		takeCase{"an empty text", impl.RecNew(2, 2), impl.RecMessage{Kind: impl.RecAccept, Ballot: 1, Index: 1}, put(1, 1, impl.RecSlot{Ballot: 1})},
		takeCase{"no promise and ballot 0", impl.RecNew(2, 2), impl.RecMessage{Kind: impl.RecAccept, Index: 1, Text: "n"}, nil},
		takeCase{"the promise, not its ballot", amended(leadingOne(), func(r *impl.Recorder) { r.Ballot = 5 }), impl.RecMessage{Kind: impl.RecAccept, Ballot: 6, Index: 1}, put(6, 1)},
		takeCase{"its ballot below the promise", amended(leadingOne(), func(r *impl.Recorder) { r.Ballot = 5 }), impl.RecMessage{Kind: impl.RecAccept, Ballot: 5, Index: 3}, refuses(1, 6)},
	)
	checkTakes(t, cases)
}

func TestAccepted(t *testing.T) {
	acks := func(known int, acks ...impl.RecAck) func(r *impl.Recorder) {
		return func(r *impl.Recorder) { r.Disk.Known, r.Acks = known, acks }
	}
	two, four := impl.RecAck{Index: 2, From: []int{2, 3}}, impl.RecAck{Index: 4, From: []int{3}}
	took := func(from int, index int) impl.RecMessage {
		return impl.RecMessage{Kind: impl.RecAccepted, From: from, Ballot: 6, Index: index, Text: "n", Known: 60}
	}
	waiting := amended(leadingOne(), func(r *impl.Recorder) {
		r.Disk.Slots[3].Ballot = 6
		r.Acks = []impl.RecAck{{Index: 3, From: []int{1}}, {Index: 4, From: []int{1, 2, 3}}, {Index: 5, From: []int{1, 2}}}
	})
	ofFour := amended(leadingOne(), func(r *impl.Recorder) { r.Of = 4; r.Acks = []impl.RecAck{{Index: 3, From: []int{4}}} })
	checkTakes(t, []takeCase{
		{"a first one", leadingOne(), took(1, 3), acks(2, two, impl.RecAck{Index: 3, From: []int{1}}, four)},
		{"of itself", leadingOne(), took(2, 3), acks(2, two, impl.RecAck{Index: 3, From: []int{2}}, four)},
		{"ahead of all", leadingOne(), took(1, 1), acks(2, impl.RecAck{Index: 1, From: []int{1}}, two, four)},
		{"behind all, no slot there", leadingOne(), took(3, impl.RecMaxSlots), acks(2, two, four, impl.RecAck{Index: impl.RecMaxSlots, From: []int{3}})},
		{"at known", leadingOne(), took(1, 2), acks(2, impl.RecAck{Index: 2, From: []int{1, 2, 3}}, four)},
		{"told twice", leadingOne(), took(3, 4), acks(2, two, four)},
		{"most, but one ahead is not known", leadingOne(), took(1, 4), acks(2, two, impl.RecAck{Index: 4, From: []int{1, 3}})},
		{"most, and those behind it, as far as there are slots", waiting, took(3, 3), acks(4, impl.RecAck{Index: 3, From: []int{1, 3}}, impl.RecAck{Index: 4, From: []int{1, 2, 3}}, impl.RecAck{Index: 5, From: []int{1, 2}})},
		{"known by another one's ack", amended(waiting, func(r *impl.Recorder) { r.Disk.Known = 3 }), took(3, impl.RecMaxSlots), acks(4, impl.RecAck{Index: 3, From: []int{1}}, impl.RecAck{Index: 4, From: []int{1, 2, 3}}, impl.RecAck{Index: 5, From: []int{1, 2}}, impl.RecAck{Index: impl.RecMaxSlots, From: []int{3}})},
		{"a slot of another ballot", amended(leadingOne(), func(r *impl.Recorder) {
			r.Disk.Known = 2
			r.Disk.Slots = r.Disk.Slots[:3]
			r.Disk.Slots[2].Ballot = 5
			r.Acks = []impl.RecAck{{Index: 3, From: []int{1}}}
		}), took(3, 3), acks(2, impl.RecAck{Index: 3, From: []int{1, 3}})},
		{"half of four", ofFour, took(1, 3), acks(2, impl.RecAck{Index: 3, From: []int{1, 4}})},
		{"most of four", amended(ofFour, func(r *impl.Recorder) { r.Acks = []impl.RecAck{{Index: 3, From: []int{1, 4}}} }), took(2, 3), acks(3, impl.RecAck{Index: 3, From: []int{1, 2, 4}})},
		{"no place", leadingOne(), took(1, 0), nil},
		{"a lesser ballot", leadingOne(), impl.RecMessage{Kind: impl.RecAccepted, Ballot: 5, Index: 3}, nil},
		{"a greater ballot", leadingOne(), impl.RecMessage{Kind: impl.RecAccepted, Ballot: 7, Index: 3}, nil},
		{"the promise, not its ballot", amended(leadingOne(), func(r *impl.Recorder) { r.Ballot = 5 }), took(1, 3), nil},
		{"one that tries", tryingOne(), took(1, 3), nil},
		{"one that is quiet", quietOne(), took(1, 3), nil},
		{"one that is quiet, ballot 0", quietOne(), impl.RecMessage{Kind: impl.RecAccepted, Index: 3}, nil},
	})
}

// hears gives the change by a beat of the first recorder: what is known then, and the place that is needed, if there is one.
func hears(ballot int, known int, need int) func(r *impl.Recorder) {
	return func(r *impl.Recorder) {
		if ballot != r.Ballot {
			becomesQuiet(r)
		}
		r.Disk.Promise, r.Disk.Known, r.Heard = ballot, known, 0
		if need > 0 {
			holds(impl.RecMessage{Kind: impl.RecNeed, To: 1, Ballot: ballot, Index: need})(r)
		}
		for _, w := range r.Wishes {
			holds(impl.RecMessage{Kind: impl.RecWished, To: 1, Text: w})(r)
		}
	}
}

func TestBeat(t *testing.T) {
	var cases []takeCase
	beat := func(ballot int, known int) impl.RecMessage {
		return impl.RecMessage{Kind: impl.RecBeat, Ballot: ballot, Known: known, Index: 9, Text: "n"}
	}
	for role, r := range roles() {
		r.Wishes = []string{"w", "v", "c"}
		for _, ballot := range []int{0, 1, 5} {
			for from := 1; from <= 3; from++ {
				m := beat(ballot, 3)
				m.From = from
				cases = append(cases, takeCase{fmt.Sprint(role, ", ballot ", ballot, " from ", from), r, m, refuses(from, 6)})
			}
		}
		own := beat(6, 3)
		own.From = 2
		cases = append(cases,
			takeCase{role + ", from itself", r, own, nil},
			takeCase{role + ", knows nothing", r, beat(6, 0), hears(6, 2, 0)},
			takeCase{role + ", knows less", r, beat(6, 1), hears(6, 2, 0)},
			takeCase{role + ", knows as much", r, beat(6, 2), hears(6, 2, 0)},
			takeCase{role + ", knows one more", r, beat(6, 3), hears(6, 3, 0)},
			takeCase{role + ", up to a slot of another ballot", r, beat(6, 4), hears(6, 3, 4)},
			takeCase{role + ", beyond it", r, beat(6, impl.RecMaxSlots), hears(6, 3, 4)},
			takeCase{role + ", a greater ballot, knows as much", r, beat(7, 2), hears(7, 2, 0)},
			takeCase{role + ", a greater ballot, knows more", r, beat(7, 3), hears(7, 2, 3)},
			takeCase{role + ", the greatest ballot", r, beat(impl.RecMaxBallot, 0), hears(impl.RecMaxBallot, 2, 0)},
		)
	}
	oneBallot := amended(quietOne(), func(r *impl.Recorder) { r.Disk.Slots[3].Ballot = 6 })
	gap := amended(oneBallot, func(r *impl.Recorder) {
		r.Disk.Slots = append(ownList(r.Disk.Slots), impl.RecSlot{}, impl.RecSlot{Ballot: 6, Text: "f"})
	})
	full := amended(quietOne(), func(r *impl.Recorder) {
		r.Disk = impl.RecDisk{Promise: 6, Known: impl.RecMaxSlots - 1, Slots: fullSlots(impl.RecMaxSlots, 6)}
	})
	cases = append(cases,
		takeCase{"all that is there", oneBallot, beat(6, 4), hears(6, 4, 0)},
		takeCase{"beyond what is there", oneBallot, beat(6, 5), hears(6, 4, 5)},
		takeCase{"over an empty slot", gap, beat(6, 6), hears(6, 4, 5)},
		takeCase{"the last place", full, beat(6, impl.RecMaxSlots), hears(6, impl.RecMaxSlots, 0)},
		takeCase{"the last place is needed", full, beat(7, impl.RecMaxSlots), hears(7, impl.RecMaxSlots-1, impl.RecMaxSlots)},
		takeCase{"nothing is there", impl.RecNew(2, 3), beat(1, 2), hears(1, 0, 1)},
		takeCase{"no promise and ballot 0", impl.RecNew(2, 3), beat(0, 2), nil},
		takeCase{"the promise, not its ballot", amended(leadingOne(), func(r *impl.Recorder) { r.Ballot = 5 }), beat(6, 2), hears(6, 2, 0)},
		takeCase{"its ballot below the promise", amended(leadingOne(), func(r *impl.Recorder) { r.Ballot = 5 }), beat(5, 2), refuses(1, 6)},
	)
	checkTakes(t, cases)
}

func TestChosen(t *testing.T) {
	var cases []takeCase
	chosen := func(ballot int, index int) impl.RecMessage {
		return impl.RecMessage{Kind: impl.RecChosen, Ballot: ballot, Index: index, Text: "n", Known: 60}
	}
	for role, r := range roles() {
		for _, ballot := range []int{1, 5, 6} {
			for from := 1; from <= 3; from++ {
				m := chosen(ballot, 3)
				m.From = from
				cases = append(cases, takeCase{fmt.Sprint(role, ", ballot ", ballot, " from ", from), r, m, func(r *impl.Recorder) {
					r.Disk.Slots[2], r.Disk.Known = impl.RecSlot{Ballot: ballot, Text: "n"}, 3
				}})
			}
		}
		for _, index := range []int{0, 1, 2, 4, 5, impl.RecMaxSlots} {
			cases = append(cases, takeCase{fmt.Sprint(role, ", index ", index), r, chosen(6, index), nil})
		}
		for _, ballot := range []int{0, 7, impl.RecMaxBallot} {
			cases = append(cases, takeCase{fmt.Sprint(role, ", ballot ", ballot), r, chosen(ballot, 3), nil})
		}
	}
	allKnown := amended(quietOne(), func(r *impl.Recorder) { r.Disk.Slots, r.Disk.Known = r.Disk.Slots[:2], 2 })
	cases = append(cases, takeCase{"one more slot", allKnown, chosen(3, 3), func(r *impl.Recorder) {
		r.Disk.Slots, r.Disk.Known = append(r.Disk.Slots, impl.RecSlot{Ballot: 3, Text: "n"}), 3
	}})
	nearlyFull := amended(quietOne(), func(r *impl.Recorder) {
		r.Disk = impl.RecDisk{Promise: 6, Known: impl.RecMaxSlots - 1, Slots: fullSlots(impl.RecMaxSlots-1, 6)}
	})
	cases = append(cases, takeCase{"the last place", nearlyFull, chosen(6, impl.RecMaxSlots), func(r *impl.Recorder) {
		r.Disk.Slots, r.Disk.Known = append(r.Disk.Slots, impl.RecSlot{Ballot: 6, Text: "n"}), impl.RecMaxSlots
	}})
	checkTakes(t, cases)
}

func TestNeed(t *testing.T) {
	knowing := amended(leadingOne(), func(r *impl.Recorder) {
		r.Disk = impl.RecDisk{Promise: 9, Known: 10, Slots: fullSlots(12, 4)}
		r.Acks = nil
	})
	need := func(index int) impl.RecMessage {
		return impl.RecMessage{Kind: impl.RecNeed, Index: index, Known: 3, Text: "n"}
	}
	tells := func(to int, first int, last int) func(r *impl.Recorder) {
		return func(r *impl.Recorder) {
			for index := first; index <= last; index++ {
				holds(impl.RecMessage{Kind: impl.RecChosen, To: to, Ballot: 6, Index: index, Text: fmt.Sprint("t", index-1)})(r)
			}
		}
	}
	cases := []takeCase{
		{"no place", knowing, need(0), nil},
		{"the first five", knowing, need(1), tells(1, 1, 5)},
		{"up to known", knowing, need(6), tells(1, 6, 10)},
		{"four are left", knowing, need(7), tells(1, 7, 10)},
		{"one is left", knowing, need(10), tells(1, 10, 10)},
		{"behind known", knowing, need(11), nil},
		{"behind the slots", knowing, need(13), nil},
		{"the last place", knowing, need(impl.RecMaxSlots), nil},
		{"any ballot will do", knowing, impl.RecMessage{Kind: impl.RecNeed, Ballot: 3, Index: 10, From: 3}, tells(3, 10, 10)},
		{"from itself", knowing, impl.RecMessage{Kind: impl.RecNeed, Ballot: 6, Index: 10, From: 2}, tells(2, 10, 10)},
		{"one that tries", amended(tryingOne(), func(r *impl.Recorder) { r.Disk = knowing.Disk }), need(1), nil},
		{"one that is quiet", amended(quietOne(), func(r *impl.Recorder) { r.Disk = knowing.Disk }), need(1), nil},
	}
	full := amended(knowing, func(r *impl.Recorder) {
		r.Disk = impl.RecDisk{Promise: 9, Known: impl.RecMaxSlots, Slots: fullSlots(impl.RecMaxSlots, 4)}
	})
	for _, index := range []int{impl.RecMaxSlots - 4, impl.RecMaxSlots - 3, impl.RecMaxSlots} {
		cases = append(cases, takeCase{fmt.Sprint("a full book, index ", index), full, need(index), tells(1, index, impl.RecMaxSlots)})
	}
	checkTakes(t, cases)
}

func TestRefuse(t *testing.T) {
	refuse := func(ballot int) impl.RecMessage {
		return impl.RecMessage{Kind: impl.RecRefuse, Ballot: ballot, Index: 3, Text: "n"}
	}
	quietAt := func(promise int) func(r *impl.Recorder) {
		return func(r *impl.Recorder) {
			becomesQuiet(r)
			r.Disk.Promise = promise
		}
	}
	var cases []takeCase
	for role, r := range roles() {
		if role == "quiet" {
			for _, ballot := range []int{0, 5, 6, 7, impl.RecMaxBallot} {
				cases = append(cases, takeCase{fmt.Sprint("quiet, ballot ", ballot), r, refuse(ballot), nil})
			}
			continue
		}
		own := refuse(9)
		own.From = 2
		cases = append(cases,
			takeCase{role + ", ballot 0", r, refuse(0), nil},
			takeCase{role + ", just below", r, refuse(5), nil},
			takeCase{role + ", its ballot", r, refuse(6), nil},
			takeCase{role + ", just above", r, refuse(7), quietAt(7)},
			takeCase{role + ", the greatest ballot", r, refuse(impl.RecMaxBallot), quietAt(impl.RecMaxBallot)},
			takeCase{role + ", from itself", r, own, quietAt(9)},
			takeCase{role + ", above its ballot and below the promise", amended(r, func(r *impl.Recorder) { r.Ballot = 4 }), refuse(5), quietAt(6)},
			takeCase{role + ", above its ballot and at the promise", amended(r, func(r *impl.Recorder) { r.Ballot = 4 }), refuse(6), quietAt(6)},
		)
	}
	checkTakes(t, cases)
}

// manyKinds are messages of every kind that do something with some recorder of roles.
func manyKinds() []impl.RecMessage {
	return []impl.RecMessage{
		{Kind: impl.RecPrepare, Ballot: 3}, {Kind: impl.RecPrepare, Ballot: 9},
		{Kind: impl.RecPromised, Ballot: 6, Slots: fullSlots(5, 3)},
		{Kind: impl.RecAccept, Ballot: 3, Index: 3, Text: "n"}, {Kind: impl.RecAccept, Ballot: 6, Index: 5, Text: "n"},
		{Kind: impl.RecAccepted, Ballot: 6, Index: 3},
		{Kind: impl.RecBeat, Ballot: 3}, {Kind: impl.RecBeat, Ballot: 6, Known: 4},
		{Kind: impl.RecChosen, Ballot: 6, Index: 3, Text: "n"},
		{Kind: impl.RecNeed, Index: 1},
		{Kind: impl.RecWished, Text: "n"},
		{Kind: impl.RecRefuse, Ballot: 9},
	}
}

func TestEachKindDoesSomething(t *testing.T) {
	for _, m := range manyKinds() {
		m.From, m.To = 1, 2
		done := false
		for _, r := range roles() {
			done = done || !sameRecorder(impl.RecTake(r, m), r)
		}
		if !done {
			t.Errorf("%+v changes nothing", m)
		}
	}
}

func TestMessagesThatChangeNothing(t *testing.T) {
	spoils := map[string]func(m *impl.RecMessage){
		"to another":             func(m *impl.RecMessage) { m.To = 3 },
		"to the sender":          func(m *impl.RecMessage) { m.To = 1 },
		"to nobody":              func(m *impl.RecMessage) { m.To = 4 },
		"to one below":           func(m *impl.RecMessage) { m.To = -2 },
		"kind below":             func(m *impl.RecMessage) { m.Kind = -m.Kind },
		"kind above":             func(m *impl.RecMessage) { m.Kind += 9 },
		"kind far above":         func(m *impl.RecMessage) { m.Kind += 1 << 40 },
		"from nobody":            func(m *impl.RecMessage) { m.From = 4 },
		"from one below":         func(m *impl.RecMessage) { m.From = -1 },
		"a ballot below":         func(m *impl.RecMessage) { m.Ballot = -1 },
		"a ballot above":         func(m *impl.RecMessage) { m.Ballot = impl.RecMaxBallot + 1 },
		"an index below":         func(m *impl.RecMessage) { m.Index = -1 },
		"an index above":         func(m *impl.RecMessage) { m.Index = impl.RecMaxSlots + 1 },
		"known below":            func(m *impl.RecMessage) { m.Known = -1 },
		"known above":            func(m *impl.RecMessage) { m.Known = impl.RecMaxSlots + 1 },
		"a text too long":        func(m *impl.RecMessage) { m.Text = textOf(impl.RecMaxText + 1) },
		"too many slots":         func(m *impl.RecMessage) { m.Slots = fullSlots(impl.RecMaxSlots+1, 1) },
		"a slot that is not ok":  func(m *impl.RecMessage) { m.Slots = []impl.RecSlot{{Text: "n"}} },
		"a slot above the limit": func(m *impl.RecMessage) { m.Slots = []impl.RecSlot{{Ballot: impl.RecMaxBallot + 1}} },
	}
	var cases []takeCase
	for role, r := range roles() {
		for name, spoil := range spoils {
			for _, m := range manyKinds() {
				m.From, m.To = 1, 2
				spoil(&m)
				cases = append(cases, takeCase{fmt.Sprint(role, ", ", name, ", kind ", m.Kind), r, m, nil})
			}
		}
	}
	for _, m := range append(manyKinds(), impl.RecMessage{Kind: impl.RecPrepare, Ballot: impl.RecMaxBallot}) {
		down := amended(quietOne(), func(r *impl.Recorder) { r.Up, r.Held, r.Heard = false, nil, 0 })
		cases = append(cases, takeCase{fmt.Sprint("not up, kind ", m.Kind), down, m, nil})
	}
	checkTakes(t, cases)
	for role, r := range roles() {
		for _, m := range []impl.RecMessage{{}, {To: 2}, {Kind: impl.RecPrepare, To: 2, Ballot: 9}, {Kind: impl.RecPrepare, From: 1, Ballot: 9}} {
			if got := checkedTake(t, role, r, m); !sameRecorder(got, r) {
				t.Errorf("%s, %+v: %+v", role, m, got)
			}
		}
	}
}

// notValid gives recorders that are not valid, each by one fault.
func notValid() map[string]impl.Recorder {
	return map[string]impl.Recorder{
		"nothing":               {},
		"of 0":                  amended(quietOne(), func(r *impl.Recorder) { r.Of = 0 }),
		"of 6":                  amended(quietOne(), func(r *impl.Recorder) { r.Of = 6 }),
		"number above of":       amended(impl.RecNew(2, 3), func(r *impl.Recorder) { r.Of = 1 }),
		"safe":                  amended(quietOne(), func(r *impl.Recorder) { r.Safe.Known = 3 }),
		"known below 0":         amended(quietOne(), func(r *impl.Recorder) { r.Disk.Known = -1 }),
		"known beyond the disk": amended(quietOne(), func(r *impl.Recorder) { r.Disk.Known = 5 }),
		"known far beyond":      amended(quietOne(), func(r *impl.Recorder) { r.Disk.Known = 1 << 62 }),
		"promise":               amended(quietOne(), func(r *impl.Recorder) { r.Disk.Promise = 5 }),
		"too many slots":        amended(quietOne(), func(r *impl.Recorder) { r.Disk.Slots = fullSlots(61, 6) }),
		"held from another":     amended(quietOne(), func(r *impl.Recorder) { r.Held[0].From = 3 }),
		"held too many":         amended(quietOne(), func(r *impl.Recorder) { r.Held = make([]impl.RecMessage, 401) }),
		"an empty wish":         amended(quietOne(), func(r *impl.Recorder) { r.Wishes = []string{""} }),
		"heard":                 amended(quietOne(), func(r *impl.Recorder) { r.Heard = -1 }),
		"leads and tries":       amended(leadingOne(), func(r *impl.Recorder) { r.Trying = true }),
		"leads under nothing":   amended(leadingOne(), func(r *impl.Recorder) { r.Ballot = 0 }),
		"quiet with a ballot":   amended(quietOne(), func(r *impl.Recorder) { r.Ballot = 6 }),
		"acks of one beyond":    amended(leadingOne(), func(r *impl.Recorder) { r.Acks[0].From = []int{4} }),
		"tries with acks":       amended(tryingOne(), func(r *impl.Recorder) { r.Acks = []impl.RecAck{{Index: 1}} }),
		"down and holds":        amended(quietOne(), func(r *impl.Recorder) { r.Up = false }),
	}
}

func TestTakeOfOneThatIsNotValid(t *testing.T) {
	for name, r := range notValid() {
		if impl.RecValid(r) {
			t.Errorf("%s: is valid", name)
		}
		for _, m := range manyKinds() {
			m.From, m.To = 1, 2
			if got := checkedTake(t, name, r, m); !sameRecorder(got, impl.Recorder{}) {
				t.Errorf("%s: %+v", name, got)
			}
			if got := impl.RecTake(r, impl.RecMessage{}); !sameRecorder(got, impl.Recorder{}) {
				t.Errorf("%s, no message: %+v", name, got)
			}
		}
	}
}

// holding is r with so many held messages.
func holding(r impl.Recorder, count int) impl.Recorder {
	r.Held = nil
	for i := range count {
		r.Held = append(r.Held, impl.RecMessage{Kind: impl.RecWished, From: r.Number, To: 1, Text: fmt.Sprint("held ", i)})
	}
	return r
}

func TestRoomForHeld(t *testing.T) {
	wishing := amended(quietOne(), func(r *impl.Recorder) { r.Wishes = []string{"w", "v"} })
	knowing := amended(leadingOne(), func(r *impl.Recorder) {
		r.Disk = impl.RecDisk{Promise: 9, Known: 10, Slots: fullSlots(12, 4)}
	})
	senders := []struct {
		name  string
		r     impl.Recorder
		m     impl.RecMessage
		count int
	}{
		{"prepare refused", quietOne(), impl.RecMessage{Kind: impl.RecPrepare, Ballot: 6}, 1},
		{"prepare", quietOne(), impl.RecMessage{Kind: impl.RecPrepare, Ballot: 7}, 1},
		{"accept refused", quietOne(), impl.RecMessage{Kind: impl.RecAccept, Ballot: 5, Index: 3}, 1},
		{"accept", quietOne(), impl.RecMessage{Kind: impl.RecAccept, Ballot: 6, Index: 3, Text: "n"}, 1},
		{"beat refused", quietOne(), impl.RecMessage{Kind: impl.RecBeat, Ballot: 5}, 1},
		{"beat with need and wishes", wishing, impl.RecMessage{Kind: impl.RecBeat, Ballot: 6, Known: 4}, 3},
		{"need", knowing, impl.RecMessage{Kind: impl.RecNeed, Index: 2}, 5},
	}
	for _, s := range senders {
		s.m.From, s.m.To = 1, 2
		free := impl.RecTake(holding(s.r, 0), s.m)
		if len(free.Held) != s.count {
			t.Fatalf("%s: %d are held", s.name, len(free.Held))
		}
		for _, before := range []int{impl.RecMaxHeld - 6, impl.RecMaxHeld - 5, impl.RecMaxHeld - 3, impl.RecMaxHeld - 2, impl.RecMaxHeld - 1, impl.RecMaxHeld} {
			r := holding(s.r, before)
			got := checkedTake(t, s.name, r, s.m)
			want := free
			want.Held = append(ownList(r.Held), free.Held[:min(s.count, impl.RecMaxHeld-before)]...)
			if !sameRecorder(got, want) {
				t.Errorf("%s, with %d held: %d then, or another change", s.name, before, len(got.Held))
			}
		}
	}
}
