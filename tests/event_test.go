package tests

import (
	"fmt"
	"slices"
	"testing"

	"loop.example/wharfquorum/impl"
)

// eventCase is an event in a world; want tells what it changes, and is nil where nothing happens.
type eventCase struct {
	name string
	w    impl.RecWorld
	e    impl.RecEvent
	want func(w *impl.RecWorld)
}

func checkEvents(t *testing.T, cases []eventCase) {
	t.Helper()
	for _, c := range cases {
		if !impl.RecWorldOk(c.w) {
			t.Errorf("%s: the world of the case is not ok", c.name)
		}
		want := plainWorld(c.w)
		if c.want != nil {
			c.want(&want)
		}
		got := checkedDo(t, c.name, c.w, c.e)
		if !sameWorld(got, want) {
			t.Errorf("%s:\n got  %+v\n want %+v", c.name, got, want)
		}
		if !impl.RecWorldOk(got) {
			t.Errorf("%s: the answer is not ok", c.name)
		}
	}
}

const far = 1<<63 - 1

func TestEventsThatFindNothing(t *testing.T) {
	var cases []eventCase
	add := func(kind int, a int) {
		for name, w := range map[string]impl.RecWorld{"three": threeWorld(), "not noted": unnotedWorld()} {
			e := impl.RecEvent{Kind: kind, A: a, Text: "x"}
			cases = append(cases, eventCase{fmt.Sprintf("%s, %+v", name, e), w, e, nil})
		}
	}
	for _, kind := range []int{-far - 1, -1, 0, impl.RecEvWish + 1, impl.RecEvWish + 2, far} {
		for _, a := range []int{-1, 0, 1, 2, 3} {
			add(kind, a)
		}
	}
	for kind := impl.RecEvBring; kind <= impl.RecEvWish; kind++ {
		for _, a := range []int{-far - 1, -2, -1, 3, 4, far} {
			add(kind, a)
		}
	}
	for _, kind := range []int{impl.RecEvBring, impl.RecEvDouble, impl.RecEvLose} {
		for _, a := range []int{-1, 0, 1} {
			cases = append(cases, eventCase{fmt.Sprint("nothing in flight, kind ", kind), impl.RecNewWorld(2), impl.RecEvent{Kind: kind, A: a}, nil})
		}
	}
	checkEvents(t, cases)
}

func TestEventsOfMessages(t *testing.T) {
	w := threeWorld()
	without := func(at int) func(w *impl.RecWorld) {
		return func(w *impl.RecWorld) { w.Flight = slices.Delete(w.Flight, at, at+1) }
	}
	var cases []eventCase
	for at := range w.Flight {
		cases = append(cases,
			eventCase{fmt.Sprint("lose ", at), w, impl.RecEvent{Kind: impl.RecEvLose, A: at}, without(at)},
			eventCase{fmt.Sprint("double ", at), w, impl.RecEvent{Kind: impl.RecEvDouble, A: at}, func(w *impl.RecWorld) { w.Flight = append(w.Flight, w.Flight[at]) }},
		)
	}
	cases = append(cases,
		eventCase{"bring the first", w, impl.RecEvent{Kind: impl.RecEvBring, A: 0, Text: "not asked"}, func(w *impl.RecWorld) {
			without(0)(w)
			becomesQuiet(&w.Recorders[1])
			w.Recorders[1].Disk.Promise, w.Recorders[1].Heard = 7, 0
		}},
		eventCase{"bring the second", w, impl.RecEvent{Kind: impl.RecEvBring, A: 1}, func(w *impl.RecWorld) {
			without(1)(w)
			w.Recorders[0].Best = fullSlots(3, 5)
		}},
		eventCase{"bring the last, to one that is down", w, impl.RecEvent{Kind: impl.RecEvBring, A: 2}, without(2)},
	)
	risen := amendedWorld(w, func(w *impl.RecWorld) { w.Recorders[2].Up = true })
	cases = append(cases, eventCase{"bring the last, to one that is up", risen, impl.RecEvent{Kind: impl.RecEvBring, A: 2}, func(w *impl.RecWorld) {
		without(2)(w)
		w.Recorders[2].Wishes = []string{"late"}
	}})
	checkEvents(t, cases)
}

func TestEventsOfRecorders(t *testing.T) {
	w := threeWorld()
	wished := func(at int, text string) func(w *impl.RecWorld) {
		return func(w *impl.RecWorld) { w.Recorders[at].Wishes = append(w.Recorders[at].Wishes, text) }
	}
	full := amendedWorld(w, func(w *impl.RecWorld) { w.Recorders[0].Wishes = fullRecorder().Wishes })
	event := func(kind int, a int, text string) impl.RecEvent { return impl.RecEvent{Kind: kind, A: a, Text: text} }
	checkEvents(t, []eventCase{
		{"the first falls", w, event(impl.RecEvFall, 0, ""), func(w *impl.RecWorld) { w.Recorders[0] = fallen(w.Recorders[0]) }},
		{"one that leads falls", w, event(impl.RecEvFall, 1, "not asked"), func(w *impl.RecWorld) { w.Recorders[1] = fallen(w.Recorders[1]) }},
		{"one that is down falls", w, event(impl.RecEvFall, 2, ""), nil},
		{"the first, which is up, rises", w, event(impl.RecEvRise, 0, ""), nil},
		{"one that leads rises", w, event(impl.RecEvRise, 1, ""), nil},
		{"the last rises", w, event(impl.RecEvRise, 2, "not asked"), func(w *impl.RecWorld) { w.Recorders[2].Up = true }},
		{"a wish to the first", w, event(impl.RecEvWish, 0, "x"), wished(0, "x")},
		{"a wish to one that leads", w, event(impl.RecEvWish, 1, "x"), wished(1, "x")},
		{"a wish to one that is down", w, event(impl.RecEvWish, 2, "x"), nil},
		{"the longest wish", w, event(impl.RecEvWish, 0, textOf(impl.RecMaxText)), wished(0, textOf(impl.RecMaxText))},
		{"a wish too long", w, event(impl.RecEvWish, 0, textOf(impl.RecMaxText+1)), nil},
		{"an empty wish", w, event(impl.RecEvWish, 0, ""), nil},
		{"a wish that is known", w, event(impl.RecEvWish, 1, "b"), nil},
		{"a wish that is taken, and not known", w, event(impl.RecEvWish, 1, "c"), wished(1, "c")},
		{"a wish that is there", amendedWorld(w, wished(1, "x")), event(impl.RecEvWish, 1, "x"), nil},
		{"a wish where no room is", full, event(impl.RecEvWish, 0, "x"), nil},
		{"a wish beside one that has no room", full, event(impl.RecEvWish, 1, "x"), wished(1, "x")},
	})
	alone := impl.RecNewWorld(1)
	checkEvents(t, []eventCase{
		{"one alone falls", alone, event(impl.RecEvFall, 0, ""), func(w *impl.RecWorld) { w.Recorders[0].Up = false }},
		{"one alone wishes", alone, event(impl.RecEvWish, 0, "x"), wished(0, "x")},
		{"beyond one alone", alone, event(impl.RecEvFall, 1, ""), nil},
	})
}

// speakers are five recorders: each but the fourth, which is down, holds two messages, and the second leads.
func speakers() impl.RecWorld {
	w := impl.RecNewWorld(5)
	for i := range w.Recorders {
		for k := range 2 {
			m := impl.RecMessage{Kind: impl.RecPromised, From: i + 1, To: 1 + (i+k)%5, Text: fmt.Sprint("held ", i, k), Slots: fullSlots(k+1, i+1)}
			w.Recorders[i].Held = append(w.Recorders[i].Held, m)
		}
	}
	w.Recorders[1].Lead, w.Recorders[1].Ballot = true, 2
	w.Recorders[1].Disk = impl.RecDisk{Promise: 2, Slots: fullSlots(2, 2)}
	w.Recorders[3] = impl.Recorder{Number: 4, Of: 5}
	w.Flight = []impl.RecMessage{{Kind: impl.RecRefuse, From: 4, To: 1, Ballot: 1}}
	return w
}

// spoken is what the speakers send in a tick, in order.
func spoken() []impl.RecMessage {
	w := speakers()
	list := slices.Concat(w.Recorders[0].Held, w.Recorders[1].Held, leadership(2, 5, 2, 0, "t0", "t1"), w.Recorders[2].Held, w.Recorders[4].Held)
	return plainMessages(list)
}

func spokenWorld(before impl.RecWorld, flight []impl.RecMessage) impl.RecWorld {
	return amendedWorld(before, func(w *impl.RecWorld) {
		for i, r := range w.Recorders {
			if r.Up {
				w.Recorders[i] = plainTick(r)
			}
		}
		w.Recorders[1].Acks = []impl.RecAck{{Index: 1, From: []int{2}}, {Index: 2, From: []int{2}}}
		w.Flight = flight
	})
}

// What is sent lies in flight in the order of the recorders, however their ticks run beside each other.
func TestTickOfAWorld(t *testing.T) {
	w := speakers()
	for round := range 60 {
		e := impl.RecEvent{Kind: impl.RecEvTick, A: []int{0, -1, 99}[round%3], Text: "not asked"}
		want := spokenWorld(w, append(plainMessages(w.Flight), spoken()...))
		if got := checkedDo(t, "speakers", w, e); !sameWorld(got, want) {
			t.Fatalf("round %d:\n got  %+v\n want %+v", round, got, want)
		}
	}
}

func TestTickWithAFullFlight(t *testing.T) {
	all := spoken()
	for room := 0; room <= len(all)+1; room++ {
		w := speakers()
		w.Flight = manyMessages(impl.RecMaxFlight-room, impl.RecMessage{Kind: impl.RecWished, From: 5, To: 4, Text: "old", Slots: fullSlots(1, 1)})
		name := fmt.Sprint("room for ", room)
		want := spokenWorld(w, append(plainMessages(w.Flight), all[:min(room, len(all))]...))
		if got := checkedDo(t, name, w, impl.RecEvent{Kind: impl.RecEvTick}); !sameWorld(got, want) || !impl.RecWorldOk(got) {
			t.Errorf("%s: %d in flight: %+v", name, len(got.Flight), got.Recorders)
		}
	}
}

func TestDoubleWithAFullFlight(t *testing.T) {
	for _, room := range []int{0, 1, 2} {
		w := threeWorld()
		w.Flight = append(manyMessages(impl.RecMaxFlight-room-3, w.Flight[1]), w.Flight...)
		for _, at := range []int{0, 1, len(w.Flight) - 2, len(w.Flight) - 1, len(w.Flight)} {
			want := plainWorld(w)
			if room > 0 && at < len(w.Flight) {
				want.Flight = append(want.Flight, w.Flight[at])
			}
			name := fmt.Sprint("room for ", room, ", double ", at)
			if got := checkedDo(t, name, w, impl.RecEvent{Kind: impl.RecEvDouble, A: at}); !sameWorld(got, want) {
				t.Errorf("%s: %d in flight", name, len(got.Flight))
			}
		}
	}
}

// A message that was doubled is one of its own: each of the two is brought or lost without the other.
func TestDoubleAndThenTheOther(t *testing.T) {
	w := threeWorld()
	doubled := impl.RecDo(w, impl.RecEvent{Kind: impl.RecEvDouble, A: 1})
	for _, kind := range []int{impl.RecEvBring, impl.RecEvLose} {
		for _, at := range []int{1, 3} {
			got := checkedDo(t, "doubled", doubled, impl.RecEvent{Kind: kind, A: at})
			want := modelDo(doubled, impl.RecEvent{Kind: kind, A: at})
			if !sameWorld(got, want) || len(got.Flight) != 3 {
				t.Errorf("kind %d of %d: %+v", kind, at, got)
			}
		}
	}
}

func TestEventsOfAFullWorld(t *testing.T) {
	w := fullWorld()
	for kind := impl.RecEvTick - 1; kind <= impl.RecEvWish+1; kind++ {
		for _, a := range []int{-1, 0, 3, 4, 5, impl.RecMaxFlight - 1, impl.RecMaxFlight} {
			e := impl.RecEvent{Kind: kind, A: a, Text: "x"}
			name := fmt.Sprintf("%+v", e)
			got := checkedDo(t, name, w, e)
			if !sameWorld(got, modelDo(w, e)) {
				t.Errorf("%s: not as the document has it", name)
			}
			checkWorldForth(t, name, w, got, e)
		}
	}
}
