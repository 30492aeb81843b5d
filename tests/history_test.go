package tests

import (
	"fmt"
	"math/rand"
	"slices"
	"testing"

	"loop.example/wharfquorum/impl"
)

// history is a run of events from a new world, with what it must not go against.
type history struct {
	w       impl.RecWorld
	handed  []string
	leaders map[int]int
	mood    mood
	blocked [impl.RecMaxRecorders + 1][impl.RecMaxRecorders + 1]bool
	falls   int
	behind  int
	stale   int
}

// mood is of how many turns one has such an event, in hundredths, so that runs differ.
type mood struct {
	fall, rise, wish, turn int
	// of the messages that are looked at
	lose, double, wait int
	// how many are looked at in a turn, in hundredths of the flight
	looked int
}

func someMood(rnd *rand.Rand) mood {
	return mood{
		fall: rnd.Intn(8), rise: 10 + rnd.Intn(60), wish: 3 + rnd.Intn(20), turn: 2 + rnd.Intn(10),
		lose: rnd.Intn(30), double: rnd.Intn(20), wait: rnd.Intn(50), looked: 30 + rnd.Intn(120),
	}
}

func newHistory(rnd *rand.Rand, of int) *history {
	return &history{w: impl.RecNewWorld(of), leaders: map[int]int{}, mood: someMood(rnd)}
}

func often(rnd *rand.Rand, hundredths int) bool {
	return rnd.Intn(100) < hundredths
}

// turn is a tick, with what may happen to recorders ahead of it and to messages behind it.
func (h *history) turn(t *testing.T, name string, rnd *rand.Rand) {
	t.Helper()
	of := len(h.w.Recorders)
	if often(rnd, h.mood.turn) {
		h.block(rnd)
	}
	if often(rnd, h.mood.fall) {
		h.do(t, name, impl.RecEvent{Kind: impl.RecEvFall, A: rnd.Intn(of)})
	}
	if often(rnd, h.mood.rise) {
		h.do(t, name, impl.RecEvent{Kind: impl.RecEvRise, A: rnd.Intn(of)})
	}
	if often(rnd, h.mood.wish) {
		h.do(t, name, impl.RecEvent{Kind: impl.RecEvWish, A: rnd.Intn(of), Text: fmt.Sprint("w", rnd.Intn(30))})
	}
	h.do(t, name, impl.RecEvent{Kind: impl.RecEvTick})
	for range len(h.w.Flight) * h.mood.looked / 100 {
		if len(h.w.Flight) > 0 {
			h.lookAt(t, name, rnd, rnd.Intn(len(h.w.Flight)))
		}
	}
	for len(h.w.Flight) > 80 {
		h.do(t, name, impl.RecEvent{Kind: impl.RecEvLose, A: rnd.Intn(len(h.w.Flight))})
	}
}

// block draws which ways are closed: none, all of one recorder's, all between two sides, or some.
func (h *history) block(rnd *rand.Rand) {
	of := len(h.w.Recorders)
	how, one, side := rnd.Intn(4), 1+rnd.Intn(of), rnd.Intn(1<<of)
	for from := 1; from <= of; from++ {
		for to := 1; to <= of; to++ {
			apart := side>>(from-1)&1 != side>>(to-1)&1
			h.blocked[from][to] = how == 1 && (from == one || to == one) || how == 2 && apart || how == 3 && rnd.Intn(3) == 0
		}
	}
}

// lookAt brings a message, mostly; one whose way is closed stays, to come late.
func (h *history) lookAt(t *testing.T, name string, rnd *rand.Rand, at int) {
	t.Helper()
	m := h.w.Flight[at]
	switch {
	case often(rnd, h.mood.lose):
		h.do(t, name, impl.RecEvent{Kind: impl.RecEvLose, A: at})
	case h.blocked[m.From][m.To] || often(rnd, h.mood.wait):
	case often(rnd, h.mood.double):
		h.do(t, name, impl.RecEvent{Kind: impl.RecEvDouble, A: at})
		h.do(t, name, impl.RecEvent{Kind: impl.RecEvBring, A: at})
	default:
		h.do(t, name, impl.RecEvent{Kind: impl.RecEvBring, A: at})
	}
}

// do lets an event happen, and holds it to promises 3 to 7 and 9.
func (h *history) do(t *testing.T, name string, e impl.RecEvent) {
	t.Helper()
	before := h.w
	if e.Kind == impl.RecEvWish {
		h.handed = append(h.handed, e.Text)
	}
	h.count(e)
	h.w = impl.RecDo(before, e)
	name = fmt.Sprintf("%s, %+v", name, e)
	checkWorldForth(t, name, before, h.w, e)
	h.checkFixed(t, name, before.Fixed)
	h.checkLeaders(t, name)
	h.checkTexts(t, name)
	if !impl.RecAgree(h.w) {
		t.Errorf("%s: no agreement: %+v", name, h.w)
	}
}

// count tells whether a run had what may bring agreement into danger.
func (h *history) count(e impl.RecEvent) {
	switch e.Kind {
	case impl.RecEvFall:
		if h.w.Recorders[e.A].Lead {
			h.falls++
		}
	case impl.RecEvBring:
		m := h.w.Flight[e.A]
		if r := h.w.Recorders[m.To-1]; m.Ballot > 0 && m.Ballot < r.Disk.Promise {
			h.stale++
		}
	}
}

func (h *history) checkFixed(t *testing.T, name string, before []impl.RecFix) {
	t.Helper()
	for _, f := range before {
		if !slices.Contains(h.w.Fixed, f) {
			t.Errorf("%s: %+v is no longer fixed: %+v", name, f, h.w.Fixed)
		}
	}
	if len(before) > 0 && len(h.w.Fixed) > len(before) && h.w.Fixed[len(h.w.Fixed)-1] == before[len(before)-1] {
		h.behind++
	}
}

func (h *history) checkLeaders(t *testing.T, name string) {
	t.Helper()
	for _, r := range h.w.Recorders {
		if !r.Lead {
			continue
		}
		if other, ok := h.leaders[r.Ballot]; ok && other != r.Number {
			t.Errorf("%s: %d and %d lead under ballot %d", name, other, r.Number, r.Ballot)
		}
		h.leaders[r.Ballot] = r.Number
	}
}

func (h *history) checkTexts(t *testing.T, name string) {
	t.Helper()
	for _, r := range h.w.Recorders {
		for i, text := range impl.RecBook(r) {
			if text != "" && !slices.Contains(h.handed, text) {
				t.Errorf("%s: %d knows %q at place %d, and nobody wished for it", name, r.Number, text, i+1)
			}
		}
	}
}

func TestHistories(t *testing.T) {
	rnd := rand.New(rand.NewSource(5))
	var led, fixed, falls, behind, stale int
	for run := range 300 {
		h := newHistory(rnd, 1+run%impl.RecMaxRecorders)
		for turn := range 200 {
			h.turn(t, fmt.Sprint("run ", run, ", turn ", turn), rnd)
			if t.Failed() {
				return
			}
		}
		led, fixed, falls, behind, stale = led+len(h.leaders), fixed+len(h.w.Fixed), falls+h.falls, behind+h.behind, stale+h.stale
	}
	tells := fmt.Sprintf("%d ballots led, %d places fixed, %d of those who led fell, %d places noted behind greater ones, %d messages late", led, fixed, falls, behind, stale)
	if led < 1000 || fixed < 1000 || falls < 100 || behind < 50 || stale < 1000 {
		t.Errorf("%s: too few to tell", tells)
	}
}
