package tests

import (
	"fmt"
	"math/rand"
	"slices"
	"testing"

	"loop.example/wharfquorum/impl"
)

// group is some recorders and what is under way among them.
type group struct {
	all    []impl.Recorder
	flight []impl.RecMessage
}

func newGroup(of int) *group {
	g := &group{}
	for number := 1; number <= of; number++ {
		g.all = append(g.all, impl.RecNew(number, of))
	}
	return g
}

func (g *group) tick() {
	for i, r := range g.all {
		after, sent := impl.RecTick(r)
		g.all[i] = after
		g.flight = append(g.flight, sent...)
	}
}

func (g *group) bring(at int) {
	m := g.flight[at]
	g.flight = slices.Delete(g.flight, at, at+1)
	g.all[m.To-1] = impl.RecTake(g.all[m.To-1], m)
}

// calm is a tick and all messages that are under way then, so many times.
func (g *group) calm(rounds int) {
	for range rounds {
		g.tick()
		for range len(g.flight) {
			g.bring(0)
		}
	}
}

func (g *group) checkBooks(t *testing.T, name string, ballot int, leader int, texts ...string) {
	t.Helper()
	for _, r := range g.all {
		if !r.Up {
			continue
		}
		if book := impl.RecBook(r); !slices.Equal(book, texts) {
			t.Errorf("%s: the book of %d is %q", name, r.Number, book)
		}
		if r.Disk.Promise != ballot || r.Lead != (r.Number == leader) || len(r.Wishes) != 0 {
			t.Errorf("%s: %+v", name, r)
		}
	}
}

// A text that any of them is handed comes into every book, also when the leader falls and others rise.
func TestTicksBringATextIntoEveryBook(t *testing.T) {
	for of := 1; of <= impl.RecMaxRecorders; of++ {
		for to := range of {
			g := newGroup(of)
			g.all[to] = impl.RecWish(g.all[to], "one")
			g.calm(20)
			name := fmt.Sprint(of, " recorders, to ", to+1)
			g.checkBooks(t, name, 1, 1, "one")
			if of < 3 {
				continue
			}
			g.all[0] = impl.RecFall(g.all[0])
			g.all[of-1] = impl.RecWish(g.all[of-1], "two")
			g.calm(20)
			g.checkBooks(t, name+", the leader down", 2, 2, "one", "two")
			g.all[0] = impl.RecRise(g.all[0])
			g.calm(6)
			g.checkBooks(t, name+", the leader back", 2, 2, "one", "two")
		}
	}
}

// Where messages are lost, doubled and turned around and recorders fall, no two lead under one ballot, and what is known is known alike.
func TestTicksInDisorder(t *testing.T) {
	rnd := rand.New(rand.NewSource(8))
	led, known := 0, 0
	for round := range 60 {
		g := newGroup(1 + rnd.Intn(impl.RecMaxRecorders))
		leaders, book := map[int]int{}, map[int]string{}
		for step := range 500 {
			g.disturb(rnd)
			g.checkStep(t, fmt.Sprint("round ", round, ", step ", step), leaders, book)
			if t.Failed() {
				return
			}
		}
		led, known = led+len(leaders), known+len(book)
	}
	if led < 100 || known < 300 {
		t.Errorf("%d ballots led and %d places came to be known: too few to tell", led, known)
	}
}

func (g *group) disturb(rnd *rand.Rand) {
	at := rnd.Intn(len(g.all))
	switch n := rnd.Intn(40); {
	case n == 0:
		g.all[at] = impl.RecFall(g.all[at])
	case n < 5:
		g.all[at] = impl.RecRise(g.all[at])
	case n < 8:
		g.all[at] = impl.RecWish(g.all[at], fmt.Sprint("w", rnd.Intn(30)))
	case n < 18:
		g.tick()
	case len(g.flight) == 0:
	case n < 20:
		g.flight = append(g.flight, g.flight[rnd.Intn(len(g.flight))])
	case n < 22:
		g.flight = slices.Delete(g.flight, 0, 1)
	case n < 24:
		g.bring(rnd.Intn(len(g.flight)))
	default:
		for range min(len(g.flight), 6) {
			g.bring(0)
		}
	}
}

func (g *group) checkStep(t *testing.T, name string, leaders map[int]int, book map[int]string) {
	t.Helper()
	for _, r := range g.all {
		if !impl.RecValid(r) {
			t.Errorf("%s: not valid: %+v", name, r)
		}
		if r.Lead {
			if other, ok := leaders[r.Ballot]; ok && other != r.Number {
				t.Errorf("%s: %d and %d lead under ballot %d", name, other, r.Number, r.Ballot)
			}
			leaders[r.Ballot] = r.Number
		}
		for i, text := range impl.RecBook(r) {
			if known, ok := book[i]; ok && known != text {
				t.Errorf("%s: place %d is %q, and %d knows %q", name, i+1, known, r.Number, text)
			}
			book[i] = text
		}
	}
	for _, m := range g.flight {
		if !impl.RecMessageOk(m, len(g.all)) {
			t.Errorf("%s: under way is %+v", name, m)
		}
	}
}
