package tests

import (
	"fmt"
	"strings"
	"testing"

	"loop.example/wharfquorum/impl"
)

func TestNewWorlds(t *testing.T) {
	far := 1<<63 - 1
	for _, n := range []int{-far - 1, -1, 0, impl.RecMaxRecorders + 1, impl.RecMaxRecorders + 2, far} {
		if w := impl.RecNewWorld(n); !sameWorld(w, impl.RecWorld{}) || impl.RecWorldOk(w) {
			t.Errorf("%d recorders: %+v", n, w)
		}
	}
	for n := 1; n <= impl.RecMaxRecorders; n++ {
		var want impl.RecWorld
		for number := 1; number <= n; number++ {
			want.Recorders = append(want.Recorders, impl.Recorder{Number: number, Of: n, Up: true})
		}
		if w := impl.RecNewWorld(n); !sameWorld(w, want) || !impl.RecWorldOk(w) {
			t.Errorf("%d recorders: %+v", n, w)
		}
	}
}

// fullFixes are so many fixes, with texts of the greatest size.
func fullFixes(count int) []impl.RecFix {
	var list []impl.RecFix
	for index := 1; index <= count; index++ {
		list = append(list, impl.RecFix{Index: index, Text: textOf(impl.RecMaxText)})
	}
	return list
}

func manyMessages(count int, m impl.RecMessage) []impl.RecMessage {
	list := make([]impl.RecMessage, count)
	for i := range list {
		list[i] = m
	}
	return plainMessages(list)
}

// renumbered is r with another Number, and what it holds from this one.
func renumbered(r impl.Recorder, number int) impl.Recorder {
	r = plain(r)
	r.Number = number
	for i := range r.Held {
		r.Held[i].From = number
	}
	return r
}

// fullWorld meets every limit of a world.
func fullWorld() impl.RecWorld {
	w := impl.RecWorld{Flight: manyMessages(impl.RecMaxFlight, fullMessage()), Fixed: fullFixes(impl.RecMaxSlots)}
	for i, r := range []impl.Recorder{leadingRecorder(), tryingRecorder(), fullRecorder(), downRecorder(), leadingRecorder()} {
		w.Recorders = append(w.Recorders, renumbered(r, i+1))
	}
	return w
}

// threeWorld is one that tries, one that leads and one that is down; most have the first place, and it is fixed.
func threeWorld() impl.RecWorld {
	down := impl.Recorder{Number: 3, Of: 3, Safe: quietOne().Disk, Disk: quietOne().Disk}
	return plainWorld(impl.RecWorld{
		Recorders: []impl.Recorder{renumbered(tryingOne(), 1), leadingOne(), down},
		Flight: []impl.RecMessage{
			{Kind: impl.RecBeat, From: 1, To: 2, Ballot: 7, Known: 2},
			{Kind: impl.RecPromised, From: 2, To: 1, Ballot: 6, Slots: fullSlots(3, 5)},
			{Kind: impl.RecWished, From: 2, To: 3, Text: "late"},
		},
		Fixed: []impl.RecFix{{Index: 1, Text: "a"}, {Index: 2, Text: "b"}},
	})
}

// amendedWorld is w with one change, and shares nothing with it.
func amendedWorld(w impl.RecWorld, change func(w *impl.RecWorld)) impl.RecWorld {
	w = plainWorld(w)
	change(&w)
	return w
}

// fixes are fixes with these places, and short texts.
func fixes(indices ...int) []impl.RecFix {
	var list []impl.RecFix
	for _, index := range indices {
		list = append(list, impl.RecFix{Index: index, Text: fmt.Sprint("f", index)})
	}
	return list
}

func TestWorldOk(t *testing.T) {
	fixed := func(list ...impl.RecFix) impl.RecWorld {
		return amendedWorld(threeWorld(), func(w *impl.RecWorld) { w.Fixed = list })
	}
	worlds := map[string]impl.RecWorld{
		"every limit met":          fullWorld(),
		"three":                    threeWorld(),
		"nothing in flight":        amendedWorld(threeWorld(), func(w *impl.RecWorld) { w.Flight = nil }),
		"empty lists, not nil":     {Recorders: impl.RecNewWorld(1).Recorders, Flight: []impl.RecMessage{}, Fixed: []impl.RecFix{}},
		"one short of full flight": amendedWorld(fullWorld(), func(w *impl.RecWorld) { w.Flight = w.Flight[1:] }),
		"nothing fixed":            fixed(),
		"the first place":          fixed(fixes(1)...),
		"the last place":           fixed(fixes(impl.RecMaxSlots)...),
		"the first and the last":   fixed(fixes(1, impl.RecMaxSlots)...),
		"places with gaps":         fixed(fixes(2, 3, 17, 59)...),
		"an empty text":            fixed(impl.RecFix{Index: 4}),
		"one text at two places":   fixed(impl.RecFix{Index: 4, Text: "x"}, impl.RecFix{Index: 5, Text: "x"}),
		"the longest text":         fixed(impl.RecFix{Index: 4, Text: textOf(impl.RecMaxText)}),
		"fixed against the books":  fixed(impl.RecFix{Index: 1, Text: "not a"}),
		"to itself":                amendedWorld(threeWorld(), func(w *impl.RecWorld) { w.Flight[0].To = 1 }),
	}
	for name, w := range worlds {
		ok := checkedWorld(t, name, w, func(w impl.RecWorld) told { return told{is: impl.RecWorldOk(w)} })
		if !ok.is {
			t.Errorf("%s: not ok", name)
		}
	}
}

// notOkWorlds are worlds with one fault each; but for it, most have a text at the first place, and all agree.
func notOkWorlds() map[string]impl.RecWorld {
	faults := map[string]func(w *impl.RecWorld){
		"no recorders":         func(w *impl.RecWorld) { w.Recorders, w.Flight = nil, nil },
		"numbers turned round": func(w *impl.RecWorld) { w.Recorders[0], w.Recorders[1] = w.Recorders[1], w.Recorders[0] },
		"a number twice":       func(w *impl.RecWorld) { w.Recorders[2] = renumbered(w.Recorders[2], 2) },
		"numbers from 2": func(w *impl.RecWorld) {
			for i, r := range impl.RecNewWorld(4).Recorders[1:] {
				w.Recorders[i] = r
			}
		},
		"one is missing":                func(w *impl.RecWorld) { w.Recorders = w.Recorders[:2] },
		"of one more":                   func(w *impl.RecWorld) { w.Recorders[0].Of = 4 },
		"of one less":                   func(w *impl.RecWorld) { w.Recorders[0].Of = 2 },
		"of one more, all of them":      func(w *impl.RecWorld) { setOf(w, 4) },
		"of none":                       func(w *impl.RecWorld) { w.Recorders[2].Of = 0 },
		"a disk that is not ok":         func(w *impl.RecWorld) { w.Recorders[1].Disk.Known = 5 },
		"a safe disk that is not ok":    func(w *impl.RecWorld) { w.Recorders[2].Safe.Promise = -1 },
		"one that leads and tries":      func(w *impl.RecWorld) { w.Recorders[0].Lead = true },
		"one that is down and wishes":   func(w *impl.RecWorld) { w.Recorders[2].Wishes = []string{"x"} },
		"one that is nothing":           func(w *impl.RecWorld) { w.Recorders[2] = impl.Recorder{} },
		"one message too many":          func(w *impl.RecWorld) { w.Flight = manyMessages(impl.RecMaxFlight+1, w.Flight[0]) },
		"a message of no kind":          func(w *impl.RecWorld) { w.Flight[1].Kind = 0 },
		"a message of another kind":     func(w *impl.RecWorld) { w.Flight[1].Kind = impl.RecRefuse + 1 },
		"a message to nobody":           func(w *impl.RecWorld) { w.Flight[2].To = 0 },
		"a message to one beyond":       func(w *impl.RecWorld) { w.Flight[2].To = 4 },
		"a message from one beyond":     func(w *impl.RecWorld) { w.Flight[2].From = 4 },
		"a message with slots not ok":   func(w *impl.RecWorld) { w.Flight[1].Slots[2].Ballot = 0 },
		"a message with a long text":    func(w *impl.RecWorld) { w.Flight[0].Text = textOf(impl.RecMaxText + 1) },
		"fixed out of order":            func(w *impl.RecWorld) { w.Fixed[0], w.Fixed[1] = w.Fixed[1], w.Fixed[0] },
		"fixed out of order at the end": func(w *impl.RecWorld) { w.Fixed = append(w.Fixed, fixes(9, 8)...) },
		"a fixed place twice":           func(w *impl.RecWorld) { w.Fixed = append(w.Fixed, w.Fixed[1]) },
		"place 0 is fixed":              func(w *impl.RecWorld) { w.Fixed = append(fixes(0), w.Fixed...) },
		"a place below 0 is fixed":      func(w *impl.RecWorld) { w.Fixed = append(fixes(-1), w.Fixed...) },
		"a place beyond the last":       func(w *impl.RecWorld) { w.Fixed = append(w.Fixed, fixes(impl.RecMaxSlots+1)...) },
		"a place far beyond":            func(w *impl.RecWorld) { w.Fixed = append(w.Fixed, fixes(1<<62)...) },
		"a long text is fixed": func(w *impl.RecWorld) {
			w.Fixed = append(w.Fixed, impl.RecFix{Index: 3, Text: textOf(impl.RecMaxText + 1)})
		},
		"a long text is fixed, not the last": func(w *impl.RecWorld) {
			w.Fixed = append(w.Fixed, impl.RecFix{Index: 3, Text: textOf(500)}, impl.RecFix{Index: 4})
		},
	}
	worlds := map[string]impl.RecWorld{"nothing": {}}
	for name, fault := range faults {
		worlds[name] = amendedWorld(agreeing(threeWorld()), fault)
	}
	for _, count := range []int{impl.RecMaxRecorders + 1, 2 * impl.RecMaxRecorders} {
		var w impl.RecWorld
		for number := 1; number <= count; number++ {
			w.Recorders = append(w.Recorders, impl.Recorder{Number: number, Of: count, Up: true})
		}
		worlds[fmt.Sprint(count, " recorders")] = w
	}
	worlds["a full world, one message too many"] = amendedWorld(fullWorld(), func(w *impl.RecWorld) { w.Flight = append(w.Flight, w.Flight[0]) })
	worlds["a full world, one place too many"] = amendedWorld(fullWorld(), func(w *impl.RecWorld) { w.Fixed = fullFixes(impl.RecMaxSlots + 1) })
	return worlds
}

func setOf(w *impl.RecWorld, of int) {
	for i := range w.Recorders {
		w.Recorders[i].Of = of
	}
}

// agreeing is w with the same Safe disks all over, and all of it fixed.
func agreeing(w impl.RecWorld) impl.RecWorld {
	return amendedWorld(w, func(w *impl.RecWorld) {
		w.Fixed = nil
		for i := range w.Recorders {
			w.Recorders[i].Safe = plain(quietOne()).Disk
		}
		for i, s := range quietOne().Disk.Slots {
			w.Fixed = append(w.Fixed, impl.RecFix{Index: i + 1, Text: s.Text})
		}
	})
}

func TestWorldNotOk(t *testing.T) {
	sound := agreeing(threeWorld())
	if !impl.RecWorldOk(sound) || !impl.RecAgree(sound) || majorIn(sound, 1) != (told{"a", true}) {
		t.Fatalf("not sound ahead of the faults: %+v", sound)
	}
	for name, w := range notOkWorlds() {
		if impl.RecWorldOk(w) {
			t.Errorf("%s: ok", name)
		}
		for kind := -1; kind <= impl.RecEvWish+1; kind++ {
			for _, a := range []int{-1, 0, 1} {
				if got := checkedDo(t, name, w, impl.RecEvent{Kind: kind, A: a, Text: "x"}); !sameWorld(got, impl.RecWorld{}) {
					t.Errorf("%s: an event of kind %d: %+v", name, kind, got)
				}
			}
		}
		for _, rounds := range []int{-1, 0, 1, 2, impl.RecMaxCalm, impl.RecMaxCalm + 1} {
			if got := checkedCalm(t, name, w, rounds); !sameWorld(got, impl.RecWorld{}) {
				t.Errorf("%s: %d rounds: %+v", name, rounds, got)
			}
		}
		for _, index := range []int{-1, 0, 1, 2, impl.RecMaxSlots, impl.RecMaxSlots + 1} {
			if got := checkedMajor(t, name, w, index); got != (told{}) {
				t.Errorf("%s: the major of %d: %+v", name, index, got)
			}
		}
		if checkedAgree(t, name, w) {
			t.Errorf("%s: agrees", name)
		}
	}
}

// The texts of the fixed places may hold any bytes; only how many they are counts.
func TestWorldOkCountsBytes(t *testing.T) {
	for text, want := range map[string]bool{strings.Repeat("é", 50): true, strings.Repeat("é", 50) + "x": false, strings.Repeat("\xff", 100): true, strings.Repeat("\x00", 101): false} {
		w := amendedWorld(threeWorld(), func(w *impl.RecWorld) { w.Fixed[1].Text = text })
		if impl.RecWorldOk(w) != want {
			t.Errorf("%q: %v", text, !want)
		}
	}
}
