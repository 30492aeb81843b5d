package tests

import (
	"fmt"
	"reflect"
	"testing"

	"loop.example/wharfquorum/impl"
)

func TestNewRecorders(t *testing.T) {
	for of := -2; of <= impl.RecMaxRecorders+2; of++ {
		for number := -2; number <= impl.RecMaxRecorders+2; number++ {
			want := impl.Recorder{}
			if of >= 1 && of <= impl.RecMaxRecorders && number >= 1 && number <= of {
				want = impl.Recorder{Number: number, Of: of, Up: true}
			}
			got := impl.RecNew(number, of)
			if fmt.Sprintf("%+v", got) != fmt.Sprintf("%+v", want) {
				t.Errorf("RecNew(%d, %d) is %+v", number, of, got)
			}
			if impl.RecValid(got) != (want.Of > 0) {
				t.Errorf("RecNew(%d, %d) is valid or not against the document", number, of)
			}
		}
	}
	if r := impl.RecNew(1<<62, 1<<62); r.Of != 0 || r.Up {
		t.Errorf("a recorder far beyond the limit: %+v", r)
	}
}

// fullMessage meets every limit of a message among five recorders.
func fullMessage() impl.RecMessage {
	return impl.RecMessage{Kind: impl.RecRefuse, From: 5, To: 5, Ballot: impl.RecMaxBallot, Index: impl.RecMaxSlots, Known: impl.RecMaxSlots, Text: textOf(impl.RecMaxText), Slots: fullSlots(impl.RecMaxSlots, impl.RecMaxBallot)}
}

func TestMessageOk(t *testing.T) {
	if !impl.RecMessageOk(fullMessage(), impl.RecMaxRecorders) {
		t.Error("every limit met")
	}
	for kind := impl.RecPrepare; kind <= impl.RecRefuse; kind++ {
		for of := 1; of <= impl.RecMaxRecorders; of++ {
			if !impl.RecMessageOk(impl.RecMessage{Kind: kind, From: 1, To: of}, of) || !impl.RecMessageOk(impl.RecMessage{Kind: kind, From: of, To: 1}, of) {
				t.Errorf("kind %d among %d", kind, of)
			}
		}
	}
	slots := []impl.RecSlot{{}, {Ballot: 1}, {Ballot: 8, Text: "a"}}
	if !impl.RecMessageOk(impl.RecMessage{Kind: impl.RecPrepare, From: 1, To: 2, Slots: slots}, 2) {
		t.Error("slots above the message's ballot are not barred")
	}
}

func TestMessageNotOk(t *testing.T) {
	spoils := map[string]func(m *impl.RecMessage){
		"kind 0":                  func(m *impl.RecMessage) { m.Kind = 0 },
		"a kind below 0":          func(m *impl.RecMessage) { m.Kind = -1 },
		"kind 10":                 func(m *impl.RecMessage) { m.Kind = impl.RecRefuse + 1 },
		"from 0":                  func(m *impl.RecMessage) { m.From = 0 },
		"from below 0":            func(m *impl.RecMessage) { m.From = -5 },
		"from one too many":       func(m *impl.RecMessage) { m.From = 6 },
		"to 0":                    func(m *impl.RecMessage) { m.To = 0 },
		"to below 0":              func(m *impl.RecMessage) { m.To = -1 },
		"to one too many":         func(m *impl.RecMessage) { m.To = 6 },
		"a ballot below 0":        func(m *impl.RecMessage) { m.Ballot = -1 },
		"a ballot above":          func(m *impl.RecMessage) { m.Ballot++ },
		"an index below 0":        func(m *impl.RecMessage) { m.Index = -1 },
		"an index above":          func(m *impl.RecMessage) { m.Index++ },
		"known below 0":           func(m *impl.RecMessage) { m.Known = -1 },
		"known above":             func(m *impl.RecMessage) { m.Known++ },
		"a text too long":         func(m *impl.RecMessage) { m.Text += "x" },
		"too many slots":          func(m *impl.RecMessage) { m.Slots = append(m.Slots, impl.RecSlot{}) },
		"a slot without a ballot": func(m *impl.RecMessage) { m.Slots[59].Ballot = 0 },
		"a slot below 0":          func(m *impl.RecMessage) { m.Slots[0].Ballot = -1 },
		"a slot above":            func(m *impl.RecMessage) { m.Slots[7].Ballot++ },
		"a slot's text too long":  func(m *impl.RecMessage) { m.Slots[7].Text = textOf(impl.RecMaxText + 1) },
	}
	for name, spoil := range spoils {
		m := fullMessage()
		spoil(&m)
		if impl.RecMessageOk(m, impl.RecMaxRecorders) {
			t.Errorf("%s: ok", name)
		}
	}
	for _, of := range []int{-1, 0, 1, 4} {
		if impl.RecMessageOk(fullMessage(), of) {
			t.Errorf("a message of the fifth among %d", of)
		}
	}
	for of := 1; of < impl.RecMaxRecorders; of++ {
		if impl.RecMessageOk(impl.RecMessage{Kind: impl.RecBeat, From: of + 1, To: of}, of) || impl.RecMessageOk(impl.RecMessage{Kind: impl.RecBeat, From: of, To: of + 1}, of) {
			t.Errorf("one beyond %d recorders has sent or is sent to", of)
		}
	}
}

// fullRecorder meets every limit that all roles have.
func fullRecorder() impl.Recorder {
	disk := func() impl.RecDisk {
		return impl.RecDisk{Promise: impl.RecMaxBallot, Known: impl.RecMaxSlots, Slots: fullSlots(impl.RecMaxSlots, impl.RecMaxBallot)}
	}
	r := impl.Recorder{Number: 5, Of: impl.RecMaxRecorders, Up: true, Safe: disk(), Disk: disk(), Heard: impl.RecMaxBallot}
	for range impl.RecMaxHeld {
		r.Held = append(r.Held, fullMessage())
	}
	for i := range impl.RecMaxWishes {
		r.Wishes = append(r.Wishes, textOf(impl.RecMaxText-1)+string(rune('a'+i)))
	}
	return r
}

func leadingRecorder() impl.Recorder {
	r := fullRecorder()
	r.Lead, r.Ballot = true, impl.RecMaxBallot
	for i := 1; i <= impl.RecMaxSlots; i++ {
		r.Acks = append(r.Acks, impl.RecAck{Index: i, From: []int{1, 2, 3, 4, 5}})
	}
	return r
}

func tryingRecorder() impl.Recorder {
	r := fullRecorder()
	r.Trying, r.Ballot = true, impl.RecMaxBallot
	r.Yes = []int{1, 2, 3, 4, 5}
	r.Best = fullSlots(impl.RecMaxSlots, impl.RecMaxBallot)
	return r
}

func downRecorder() impl.Recorder {
	r := fullRecorder()
	r.Up, r.Held, r.Wishes, r.Heard = false, nil, nil, 0
	return r
}

func TestValidRecorders(t *testing.T) {
	cases := map[string]func() impl.Recorder{
		"quiet, every limit met":   fullRecorder,
		"leads, every limit met":   leadingRecorder,
		"tries, every limit met":   tryingRecorder,
		"down, every limit met":    downRecorder,
		"down, a disk that is not": func() impl.Recorder { r := downRecorder(); r.Disk = impl.RecDisk{}; return r },
		"leads under ballot 1":     func() impl.Recorder { r := leadingRecorder(); r.Ballot, r.Acks = 1, nil; return r },
		"tries with no promise":    func() impl.Recorder { r := tryingRecorder(); r.Yes, r.Best = nil, nil; return r },
		"acks that leave gaps": func() impl.Recorder {
			r := leadingRecorder()
			r.Acks = []impl.RecAck{{Index: 2}, {Index: 60, From: []int{1, 5}}}
			return r
		},
		"the shortest wishes":    func() impl.Recorder { r := fullRecorder(); r.Wishes = []string{"b", "a", "\x00"}; return r },
		"empty lists, not nil":   func() impl.Recorder { r := downRecorder(); r.Held = []impl.RecMessage{}; r.Yes = []int{}; return r },
		"safe beyond the disk":   func() impl.Recorder { r := fullRecorder(); r.Disk = impl.RecDisk{}; return r },
		"a wish that is known":   func() impl.Recorder { r := fullRecorder(); r.Wishes = []string{"t0"}; return r },
		"best above the promise": func() impl.Recorder { r := tryingRecorder(); r.Disk = impl.RecDisk{Promise: 7}; r.Ballot = 7; return r },
	}
	for name, build := range cases {
		r := build()
		if !impl.RecValid(r) {
			t.Errorf("%s: not valid", name)
		}
		if !reflect.DeepEqual(r, build()) {
			t.Errorf("%s: the argument was changed", name)
		}
	}
}

type spoil struct {
	name string
	do   func(r *impl.Recorder)
}

func checkSpoils(t *testing.T, sound func() impl.Recorder, spoils []spoil) {
	t.Helper()
	if !impl.RecValid(sound()) {
		t.Fatal("not valid ahead of the spoils")
	}
	for _, s := range spoils {
		r := sound()
		s.do(&r)
		if impl.RecValid(r) {
			t.Errorf("%s: valid", s.name)
		}
	}
}

func TestNotValidInAnyRole(t *testing.T) {
	spoils := []spoil{
		{"of 0", func(r *impl.Recorder) { r.Of = 0 }},
		{"of below 0", func(r *impl.Recorder) { r.Of = -5 }},
		{"of above", func(r *impl.Recorder) { r.Of = impl.RecMaxRecorders + 1 }},
		{"number 0", func(r *impl.Recorder) { r.Number, r.Held = 0, nil }},
		{"number below 0", func(r *impl.Recorder) { r.Number, r.Held = -1, nil }},
		{"number above", func(r *impl.Recorder) { r.Number, r.Held = 6, nil }},
		{"safe is not ok", func(r *impl.Recorder) { r.Safe.Known = -1 }},
		{"safe has a slot above", func(r *impl.Recorder) { r.Safe.Promise-- }},
		{"disk is not ok", func(r *impl.Recorder) { r.Disk.Slots[3].Text = textOf(101) }},
		{"disk knows an empty slot", func(r *impl.Recorder) { r.Disk.Slots[59] = impl.RecSlot{} }},
		{"heard below 0", func(r *impl.Recorder) { r.Heard = -1 }},
		{"yes with 0", func(r *impl.Recorder) { r.Yes = []int{0, 1} }},
		{"yes below 0", func(r *impl.Recorder) { r.Yes = []int{-1} }},
		{"yes above of", func(r *impl.Recorder) { r.Yes = []int{1, 6} }},
		{"yes twice", func(r *impl.Recorder) { r.Yes = []int{1, 1} }},
		{"yes descending", func(r *impl.Recorder) { r.Yes = []int{2, 1} }},
		{"best with a text under 0", func(r *impl.Recorder) { r.Best = []impl.RecSlot{{Text: "a"}} }},
		{"best with a slot too many", func(r *impl.Recorder) { r.Best = fullSlots(61, 1) }},
		{"acks from 0", func(r *impl.Recorder) { r.Acks = []impl.RecAck{{Index: 0}} }},
		{"leads and tries", func(r *impl.Recorder) {
			r.Lead, r.Trying, r.Yes, r.Best, r.Acks, r.Ballot = true, true, nil, nil, nil, 1
		}},
		{"a ballot below 0", func(r *impl.Recorder) { r.Ballot = -1 }},
		{"a ballot above the promise", func(r *impl.Recorder) { r.Ballot = impl.RecMaxBallot + 1 }},
	}
	for _, sound := range []func() impl.Recorder{fullRecorder, leadingRecorder, tryingRecorder, downRecorder} {
		checkSpoils(t, sound, spoils)
	}
	if impl.RecValid(impl.Recorder{}) {
		t.Error("nothing is valid")
	}
}

func TestNotValidHeldAndWishes(t *testing.T) {
	checkSpoils(t, fullRecorder, []spoil{
		{"heard above", func(r *impl.Recorder) { r.Heard++ }},
		{"held one too many", func(r *impl.Recorder) { r.Held = append(r.Held, fullMessage()) }},
		{"held is not ok", func(r *impl.Recorder) { r.Held[399].Index = 61 }},
		{"held to nobody", func(r *impl.Recorder) { r.Held[0].To = 6 }},
		{"held from another", func(r *impl.Recorder) { r.Held[200].From = 4 }},
		{"held to one beyond of", func(r *impl.Recorder) {
			r.Number, r.Of = 1, 3
			r.Held = []impl.RecMessage{{Kind: impl.RecBeat, From: 1, To: 4}}
		}},
		{"wishes one too many", func(r *impl.Recorder) { r.Wishes = append(r.Wishes, "one") }},
		{"a wish twice", func(r *impl.Recorder) { r.Wishes[19] = r.Wishes[0] }},
		{"an empty wish", func(r *impl.Recorder) { r.Wishes[19] = "" }},
		{"a wish too long", func(r *impl.Recorder) { r.Wishes[19] = textOf(impl.RecMaxText + 1) }},
	})
}

func TestNotValidQuiet(t *testing.T) {
	spoils := []spoil{
		{"quiet with a ballot", func(r *impl.Recorder) { r.Ballot = 1 }},
		{"quiet with a yes", func(r *impl.Recorder) { r.Yes = []int{1} }},
		{"quiet with best", func(r *impl.Recorder) { r.Best = []impl.RecSlot{{}} }},
		{"quiet with acks", func(r *impl.Recorder) { r.Acks = []impl.RecAck{{Index: 1}} }},
	}
	checkSpoils(t, fullRecorder, spoils)
	checkSpoils(t, downRecorder, spoils)
}

func TestNotValidLeading(t *testing.T) {
	checkSpoils(t, leadingRecorder, []spoil{
		{"leads under no ballot", func(r *impl.Recorder) { r.Ballot = 0 }},
		{"leads above its promise", func(r *impl.Recorder) { r.Disk = impl.RecDisk{Promise: impl.RecMaxBallot - 1} }},
		{"leads with a yes", func(r *impl.Recorder) { r.Yes = []int{1} }},
		{"leads with best", func(r *impl.Recorder) { r.Best = []impl.RecSlot{{}} }},
		{"an ack beyond the book", func(r *impl.Recorder) { r.Acks = append(r.Acks, impl.RecAck{Index: 61}) }},
		{"an ack below the book", func(r *impl.Recorder) { r.Acks[0].Index = -1 }},
		{"an ack twice", func(r *impl.Recorder) { r.Acks[1].Index = 1 }},
		{"acks descending", func(r *impl.Recorder) { r.Acks[0], r.Acks[1] = r.Acks[1], r.Acks[0] }},
		{"an ack of nobody", func(r *impl.Recorder) { r.Acks[59].From = []int{0} }},
		{"an ack of one too many", func(r *impl.Recorder) { r.Acks[59].From = []int{6} }},
		{"an ack's from twice", func(r *impl.Recorder) { r.Acks[30].From = []int{2, 2} }},
		{"an ack's from descending", func(r *impl.Recorder) { r.Acks[30].From = []int{3, 2} }},
		{"the role is taken away", func(r *impl.Recorder) { r.Lead = false }},
		{"a leader that is down", func(r *impl.Recorder) { r.Up, r.Held, r.Wishes, r.Heard = false, nil, nil, 0 }},
	})
}

func TestNotValidTrying(t *testing.T) {
	checkSpoils(t, tryingRecorder, []spoil{
		{"tries under no ballot", func(r *impl.Recorder) { r.Ballot = 0 }},
		{"tries above its promise", func(r *impl.Recorder) { r.Disk = impl.RecDisk{Promise: impl.RecMaxBallot - 1} }},
		{"tries with acks", func(r *impl.Recorder) { r.Acks = []impl.RecAck{{Index: 1}} }},
		{"the role is taken away", func(r *impl.Recorder) { r.Trying = false }},
		{"the other role", func(r *impl.Recorder) { r.Trying, r.Lead = false, true }},
		{"one who tries and is down", func(r *impl.Recorder) { r.Up, r.Held, r.Wishes, r.Heard = false, nil, nil, 0 }},
	})
}

func TestNotValidDown(t *testing.T) {
	checkSpoils(t, downRecorder, []spoil{
		{"down with held", func(r *impl.Recorder) { r.Held = []impl.RecMessage{fullMessage()} }},
		{"down with a wish", func(r *impl.Recorder) { r.Wishes = []string{"a"} }},
		{"down and has heard", func(r *impl.Recorder) { r.Heard = 1 }},
		{"down and leads", func(r *impl.Recorder) { r.Lead, r.Ballot = true, 1 }},
		{"down and tries", func(r *impl.Recorder) { r.Trying, r.Ballot = true, 1 }},
	})
}
