package impl

import "slices"

// RecMessage is what recorders send.
type RecMessage struct {
	Kind   int
	From   int
	To     int
	Ballot int
	Index  int
	Known  int
	Text   string
	Slots  []RecSlot
}

// Kinds of messages.
const (
	RecPrepare  = 1
	RecPromised = 2
	RecAccept   = 3
	RecAccepted = 4
	RecBeat     = 5
	RecChosen   = 6
	RecNeed     = 7
	RecWished   = 8
	RecRefuse   = 9
)

// RecAck is who took a slot.
type RecAck struct {
	Index int
	From  []int
}

// Recorder is a recorder.
type Recorder struct {
	Number int
	Of     int
	Up     bool
	Safe   RecDisk
	Disk   RecDisk
	Held   []RecMessage
	Wishes []string
	Lead   bool
	Trying bool
	Ballot int
	Yes    []int
	Best   []RecSlot
	Acks   []RecAck
	Heard  int
}

// role is what a recorder is doing about the lead; each body knows which fields may stand beside it.
type role interface {
	borneOutBy(r Recorder) bool
}

type leadRole struct{}

type tryRole struct{}

type quietRole struct{}

func (leadRole) borneOutBy(r Recorder) bool {
	return within(r.Ballot, 1, r.Disk.Promise) && len(r.Yes) == 0 && len(r.Best) == 0
}

func (tryRole) borneOutBy(r Recorder) bool {
	return within(r.Ballot, 1, r.Disk.Promise) && len(r.Acks) == 0
}

func (quietRole) borneOutBy(r Recorder) bool {
	return r.Ballot == 0 && len(r.Yes) == 0 && len(r.Best) == 0 && len(r.Acks) == 0
}

// RecNew gives a new recorder.
func RecNew(number int, of int) Recorder {
	if !recorderIs(number, of) {
		return Recorder{}
	}
	return Recorder{Number: number, Of: of, Up: true}
}

// RecValid says whether a recorder is valid.
func RecValid(r Recorder) bool {
	return recorderIs(r.Number, r.Of) &&
		RecDiskOk(r.Safe) && RecDiskOk(r.Disk) &&
		heldOk(r) && wishesOk(r.Wishes) && within(r.Heard, 0, RecMaxBallot) &&
		numbersOk(r.Yes, r.Of) && slotsOk(r.Best) && acksOk(r.Acks, r.Of) &&
		!(r.Lead && r.Trying) && roleOf(r).borneOutBy(r) &&
		(r.Up || downOk(r))
}

// RecMessageOk says whether a message is one.
func RecMessageOk(m RecMessage, of int) bool {
	return within(m.Kind, RecPrepare, RecRefuse) &&
		within(m.From, 1, of) && within(m.To, 1, of) &&
		within(m.Ballot, 0, RecMaxBallot) &&
		within(m.Index, 0, RecMaxSlots) && within(m.Known, 0, RecMaxSlots) &&
		len(m.Text) <= RecMaxText && slotsOk(m.Slots)
}

func recorderIs(number int, of int) bool {
	return within(of, 1, RecMaxRecorders) && within(number, 1, of)
}

func roleOf(r Recorder) role {
	if r.Lead {
		return leadRole{}
	}
	if r.Trying {
		return tryRole{}
	}
	return quietRole{}
}

func heldOk(r Recorder) bool {
	if len(r.Held) > RecMaxHeld {
		return false
	}
	for _, m := range r.Held {
		if m.From != r.Number || !RecMessageOk(m, r.Of) {
			return false
		}
	}
	return true
}

func wishesOk(wishes []string) bool {
	if len(wishes) > RecMaxWishes {
		return false
	}
	for i, w := range wishes {
		if !within(len(w), 1, RecMaxText) || slices.Contains(wishes[:i], w) {
			return false
		}
	}
	return true
}

func acksOk(acks []RecAck, of int) bool {
	for _, a := range acks {
		if !numbersOk(a.From, of) {
			return false
		}
	}
	return ascendingWithin(acks, ackIndex, RecMaxSlots)
}

func ackIndex(a RecAck) int {
	return a.Index
}

func numbersOk(numbers []int, of int) bool {
	return ascendingWithin(numbers, itself, of)
}

func itself(n int) int {
	return n
}

// ascendingWithin takes the place before the first as 0, so that ascending alone keeps every key at 1 or more.
func ascendingWithin[T any](list []T, key func(T) int, high int) bool {
	last := 0
	for _, x := range list {
		if !within(key(x), last+1, high) {
			return false
		}
		last = key(x)
	}
	return true
}

func downOk(r Recorder) bool {
	return !r.Lead && !r.Trying && len(r.Held) == 0 && len(r.Wishes) == 0 && r.Heard == 0
}

// copyRecorder copies each list on its own, so that lists which share memory in an argument share none in an answer.
func copyRecorder(r Recorder) Recorder {
	r.Safe.Slots = copyList(r.Safe.Slots)
	r.Disk.Slots = copyList(r.Disk.Slots)
	r.Held = copyMessages(r.Held)
	r.Wishes = copyList(r.Wishes)
	r.Yes = copyList(r.Yes)
	r.Best = copyList(r.Best)
	r.Acks = copyList(r.Acks)
	for i := range r.Acks {
		r.Acks[i].From = copyList(r.Acks[i].From)
	}
	return r
}

func copyMessages(list []RecMessage) []RecMessage {
	copied := copyList(list)
	for i := range copied {
		copied[i].Slots = copyList(copied[i].Slots)
	}
	return copied
}
