package tests

import (
	"fmt"
	"slices"
	"testing"

	"loop.example/wharfquorum/impl"
)

// checkWish holds RecWish and a RecWished message, from another or from itself, to the same change of Wishes.
func checkWish(t *testing.T, name string, r impl.Recorder, text string, want []string) {
	t.Helper()
	wished := plain(r)
	wished.Wishes = want
	if got := checkedWish(t, name, r, text); !sameRecorder(got, wished) || !impl.RecValid(got) {
		t.Errorf("%s: wish: %+v", name, got)
	}
	for from := 1; from <= r.Of; from++ {
		m := impl.RecMessage{Kind: impl.RecWished, From: from, To: r.Number, Ballot: 3, Index: 2, Known: 1, Text: text, Slots: fullSlots(2, 1)}
		if got := checkedTake(t, name, r, m); !sameRecorder(got, wished) {
			t.Errorf("%s: wished by %d: %+v", name, from, got)
		}
	}
}

func TestWish(t *testing.T) {
	for role, r := range roles() {
		r.Wishes = []string{"w", "v"}
		added := func(text string) []string { return []string{"w", "v", text} }
		checkWish(t, role+", a new text", r, "n", added("n"))
		checkWish(t, role+", any bytes", r, "\x00 \n\xff", added("\x00 \n\xff"))
		checkWish(t, role+", one space", r, " ", added(" "))
		checkWish(t, role+", the longest", r, textOf(impl.RecMaxText), added(textOf(impl.RecMaxText)))
		checkWish(t, role+", one byte too long", r, textOf(impl.RecMaxText+1), r.Wishes)
		checkWish(t, role+", far too long", r, textOf(100000), r.Wishes)
		checkWish(t, role+", empty", r, "", r.Wishes)
		checkWish(t, role+", the first of them", r, "w", r.Wishes)
		checkWish(t, role+", the last of them", r, "v", r.Wishes)
		checkWish(t, role+", the first known", r, "a", r.Wishes)
		checkWish(t, role+", the last known", r, "b", r.Wishes)
		checkWish(t, role+", the first behind these", r, "c", added("c"))
		checkWish(t, role+", the last behind these", r, "d", added("d"))
		checkWish(t, role+", safe alone has it", r, "old", added("old"))
		checkWish(t, role+", a piece of one", r, "ab", added("ab"))
	}
	checkWish(t, "a new one", impl.RecNew(1, 1), "a", []string{"a"})
	known := amended(quietOne(), func(r *impl.Recorder) { r.Disk.Slots[0].Text, r.Wishes = "", nil })
	checkWish(t, "empty, and known as such", known, "", nil)
	full := amended(quietOne(), func(r *impl.Recorder) {
		r.Disk = impl.RecDisk{Promise: 6, Known: impl.RecMaxSlots, Slots: fullSlots(impl.RecMaxSlots, 6)}
	})
	checkWish(t, "a full book has it last", full, "t59", nil)
	checkWish(t, "a full book has it not", full, "t60", []string{"t60"})
}

func TestWishUpToTheLimit(t *testing.T) {
	r := quietOne()
	var want []string
	for i := range impl.RecMaxWishes {
		want = append(want, fmt.Sprint("wish ", i))
		checkWish(t, want[i], r, want[i], want)
		r = impl.RecWish(r, want[i])
	}
	if len(r.Wishes) != impl.RecMaxWishes || !impl.RecValid(r) {
		t.Fatalf("%d wishes", len(r.Wishes))
	}
	checkWish(t, "one more", r, "one more", want)
	checkWish(t, "one that is there", r, want[3], want)
}

func TestWishOfOneThatIsDown(t *testing.T) {
	down := amended(quietOne(), func(r *impl.Recorder) { r.Up, r.Held, r.Heard = false, nil, 0 })
	for _, r := range []impl.Recorder{down, downRecorder()} {
		for _, text := range []string{"", "n", "a", textOf(impl.RecMaxText), textOf(impl.RecMaxText + 1)} {
			if got := checkedWish(t, "down", r, text); !sameRecorder(got, r) {
				t.Errorf("%q: %+v", text, got)
			}
		}
	}
}

func TestWishOfOneThatIsNotValid(t *testing.T) {
	for name, r := range notValid() {
		for _, text := range []string{"", "n", "a"} {
			if got := checkedWish(t, name, r, text); !sameRecorder(got, impl.Recorder{}) {
				t.Errorf("%s, %q: %+v", name, text, got)
			}
		}
	}
}

func TestBook(t *testing.T) {
	cases := []struct {
		name string
		r    impl.Recorder
		want []string
	}{
		{"a new one", impl.RecNew(1, 3), nil},
		{"two of four slots", quietOne(), []string{"a", "b"}},
		{"one that leads", leadingOne(), []string{"a", "b"}},
		{"one that tries", tryingOne(), []string{"a", "b"}},
		{"nothing known", amended(quietOne(), func(r *impl.Recorder) { r.Disk.Known = 0 }), nil},
		{"all known, one empty", amended(quietOne(), func(r *impl.Recorder) { r.Disk.Known = 4; r.Disk.Slots[2].Text = "" }), []string{"a", "b", "", "d"}},
		{"down", amended(impl.Recorder{Number: 1, Of: 1}, func(r *impl.Recorder) { r.Disk = quietOne().Disk }), []string{"a", "b"}},
	}
	for _, c := range cases {
		if got := impl.RecBook(c.r); !slices.Equal(got, c.want) {
			t.Errorf("%s: %q", c.name, got)
		}
	}
	if got := impl.RecBook(fullRecorder()); len(got) != impl.RecMaxSlots || got[59] != "t59" {
		t.Errorf("a full book: %q", got)
	}
	for name, r := range notValid() {
		if got := impl.RecBook(r); len(got) != 0 {
			t.Errorf("%s: %q", name, got)
		}
	}
}
