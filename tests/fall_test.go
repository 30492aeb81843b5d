package tests

import (
	"testing"

	"loop.example/wharfquorum/impl"
)

// fallen says the document's words of RecFall.
func fallen(r impl.Recorder) impl.Recorder {
	return impl.Recorder{Number: r.Number, Of: r.Of, Safe: r.Safe, Disk: r.Safe}
}

func risen(r impl.Recorder) impl.Recorder {
	r.Up = true
	return r
}

// manyRecorders are recorders in every role, Up and down, new and full.
func manyRecorders() map[string]impl.Recorder {
	many := roles()
	many["a new one"] = impl.RecNew(1, 1)
	many["a new one of five"] = impl.RecNew(5, 5)
	many["full and quiet"] = fullRecorder()
	many["full and leads"] = leadingRecorder()
	many["full and tries"] = tryingRecorder()
	many["full and down"] = downRecorder()
	many["never up"] = impl.Recorder{Number: 2, Of: 3}
	many["down, the disk beyond safe"] = impl.Recorder{Number: 2, Of: 3, Safe: quietOne().Safe, Disk: quietOne().Disk}
	many["down, the disk behind safe"] = impl.Recorder{Number: 2, Of: 3, Safe: quietOne().Disk, Disk: quietOne().Safe}
	many["nothing is safe"] = amended(leadingOne(), func(r *impl.Recorder) { r.Safe = impl.RecDisk{} })
	many["safe beyond the disk"] = amended(quietOne(), func(r *impl.Recorder) { r.Safe, r.Disk = r.Disk, impl.RecDisk{} })
	return many
}

func TestFallAndRise(t *testing.T) {
	for name, r := range manyRecorders() {
		if !impl.RecValid(r) {
			t.Errorf("%s: the recorder of the case is not valid", name)
		}
		fell := checkedCall(t, name, r, impl.RecFall)
		if !sameRecorder(fell, fallen(r)) || !impl.RecValid(fell) {
			t.Errorf("%s falls: %+v", name, fell)
		}
		if again := checkedCall(t, name, fell, impl.RecFall); !sameRecorder(again, fell) {
			t.Errorf("%s falls again: %+v", name, again)
		}
		rose := checkedCall(t, name, r, impl.RecRise)
		if !sameRecorder(rose, risen(r)) || !impl.RecValid(rose) {
			t.Errorf("%s rises: %+v", name, rose)
		}
		back := checkedCall(t, name, fell, impl.RecRise)
		if !sameRecorder(back, risen(fallen(r))) || !impl.RecValid(back) {
			t.Errorf("%s falls and rises: %+v", name, back)
		}
	}
}

func TestRiseOfOneThatIsUp(t *testing.T) {
	for name, r := range roles() {
		if got := checkedCall(t, name, r, impl.RecRise); !sameRecorder(got, r) {
			t.Errorf("%s: %+v", name, got)
		}
	}
}

func TestFallAndRiseOfOneThatIsNotValid(t *testing.T) {
	for name, r := range notValid() {
		if got := checkedCall(t, name, r, impl.RecFall); !sameRecorder(got, impl.Recorder{}) {
			t.Errorf("%s falls: %+v", name, got)
		}
		if got := checkedCall(t, name, r, impl.RecRise); !sameRecorder(got, impl.Recorder{}) {
			t.Errorf("%s rises: %+v", name, got)
		}
	}
}

// What a tick wrote and told nobody yet is lost by a fall; what it made safe is not.
func TestFallBetweenTicks(t *testing.T) {
	r := heard(quietOne(), 10)
	tried, _ := impl.RecTick(r)
	if f := impl.RecFall(tried); f.Disk.Promise != 6 || f.Disk.Known != 2 || len(f.Disk.Slots) != 4 || len(f.Held) != 0 {
		t.Errorf("ahead of the next tick: %+v", f)
	}
	asked, _ := impl.RecTick(tried)
	if f := impl.RecFall(asked); f.Disk.Promise != 8 || f.Trying || len(f.Yes) != 0 {
		t.Errorf("behind the next tick: %+v", f)
	}
	back := impl.RecRise(impl.RecFall(tried))
	for range 11 {
		back, _ = impl.RecTick(back)
	}
	if !back.Trying || back.Ballot != 8 || len(back.Held) != 2 {
		t.Errorf("the ballot that nobody was told of is tried again: %+v", back)
	}
}
