package tests

import (
	"fmt"
	"math/rand"
	"regexp"
	"strconv"
	"strings"
	"testing"

	"loop.example/wharfquorum/impl"
)

var linePattern = regexp.MustCompile(`^(?:(tick|fixed)|(new|bring|double|lose|fall|rise|calm|show) (0|[1-9][0-9]{0,3})|(wish) (0|[1-9][0-9]{0,3}) ([^ ]+))$`)

// modelSession is chapter 8 told plainly, by the functions of the chapters ahead of it.
func modelSession(text string) string {
	lines := strings.SplitAfter(text, "\n")
	if lines[len(lines)-1] == "" {
		lines = lines[:len(lines)-1]
	}
	if len(text) > impl.RecMaxSession || len(lines) > impl.RecMaxLines {
		return "too long\n"
	}
	w, all := impl.RecNewWorld(3), ""
	for _, line := range lines {
		all += modelLine(&w, strings.TrimSuffix(line, "\n")) + "\n"
	}
	return all
}

func modelLine(w *impl.RecWorld, line string) string {
	parts := linePattern.FindStringSubmatch(line)
	if parts == nil {
		return "bad"
	}
	word := parts[1] + parts[2] + parts[4]
	n, _ := strconv.Atoi(parts[3] + parts[5])
	switch word {
	case "wish", "fall", "rise", "show":
		if n < 1 || n > len(w.Recorders) {
			return "bad"
		}
	}
	event := func(kind int, a int) string {
		*w = impl.RecDo(*w, impl.RecEvent{Kind: kind, A: a, Text: parts[6]})
		return fmt.Sprint(len(w.Flight))
	}
	switch word {
	case "new":
		if n < 1 || n > impl.RecMaxRecorders {
			return "no"
		}
		*w = impl.RecNewWorld(n)
		return "ok"
	case "calm":
		if n > 200 {
			return "no"
		}
		*w = impl.RecCalm(*w, n)
		return fmt.Sprint(len(w.Flight))
	case "tick":
		return event(impl.RecEvTick, 0)
	case "bring":
		return event(impl.RecEvBring, n)
	case "double":
		return event(impl.RecEvDouble, n)
	case "lose":
		return event(impl.RecEvLose, n)
	case "fall":
		return event(impl.RecEvFall, n-1)
	case "rise":
		return event(impl.RecEvRise, n-1)
	case "wish":
		return event(impl.RecEvWish, n-1)
	case "show":
		return modelShow(w.Recorders[n-1])
	}
	return modelFixedLine(*w)
}

func modelShow(r impl.Recorder) string {
	parts := []string{"ballot", fmt.Sprint(r.Disk.Promise)}
	switch {
	case !r.Up:
		parts = append(parts, "down")
	case r.Lead:
		parts = append(parts, "leads")
	case r.Trying:
		parts = append(parts, "tries")
	}
	parts = append(parts, "knows", fmt.Sprint(r.Disk.Known))
	for _, s := range r.Disk.Slots[:r.Disk.Known] {
		if s.Text == "" {
			s.Text = "-"
		}
		parts = append(parts, s.Text)
	}
	return strings.Join(parts, " ")
}

func modelFixedLine(w impl.RecWorld) string {
	parts := []string{fmt.Sprint(len(w.Fixed))}
	for _, f := range w.Fixed {
		parts = append(parts, fmt.Sprintf("%d:%s", f.Index, f.Text))
	}
	return strings.Join(append(parts, map[bool]string{true: "agree", false: "differ"}[impl.RecAgree(w)]), " ")
}

// someNumber is mostly one that means something, and now and then one that does not.
func someNumber(rnd *rand.Rand, usual int) string {
	switch rnd.Intn(25) {
	case 0:
		return []string{"9999", "10000", "01", "-1", "+1", "", "x", "200", "201", "600"}[rnd.Intn(10)]
	case 1:
		return strconv.Itoa(rnd.Intn(12))
	}
	return strconv.Itoa(rnd.Intn(usual + 1))
}

// someLine is a line as one would write it, the numbers now and then beyond what is there.
func someLine(rnd *rand.Rand) string {
	recorder := func() string {
		if often(rnd, 90) {
			return strconv.Itoa(1 + rnd.Intn(3))
		}
		return someNumber(rnd, 6)
	}
	switch k := rnd.Intn(100); {
	case k < 18:
		return "tick"
	case k < 36:
		return "bring " + someNumber(rnd, 4)
	case k < 41:
		return "double " + someNumber(rnd, 6)
	case k < 47:
		return "lose " + someNumber(rnd, 6)
	case k < 52:
		return "fall " + recorder()
	case k < 60:
		return "rise " + recorder()
	case k < 70:
		return "wish " + recorder() + " " + []string{"a", "b", "c", "-", "\xff", "w" + strconv.Itoa(rnd.Intn(9)), textOf(99 + rnd.Intn(3))}[rnd.Intn(7)]
	case k < 80:
		return "calm " + someNumber(rnd, 14)
	case k < 90:
		return "show " + recorder()
	case k < 99:
		return "fixed"
	}
	return "new " + someNumber(rnd, 6)
}

// spoilt is a line with a byte taken out, put in or put in its place.
func spoilt(rnd *rand.Rand, line string) string {
	at := rnd.Intn(len(line) + 1)
	put := string([]byte{[]byte(" \t\r0159-axA\x00\xff")[rnd.Intn(13)]})
	switch rnd.Intn(3) {
	case 0:
		return line[:at] + put + line[at:]
	case 1:
		return line[:at] + put + line[min(at+1, len(line)):]
	}
	return line[:at] + line[min(at+1, len(line)):]
}

// someSession is of some lines, good and bad ones among each other, at times on a ground that few lines drawn at random lead to.
func someSession(rnd *rand.Rand, most int) string {
	spoils := rnd.Intn(30)
	text := ""
	if list := grounds(); often(rnd, 40) {
		text = list[rnd.Intn(len(list))].lines
	}
	for range rnd.Intn(most + 1) {
		line := someLine(rnd)
		if often(rnd, spoils) {
			line = spoilt(rnd, line)
		}
		text += line + "\n"
	}
	if often(rnd, 30) {
		text = strings.TrimSuffix(text, "\n")
	}
	return text
}

// seen counts what the answers of the drawn sessions tell, so that they tell enough.
func seen(counts map[string]int, answers string) {
	for _, answer := range strings.Split(answers, "\n") {
		for _, word := range []string{"bad", "no", "ok"} {
			if answer == word {
				counts[word]++
			}
		}
		for _, part := range []string{" down ", " leads ", " tries ", " - ", ":", " 3:", ": "} {
			if strings.Contains(answer, part) {
				counts[part]++
			}
		}
	}
}

func TestSomeSessions(t *testing.T) {
	rnd := rand.New(rand.NewSource(11))
	counts := map[string]int{}
	for run := range 1200 {
		text := someSession(rnd, 120)
		got := impl.RecSession(text)
		if want := modelSession(text); got != want {
			t.Fatalf("run %d: %q:\n got  %q\n want %q", run, text, got, want)
		}
		if again := impl.RecSession(text); again != got {
			t.Fatalf("run %d: %q is answered %q, and then %q", run, text, got, again)
		}
		if strings.Contains(got, "differ") {
			t.Errorf("run %d: no agreement: %q: %q", run, text, got)
		}
		seen(counts, got)
	}
	for what, least := range map[string]int{"bad": 5000, "no": 100, "ok": 500, " down ": 300, " leads ": 500, " tries ": 200, " - ": 100, ":": 1000, " 3:": 100, ": ": 5} {
		if counts[what] < least {
			t.Errorf("%q comes up %d times: too few to tell (%v)", what, counts[what], counts)
		}
	}
}

// firstLines are the lines of a text, each with its newline, the first count of them.
func firstLines(text string, count int) string {
	return strings.Join(strings.SplitAfterN(text, "\n", count+1)[:count], "")
}

// Promise 11: the answers to the first lines are the first answers to the whole.
func TestFirstAnswersDoNotHangOnWhatFollows(t *testing.T) {
	rnd := rand.New(rand.NewSource(12))
	held := 0
	for run := range 120 {
		text, other := someSession(rnd, 60)+"\n", someSession(rnd, 40)
		whole := impl.RecSession(text)
		for count := 0; count <= strings.Count(text, "\n"); count++ {
			head, want := firstLines(text, count), firstLines(whole, count)
			if got := impl.RecSession(head); got != want {
				t.Fatalf("run %d: %q is answered %q, and %q with lines behind it", run, head, got, want)
			}
			cut := strings.TrimSuffix(head, "\n")
			if got := impl.RecSession(cut); !strings.HasSuffix(cut, "\n") && cut != "" && got != want {
				t.Fatalf("run %d: %q is answered %q, and %q with lines behind it", run, cut, got, want)
			}
			if got := impl.RecSession(head + other); firstLines(got, count) != want {
				t.Fatalf("run %d: %q with %q behind it begins with %q, not %q", run, head, other, got, want)
			}
			held++
		}
		head := firstLines(text, strings.Count(text, "\n"))
		if got := impl.RecSession(head + strings.Repeat("\n", impl.RecMaxLines)); len(head) > 0 && got != "too long\n" {
			t.Fatalf("run %d: too many lines: %q", run, got)
		}
	}
	if held < 2500 {
		t.Errorf("%d texts cut: too few to tell", held)
	}
}

// someBytes are any bytes, newlines and spaces often among them.
func someBytes(rnd *rand.Rand, most int) string {
	list := make([]byte, rnd.Intn(most+1))
	usual := []byte("\n\n tickbrngwshol0123")
	for i := range list {
		list[i] = byte(rnd.Intn(256))
		if often(rnd, 50) {
			list[i] = usual[rnd.Intn(len(usual))]
		}
	}
	return string(list)
}

func linesIn(text string) int {
	count := strings.Count(text, "\n")
	if text != "" && !strings.HasSuffix(text, "\n") {
		count++
	}
	return count
}

func TestSessionsOfAnyBytes(t *testing.T) {
	rnd := rand.New(rand.NewSource(14))
	long, answered := 0, 0
	for run := range 4000 {
		text := someBytes(rnd, []int{3, 12, 60, 400, 12000}[run%5])
		got := impl.RecSession(text)
		switch lines := linesIn(text); {
		case lines > impl.RecMaxLines:
			long++
			if got != "too long\n" {
				t.Fatalf("%d lines: %.80q", lines, got)
			}
		case linesIn(got) != lines || got != "" && !strings.HasSuffix(got, "\n"):
			t.Fatalf("%q has %d lines, and is answered %q", text, lines, got)
		case got != modelSession(text):
			t.Fatalf("%q is answered %q, not %q", text, got, modelSession(text))
		default:
			answered++
		}
	}
	if long < 200 || answered < 2500 {
		t.Errorf("%d too long, %d answered: too few to tell", long, answered)
	}
}

// A session of each single byte, and of each byte behind, ahead of and within a good line.
func TestSessionsOfEachByte(t *testing.T) {
	for value := range 256 {
		b := string([]byte{byte(value)})
		for _, text := range []string{b, b + b, b + "tick", "tick" + b, "ti" + b + "ck", "bring" + b + "0", "bring " + b, "bring 1" + b, "bring " + b + "1", "wish 1 " + b + "\ncalm 20\nshow 1\nfixed", "wish " + b + " a\ncalm 20\nfixed", "show " + b, "tick\n" + b + "\ntick"} {
			if got, want := impl.RecSession(text), modelSession(text); got != want {
				t.Errorf("%q: %q, not %q", text, got, want)
			}
		}
	}
}

// No session leaves anything behind for the next one, nor for one beside it.
func TestSessionsBesideEachOther(t *testing.T) {
	rnd := rand.New(rand.NewSource(15))
	texts, want := make([]string, 12), make([]string, 12)
	for i := range texts {
		texts[i] = someSession(rnd, 60)
		want[i] = impl.RecSession(texts[i])
	}
	got := make(chan string)
	for i := range texts {
		go func() {
			for range 10 {
				if answer := impl.RecSession(texts[i]); answer != want[i] {
					got <- fmt.Sprintf("%q is answered %q beside others, not %q", texts[i], answer, want[i])
					return
				}
			}
			got <- ""
		}()
	}
	for range texts {
		if fault := <-got; fault != "" {
			t.Error(fault)
		}
	}
}

func TestSessionOfManyCalmRounds(t *testing.T) {
	lines, _ := wishes(1, textOf(40), 1, 20).words()
	calm := strings.Repeat("calm 200\n", impl.RecMaxLines-20)
	if got, want := impl.RecSession(lines+calm), strings.Repeat("0\n", impl.RecMaxLines); got != want {
		t.Errorf("%.80q", got)
	}
}
