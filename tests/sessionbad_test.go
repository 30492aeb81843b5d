package tests

import (
	"fmt"
	"slices"
	"strings"
	"testing"

	"loop.example/wharfquorum/impl"
)

// ground is a session that leads to a world, and how many recorders are there.
type ground struct {
	lines     string
	recorders int
}

func grounds() []ground {
	gapLines, _ := gap().words()
	return []ground{
		{"", 3},
		{"calm 8\ntick\n", 3},
		{"wish 1 a\nwish 2 b\ncalm 20\ntick\n", 3},
		{"new 1\nwish 1 a\ncalm 12\nwish 1 b\n", 1},
		{"new 5\nwish 5 a\ncalm 16\nfall 2\ntick\ndouble 0\nwish 3 c\n", 5},
		{gapLines, 3},
	}
}

// looks are lines whose answers tell of a world, and of what it leads to.
func looks(recorders int) string {
	text := "fixed\n"
	for range 2 {
		for number := 1; number <= recorders; number++ {
			text += fmt.Sprint("show ", number, "\n")
		}
		text += "tick\nbring 0\nlose 0\ncalm 12\nfixed\n"
	}
	return text
}

// checkLeaves holds the answer to each of the lines, and that the line leaves everything as it was.
func checkLeaves(t *testing.T, answer string, lines ...string) {
	t.Helper()
	for _, g := range grounds() {
		look := looks(g.recorders)
		without := impl.RecSession(g.lines + look)
		cut := len(impl.RecSession(g.lines))
		want := without[:cut] + answer + "\n" + without[cut:]
		for _, line := range lines {
			if got := impl.RecSession(g.lines + line + "\n" + look); got != want {
				t.Errorf("%q behind %q:\n got  %q\n want %q", line, g.lines, got, want)
			}
		}
	}
}

func checkBad(t *testing.T, lines ...string) {
	t.Helper()
	for _, line := range lines {
		if got := impl.RecSession(line + "\n"); got != "bad\n" {
			t.Errorf("%q alone: %q", line, got)
		}
	}
	checkLeaves(t, "bad", lines...)
}

func TestSessionNo(t *testing.T) {
	checkLeaves(t, "no", "new 0", "new 6", "new 7", "new 9999", "calm 201", "calm 999", "calm 1000", "calm 9999")
}

// goodLines has a line of each kind, good in a world of any size.
func goodLines() []string {
	return []string{"new 3", "wish 1 a", "tick", "bring 0", "double 0", "lose 0", "fall 1", "rise 1", "calm 1", "show 1", "fixed"}
}

func TestGoodLinesAreGood(t *testing.T) {
	for _, line := range goodLines() {
		if got := impl.RecSession(line); got == "bad\n" || strings.Count(got, "\n") != 1 {
			t.Errorf("%q: %q", line, got)
		}
	}
}

func TestSessionBadWords(t *testing.T) {
	var lines []string
	for _, good := range goodLines() {
		words := strings.Split(good, " ")
		first, rest := words[0], good[len(words[0]):]
		lines = append(lines, strings.ToUpper(first)+rest, strings.ToUpper(first[:1])+first[1:]+rest, first+"s"+rest, first[1:]+rest, first+"\x00"+rest)
		lines = append(lines, good+" ", good+"  ", good+" x", good+" 1", good+" 1 2", good+" "+good, "x "+good, "1 "+good)
		for i := range words {
			spaced := slices.Clone(words)
			spaced[i] = " " + spaced[i]
			lines = append(lines, strings.Join(spaced, " "))
			if len(words) > 1 {
				lines = append(lines, strings.Join(slices.Delete(slices.Clone(words), i, i+1), " "))
			}
		}
	}
	checkBad(t, lines...)
}

func TestSessionOtherWhiteSpace(t *testing.T) {
	lines := []string{"wish 1\ta", "wish\t1 a", "wish 1 a b", "wish 1 a ", "wish 1  a", "wish  1 a", "wish 1 ", "wish 1", "wish ", "wish", "wish a 1", "wish a"}
	for _, good := range goodLines() {
		for _, white := range []string{"\t", "\r", "\v", "\f", "\x00", "\u0085", "\u00a0", "\u2003", "\u2028", "\ufeff"} {
			lines = append(lines, white+good, white+" "+good, strings.Replace(good, " ", white, 1)+white, good+" "+white)
			// A wish may have such a byte in its text.
			if !strings.HasPrefix(good, "wish") {
				lines = append(lines, good+white)
			}
		}
	}
	checkBad(t, lines...)
}

func TestSessionWordsThatAreNone(t *testing.T) {
	checkBad(t, "", " ", "  ", "\t", "\r", "\x00", "zap", "zap 1", "zap 1 a", "help", "bad", "ok", "no", "too long", "0", "1", "-", "tic", "ticks", "tick1", "1tick", "tick,", "tick;tick", "#tick", "new3", "calm20", "show1", "wish1 a", "fixed.", "news 1", "ne 1", "RecSession", "agree", "leads",
		"\xff", "\xff\xfe 1", "tick\xff", "show \xff", "wish \xff a", "ｔｉｃｋ", "ti\u0307ck", "tıck", "tick\u200b")
}

func TestSessionBadNumbers(t *testing.T) {
	numbers := []string{
		"00", "01", "001", "0001", "0000", "00000", "00001", "10000", "12345", "99999", "100000", "4294967297", "18446744073709551617", strings.Repeat("1", 400),
		"-1", "+1", "-0", "+0", "--1", "-", "+", "-01", "-999", "+999",
		"x", "1x", "x1", "1.", "1.0", ".1", "1,", "1e0", "1e1", "0x1", "0b1", "0o1", "1_0", "1_000", "a", "A", "I", "one", "'1'", "\"1\"", "1\x00", "\x001", "1\xff", "١", "１", "²", "1:", "/", ":", "1\t", "\t1", "1\r",
	}
	var lines []string
	for _, number := range numbers {
		for _, word := range []string{"new", "bring", "double", "lose", "fall", "rise", "calm", "show"} {
			lines = append(lines, word+" "+number)
		}
		lines = append(lines, "wish "+number+" a")
	}
	checkBad(t, lines...)
}

func TestSessionRecordersThatAreNotThere(t *testing.T) {
	for n := 1; n <= impl.RecMaxRecorders; n++ {
		begin := fmt.Sprint("new ", n, "\n")
		for number := 0; number <= impl.RecMaxRecorders+1; number++ {
			for _, line := range []string{"wish %d a", "fall %d", "rise %d", "show %d"} {
				line = fmt.Sprintf(line, number)
				bad := impl.RecSession(begin+line) == "ok\nbad\n"
				if there := 1 <= number && number <= n; bad == there {
					t.Errorf("%q of %d recorders: bad is %v", line, n, bad)
				}
			}
		}
	}
	checkBad(t, "fall 0", "fall 6", "rise 0", "rise 6", "show 0", "show 6", "wish 0 a", "wish 6 a", "fall 9999", "rise 9999", "show 9999", "show 10", "fall 11")
}

func TestSessionLines(t *testing.T) {
	texts := map[string]string{
		"":                               "",
		"\n":                             "bad\n",
		"\n\n":                           "bad\nbad\n",
		"\n\n\n":                         "bad\nbad\nbad\n",
		"tick":                           "0\n",
		"tick\n":                         "0\n",
		"tick\n\n":                       "0\nbad\n",
		"\ntick":                         "bad\n0\n",
		"\n\ntick\n\n":                   "bad\nbad\n0\nbad\n",
		"tick\ntick":                     "0\n0\n",
		"tick\n\ntick":                   "0\nbad\n0\n",
		"tick\n ":                        "0\nbad\n",
		" ":                              "bad\n",
		"\r":                             "bad\n",
		"\r\n":                           "bad\n",
		"\n\r":                           "bad\nbad\n",
		"tick\r\ntick\r\n":               "bad\nbad\n",
		"tick\rtick":                     "bad\n",
		"tick\ftick\vtick":               "bad\n",
		"tick\u2028tick\u0085tick":       "bad\n",
		"tick\x00\ntick":                 "bad\n0\n",
		"tick\\ntick":                    "bad\n",
		"\xff\n\xc3\n\xed\xa0\x80\ntick": "bad\nbad\nbad\n0\n",
		"\xc3\ntick":                     "bad\n0\n",
	}
	for text, want := range texts {
		if got := impl.RecSession(text); got != want {
			t.Errorf("%q: %q, not %q", text, got, want)
		}
	}
	for count := range 6 {
		if got, want := impl.RecSession(strings.Repeat("\n", count)), strings.Repeat("bad\n", count); got != want {
			t.Errorf("%d newlines: %q", count, got)
		}
	}
}

const tooLong = "too long\n"

func TestSessionBytes(t *testing.T) {
	most := impl.RecMaxSession
	texts := map[string]string{
		textOf(most):                                 "bad\n",
		textOf(most-1) + "\n":                        "bad\n",
		textOf(most) + "\n":                          tooLong,
		textOf(most + 1):                             tooLong,
		textOf(10 * most):                            tooLong,
		strings.Repeat(" ", most):                    "bad\n",
		strings.Repeat(" ", most+1):                  tooLong,
		"tick\n" + textOf(most-5):                    "0\nbad\n",
		"tick\n" + textOf(most-4):                    tooLong,
		"wish 1 " + textOf(most-7):                   "0\n",
		"wish 1 " + textOf(most-6):                   tooLong,
		"tick\n" + strings.Repeat("\xff", most-5):    "0\nbad\n",
		"tick\n" + strings.Repeat("\xff", most-4):    tooLong,
		strings.Repeat("é", most/2):                  "bad\n",
		strings.Repeat("é", most/2) + "x":            tooLong,
		strings.Repeat("\n", most):                   tooLong,
		strings.Repeat("tick "+textOf(44)+"\n", 400): strings.Repeat("bad\n", 400),
		strings.Repeat("tick "+textOf(44)+"\n", 401): tooLong,
	}
	for text, want := range texts {
		if got := impl.RecSession(text); got != want {
			t.Errorf("%d bytes, %.30q: %.60q, not %.60q", len(text), text, got, want)
		}
	}
}

func TestSessionCountOfLines(t *testing.T) {
	most := impl.RecMaxLines
	for _, line := range []string{"", "x", "tick", "fixed", "calm 3"} {
		answer := impl.RecSession(line + "\n")
		for _, count := range []int{most - 1, most, most + 1, most + 2, 2 * most} {
			want := strings.Repeat(answer, count)
			if count > most {
				want = tooLong
			}
			if line == "tick" && count <= most {
				want = modelSession(strings.Repeat("tick\n", count))
			}
			text := strings.Repeat(line+"\n", count)
			if got := impl.RecSession(text); got != want {
				t.Errorf("%d lines %q: %.60q, not %.60q", count, line, got, want)
			}
			// Without its newline a last line that is not empty is still one.
			if got := impl.RecSession(strings.TrimSuffix(text, "\n")); line != "" && got != want {
				t.Errorf("%d lines %q, no newline at the end: %.60q, not %.60q", count, line, got, want)
			}
		}
	}
	if got := impl.RecSession(strings.Repeat("x\n", most) + "\n"); got != tooLong {
		t.Errorf("an empty line more: %.60q", got)
	}
	if got := impl.RecSession(strings.Repeat("x\n", most-1) + "\n"); got != strings.Repeat("bad\n", most) {
		t.Errorf("an empty line as the last: %.60q", got)
	}
}
