package tests

import (
	"fmt"
	"strings"
	"testing"

	"loop.example/wharfquorum/impl"
)

// talk is lines, each with the answer that it is to get.
type talk [][2]string

// words are the lines of a talk, and what they are to be answered.
func (k talk) words() (string, string) {
	var lines, answers strings.Builder
	for _, pair := range k {
		lines.WriteString(pair[0] + "\n")
		answers.WriteString(pair[1] + "\n")
	}
	return lines.String(), answers.String()
}

func checkTalk(t *testing.T, name string, k talk) {
	t.Helper()
	lines, want := k.words()
	got := impl.RecSession(lines)
	if got == want {
		return
	}
	answers := strings.Split(got, "\n")
	for i, pair := range k {
		if i >= len(answers) || answers[i] != pair[1] {
			t.Errorf("%s: line %d: %q is answered %q, not %q", name, i+1, pair[0], answers[min(i, len(answers)-1)], pair[1])
			return
		}
	}
	t.Errorf("%s: %q behind the last answer", name, answers[len(k):])
}

// many is one line so many times, with the same answer each time.
func many(count int, line string, answer string) talk {
	var k talk
	for range count {
		k = append(k, [2]string{line, answer})
	}
	return k
}

// wishes are wishes handed to a recorder, of texts with a number behind.
func wishes(number int, text string, from int, count int) talk {
	var k talk
	for i := range count {
		k = append(k, [2]string{fmt.Sprint("wish ", number, " ", text, from+i), "0"})
	}
	return k
}

func TestSessionExample(t *testing.T) {
	lines := `wish 2 one
calm 20
show 1
show 3
fixed
fall 1
wish 3 two
calm 20
show 2
fixed
rise 1
calm 6
show 1
`
	want := `0
0
ballot 1 leads knows 1 one
ballot 1 knows 1 one
1 1:one agree
0
0
0
ballot 2 leads knows 2 one two
2 1:one 2:two agree
0
0
ballot 2 knows 2 one two
`
	if got := impl.RecSession(lines); got != want {
		t.Errorf("got\n%s\nwant\n%s", got, want)
	}
	if got := impl.RecSession(strings.TrimSuffix(lines, "\n")); got != want {
		t.Errorf("without the last newline\n%s\nwant\n%s", got, want)
	}
}

func TestSessionBeginsWithThree(t *testing.T) {
	checkTalk(t, "the first world", talk{
		{"show 1", "ballot 0 knows 0"}, {"show 2", "ballot 0 knows 0"}, {"show 3", "ballot 0 knows 0"},
		{"show 4", "bad"}, {"fixed", "0 agree"}, {"tick", "0"},
	})
}

func TestSessionNew(t *testing.T) {
	for n := 1; n <= impl.RecMaxRecorders; n++ {
		k := talk{{"wish 1 gone", "0"}, {"calm 20", "0"}, {"tick", "2"}, {"fixed", "1 1:gone agree"}, {fmt.Sprint("new ", n), "ok"}, {"fixed", "0 agree"}, {"bring 0", "0"}}
		for number := 1; number <= n; number++ {
			k = append(k, [2]string{fmt.Sprint("show ", number), "ballot 0 knows 0"})
		}
		k = append(k, [2]string{fmt.Sprint("show ", n+1), "bad"}, [2]string{"wish 1 x", "0"}, [2]string{"calm 30", "0"}, [2]string{"fixed", "1 1:x agree"})
		checkTalk(t, fmt.Sprint("new ", n), k)
	}
	for _, n := range []int{0, impl.RecMaxRecorders + 1, impl.RecMaxRecorders + 2, 10, 99, 9999} {
		checkTalk(t, fmt.Sprint("new ", n), talk{
			{"wish 1 stays", "0"}, {"calm 20", "0"}, {"tick", "2"}, {fmt.Sprint("new ", n), "no"}, {"fixed", "1 1:stays agree"}, {"lose 9", "2"},
			{"show 1", "ballot 1 leads knows 1 stays"}, {"show 3", "ballot 1 knows 1 stays"}, {"show 4", "bad"},
		})
	}
}

func TestSessionWish(t *testing.T) {
	longest := textOf(impl.RecMaxText)
	calmAndFixed := func(want string) talk { return talk{{"calm 40", "0"}, {"fixed", want}} }
	talks := map[string]talk{
		"to each":             append(talk{{"wish 0 z", "bad"}, {"wish 1 a", "0"}, {"wish 3 c", "0"}, {"wish 4 d", "bad"}}, calmAndFixed("2 1:a 2:c agree")...),
		"one alone":           append(talk{{"new 1", "ok"}, {"wish 0 z", "bad"}, {"wish 1 a", "0"}, {"wish 2 b", "bad"}}, calmAndFixed("1 1:a agree")...),
		"the last of five":    append(talk{{"wish 5 z", "bad"}, {"new 5", "ok"}, {"wish 5 a", "0"}, {"wish 6 b", "bad"}}, calmAndFixed("1 1:a agree")...),
		"the longest":         append(talk{{"wish 1 " + longest, "0"}}, calmAndFixed("1 1:"+longest+" agree")...),
		"too long":            append(talk{{"wish 1 " + longest + "x", "0"}}, calmAndFixed("0 agree")...),
		"too long and more":   append(talk{{"wish 1 " + strings.Repeat("y", 15000), "0"}, {"wish 1 b", "0"}}, calmAndFixed("1 1:b agree")...),
		"twice":               append(talk{{"wish 1 a", "0"}, {"wish 1 a", "0"}, {"wish 1 b", "0"}}, calmAndFixed("2 1:a 2:b agree")...),
		"to one that is down": append(talk{{"fall 2", "0"}, {"wish 2 a", "0"}, {"rise 2", "0"}, {"wish 2 b", "0"}}, calmAndFixed("1 1:b agree")...),
		"known":               append(talk{{"wish 1 a", "0"}, {"calm 20", "0"}, {"wish 1 a", "0"}, {"wish 1 b", "0"}}, calmAndFixed("2 1:a 2:b agree")...),
		"a number":            append(talk{{"wish 1 12345", "0"}, {"wish 1 007", "0"}}, calmAndFixed("2 1:12345 2:007 agree")...),
		"words of the table":  append(talk{{"wish 1 wish", "0"}, {"wish 1 -", "0"}, {"wish 1 bad", "0"}}, calmAndFixed("3 1:wish 2:- 3:bad agree")...),
		"any bytes":           append(talk{{"wish 1 \x00\xff\xfe", "0"}, {"wish 1 a\tb\r", "0"}, {"wish 1 \u00a0é", "0"}}, calmAndFixed("3 1:\x00\xff\xfe 2:a\tb\r 3:\u00a0é agree")...),
	}
	for name, k := range talks {
		checkTalk(t, name, k)
	}
}

func TestSessionWishesThatHaveNoRoom(t *testing.T) {
	k := append(talk{{"new 1", "ok"}}, wishes(1, "w", 1, impl.RecMaxWishes+1)...)
	k = append(k, [2]string{"calm 12", "0"})
	want := "20"
	for i := range impl.RecMaxWishes {
		want += fmt.Sprint(" ", i+1, ":w", i+1)
	}
	checkTalk(t, "one wish more", append(k, [2]string{"fixed", want + " agree"}))
}

// A tick of one that has just begun to try sends its RecPrepare to the second and to the third.
func trying(more ...[2]string) talk {
	return append(talk{{"calm 8", "0"}, {"tick", "2"}}, more...)
}

func TestSessionBring(t *testing.T) {
	checkTalk(t, "bring", trying([][2]string{
		{"bring 2", "2"}, {"bring 9999", "2"}, {"show 2", "ballot 0 knows 0"}, {"show 3", "ballot 0 knows 0"},
		{"bring 1", "1"}, {"show 2", "ballot 0 knows 0"}, {"show 3", "ballot 1 knows 0"},
		{"bring 1", "1"}, {"show 2", "ballot 0 knows 0"},
		{"bring 0", "0"}, {"show 2", "ballot 1 knows 0"}, {"bring 0", "0"},
	}...))
}

func TestSessionDouble(t *testing.T) {
	checkTalk(t, "double", trying([][2]string{
		{"double 2", "2"}, {"double 9999", "2"}, {"double 1", "3"}, {"lose 1", "2"}, {"lose 0", "1"},
		{"bring 0", "0"}, {"show 2", "ballot 0 knows 0"}, {"show 3", "ballot 1 knows 0"}, {"double 0", "0"},
	}...))
	checkTalk(t, "double the first", trying([][2]string{
		{"double 0", "3"}, {"bring 2", "2"}, {"show 2", "ballot 1 knows 0"}, {"show 3", "ballot 0 knows 0"},
	}...))
}

func TestSessionLose(t *testing.T) {
	checkTalk(t, "lose", trying([][2]string{
		{"lose 2", "2"}, {"lose 9999", "2"}, {"lose 1", "1"}, {"lose 1", "1"}, {"bring 0", "0"},
		{"show 2", "ballot 1 knows 0"}, {"show 3", "ballot 0 knows 0"}, {"lose 0", "0"},
	}...))
	checkTalk(t, "lose the first", trying([][2]string{
		{"lose 0", "1"}, {"bring 0", "0"}, {"show 2", "ballot 0 knows 0"}, {"show 3", "ballot 1 knows 0"},
	}...))
}

// With twenty places that are not known, a tick of one that leads four others sends 84 messages.
func TestSessionOfAFullFlight(t *testing.T) {
	k := append(talk{{"new 5", "ok"}, {"calm 15", "0"}, {"show 1", "ballot 1 leads knows 0"}}, wishes(1, "w", 1, 20)...)
	for ticks := 1; ticks <= 7; ticks++ {
		k = append(k, [2]string{"tick", fmt.Sprint(84 * ticks)})
	}
	checkTalk(t, "by ticks", append(k, many(3, "tick", "600")...))
	for flight := 588; flight < impl.RecMaxFlight; flight++ {
		k = append(k, [2]string{fmt.Sprint("double ", flight-1), fmt.Sprint(flight + 1)})
	}
	checkTalk(t, "by doubles", append(k, talk{
		{"double 0", "600"}, {"double 599", "600"}, {"tick", "600"},
		{"bring 600", "600"}, {"lose 600", "600"}, {"bring 599", "599"}, {"lose 599", "599"}, {"lose 598", "598"}, {"double 0", "599"},
	}...))
}

// What was not safe is lost by a fall: the ballot of one that has just begun to try.
func TestSessionFallAndRise(t *testing.T) {
	checkTalk(t, "each", talk{
		{"fall 0", "bad"}, {"fall 4", "bad"}, {"rise 0", "bad"}, {"rise 4", "bad"}, {"calm 8", "0"},
		{"fall 1", "0"}, {"show 1", "ballot 0 down knows 0"}, {"show 2", "ballot 0 knows 0"}, {"fall 1", "0"},
		{"fall 3", "0"}, {"show 3", "ballot 0 down knows 0"}, {"show 2", "ballot 0 knows 0"},
		{"rise 1", "0"}, {"show 1", "ballot 0 knows 0"}, {"show 3", "ballot 0 down knows 0"},
		{"rise 3", "0"}, {"show 3", "ballot 0 knows 0"}, {"rise 3", "0"}, {"show 3", "ballot 0 knows 0"},
	})
	checkTalk(t, "with messages in flight", trying([][2]string{
		{"fall 2", "2"}, {"show 1", "ballot 1 tries knows 0"}, {"bring 0", "1"}, {"rise 2", "1"}, {"show 2", "ballot 0 knows 0"},
		{"fall 1", "1"}, {"show 1", "ballot 1 down knows 0"},
	}...))
	checkTalk(t, "one alone", talk{
		{"new 1", "ok"}, {"fall 2", "bad"}, {"rise 2", "bad"}, {"fall 1", "0"}, {"show 1", "ballot 0 down knows 0"}, {"rise 1", "0"}, {"show 1", "ballot 0 knows 0"},
	})
	checkTalk(t, "the last of five", talk{
		{"new 5", "ok"}, {"fall 6", "bad"}, {"rise 6", "bad"}, {"fall 5", "0"}, {"show 5", "ballot 0 down knows 0"}, {"rise 5", "0"}, {"show 5", "ballot 0 knows 0"},
	})
}

// The first one alone of three tries anew, with a ballot greater by three, at each eighth tick: so its ballot tells how many rounds there were.
func TestSessionCalm(t *testing.T) {
	alone := func(more ...[2]string) talk {
		return append(talk{{"fall 2", "0"}, {"fall 3", "0"}}, more...)
	}
	checkTalk(t, "one round less", alone([][2]string{{"calm 199", "0"}, {"show 1", "ballot 70 tries knows 0"}, {"calm 1", "0"}, {"show 1", "ballot 73 tries knows 0"}}...))
	most := alone([][2]string{{"calm 200", "0"}, {"show 1", "ballot 73 tries knows 0"}, {"calm 7", "0"}, {"show 1", "ballot 73 tries knows 0"}, {"calm 1", "0"}, {"show 1", "ballot 76 tries knows 0"}}...)
	checkTalk(t, "the most rounds", most)
	for _, rounds := range []int{201, 202, 1000, 1001, 9999} {
		no := [2]string{fmt.Sprint("calm ", rounds), "no"}
		checkTalk(t, no[0], alone([][2]string{{"calm 7", "0"}, no, {"show 1", "ballot 0 knows 0"}, {"tick", "0"}, no, {"show 1", "ballot 1 tries knows 0"}, {"tick", "2"}, no, {"lose 9", "2"}}...))
	}
	checkTalk(t, "no rounds", trying([][2]string{{"calm 0", "2"}, {"show 2", "ballot 0 knows 0"}, {"calm 0", "2"}, {"calm 1", "0"}, {"show 2", "ballot 1 knows 0"}, {"calm 1", "0"}, {"show 1", "ballot 1 leads knows 0"}}...))
	checkTalk(t, "no rounds first", talk{{"calm 0", "0"}, {"calm 7", "0"}, {"calm 0", "0"}, {"show 1", "ballot 0 knows 0"}, {"calm 1", "0"}, {"show 1", "ballot 1 tries knows 0"}})
}

func TestSessionShow(t *testing.T) {
	for n := 1; n <= impl.RecMaxRecorders; n++ {
		checkTalk(t, fmt.Sprint(n, " recorders"), talk{
			{fmt.Sprint("new ", n), "ok"}, {"show 0", "bad"}, {"show 1", "ballot 0 knows 0"},
			{fmt.Sprint("show ", n), "ballot 0 knows 0"}, {fmt.Sprint("show ", n+1), "bad"}, {"show 9999", "bad"},
		})
	}
	checkTalk(t, "one alone, tick by tick", talk{
		{"new 1", "ok"}, {"wish 1 a", "0"}, {"calm 7", "0"}, {"show 1", "ballot 0 knows 0"},
		{"tick", "0"}, {"show 1", "ballot 1 tries knows 0"},
		{"tick", "0"}, {"show 1", "ballot 1 leads knows 0"}, {"fixed", "0 agree"},
		{"tick", "0"}, {"show 1", "ballot 1 leads knows 1 a"}, {"fixed", "1 1:a agree"},
		{"wish 1 b", "0"}, {"calm 2", "0"}, {"show 1", "ballot 1 leads knows 2 a b"},
		{"fall 1", "0"}, {"show 1", "ballot 1 down knows 1 a"}, {"fixed", "2 1:a 2:b agree"},
		{"rise 1", "0"}, {"show 1", "ballot 1 knows 1 a"},
		{"calm 8", "0"}, {"show 1", "ballot 2 tries knows 1 a"}, {"calm 2", "0"}, {"show 1", "ballot 2 leads knows 2 a b"},
	})
	checkTalk(t, "one that tries and knows much", talk{
		{"wish 1 a", "0"}, {"wish 1 b", "0"}, {"calm 20", "0"}, {"fall 1", "0"}, {"fall 3", "0"}, {"calm 11", "0"},
		{"show 1", "ballot 1 down knows 2 a b"}, {"show 2", "ballot 2 tries knows 2 a b"}, {"show 3", "ballot 1 down knows 2 a b"},
	})
}

// The second place reaches one other disk, and the first none but that of the leader, which falls ahead of its being safe: whoever leads then has a place with nothing in it ahead of one with a text.
func gap() talk {
	return talk{
		{"calm 15", "0"}, {"show 1", "ballot 1 leads knows 0"}, {"wish 1 a", "0"}, {"wish 1 b", "0"},
		{"tick", "6"}, {"lose 2", "5"}, {"lose 2", "4"}, {"calm 0", "4"}, {"bring 2", "3"}, {"fall 1", "3"},
		{"lose 0", "2"}, {"lose 0", "1"}, {"lose 0", "0"}, {"calm 30", "0"},
	}
}

func TestSessionShowsEmptyTexts(t *testing.T) {
	checkTalk(t, "a gap", append(gap(), talk{
		{"show 1", "ballot 1 down knows 0"}, {"show 2", "ballot 2 leads knows 2 - b"}, {"show 3", "ballot 2 knows 2 - b"}, {"fixed", "2 1: 2:b agree"},
		{"rise 1", "0"}, {"calm 10", "0"}, {"wish 3 -", "0"}, {"calm 10", "0"},
		{"show 1", "ballot 2 knows 3 - b -"}, {"fixed", "3 1: 2:b 3:- agree"},
	}...))
}

func TestSessionFixedWithMany(t *testing.T) {
	k := talk{{"new 1", "ok"}, {"calm 12", "0"}, {"fixed", "0 agree"}}
	fixed, book := "", ""
	for batch := range 4 {
		from := 1 + batch*impl.RecMaxWishes
		k = append(append(k, wishes(1, "w", from, impl.RecMaxWishes)...), [2]string{"calm 3", "0"})
		places := min(from+impl.RecMaxWishes-1, impl.RecMaxSlots)
		for i := from; i <= places; i++ {
			fixed, book = fixed+fmt.Sprint(" ", i, ":w", i), book+fmt.Sprint(" w", i)
		}
		k = append(k, [2]string{"fixed", fmt.Sprint(places, fixed, " agree")}, [2]string{"show 1", fmt.Sprint("ballot 1 leads knows ", places, book)})
	}
	checkTalk(t, "one alone", k)
}

// The limit of bytes is one of the text: its answer may have many more.
func TestSessionOfALongAnswer(t *testing.T) {
	k := talk{{"new 1", "ok"}, {"calm 12", "0"}}
	text, fixed := textOf(impl.RecMaxText-2), "60"
	for from := 10; from < 10+impl.RecMaxSlots; from += impl.RecMaxWishes {
		k = append(append(k, wishes(1, text, from, impl.RecMaxWishes)...), [2]string{"calm 3", "0"})
	}
	for i := range impl.RecMaxSlots {
		fixed += fmt.Sprint(" ", i+1, ":", text, 10+i)
	}
	checkTalk(t, "all places with the longest texts", append(k, many(impl.RecMaxLines-len(k), "fixed", fixed+" agree")...))
}
