package tests

import (
	"fmt"
	"math/rand"
	"regexp"
	"runtime"
	"slices"
	"strconv"
	"strings"
	"sync"
	"testing"

	"loop.example/engrosser/impl"
)

// step is a line of a script, and its output without the last newline, which is empty if there is none.
type step struct {
	line string
	out  string
}

// steps are lines of a script, each followed by its output.
func steps(pairs ...string) []step {
	var list []step
	for i := 0; i < len(pairs); i += 2 {
		list = append(list, step{pairs[i], pairs[i+1]})
	}
	return list
}

// readSteps are the steps of a text, one on each line, as in `rows 1 => a 1/end`: a
// slash stands for a newline within the output. The numbers of the sessions are
// exchanged: W, V and U stand for those of an order.
func readSteps(text string, order string) []step {
	var list []step
	names := strings.NewReplacer("W", order[:1], "V", order[1:2], "U", order[2:])
	for line := range strings.Lines(text) {
		line, out, ok := strings.Cut(strings.Trim(line, "\t\n"), " => ")
		if !ok {
			continue
		}
		// No editor keeps a space at the end of a line.
		if out == ">" {
			out = "> "
		}
		list = append(list, step{names.Replace(line), strings.ReplaceAll(out, "/", "\n")})
	}
	return list
}

// script is the text of some steps, each with its newline.
func script(list []step) string {
	text := ""
	for _, s := range list {
		text += s.line + "\n"
	}
	return text
}

// output is the output of some steps.
func output(list []step) string {
	text := ""
	for _, s := range list {
		if s.out != "" {
			text += s.out + "\n"
		}
	}
	return text
}

func expectDesk(t *testing.T, text string, want string) {
	t.Helper()
	if got := impl.DeskRun(text); got != want {
		t.Errorf("DeskRun(%q):\ngot  %q\nwant %q", shortened(text), shortened(got), shortened(want))
	}
}

// shortened is the end of a text that is long.
func shortened(text string) string {
	if len(text) > 2000 {
		return "..." + text[len(text)-2000:]
	}
	return text
}

// expectSteps expects the output of a script and of all of its prefixes that end
// at a line break, and that its queries have no effect.
func expectSteps(t *testing.T, list []step) {
	t.Helper()
	for i := range len(list) + 1 {
		text := script(list[:i])
		expectDesk(t, text, output(list[:i]))
		expectDesk(t, strings.TrimSuffix(text, "\n"), output(list[:i]))
		if t.Failed() {
			return
		}
	}
	var without, twice []step
	for _, s := range list {
		if isQuery(s.line) {
			twice = append(twice, s, s)
		} else {
			without = append(without, s)
			twice = append(twice, s)
		}
	}
	expectDesk(t, script(without), output(without))
	expectDesk(t, script(twice), output(twice))
}

// isQuery says whether a line is one of state, now or rows, which should not change anything.
func isQuery(line string) bool {
	words := strings.Fields(line)
	return len(words) > 0 && slices.Contains([]string{"state", "now", "rows"}, words[0])
}

// inTheMidst are steps behind which session 0 is in a transaction and has received
// a part of a message, session 1 is open, and session 2 is closed.
func inTheMidst() []step {
	return readSteps(`
		open W => fine
		open V => fine
		send V Q07put a 1P07g get a => > C04fineZ01i100
		send W Q05beginQ07put b 2Q05get => > C04fineZ01tC04fineZ01t
	`, "012")
}

// goingOn are steps that go on behind inTheMidst and show how everything stands.
func goingOn() []step {
	return readSteps(`
		state W => busy
		state V => idle
		state U => gone
		now => 1
		rows 0 => end
		rows 1 => a 1/end
		rows 2 => what
		send W  b => > R03b 2C04fineZ01t
		send V Q05get bE01gS00 => > E04noneZ01iR03a 1C04fineZ01i
		send W Q03end => > C04fineZ01i
		now => 2
		rows 2 => a 1/b 2/end
		send U S00 => >
		open U => fine
		send U Q05get b => > R03b 2C04fineZ01i
	`, "012")
}

// expectNoEffect expects the output of lines that change nothing.
func expectNoEffect(t *testing.T, line string, out string) {
	t.Helper()
	list := slices.Concat(inTheMidst(), steps(line, out), goingOn())
	expectDesk(t, script(list), output(list))
	expectDesk(t, script(inTheMidst())+line, output(inTheMidst())+output(steps(line, out)))
}

// expectWhat expects that lines are not understood, and change nothing.
func expectWhat(t *testing.T, lines ...string) {
	t.Helper()
	for _, line := range lines {
		expectNoEffect(t, line, "what")
	}
}

func TestDeskConstants(t *testing.T) {
	got := [3]int{impl.DeskMaxText, impl.DeskMaxLines, impl.DeskMaxOut}
	if got != [3]int{20000, 150, 20000} {
		t.Error(got)
	}
}

// documentSteps are the document's example.
func documentSteps() []step {
	return readSteps(`
		open 0 => fine
		open 1 => fine
		send 0 Q07put a 1Q05begin => > C04fineZ01iC04fineZ01t
		send 1 Q05beginQ07put a 5 => > C04fineZ01tC04fineZ01t
		send 0 Q07put a 2Q05ge => > C04fineZ01t
		send 1 Q03end => > C04fineZ01i
		send 0 t aQ03end => > R03a 2C04fineZ01tE04lateZ01i
		state 0 => idle
		rows 1 => a 1/end
		rows 2 => a 5/end
		send 1 P09g all a zE01gE01hE01gS00 => > 100R03a 5C04fineE04noneZ01i
		send 1 q => > E04formB00
		state 1 => gone
		now => 2
		fly => what
	`, "012")
}

func TestDocumentScript(t *testing.T) {
	if list := documentSteps(); len(list) != 15 {
		t.Fatal(list)
	}
	expectSteps(t, documentSteps())
	expectSteps(t, slices.Concat(inTheMidst(), goingOn()))
}

// The first point of 'Watch': the bytes that are sent may begin with a space, and
// are everything behind the one that ends WHO.
func TestBytesThatBeginWithSpace(t *testing.T) {
	for _, order := range orders {
		expectSteps(t, readSteps(`
			open W => fine
			send W Q05get => >
			send W  a => > E04noneZ01i
			send W Q07put a => >
			send W  1 => > C04fineZ01i
			send W Q07put => >
			send W  b 2 => > C04fineZ01i
			send W Q07all a => >
			send W  zS00 => > R03a 1R03b 2C04fineZ01iZ01i
			send W S03 => >
			send W   S => > Z01i
			send W S03 => >
			send W    S => > Z01i
			send W 03 => >
			send W    S00 => > Z01iZ01i
			send W 00S00 => > E04formB00
			open V => fine
			send V  S00 => > E04formB00
			state V => gone
			send V  S00 => >
			open V => fine
			send V S00 => > Z01i
			send V   S00 => > E04formB00
		`, order))
	}
}

func TestBytesThatEndWithSpace(t *testing.T) {
	expectSteps(t, steps("open 0", "fine", "send 0 Q05get ", "> ", "send 0 aS00", "> E04noneZ01iZ01i", "send 0 Q07put ", "> ", "send 0 a ", "> ", "send 0 7Q05get a", "> C04fineZ01iR03a 7C04fineZ01i"))
	expectSteps(t, steps("open 0", "fine", "send 0 S04    ", "> Z01i", "send 0 S04   ", "> ", "send 0 S", "> Z01i", "send 0 S02 a", "> Z01i", "send 0 S02  ", "> Z01i", "send 0 S01   ", "> Z01iE04formB00"))
}

// Bytes of spaces alone are none, also where a message is about to go on with them.
func TestBytesOfSpacesAlone(t *testing.T) {
	for _, line := range []string{"send 0", "send 0 ", "send 0  ", "send 0   ", "send 0" + strings.Repeat(" ", 399), "send 0" + strings.Repeat(" ", 400), "send 0" + strings.Repeat(" ", 401), "send 0" + strings.Repeat(" ", 402)} {
		expectWhat(t, line, strings.Replace(line, "0", "1", 1), strings.Replace(line, "0", "2", 1), strings.Replace(line, "0", "3", 1))
		expectSteps(t, steps("open 0", "fine", "send 0 S03", "> ", line, "what", "send 0  a ", "> Z01i"))
	}
}

// The second point of 'Watch': a line that begins with a space is like one that does not, unless it sends.
func TestLinesThatBeginWithSpace(t *testing.T) {
	for _, spaces := range []string{" ", "  ", "   ", strings.Repeat(" ", 500)} {
		expectSteps(t, steps(spaces+"open 0", "fine", spaces+"now", "0", spaces+"state 0", "idle", spaces+"rows 0", "end", spaces+"send 0 S00", "what", spaces+"close 0", "fine", spaces+"state 0", "gone", spaces+"fly", "what"))
		for who := range 4 {
			expectWhat(t, fmt.Sprint(spaces, "send ", who, " S00"), fmt.Sprint(spaces, "send ", who, " S00"+spaces), fmt.Sprint(spaces, "send ", who), fmt.Sprint(spaces, "send  ", who, " a"))
		}
	}
}

// One space stands behind send, and one behind the number.
func TestSpacesOfSend(t *testing.T) {
	for who := range 4 {
		expectWhat(t, fmt.Sprint("send  ", who, " S00"), fmt.Sprint("send   ", who, " S00"), fmt.Sprint("send  ", who, "  S00"), fmt.Sprint("send", who, " S00"),
			fmt.Sprint("send ", who, "S00"), fmt.Sprint("send\t", who, " S00"), fmt.Sprint("send ", who, "\tS00"), fmt.Sprint("send ", who, "\t"), fmt.Sprint("send  ", who), fmt.Sprint("send  ", who, "  "))
	}
	expectWhat(t, "send", "send ", "send  ", "send   ", " send", "send S00", "send S00 0", "send  S00", "send   S00", "send 0,1 S00", "send 01 S00", "sends 0 S00", "sen 0 S00", "Send 0 S00", "SEND 0 S00", "send0 0 S00")
}

// Spaces between words, before them and behind them, and none of them.
func TestWords(t *testing.T) {
	for _, c := range steps("open 2", "fine", "close 2", "fine", "state 0", "busy", "state 1", "idle", "now", "1", "rows 0", "end", "rows 1", "a 1\nend", "rows 2", "what", "open 0", "what", "fly", "what", "fly 0", "what", "open 3", "what") {
		words := strings.Fields(c.line)
		for _, between := range []string{" ", "  ", "     "} {
			for _, around := range []string{"", " ", "  ", "       "} {
				line := strings.Join(words, between)
				for _, line := range []string{line, around + line, line + around, around + line + around} {
					list := slices.Concat(inTheMidst(), steps(line, c.out))
					expectDesk(t, script(list), output(list))
					expectDesk(t, script(list[:len(list)-1])+line, output(list))
				}
			}
		}
	}
	expectWhat(t, "open0", "close0", "state0", "rows0", "rows1", "no w", "n ow", "op en 0", "open 0 1", "open, 0", "open:0", "0 open", "0")
}

func TestLinesWithoutWords(t *testing.T) {
	for _, text := range []string{"", "\n", "\n\n", " ", "  ", " \n", "\n ", " \n \n  \n", strings.Repeat("\n", 149), strings.Repeat("\n", 150), strings.Repeat("\n", 151), strings.Repeat(" \n", 10000), strings.Repeat("\n", 20000), strings.Repeat(" ", 20000)} {
		expectDesk(t, text, "")
	}
	for _, line := range []string{"", " ", "  ", strings.Repeat(" ", 500)} {
		expectNoEffect(t, line, "")
		expectSteps(t, steps(line, "", line, "", "open 0", "fine", line, "", "send 0 Q05get", "> ", line, "", line, "", "send 0  a", "> E04noneZ01i", line, "", "state 0", "idle", line, ""))
	}
}

// Only a newline ends a line, and only spaces stand between words.
func TestOtherWhiteSpace(t *testing.T) {
	others := []string{"\t", "\r", "\v", "\f", "\x00", "\b", "\x1b", "\x1c", "\x1f", "\x7f", "\u0085", "\u00a0", "\u2003", "\u2028", "\u2029", "\u3000", "\ufeff", "\u200b",
		"\x85", "\xa0", "\u010a", "\u0120", "\u200a", "\u2020", "\U0001000a", "\U00010020", "\x8a", "\xe2", "\xe2\x80", "\xf0\x90\x80", "\xc0\xa0", "\xc0\x8a", "\xff", "\xed\xa0\x80"}
	for _, c := range others {
		expectWhat(t, c, " "+c+" ", c+c, "now"+c, c+"now", "now"+c+"now", "now "+c, c+" now", "now "+c+" now", "n"+c+"ow", "open"+c+"2", "open 2"+c, "open "+c+"2", c+"open 2", "open "+c+" 2", "open 2 "+c,
			"close 0"+c, "close"+c+"0", "close "+c+"0", "state 0"+c, "state "+c+"0", "state"+c+"0", "rows 1"+c, "rows "+c+"1", "rows"+c+"1", "rows 1 "+c, "send"+c+"1 S00", "send 1"+c+"S00", c+"send 1 S00", "send "+c+"1 S00", "send 1"+c+" S00", "send "+c, "send 1"+c)
		// What is sent may be any bytes but a newline.
		expectSteps(t, steps("open 0", "fine", "send 0 "+c, "> E04formB00", "open 0", "fine", "send 0 S00"+c+"S00", "> Z01iE04formB00", "open 0", "fine", "send 0 Q05get"+c+"a", "> E04formB00", "open 0", "fine",
			"send 0 S00 "+c, "> Z01iE04formB00", "open 0", "fine", "send 0 S01", "> ", "send 0 "+c+"S00", "> E04formB00", "state 0", "gone", "send 0 "+c, "> "))
	}
	expectDesk(t, "now\r\nnow\r\n", "what\nwhat\n")
	expectDesk(t, "\r\n\n\t\n", "what\nwhat\n")
	expectDesk(t, "now\n\rnow", "0\nwhat\n")
	expectDesk(t, "open 0\nsend 0 S00\r\nstate 0", "fine\n> Z01iE04formB00\ngone\n")
	expectDesk(t, "open 0\nsend 0 Q05get\n a\nstate 0", "fine\n> \nwhat\nidle\n")
}

func TestUnknownCommands(t *testing.T) {
	lines := []string{"fly", "fly 0", "fly 0 S00", "what", "fine", "end", "full", "long", "gone", "idle", ">", "> ", "> S00", "0", "1", "-1", "now?", "nows", "no", "n", "opened 2", "opens 2", "ope 2", "o 2", "closes 0", "clos 0", "states 0", "stat 0", "row 0", "row 1", "rowss 1",
		"S00", "Q05get a", "get a", "put a 1", "begin", "end 0", "help", "exit", "quit", "#", "# now", "now;now", "now;", "\"now\"", "'now'", "-now", "/now", "open=2", "send=0", "now\\", "\\", "`", "?", "_", "é", "now\u0301", "ｎｏｗ"}
	for _, line := range []string{"open 2", "close 0", "state 0", "now", "rows 0", "rows 1", "send 1 S00"} {
		lines = append(lines, strings.ToUpper(line), strings.ToUpper(line[:1])+line[1:], line[1:], "x"+line, "x "+line)
	}
	expectWhat(t, lines...)
}

// A command with a word too few or too many.
func TestWordsTooFewOrTooMany(t *testing.T) {
	expectWhat(t, "open", "open ", "  open  ", "close", "close ", "state", "state ", "rows", "rows ", "  rows")
	for _, line := range []string{"open 2", "open 0", "close 0", "close 2", "state 0", "state 2", "rows 0", "rows 1", "now"} {
		for _, word := range []string{"0", "1", "2", "now", "x", "S00", ">", "-", "\x00"} {
			expectWhat(t, line+" "+word, line+"  "+word+" ", " "+line+" "+word, line+" "+word+" "+word)
		}
	}
}

// otherWords are words that are no number in canonical form.
func otherWords() []string {
	list := []string{"٠", "０", "²", "o", "O", "l", "zero", "one", "0\x00", "\x000", "0\t", "0\xff", "0\u0301", "0now"}
	for _, word := range otherNumbers() {
		if word != "" && !strings.Contains(word, " ") {
			list = append(list, word)
		}
	}
	return list
}

func TestSessionsOfOtherNumbers(t *testing.T) {
	words := append(otherWords(), "3", "4", "9", "10", "11", "12", "20", "21", "100", "256", "257", "-1", "-2", "-3", "65536", "65537", "4294967296", "4294967297", "-4294967296",
		"10000000000000000", "12345678901234567", "99999999999999999", "-99999999999999999", "18446744073709551616", "18446744073709551617")
	for _, word := range words {
		expectWhat(t, "open "+word, "close "+word, "state "+word, "send "+word+" S00", "send "+word+"  S00", "send "+word)
	}
}

// The third point of 'Watch': who is there is not opened, and stays as it is.
func TestOpenOfOneWhoIsThere(t *testing.T) {
	for _, order := range orders {
		expectSteps(t, readSteps(`
			open W => fine
			open W => what
			state W => idle
			open W => what
			send W Q05get => >
			open W => what
			send W  a => > E04noneZ01i
			send W Q05begin => > C04fineZ01t
			open W => what
			state W => busy
			send W Q07put a 1 => > C04fineZ01t
			open W => what
			send W Q03endP07g get aE01g => > C04fineZ01i100R03a 1C04fine
			open W => what
			send W E01g => > R03a 1C04fine
			send W E01h => > E04none
			state W => skips
			open W => what
			state W => skips
			send W E01g => >
			send W S00 => > Z01i
			now => 1
			send W Q05beginQ03fly => > C04fineZ01tE04formZ01e
			state W => bad
			open W => what
			state W => bad
			open V => fine
			open V => what
			open W => what
			send W X00 => > B00
			state W => gone
			open V => what
			open W => fine
			open W => what
			send W E01g => > E04none
			now => 1
		`, order))
	}
	expectWhat(t, "open 0", "open 1")
}

// A session that is closed may be closed again, and opened once. Others are not affected.
func TestOpenAndClose(t *testing.T) {
	for _, order := range orders {
		expectSteps(t, readSteps(`
			close W => fine
			state W => gone
			close W => fine
			open W => fine
			state W => idle
			close W => fine
			close W => fine
			send W S00 => >
			state W => gone
			open W => fine
			state V => gone
			state U => gone
			open V => fine
			send V Q05beginQ07put a 1 => > C04fineZ01tC04fineZ01t
			send W Q05beginQ07put b 1Q05get => > C04fineZ01tC04fineZ01t
			close V => fine
			state V => gone
			state W => busy
			state U => gone
			open V => fine
			state V => idle
			send V Q03end => > E04noneZ01i
			send W  b => > R03b 1C04fineZ01t
			now => 0
			send W Q03end => > C04fineZ01i
			now => 1
			rows 1 => b 1/end
			send V Q05ge => >
			close V => fine
			open V => fine
			send V S00 => > Z01i
			close U => fine
			state V => idle
		`, order))
	}
	expectNoEffect(t, "close 2", "fine")
}

// The first of the answers of state that applies, however the session came there.
func TestStates(t *testing.T) {
	for sent, c := range map[string]struct{ out, want string }{
		"S00":                          {"Z01i", "idle"},
		"Q05ge":                        {"", "idle"},
		"P07a get a":                   {"100", "idle"},
		"Q05get a":                     {"E04noneZ01i", "idle"},
		"Q03fly":                       {"E04formZ01i", "idle"},
		"Q05beginQ03end":               {"C04fineZ01tC04fineZ01i", "idle"},
		"Q05beginQ05get aQ03end":       {"C04fineZ01tE04noneZ01eE03badZ01i", "idle"},
		"Q05beginQ05get aQ04undo":      {"C04fineZ01tE04noneZ01eC04fineZ01i", "idle"},
		"E01aS00":                      {"E04noneZ01i", "idle"},
		"Q05begin":                     {"C04fineZ01t", "busy"},
		"Q05beginQ07put a 1":           {"C04fineZ01tC04fineZ01t", "busy"},
		"P07a beginE01a":               {"100C04fine", "busy"},
		"Q05beginP03flyS00":            {"C04fineZ01tE04formZ01t", "busy"},
		"Q05beginS00Q0":                {"C04fineZ01tZ01t", "busy"},
		"Q05beginQ05get a":             {"C04fineZ01tE04noneZ01e", "bad"},
		"Q05beginQ05get aS00Q05begin":  {"C04fineZ01tE04noneZ01eZ01eE03badZ01e", "bad"},
		"Q05beginE01aS00":              {"C04fineZ01tE04noneZ01e", "bad"},
		"Q05beginQ03fly":               {"C04fineZ01tE04formZ01e", "bad"},
		"P03fly":                       {"E04form", "skips"},
		"E01a":                         {"E04none", "skips"},
		"P07a get aE01a":               {"100E04none", "skips"},
		"E01aQ05begin":                 {"E04none", "skips"},
		"E01aQ05ge":                    {"E04none", "skips"},
		"Q05beginP03fly":               {"C04fineZ01tE04form", "skips"},
		"Q05beginE01a":                 {"C04fineZ01tE04none", "skips"},
		"Q05beginQ05get aE01a":         {"C04fineZ01tE04noneZ01eE04none", "skips"},
		"Q05beginQ05get aP03flyQ03end": {"C04fineZ01tE04noneZ01eE04form", "skips"},
		"X00":                          {"B00", "gone"},
		"q":                            {"E04formB00", "gone"},
		"A00":                          {"E04formB00", "gone"},
		"Q05beginX00":                  {"C04fineZ01tB00", "gone"},
		"Q05beginQ05get aX00S00":       {"C04fineZ01tE04noneZ01eB00", "gone"},
		"E01aX00":                      {"E04noneB00", "gone"},
		"Q05beginQ05get aE01aq":        {"C04fineZ01tE04noneZ01eE04noneE04formB00", "gone"},
		"E01aA00":                      {"E04none", "skips"},
		"P10a put a 10E01aE01aS00":     {"100C04fineC04fineZ01i", "idle"},
	} {
		for who := range 3 {
			list := steps("open W", "fine", "state W", "idle", "send W "+sent, "> "+c.out, "state W", c.want)
			for _, other := range []int{(who + 1) % 3, (who + 2) % 3} {
				list = append(list, step{fmt.Sprint("state ", other), "gone"})
			}
			list = append(list, steps("close W", "fine", "state W", "gone", "open W", "fine", "state W", "idle")...)
			for i := range list {
				list[i].line = strings.Replace(list[i].line, "W", fmt.Sprint(who), 1)
			}
			expectSteps(t, list)
		}
	}
}

// At most 400 bytes are sent at once, whatever they are.
func TestBytesMostOfSend(t *testing.T) {
	syncs, readies := strings.Repeat("S00", 133), strings.Repeat("Z01i", 133)
	for _, c := range []struct{ first, out, more string }{
		{syncs + "S", readies, "00"},
		{" " + strings.Repeat(" ", 398) + "a", "E04formB00", ""},
		{"a" + strings.Repeat(" ", 399), "E04formB00", ""},
		{syncs + " ", readies + "E04formB00", ""},
		{strings.Repeat("\xff", 400), "E04formB00", ""},
		{strings.Repeat("é", 200), "E04formB00", ""},
		{strings.Repeat("€", 133) + "a", "E04formB00", ""},
		{strings.Repeat("\x00", 400), "E04formB00", ""},
		{strings.Repeat("S40"+strings.Repeat(" ", 40), 9) + "S10" + strings.Repeat(" ", 10), strings.Repeat("Z01i", 10), ""},
	} {
		if len(c.first) != 400 {
			t.Fatalf("%q: %d bytes", c.first, len(c.first))
		}
		for who := range 3 {
			name := fmt.Sprint(who)
			list := steps("open "+name, "fine", "send "+name+" "+c.first, "> "+c.out)
			if c.more != "" {
				list = append(list, steps("send "+name+" "+c.more, "> Z01i")...)
			}
			expectSteps(t, list)
			expectSteps(t, steps("open "+name, "fine", "send "+name+" "+c.first+" ", "what", "send "+name+"  "+c.first, "what", "send "+name+" "+c.first+"S", "what", "send "+name+" "+c.first+"\xff", "what", "state "+name, "idle"))
			expectSteps(t, steps("send "+name+" "+c.first, "> ", "send "+name+" "+c.first+"S", "what", "send "+name+" "+strings.Repeat(c.first, 2), "what", "send "+name+" "+strings.Repeat(c.first, 40), "what"))
		}
	}
	expectWhat(t, "send 0 "+strings.Repeat("€", 134), "send 0 "+strings.Repeat("é", 201), "send 1 "+strings.Repeat("S00", 134), "send 1 "+strings.Repeat(" ", 400)+"a", "send 1 a"+strings.Repeat(" ", 400), "send 0 "+digits(401), "send 0 "+digits(1000))
	expectSteps(t, steps("open 0", "fine", "send 0 Q05get", "> ", "send 0 "+digits(401), "what", "send 0  a"+syncs, "what", "send 0  a", "> E04noneZ01i"))
}

// To one who is gone, whatever is sent has no answer.
func TestSendToOneWhoIsGone(t *testing.T) {
	for _, bytes := range append(requests(), "a", " a", "a ", " S00 ", "\xff") {
		if strings.Contains(bytes, "\n") {
			continue
		}
		want := "> "
		if len(bytes) > 400 || strings.Trim(bytes, " ") == "" {
			want = "what"
		}
		expectNoEffect(t, "send 2 "+bytes, want)
	}
}

// Answers that hold every kind of message.
func TestAnswersOfSend(t *testing.T) {
	expectSteps(t, readSteps(`
		open U => fine
		send U Q07put a 1Q08put b -2P09a all a zE01aE01bE01aS00 => > C04fineZ01iC04fineZ01i100R03a 1R04b -2C04fineE04noneZ01i
		send U Q07sum a zQ05beginQ05get cS00Q03endQ09add a 999 => > R04a -1C04fineZ01iC04fineZ01tE04noneZ01eZ01eE03badZ01iE04overZ01i
		open W => fine
		send W Q05beginQ07put a 5 => > C04fineZ01tC04fineZ01t
		send U Q07put a 6 => > C04fineZ01i
		send W Q03end => > E04lateZ01i
		send W P05a endP05b endP05c endP05d endS00 => > 100100100E04fullZ01i
		send U Q05gettaX00S00 => > E04formZ01iB00
		state U => gone
		now => 3
		rows 3 => a 6/b -2/end
	`, "012"))
	for _, bytes := range requests() {
		if strings.Contains(bytes, "\n") || strings.Trim(bytes, " ") == "" || len(bytes) > 400 {
			continue
		}
		h, _ := impl.HallDo(impl.HallNew(), evOpen(1))
		h, begun := impl.HallDo(h, evBytes(1, "Q07put a 5"))
		_, out := impl.HallDo(h, evBytes(1, bytes))
		expectSteps(t, steps("open 1", "fine", "send 1 Q07put a 5", "> "+begun, "send 1 "+bytes, "> "+out))
	}
}

// The rows of each time from 0 to Now, as many as there may be, and of no other time.
func TestRowsOfTimes(t *testing.T) {
	list := steps("open 0", "fine", "rows 0", "end", "rows 1", "what")
	rows := map[int]string{0: "end"}
	for now := 1; now <= 40; now++ {
		// Each commit stores a number under one of ten keys in turn.
		rows[now] = ""
		for i := range min(now, 10) {
			num := (now - 1 - i) / 10 * 100
			rows[now] += fmt.Sprintf("%c %d\n", 'a'+i, -num-i)
		}
		rows[now] += "end"
		text := fmt.Sprintf("put %c %d", 'a'+(now-1)%10, -(now-1)/10*100-(now-1)%10)
		list = append(list, steps(fmt.Sprintf("send 0 Q%02d%s", len(text), text), "> C04fineZ01i")...)
		list = append(list, steps(fmt.Sprint("rows ", now), rows[now])...)
	}
	list = append(list, steps("send 0 Q07put a 1", "> E04fullZ01i", "now", "40", "rows 41", "what", "rows 39", rows[39], "rows 0", "end", "rows 9", rows[9], "rows 10", rows[10])...)
	expectSteps(t, list)
	// Nothing is forgotten.
	list = slices.DeleteFunc(list, func(s step) bool { return isQuery(s.line) })
	for at, want := range rows {
		list = append(list, step{fmt.Sprint("rows ", at), want})
	}
	expectSteps(t, list)
}

// A deletion is seen from its time on, and an open transaction not at all.
func TestRowsOfOtherChanges(t *testing.T) {
	expectSteps(t, readSteps(`
		open W => fine
		send W Q07put b 1Q09put a -99Q05cut b => > C04fineZ01iC04fineZ01iC04fineZ01i
		now => 3
		rows 0 => end
		rows 1 => b 1/end
		rows 2 => a -99/b 1/end
		rows 3 => a -99/end
		rows 4 => what
		send W Q05beginQ10put aa 999Q07put z 0 => > C04fineZ01tC04fineZ01tC04fineZ01t
		now => 3
		rows 3 => a -99/end
		rows 4 => what
		send W Q03end => > C04fineZ01i
		now => 4
		rows 4 => a -99/aa 999/z 0/end
		rows 3 => a -99/end
		send W Q05cut aQ06cut aaQ05cut z => > C04fineZ01iC04fineZ01iC04fineZ01i
		rows 7 => end
		rows 6 => z 0/end
		rows 5 => aa 999/z 0/end
		now => 7
		rows 8 => what
		close W => fine
		now => 7
		rows 4 => a -99/aa 999/z 0/end
	`, "012"))
}

// A time is a number in canonical form, also where as many commits as may be have passed.
func TestRowsOfOtherNumbers(t *testing.T) {
	words := append(otherWords(), "-1", "-2", "-10", "-40", "41", "42", "99", "100", "4294967296", "4294967297", "-4294967295", "10000000000000000", "12345678901234567", "99999999999999999", "-99999999999999999")
	for _, word := range words {
		expectWhat(t, "rows "+word, "rows  "+word+" ")
		expectDesk(t, manyCommits()+"rows "+word+"\nrows 40", manyAnswers()+"what\na 40\nend\n")
	}
}

// manyCommits is a script that commits as often as may be, and manyAnswers its output.
func manyCommits() string {
	text := "open 0"
	for i := range 40 {
		if i%20 == 0 {
			text += "\nsend 0 "
		}
		body := fmt.Sprint("put a ", i+1)
		text += fmt.Sprintf("Q%02d%s", len(body), body)
	}
	return text + "\n"
}

func manyAnswers() string {
	return "fine\n" + strings.Repeat("> "+strings.Repeat("C04fineZ01i", 20)+"\n", 2)
}

// At most 20000 bytes are a script, whatever they are.
func TestDeskMaxText(t *testing.T) {
	for _, c := range []struct{ text, want string }{
		{"now", "0\n"}, {"now\n", "0\n"}, {" now ", "0\n"}, {"open 0\nsend 0 S00\n", "fine\n> Z01i\n"}, {"fly", "what\n"}, {"\n\nnow\n\n", "0\n"}, {" ", ""}, {"\n", ""},
		{script(documentSteps()), output(documentSteps())},
	} {
		rest := 20000 - len(c.text)
		for _, filler := range []string{" ", "\n"} {
			expectDesk(t, c.text+strings.Repeat(filler, rest), c.want)
			expectDesk(t, c.text+strings.Repeat(filler, rest+1), "long\n")
			expectDesk(t, c.text+strings.Repeat(filler, rest+1)+"now", "long\n")
		}
		expectDesk(t, strings.Repeat(" ", rest-1)+"\n"+c.text, c.want)
		expectDesk(t, strings.Repeat(" ", rest)+"\n"+c.text, "long\n")
	}
	// These are lines too.
	expectDesk(t, strings.Repeat("\n", 19997)+"now", "full\n")
	expectDesk(t, strings.Repeat("\n", 19998)+"now", "long\n")
	// What counts is bytes.
	for _, c := range []string{"x", "\x00", "\xff", "é", "€", "\U0001f600", "now ", "now\x00", " x", "\t", "\r"} {
		few := strings.Repeat(c, 20000/len(c))
		few += strings.Repeat(" ", 20000-len(few))
		expectDesk(t, few, "what\n")
		expectDesk(t, few+" ", "long\n")
		expectDesk(t, strings.Repeat(c, 20000/len(c)+1), "long\n")
		expectDesk(t, strings.Repeat(c, 20001), "long\n")
	}
	expectDesk(t, "send 0 "+strings.Repeat("S", 19993), "what\n")
	expectDesk(t, "send 0 "+strings.Repeat("S", 19994), "long\n")
	expectDesk(t, strings.Repeat("now\n", 5000), strings.Repeat("0\n", 150)+"full\n")
	expectDesk(t, strings.Repeat("now\n", 5000)+"\n", "long\n")
	expectDesk(t, strings.Repeat("open 0\n", 1<<20), "long\n")
}

// Before a line with words, there are at most 149 others, of any kind.
func TestDeskMaxLines(t *testing.T) {
	kinds := []step{{"now", "0"}, {"", ""}, {"  ", ""}, {"fly", "what"}, {"open 3", "what"}, {"rows 0", "end"}, {"close 0", "fine"}, {"send 0 S00", "> "}, {"send 0 ", "what"}, {"\t", "what"}, {" now now ", "what"}, {"\xff", "what"}}
	for _, kind := range kinds {
		for count := 147; count <= 152; count++ {
			text, want := script(slices.Repeat([]step{kind}, count)), output(slices.Repeat([]step{kind}, min(count, 150)))
			if count > 150 && kind.out != "" {
				want += "full\n"
			}
			expectDesk(t, text, want)
			expectDesk(t, strings.TrimSuffix(text, "\n"), want)
			// Behind them is a line with words, and lines without words.
			expectDesk(t, text+"\n  \n\n"+strings.Repeat(" ", 100), want)
			for _, last := range kinds {
				if last.out == "" {
					continue
				}
				next := want
				switch {
				case count < 150:
					next += last.out + "\n"
				case count == 150 || kind.out == "":
					next += "full\n"
				}
				for _, end := range []string{"", "\n", " ", "\n\n", "\n \n"} {
					expectDesk(t, text+last.line+end, next)
				}
			}
		}
	}
}

// Lines of every kind count, and nothing comes behind the line that says that it is full.
func TestLinesOfAnyKind(t *testing.T) {
	start := steps("open 0", "fine", "", "", " ", "", "send 0 Q07put a 1", "> C04fineZ01i", "fly", "what", "", "", "state 0", "idle", "rows 1", "a 1\nend", "send 0", "what", "    ", "")
	list := slices.Repeat(start, 15)
	for i := 10; i < len(list); i += 10 {
		list[i].out = "what"
		at := i/10 + 1
		list[i+7].line = fmt.Sprint("rows ", at)
	}
	if len(list) != 150 {
		t.Fatal(len(list))
	}
	expectSteps(t, list[:75])
	for i := range list {
		expectDesk(t, script(list[:i]), output(list[:i]))
	}
	want := output(list) + "full\n"
	expectDesk(t, script(list)+"state 0", want)
	expectDesk(t, script(list)+"\n\n  \nstate 0", want)
	expectDesk(t, script(list)+"close 0\nstate 0\nnow\nrows 1\nsend 0 S00\n\nfly\n", want)
	expectDesk(t, script(list)+strings.Repeat("x\n", 1000), want)
	expectDesk(t, script(list)+"\n", output(list))
	fewer := slices.Delete(list, 1, 2)
	expectDesk(t, script(fewer)+"now", output(fewer)+"15\n")
	expectDesk(t, script(fewer)+"now\nnow", output(fewer)+"15\nfull\n")
}

// sized are steps whose output has as many bytes as a size says.
func sized(t *testing.T, size int) []step {
	t.Helper()
	list := steps("open 0", "fine")
	rest := size - 5
	for rest >= 540 {
		list = append(list, step{"send 0 " + strings.Repeat("S00", 133), "> " + strings.Repeat("Z01i", 133)})
		rest -= 535
	}
	// Lines of 5 and of 2 bytes leave a multiple of 4 behind the 3 bytes of another line that sends.
	for rest%4 != 3 {
		if rest%2 == 0 {
			list = append(list, step{"fly", "what"})
			rest -= 5
		} else {
			list = append(list, step{"now", "0"})
			rest -= 2
		}
	}
	for rest > 3 {
		count := min(133, rest/4)
		list = append(list, step{"send 0 " + strings.Repeat("S00", count), "> " + strings.Repeat("Z01i", count)})
		rest -= 3 + 4*count
		if rest > 0 {
			t.Fatalf("%d bytes are left of %d", rest, size)
		}
	}
	if len(output(list)) != size || len(list) > 100 {
		t.Fatalf("%d bytes in %d lines, want %d bytes", len(output(list)), len(list), size)
	}
	return list
}

// Before a line with words, there are at most 20000 bytes of output.
func TestDeskMaxOut(t *testing.T) {
	for size := 19990; size <= 20010; size++ {
		list := sized(t, size)
		text, want := script(list), output(list)
		expectDesk(t, text, want)
		expectDesk(t, strings.TrimSuffix(text, "\n"), want)
		expectDesk(t, text+"\n \n\n", want)
		for _, next := range steps("now", "0", "fly", "what", "close 0", "fine", "rows 0", "end", "send 0 S00", "> Z01i", "send 0 Q05get", "> ", "\t", "what", "open 0", "what") {
			after := want + "full\n"
			if size <= 20000 {
				after = want + next.out + "\n"
			}
			expectDesk(t, text+next.line, after)
			expectDesk(t, text+"\n  \n"+next.line+"\n\n \n", after)
			// Another line behind it.
			if size <= 20000 && len(after) > 20000 {
				after += "full\n"
			} else if size <= 20000 {
				after += "what\n"
			}
			expectDesk(t, text+next.line+"\n\nfly", after)
			if len(after) > 20000 && strings.HasSuffix(after, "full\n") {
				expectDesk(t, text+next.line+"\n\nfly\nnow\n\nclose 0\n", after)
			}
		}
	}
}

// A line before which there is room is executed whole, however much is its output.
func TestLongLineOfOutput(t *testing.T) {
	list := steps("open 0", "fine")
	row, rows := "", ""
	for i := range 10 {
		key := fmt.Sprintf("a%c", 'a'+i)
		list = append(list, step{"send 0 Q11put " + key + " -999", "> C04fineZ01i"})
		row += fmt.Sprintf("R07%s -999", key)
		rows += key + " -999\n"
	}
	long := step{"send 0 " + strings.Repeat("Q07all a z", 40), "> " + strings.Repeat(row+"C04fineZ01i", 40)}
	list = append(list, slices.Repeat([]step{long}, 4)...)
	if len(output(list)) > 20000 || len(output(list))+len(long.out) <= 20000 {
		t.Fatal(len(output(list)))
	}
	list = append(list, step{"rows 10", rows + "end"}, long)
	expectSteps(t, list[:12])
	expectDesk(t, script(list), output(list))
	expectDesk(t, script(list)+"\n \n", output(list))
	expectDesk(t, script(list)+"now", output(list)+"full\n")
	expectDesk(t, script(list)+"now\n"+long.line+"\nnow", output(list)+"full\n")
	// It is as much, too, if that line is the last one for which there is room.
	padded := slices.Concat(list[:15], slices.Repeat(steps("", ""), 134), list[16:])
	expectDesk(t, script(padded), output(padded))
	expectDesk(t, script(padded)+"now", output(padded)+"full\n")
	expectDesk(t, script(padded)+"\n", output(padded))
	late := slices.Concat(list[:15], slices.Repeat(steps("", ""), 135))
	expectDesk(t, script(late)+long.line, output(late)+"full\n")
}

// queriesOf are queries, some of them about sessions and times that there are not.
func queriesOf(now int) []string {
	list := []string{"state 0", "state 1", "state 2", "state 3", "state", "now", "now 1", " now ", "rows", "rows a"}
	for at := -1; at <= now+1; at++ {
		list = append(list, fmt.Sprint("rows ", at))
	}
	return list
}

// Wherever a query stands in a script, the output of the other lines stays the same.
func TestQueriesAnywhere(t *testing.T) {
	scripts := [][]step{documentSteps(), slices.Concat(inTheMidst(), goingOn())}
	scripts = append(scripts, readSteps(`
		open W => fine
		open V => fine
		send W Q05beginQ07put a 1P07g get aE01gE01hQ0 => > C04fineZ01tC04fineZ01t100R03a 1C04fineE04none
		send V P05b endE01bE01b => > 100E04none
		send W 3undS00 => > Z01e
		open U => fine
		send U S00Q => > Z01i
		send U q => > E04formB00
		send V S00Q07put c 5Q05get => > Z01iC04fineZ01i
		close W => fine
		send V  c => > R03c 5C04fineZ01i
		open W => fine
		send W Q05get c => > R03c 5C04fineZ01i
	`, "012"))
	for _, list := range scripts {
		for at := range len(list) + 1 {
			for _, query := range queriesOf(2) {
				before := impl.DeskRun(script(list[:at]))
				answer, ok := strings.CutPrefix(impl.DeskRun(script(list[:at])+query), before)
				if !ok || !strings.HasSuffix(answer, "\n") {
					t.Fatalf("%q behind %q: %q", query, script(list[:at]), answer)
				}
				expectDesk(t, script(list[:at])+query+"\n"+script(list[at:]), before+answer+output(list[at:]))
				expectDesk(t, script(list[:at])+query+"\n"+query+"\n"+script(list[at:]), before+answer+answer+output(list[at:]))
				if t.Failed() {
					t.FailNow()
				}
			}
			all := script(list[:at]) + strings.Join(queriesOf(2), "\n") + "\n" + script(list[at:])
			if got := impl.DeskRun(all); !strings.HasPrefix(got, output(list[:at])) || !strings.HasSuffix(got, output(list[at:])) {
				t.Errorf("%q: got %q", all, got)
			}
		}
	}
}

// deskModel is what a script should do: a server as a model made of maps, and the rows of each time.
type deskModel struct {
	*hallModel
	tables []map[string]int
}

func newDeskModel() *deskModel { return &deskModel{newHallModel(), []map[string]int{{}}} }

// send feeds the bytes one by one: what one of them completes commits once at most.
func (m *deskModel) send(who int, bytes string) string {
	out := ""
	for i := range len(bytes) {
		out += m.happen(evBytes(who, bytes[i:i+1]))
		if m.now == len(m.tables) {
			m.tables = append(m.tables, m.rows)
		}
	}
	return out
}

func (c talker) state() string {
	switch {
	case c.gone:
		return "gone"
	case c.skip:
		return "skips"
	case c.bad:
		return "bad"
	case c.on:
		return "busy"
	}
	return "idle"
}

func (m *deskModel) open(who int) string {
	if !m.clients[who].gone {
		return "what"
	}
	m.happen(evOpen(who))
	return "fine"
}

var (
	sendLine = regexp.MustCompile(`(?s)^send ([012]) (.*[^ ].*)$`)
	whoLine  = regexp.MustCompile(`^ *(open|close|state) +([012]) *$`)
	rowsLine = regexp.MustCompile(`^ *rows +(0|[1-9][0-9]{0,16}) *$`)
	nowLine  = regexp.MustCompile(`^ *now *$`)
)

// answer is the output of a line with words, without its last newline.
func (m *deskModel) answer(line string) string {
	if match := sendLine.FindStringSubmatch(line); match != nil && len(match[2]) <= 400 {
		return "> " + m.send(int(match[1][0]-'0'), match[2])
	}
	if match := rowsLine.FindStringSubmatch(line); match != nil {
		at, _ := strconv.Atoi(match[1])
		if at > m.now {
			return "what"
		}
		out := ""
		for _, r := range tableOf(m.tables[at]) {
			out += fmt.Sprintln(r.Key, r.Num)
		}
		return out + "end"
	}
	if match := whoLine.FindStringSubmatch(line); match != nil {
		who := int(match[2][0] - '0')
		switch match[1] {
		case "open":
			return m.open(who)
		case "close":
			m.happen(evClose(who))
			return "fine"
		}
		return m.clients[who].state()
	}
	if nowLine.MatchString(line) {
		return fmt.Sprint(m.now)
	}
	return "what"
}

// step is what a line does that stands behind others and their output.
func (m *deskModel) step(line string, before int, out int) (step, bool) {
	switch {
	case strings.Trim(line, " ") == "":
		return step{line, ""}, true
	case before >= 150 || out > 20000:
		return step{line, "full"}, false
	}
	return step{line, m.answer(line)}, true
}

// plainDesk is the output of a script as its model has it.
func plainDesk(text string) string {
	if len(text) > 20000 {
		return "long\n"
	}
	m, out := newDeskModel(), ""
	for i, line := range strings.Split(text, "\n") {
		s, more := m.step(line, i, len(out))
		out += output([]step{s})
		if !more {
			break
		}
	}
	return out
}

// randomLine is any line, mostly one for what a session is about to send.
func (m *deskModel) randomLine(random *rand.Rand, queues *[3]string, keys []string) string {
	switch n := random.Intn(30); {
	case n < 2:
		return fmt.Sprint("rows ", random.Intn(m.now+3)-1)
	case n == 2:
		return fmt.Sprint("state ", random.Intn(4))
	case n == 3:
		return []string{"now", "", " ", "fly"}[random.Intn(4)]
	}
	e := m.randomEv(random, queues, keys)
	switch e.Kind {
	case impl.EvOpen:
		return fmt.Sprint("open ", e.Who)
	case impl.EvClose:
		return fmt.Sprint("close ", e.Who)
	}
	return fmt.Sprint("send ", e.Who, " ", e.Bytes)
}

// changedLine is a line in which some bytes are put in, left out, or exchanged.
func changedLine(random *rand.Rand, line string) string {
	bytes, others := []byte(line), "   \t0123-SQ\xff\x00\n"
	for range 1 + random.Intn(2) {
		at, b := random.Intn(len(bytes)+1), others[random.Intn(len(others))]
		switch kind := random.Intn(3); {
		case kind == 0 || at == len(bytes):
			bytes = slices.Insert(bytes, at, b)
		case kind == 1:
			bytes = slices.Delete(bytes, at, at+1)
		default:
			bytes[at] = b
		}
	}
	return string(bytes)
}

// randomScript is a script with its output, as far as it is executed.
func randomScript(random *rand.Rand, count int) []step {
	m := newDeskModel()
	keys := []string{"a", "aa", "b", "c", "d", "e", "f", "g", "h", "i", "j", "k"}[:3+random.Intn(10)]
	var queues [3]string
	var list []step
	size := 0
	for len(list) < count {
		text := m.randomLine(random, &queues, keys)
		if random.Intn(40) == 0 {
			text = changedLine(random, text)
		}
		for _, line := range strings.Split(text, "\n") {
			s, more := m.step(line, len(list), size)
			list = append(list, s)
			size += len(output([]step{s}))
			if !more {
				return list
			}
		}
	}
	return list
}

// Random scripts are held against a model that is made of maps: with and without
// their queries, and cut off at line breaks.
func TestScriptsAgainstModel(t *testing.T) {
	random := rand.New(rand.NewSource(12))
	counts, words := map[string]int{}, map[string]int{}
	for range 160 {
		list := randomScript(random, []int{10, 80, 155, 155}[random.Intn(4)])
		for range 3 {
			at := random.Intn(len(list) + 1)
			expectDesk(t, script(list[:at]), output(list[:at]))
		}
		text := script(list)
		expectDesk(t, text, output(list))
		expectDesk(t, text, plainDesk(text))
		if list[len(list)-1].out != "full" {
			list = slices.DeleteFunc(list, func(s step) bool { return isQuery(s.line) })
			expectDesk(t, script(list), output(list))
		}
		for line := range strings.Lines(impl.DeskRun(text)) {
			if sent, ok := strings.CutPrefix(line, "> "); ok {
				countLetters(t, counts, strings.TrimSuffix(sent, "\n"))
			}
			words[strings.Fields(line)[0]]++
		}
		if t.Failed() {
			t.FailNow()
		}
	}
	expectSentOften(t, counts, 5, "R", "Cfine", "Eform", "Elate", "Efull", "Enone", "Ebad", "Eover", "Zi", "Zt", "Ze", "1", "B")
	for _, word := range []string{"fine", "what", ">", "gone", "skips", "bad", "busy", "idle", "end", "full", "a", "aa", "0", "1", "5"} {
		if words[word] < 5 {
			t.Errorf("%q came up only %d times", word, words[word])
		}
	}
}

// Of any bytes, each prefix that ends at a line break has an output with which that of the whole begins.
func TestScriptsOfAnyBytes(t *testing.T) {
	random := rand.New(rand.NewSource(13))
	parts := []string{"open", "close", "send", "state", "now", "rows", " ", " ", " ", "\n", "\n", "\n", "0", "1", "2", "3", "-", "Q05get", "Q07put a 1", "S00", "X00", "a", "\t", "\xff", "\x00", "é", "\xe2",
		"\nopen 0\n", "\nopen 1\nsend 1 ", "\nsend 0 ", "\nstate 0\n", "\nrows 1\n", "\nclose 0\n", "\nnow\n"}
	for range 3000 {
		text := ""
		for range random.Intn(60) {
			text += parts[random.Intn(len(parts))]
		}
		want := plainDesk(text)
		expectDesk(t, text, want)
		lines := strings.SplitAfter(text, "\n")
		prefix := strings.Join(lines[:random.Intn(len(lines))], "")
		if got := impl.DeskRun(prefix); !strings.HasPrefix(want, got) || got != plainDesk(prefix) {
			t.Errorf("DeskRun(%q) = %q, but of %q it is %q", prefix, got, text, want)
		}
	}
	for b := range 256 {
		c := string([]byte{byte(b)})
		for _, text := range []string{c, c + c, "now" + c, c + "now", "open" + c + "0", "open 0" + c, "open 0\nsend 0" + c + "S00", "open 0\nsend 0 S00" + c, "open 0\nsend 0 " + c, "open 0\nsend 0 " + c + "00S00", "open 0\nstate" + c + "0", "rows " + c, "rows" + c + "0", "state " + c, "open " + c} {
			expectDesk(t, text, plainDesk(text))
			expectDesk(t, text+"\nnow\nstate 0", plainDesk(text+"\nnow\nstate 0"))
		}
	}
}

// The output of a script that is full begins with that of its prefixes, too.
func TestPrefixesOfFullScripts(t *testing.T) {
	for _, list := range [][]step{slices.Repeat(steps("now", "0", "", ""), 80), sized(t, 20001), sized(t, 20000)} {
		list = append(list, steps("now", "", "fly", "", " ", "", "now", "")...)
		whole := impl.DeskRun(script(list))
		if !strings.HasSuffix(whole, "\nfull\n") || strings.Count(whole, "full") != 1 {
			t.Errorf("%q", shortened(whole))
		}
		for i := range list {
			if got := impl.DeskRun(script(list[:i])); !strings.HasPrefix(whole, got) || got != "" && !strings.HasSuffix(got, "\n") {
				t.Errorf("%d lines: %q", i, shortened(got))
			}
		}
	}
}

// The goroutines behind a script have ended when its output is there.
func TestNoGoroutineOfScriptsIsLeft(t *testing.T) {
	before := runtime.NumGoroutine()
	for range 50 {
		for _, text := range []string{script(documentSteps()), "", "fly", "open 0\nsend 0 q", "open 0\nsend 0 Q05ge", strings.Repeat("now\n", 200), strings.Repeat("x", 20001)} {
			impl.DeskRun(text)
		}
	}
	expectGoroutines(t, before)
}

// Scripts at the same time do not affect each other: nothing is kept between them.
func TestScriptsAtTheSameTime(t *testing.T) {
	var all sync.WaitGroup
	for i := range 16 {
		all.Go(func() {
			for range 20 {
				list := append(documentSteps(), readSteps(fmt.Sprintf("open V => fine\nsend V Q07put c %d => > C04fineZ01i\nrows 3 => a 5/c %d/end\nsend 0 Q05begin => > C04fineZ01t", i%10, i%10), "012")...)
				expectDesk(t, script(list), output(list))
			}
		})
	}
	all.Wait()
}
