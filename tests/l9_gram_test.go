package tests

import (
	"fmt"
	"math"
	"math/rand"
	"regexp"
	"slices"
	"strings"
	"testing"

	"loop.example/engrosser/impl"
)

// noStates are numbers of no state.
var noStates = []int{-1, 4, 5, 17, 256, 1 << 32, math.MinInt, math.MaxInt}

// expectStep expects where a message leads from GramIdle and from GramRows, as a step and
// behind other messages. From the other two states, and from no state, every message leads to GramBad.
func expectStep(t *testing.T, l impl.Letter, idle int, rows int) {
	t.Helper()
	steps := map[int]int{impl.GramIdle: idle, impl.GramRows: rows, impl.GramOver: impl.GramBad, impl.GramBad: impl.GramBad}
	for _, state := range noStates {
		steps[state] = impl.GramBad
	}
	for state, want := range steps {
		if got := impl.GramStep(state, l); got != want {
			t.Errorf("GramStep(%d, %q) = %d, want %d", state, l, got, want)
		}
	}
	expectGramAll(t, letters(l), idle)
	expectGramAll(t, letters(letter("Z", "i"), letter("R", "a 1"), letter("C", "fine"), l), idle)
	expectGramAll(t, letters(letter("R", "a 1"), l), rows)
	expectGramAll(t, letters(letter("B", ""), l), impl.GramBad)
	expectGramAll(t, letters(letter("Q", ""), l), impl.GramBad)
}

// expectGramAll expects the state behind messages and, if they have one, behind their encoding.
func expectGramAll(t *testing.T, list []impl.Letter, want int) {
	t.Helper()
	if got := impl.GramAll(list); got != want {
		t.Errorf("GramAll(%q) = %d, want %d", list, got, want)
	}
	if bytes := impl.LettersText(list); bytes != "" {
		expectGramText(t, bytes, want)
	}
}

func expectGramText(t *testing.T, bytes string, want int) {
	t.Helper()
	if got := impl.GramText(bytes); got != want {
		t.Errorf("GramText(%q) = %d, want %d", bytes, got, want)
	}
}

func expectGramMany(t *testing.T, list []impl.Letter, want ...int) {
	t.Helper()
	complete, wrong, ready := impl.GramMany(list)
	if got := []int{complete, wrong, ready}; !slices.Equal(got, want) {
		t.Errorf("GramMany(%q) = %d, want %d", list, got, want)
	}
}

func TestGramConstants(t *testing.T) {
	got := [4]int{impl.GramIdle, impl.GramRows, impl.GramOver, impl.GramBad}
	if got != [4]int{0, 1, 2, 3} {
		t.Error(got)
	}
}

// A message that is not valid leads to GramBad, also if its parts would fit.
func TestGramOfInvalidMessages(t *testing.T) {
	list := invalidLetters()
	for _, l := range letters(letter("R", "a 1"), letter("C", "fine"), letter("E", "none"), letter("1", ""), letter("Z", "i"), letter("B", "")) {
		list[l.Sign+" twice"] = letter(l.Sign+l.Sign, l.Body)
		list[l.Sign+" in lower case"] = letter(strings.ToLower(l.Sign)+" ", l.Body)
		list[l.Sign+" with its length"] = letter(l.Sign+"00", l.Body)
		list[l.Sign+" and no type"] = letter("", l.Sign+l.Body)
		list[l.Sign+" and a new line"] = letter(l.Sign, l.Body+"\n")
		list[l.Sign+" behind a zero"] = letter(l.Sign, "\x00"+l.Body)
		list[l.Sign+" and 41 bytes"] = letter(l.Sign, l.Body+strings.Repeat(" ", 41))
		list[l.Sign+" and other digits"] = letter(l.Sign, l.Body+"١")
	}
	for name, l := range list {
		if impl.LetterOk(l) {
			t.Errorf("%s: %q is valid", name, l)
		}
		expectStep(t, l, impl.GramBad, impl.GramBad)
	}
}

// rowNumbers are numbers that a row may have.
func rowNumbers() []string {
	list := []string{"0", "-1", "10", "-10", "100", "999", "-999", "1000", "9990", "-9990", "102030", "4294967296", "-2147483649",
		"10000000000000000", "12345678901234567", "99999999999999999", "-10000000000000000", "-12345678901234567", "-99999999999999999"}
	for n := 1; n <= 17; n++ {
		list = append(list, digits(n + 1)[1:], "-"+digits(n + 1)[1:])
	}
	return list
}

// otherNumbers are texts that are no number that a row may have.
func otherNumbers() []string {
	list := []string{"", "-", "--", "--1", "-0", "00", "-00", "01", "-01", "007", "0000000000000000", "00000000000000000", "00000000000000001", "-00000000000000001",
		"+", "+0", "+1", "+-1", "-+1", "1-", "1+", "1-1", "1 ", "1 2", " 1", "- 1", "-1 ", "1.0", "1.", ".1", "1,0", "1e3", "0x1", "0b1", "0o7", "1_000", "1'000",
		"a", "1a", "a1", "fine", "1f", "inf", "nan",
		"123456789012345678", "-123456789012345678", "100000000000000000", "-100000000000000000", "999999999999999999", "000000000000000001", "-000000000000000001",
		"9223372036854775807", "-9223372036854775808", "9223372036854775808", "18446744073709551615", "18446744073709551616", "18446744073709551617"}
	for n := 18; n <= 37; n++ {
		list = append(list, digits(n + 1)[1:], strings.Repeat("0", n-1)+"1")
	}
	return list
}

// TestGramOfRows has each key, and each form of a number.
func TestGramOfRows(t *testing.T) {
	for a := 'a'; a <= 'z'; a++ {
		expectStep(t, letter("R", string(a)+" 5"), impl.GramRows, impl.GramRows)
		for b := 'a'; b <= 'z'; b++ {
			expectStep(t, letter("R", string(a)+string(b)+" -5"), impl.GramRows, impl.GramRows)
		}
	}
	for _, key := range []string{"a", "z", "aa", "qx", "zz"} {
		for _, number := range rowNumbers() {
			expectStep(t, letter("R", key+" "+number), impl.GramRows, impl.GramRows)
			for _, body := range []string{key + number, key + "  " + number, " " + key + " " + number, key + " " + number + " ", number + " " + key, number, key, key + " ", " " + number, key + " + " + number,
				key + "-" + number, key + "\t" + number, key + " +" + number, key + " 0" + number, key + " --" + number, key + " " + key + " " + number, key + " " + number + " " + number} {
				expectStep(t, letter("R", body), impl.GramBad, impl.GramBad)
			}
		}
		for _, number := range otherNumbers() {
			expectStep(t, letter("R", key+" "+number), impl.GramBad, impl.GramBad)
		}
	}
	for b := range 256 {
		other := string([]byte{byte(b)})
		if "a" <= other && other <= "z" {
			continue
		}
		for _, key := range []string{other, "a" + other, other + "a"} {
			expectStep(t, letter("R", key+" 1"), impl.GramBad, impl.GramBad)
		}
		if !strings.Contains("0123456789", other) {
			expectStep(t, letter("R", "a 1"+other), impl.GramBad, impl.GramBad)
			expectStep(t, letter("R", "a 1"+other+"1"), impl.GramBad, impl.GramBad)
		}
	}
	for _, body := range []string{"", " ", "  ", "abc 1", "aaa 1", "aA 1", "Aa 1", " 1", "1 1", "fine", "a fine", "aa", "a", "a1", "ab1", digits(40), "a " + digits(38)} {
		expectStep(t, letter("R", body), impl.GramBad, impl.GramBad)
	}
}

// otherBodies are bodies of which no message makes sense, but a few of another type.
func otherBodies() []string {
	return []string{" ", "  ", "a", "f", "a 1", "1", "0", "00", "-1", "B", "C", "R", "Fine", "FINE", "finE", "fin", "fi", "ine", "fine ", " fine", "fine fine", "finefine", "fine1", "f ine",
		"Form", "FORM", "form ", " form", "for", "orm", "forms", "formlate", "form late", "Bad", "ba", "badd", "bad ", "ove", "overs", "over ", "nONE", "no", "what", "long", "gone", "idle", "busy",
		"I", "T", "E", "i ", " i", " t", "it", "ite", "ii", "eti", "e e", "tt", "x", "S00", "B00", "C04fine", "Z01i", digits(39), digits(40), strings.Repeat("i", 40), strings.Repeat("fine", 10)}
}

// expectBodies expects where messages of a type lead from GramIdle and from GramRows with some bodies. With
// others, which include those that fit another type, they lead to GramBad.
func expectBodies(t *testing.T, sign string, idle int, rows int, bodies ...string) {
	t.Helper()
	for _, body := range bodies {
		expectStep(t, letter(sign, body), idle, rows)
	}
	others := append(otherBodies(), "", "fine", "form", "late", "full", "none", "bad", "over", "i", "t", "e")
	for b := byte(32); b <= 126; b++ {
		others = append(others, string([]byte{b}))
	}
	for _, body := range others {
		if !slices.Contains(bodies, body) {
			expectStep(t, letter(sign, body), impl.GramBad, impl.GramBad)
		}
	}
}

func TestGramOfFixedBodies(t *testing.T) {
	expectBodies(t, "C", impl.GramIdle, impl.GramIdle, "fine")
	expectBodies(t, "1", impl.GramIdle, impl.GramBad, "")
	expectBodies(t, "Z", impl.GramIdle, impl.GramBad, "i", "t", "e")
	expectBodies(t, "B", impl.GramOver, impl.GramBad, "")
}

// TestGramOfErrors is the second point of 'Watch': the word of no error, of which 'fine' is one.
func TestGramOfErrors(t *testing.T) {
	expectBodies(t, "E", impl.GramIdle, impl.GramBad, "form", "late", "full", "none", "bad", "over")
	expectStep(t, letter("E", "fine"), impl.GramBad, impl.GramBad)
	expectGramText(t, "E04fine", impl.GramBad)
	expectGramText(t, "E04fineZ01i", impl.GramBad)
	expectGramText(t, "R03a 1E04fineZ01i", impl.GramBad)
	expectGramText(t, "E04whatZ01i", impl.GramBad)
	expectGramText(t, "E00Z01i", impl.GramBad)
}

func TestGramOfOtherTypes(t *testing.T) {
	const types = "ADFGHIJKLMNOPQSTUVWXY023456789"
	for i := range types {
		expectBodies(t, types[i:i+1], impl.GramBad, impl.GramBad)
	}
}

// TestRowsWithoutCompletion is the first point of 'Watch'.
func TestRowsWithoutCompletion(t *testing.T) {
	row := letter("R", "a 1")
	for count := 1; count <= 30; count++ {
		rows := slices.Repeat(letters(row), count)
		expectGramAll(t, rows, impl.GramRows)
		expectGramAll(t, append(slices.Clone(rows), letter("C", "fine")), impl.GramIdle)
		for _, l := range letters(letter("E", "none"), letter("1", ""), letter("Z", "i"), letter("Z", "t"), letter("Z", "e"), letter("B", ""), letter("C", "form"), letter("R", "a"), letter("S", ""), letter("", "")) {
			bad := append(slices.Clone(rows), l)
			expectGramAll(t, bad, impl.GramBad)
			// What should have come does not help any more.
			expectGramAll(t, append(bad, letter("C", "fine"), letter("Z", "i")), impl.GramBad)
		}
	}
	expectGramText(t, "R03a 1C04fineR04ab 2", impl.GramRows)
	expectGramText(t, "R03a 1C04fineC04fine", impl.GramIdle)
	expectGramText(t, "R03b 1R03a 1R03a 2R05a -99C04fineZ01i", impl.GramIdle)
	expectGramText(t, "E04noneR03a 1", impl.GramRows)
	expectGramText(t, "R03a 1C04fineZ01iR03a 1Z01i", impl.GramBad)
}

// TestMessagesBehindTheEnd is the third point of 'Watch'.
func TestMessagesBehindTheEnd(t *testing.T) {
	for _, before := range []string{"", "Z01i", "E04form", "100", "R03a 1C04fineZ01t", "E04noneZ01eE03bad"} {
		expectGramText(t, before+"B00", impl.GramOver)
		for _, behind := range []string{"B00", "Z01i", "C04fine", "E04form", "100", "R03a 1", "R03a 1C04fine", "S00", "Q05get a", "Z01x", "E04fine"} {
			expectGramText(t, before+"B00"+behind, impl.GramBad)
			expectGramText(t, before+"B00"+behind+"B00", impl.GramBad)
		}
		for _, behind := range append(badBytes(), "B", "B0", "Z01", "E04for") {
			expectGramText(t, before+"B00"+behind, impl.GramBad)
		}
		for _, l := range invalidLetters() {
			expectGramAll(t, append(parse(t, before), letter("B", ""), l), impl.GramBad)
		}
	}
	expectGramText(t, "R03a 1B00", impl.GramBad)
	expectGramText(t, "B01 ", impl.GramBad)
}

// Once it is bad, it stays bad, whatever comes.
func TestBadStaysBad(t *testing.T) {
	for _, bad := range []string{"S00", "E04fine", "R01a", "R03a 1Z01i", "B00B00", "C00", "Z00"} {
		for _, behind := range []string{"", "Z01i", "C04fine", "100", "B00", "E04none", "R03a 1", "R03a 1C04fineZ01i", strings.Repeat("C04fineZ01i", 100)} {
			expectGramText(t, bad+behind, impl.GramBad)
		}
	}
}

func TestGramOfNothing(t *testing.T) {
	expectGramAll(t, nil, impl.GramIdle)
	expectGramAll(t, []impl.Letter{}, impl.GramIdle)
	expectGramText(t, "", impl.GramIdle)
	expectGramMany(t, nil, 0, 0, 0)
	expectGramMany(t, []impl.Letter{}, 0, 0, 0)
}

// Bytes that end within a message, or that no message begins with, are the encoding of no messages.
func TestGramOfOtherBytes(t *testing.T) {
	const told = "R03a 1R05ab -2C04fineZ01iE04none100Z01eE04formB00"
	ends := map[int]int{6: impl.GramRows, 14: impl.GramRows, 21: impl.GramIdle, 25: impl.GramIdle, 32: impl.GramIdle, 35: impl.GramIdle, 39: impl.GramIdle, 46: impl.GramIdle, 49: impl.GramOver, 0: impl.GramIdle}
	for end := range len(told) + 1 {
		want, found := ends[end]
		if !found {
			want = impl.GramBad
		}
		expectGramText(t, told[:end], want)
		for _, bad := range append(badBytes(), "z01i", "Z1i", "Z1", "Z001i", "Z01\n", "Z 1i", "Z-1", "C4fine", "\nZ01i") {
			expectGramText(t, told[:end]+bad, impl.GramBad)
			expectGramText(t, bad+told[end:], impl.GramBad)
		}
		if end > 0 {
			expectGramText(t, told[end-1:end]+told, impl.GramBad)
		}
	}
	for b := range 256 {
		expectGramText(t, string([]byte{byte(b)}), impl.GramBad)
	}
}

// A response may be longer than what may be received at once.
func TestLongResponses(t *testing.T) {
	long := strings.Repeat("R03a 1C04fineZ01i", 24)
	if len(long) != 408 {
		t.Fatal(len(long))
	}
	for _, times := range []int{1, 10, 1000} {
		all := strings.Repeat(long, times)
		expectGramText(t, all, impl.GramIdle)
		expectGramText(t, all+"R03a 1", impl.GramRows)
		expectGramText(t, all+"B00", impl.GramOver)
		expectGramText(t, all+"B00"+all, impl.GramBad)
		expectGramText(t, all+"Z01", impl.GramBad)
		expectGramText(t, all+"q", impl.GramBad)
		list := parse(t, all)
		expectGramAll(t, list, impl.GramIdle)
		expectGramMany(t, list, 24*times, 0, 24*times)
	}
	for length := 390; length <= 410; length++ {
		bytes := strings.Repeat("100", length/3)
		expectGramText(t, bytes, impl.GramIdle)
		expectGramText(t, bytes+strings.Repeat("1", length%3), [3]int{impl.GramIdle, impl.GramBad, impl.GramBad}[length%3])
	}
}

// TestGramMany counts messages of any body, also where they conform to nothing.
func TestGramMany(t *testing.T) {
	complete, wrong, ready := letter("C", "fine"), letter("E", "none"), letter("Z", "i")
	expectGramMany(t, letters(complete), 1, 0, 0)
	expectGramMany(t, letters(wrong), 0, 1, 0)
	expectGramMany(t, letters(ready), 0, 0, 1)
	expectGramMany(t, letters(complete, wrong, wrong, ready, ready, ready), 1, 2, 3)
	expectGramMany(t, letters(ready, complete, wrong, complete, complete), 3, 1, 1)
	expectGramMany(t, parse(t, "R03a 1R03b 2C04fineZ01i100E04noneE03badZ01eE04formB00"), 1, 3, 2)
	expectGramMany(t, parse(t, "C03badE04fineZ00B00C00E00Z05get aZ01x"), 2, 2, 3)
	for _, sign := range []string{"A", "B", "D", "F", "R", "Y", "0", "1", "9", "c", "e", "z", "", "CC", "EZ", "CEZ", "C ", " Z", "É", "\x00", "C\x00"} {
		other := letter(sign, "fine")
		expectGramMany(t, letters(other), 0, 0, 0)
		expectGramMany(t, letters(other, complete, other, other, wrong, complete, other, ready, other), 2, 1, 1)
	}
	for _, body := range []string{"", "\n", "é", digits(41), digits(1000)} {
		expectGramMany(t, letters(letter("C", body), letter("E", body), letter("Z", body), letter("Z", body)), 1, 1, 2)
	}
	many := slices.Repeat(letters(complete, letter("Q", "get a"), ready, wrong, letter("", ""), ready), 1000)
	expectGramMany(t, many, 1000, 1000, 2000)
}

// requests are bytes of requests of every kind: each of them is complete, unless it is cut off or bad.
func requests() []string {
	list := append(badBytes(), "", "S00", "S03fly", "X00", "X03end", "A00", "100", "E04none", "E01a", "E01b", "E01z", "E00", "P03fly", "P07a get z", "P05a end", "P07c get a", "P10ab put a 1",
		"Q", "Q0", "Q05", "Q05get", "S0", "Q03fly", "Q00", "Q05get\n", digits(400), digits(401), strings.Repeat("S00", 133), strings.Repeat("S00", 134),
		"P07c get cE01cE01cQ05get aS00Q05get b", "Q05beginQ07put a 5Q03endQ07all a z", "Q05beginE01zE01aS00Q05get aQ03endQ05get a", "Q05beginP03flyQ03endS00Q04undo",
		"P07d get aP07e get aP07f get aS00E01d", "Q07all a zQ07all a zX00Q07all a z", "Q07all a zqQ07all a z", "E01aA00S00A00", "Q07sum a zE01aE01bS00Q05")
	for text := range validAsks() {
		list = append(list, fmt.Sprintf("Q%02d%s", len(text), text), fmt.Sprintf("P%02dc %sE01cS00E01c", len(text)+2, text))
	}
	return list
}

// expectConforms expects that what is sent to a session conforms to the grammar, and whether it was closed by it.
func expectConforms(t *testing.T, what string, out string, over bool) {
	t.Helper()
	want := impl.GramIdle
	if over {
		want = impl.GramOver
	}
	if got := impl.GramText(out); got != want {
		t.Errorf("%s: GramText(%q) = %d, want %d", what, out, got, want)
	}
	if got := impl.GramAll(parse(t, out)); got != want {
		t.Errorf("%s: GramAll(%q) = %d, want %d", what, out, got, want)
	}
}

// Whatever a session receives, its responses conform to the grammar.
func TestResponsesOfSessions(t *testing.T) {
	v := abStore()
	for name, s := range validTalks() {
		for _, bytes := range requests() {
			what := fmt.Sprintf("%s, TalkFeed of %q", name, bytes)
			_, after, out := impl.TalkFeed(v, s, bytes)
			expectConforms(t, what, out, after.Gone && !s.Gone)
		}
		for how, l := range anyLetters() {
			_, after, sent := impl.TalkDo(v, s, l)
			expectConforms(t, fmt.Sprintf("%s, TalkDo of %d", name, how), impl.LettersText(sent), after.Gone && !s.Gone)
			_, after, sent = impl.TalkAll(v, s, append(anyLetters()[:5], l, l))
			expectConforms(t, fmt.Sprintf("%s, TalkAll with %d", name, how), impl.LettersText(sent), after.Gone && !s.Gone)
		}
	}
	for name, v := range validStores() {
		_, _, out := impl.TalkFeed(v, impl.Talk{}, "Q08all a zzQ08sum a zzQ05get aQ07put a 5P05a endE01aS00")
		expectConforms(t, name, out, false)
	}
}

// The responses conform to the grammar behind each piece of what is received, at whichever two places it is divided.
func TestResponsesToPieces(t *testing.T) {
	v := abStore()
	for _, bytes := range requests() {
		if len(bytes) > 60 {
			continue
		}
		for i := range len(bytes) + 1 {
			for j := i; j <= len(bytes); j++ {
				v, s, all := v, impl.Talk{}, ""
				for _, piece := range []string{bytes[:i], bytes[i:j], bytes[j:]} {
					var out string
					v, s, out = impl.TalkFeed(v, s, piece)
					all += out
					expectConforms(t, fmt.Sprintf("%q of %q", piece, bytes), all, s.Gone)
				}
			}
		}
	}
}

// connection is what was sent to a session since it was opened.
type connection struct {
	sent string
	over bool
}

// told is what is known of the connections of a server behind an event.
func told(all [3]connection, before impl.Hall, e impl.Ev, after impl.Hall, out string) [3]connection {
	if e.Who < 0 || e.Who > 2 {
		return all
	}
	c := &all[e.Who]
	if before.Talks[e.Who].Gone && !after.Talks[e.Who].Gone {
		*c = connection{}
	}
	c.sent += out
	c.over = c.over || e.Kind == impl.EvBytes && !before.Talks[e.Who].Gone && after.Talks[e.Who].Gone
	return all
}

// Whatever a server receives, what it sends to each session since this was opened conforms to the grammar.
func TestResponsesOfServers(t *testing.T) {
	random := rand.New(rand.NewSource(10))
	keys := []string{"a", "aa", "b", "c", "d", "e", "f", "g", "h", "i", "j", "k"}
	counts := map[string]int{}
	for range 150 {
		m, h := newHallModel(), impl.HallNew()
		var all [3]connection
		var queues [3]string
		some := keys[:3+random.Intn(len(keys)-2)]
		for range 100 {
			e := m.randomEv(random, &queues, some)
			m.happen(e)
			after, out := impl.HallDo(h, e)
			all = told(all, h, e, after, out)
			h = after
			countLetters(t, counts, out)
			for who, c := range all {
				expectConforms(t, fmt.Sprintf("session %d behind %+v", who, e), c.sent, c.over)
			}
			if t.Failed() {
				t.FailNow()
			}
		}
	}
	expectSentOften(t, counts, 10, "R", "Cfine", "Eform", "Elate", "Efull", "Enone", "Ebad", "Eover", "Zi", "Zt", "Ze", "1", "B")
}

// The server's responses to requests of every kind, of which one session's may fail while the others go on.
func TestResponsesOfPlays(t *testing.T) {
	for _, bytes := range requests() {
		list := evs(evOpen(0), evOpen(1), evBytes(0, "Q07put a 1Q05begin"), evBytes(1, bytes), evBytes(0, "Q07put a 2Q03fly"), evBytes(1, "S00"+bytes), evBytes(0, "Q03endQ05get aX00"))
		after, outs := impl.HallPlay(list)
		expectConforms(t, bytes, outs[0], true)
		expectConforms(t, bytes, outs[1], after.Talks[1].Gone)
		expectConforms(t, bytes, outs[2], false)
	}
}

// A query is answered by one completion or one error, and by one ready message; a synchronization by a ready message.
func TestCountsOfResponses(t *testing.T) {
	v := abStore()
	for text := range validAsks() {
		query := fmt.Sprintf("Q%02d%s", len(text), text)
		for _, s := range []impl.Talk{{}, seated(opened(2)), seated(failed(2, put("a", 5)))} {
			_, _, out := impl.TalkFeed(v, s, query+"S00"+query)
			complete, wrong, ready := impl.GramMany(parse(t, out))
			if complete+wrong != 2 || ready != 3 {
				t.Errorf("%q: %q", text, out)
			}
		}
	}
	_, _, out := impl.TalkFeed(v, impl.Talk{}, "P09g all a zE01gE01hE01gS00Q03flyQ05get a")
	expectGramMany(t, parse(t, out), 2, 2, 3)
}

// The grammar as regular expressions over messages, each of which is its type, its body and a new line.
const (
	toldRow  = `R[a-z]{1,2} (0|-?[1-9][0-9]{0,16})\n`
	toldUnit = `((` + toldRow + `)*Cfine|E(form|late|full|none|bad|over)|1|Z[ite])\n`
)

var (
	toldIdle = regexp.MustCompile(`^(` + toldUnit + `)*$`)
	toldRows = regexp.MustCompile(`^(` + toldUnit + `)*(` + toldRow + `)+$`)
	toldOver = regexp.MustCompile(`^(` + toldUnit + `)*B\n$`)
)

// plainGram is the state behind messages, by regular expressions.
func plainGram(list []impl.Letter) int {
	text := ""
	for _, l := range list {
		if !impl.LetterOk(l) {
			return impl.GramBad
		}
		text += l.Sign + l.Body + "\n"
	}
	switch {
	case toldIdle.MatchString(text):
		return impl.GramIdle
	case toldRows.MatchString(text):
		return impl.GramRows
	case toldOver.MatchString(text):
		return impl.GramOver
	}
	return impl.GramBad
}

// randomTold is a message that a server may send, or seldom one that is somehow like it.
func randomTold(random *rand.Rand) impl.Letter {
	types := []string{"R", "C", "E", "1", "Z", "B", "Q", "c", "", "RR"}
	bodies := [][]string{{"a 1", "zz -5", "b 0", "ab 12345678901234567"}, {"fine"}, {"form", "late", "full", "none", "bad", "over"}, {""}, {"i", "t", "e"}, {""},
		{"a -0", "a  1", "abc 1", "a 01", "a", "x", "it", "Fine", "what", digits(41), "\n"}}
	kind := random.Intn(5)
	switch random.Intn(40) {
	case 0:
		kind = 5
	case 1:
		return letter(types[random.Intn(len(types))], bodies[6][random.Intn(len(bodies[6]))])
	case 2:
		other := bodies[random.Intn(6)]
		return letter(types[random.Intn(len(types))], other[random.Intn(len(other))])
	}
	return letter(types[kind], bodies[kind][random.Intn(len(bodies[kind]))])
}

// Random messages, of which rows are mostly followed by a completion, are held against the regular expressions.
func TestGramAgainstRegularExpressions(t *testing.T) {
	random := rand.New(rand.NewSource(11))
	counts := map[int]int{}
	for range 20000 {
		var list []impl.Letter
		many := map[string]int{}
		for range random.Intn(9) {
			l := randomTold(random)
			list = append(list, l)
			many[l.Sign]++
			if l.Sign == "R" && random.Intn(4) > 0 {
				list = append(list, letter("C", "fine"))
				many["C"]++
			}
		}
		want := plainGram(list)
		counts[want]++
		expectGramAll(t, list, want)
		expectGramMany(t, list, many["C"], many["E"], many["Z"])
		state := impl.GramIdle
		for i, l := range list {
			state = impl.GramStep(state, l)
			if state != plainGram(list[:i+1]) {
				t.Errorf("%q: the state %d", list[:i+1], state)
			}
		}
		if t.Failed() {
			t.FailNow()
		}
	}
	for state := range 4 {
		if counts[state] < 200 {
			t.Errorf("the state %d came up only %d times", state, counts[state])
		}
	}
}

func TestReadingResponsesChangesNothing(t *testing.T) {
	want := parse(t, "R03a 1C04fineE04noneZ01iB00Z01i")
	list := slices.Clone(want)
	behind := append(list[:2:2], letter("?", "behind its length"))
	impl.GramAll(list)
	impl.GramMany(list)
	impl.GramAll(behind[:2])
	impl.GramMany(behind[:2])
	expectLetters(t, "the argument", list, want)
	expectLetters(t, "behind the argument", behind, append(want[:2:2], letter("?", "behind its length")))
}
