package tests

import (
	"fmt"
	"maps"
	"math/rand"
	"runtime"
	"slices"
	"strings"
	"sync"
	"testing"
	"time"

	"loop.example/engrosser/impl"
)

// answer is what a session should return: the store, the session, and the encoding of what it sends.
type answer struct {
	v   impl.Vers
	t   impl.Talk
	out string
}

// closed is a session that is closed.
var closed = impl.Talk{Gone: true}

// named is a prepared statement.
func named(name string, a impl.Ask) impl.Named { return impl.Named{Name: name, Ask: a} }

// seated is a session with a seat and prepared statements.
func seated(s impl.Seat, names ...impl.Named) impl.Talk { return impl.Talk{Seat: s, Names: names} }

// skipping is the session while it skips messages.
func skipping(t impl.Talk) impl.Talk {
	t.Skip = true
	return t
}

// holding is the session with bytes that are no complete message yet.
func holding(t impl.Talk, in string) impl.Talk {
	t.In = in
	return t
}

// abNames are two prepared statements, one that reads and one that writes.
func abNames() []impl.Named {
	return []impl.Named{named("a", askGet("a")), named("b", askPut("b", 7))}
}

// parse is the messages of which text is the encoding.
func parse(t *testing.T, text string) []impl.Letter {
	t.Helper()
	var list []impl.Letter
	for text != "" {
		l, count, code := impl.LetterTake(text)
		if code != impl.LetterFine {
			t.Fatalf("%q is no message", text)
		}
		list = append(list, l)
		text = text[count:]
	}
	return list
}

func expectTalk(t *testing.T, what string, got impl.Talk, want impl.Talk) {
	t.Helper()
	expectSeat(t, what, got.Seat, want.Seat)
	if !slices.Equal(got.Names, want.Names) || got.Skip != want.Skip || got.Gone != want.Gone || got.In != want.In {
		t.Errorf("%s:\ngot the session %+v\nwant            %+v", what, got, want)
	}
}

// expectFeed expects an answer to received bytes.
func expectFeed(t *testing.T, v impl.Vers, s impl.Talk, bytes string, want answer) {
	t.Helper()
	what := fmt.Sprintf("TalkFeed(%v, %+v, %q)", v, s, bytes)
	gotVers, gotTalk, out := impl.TalkFeed(v, s, bytes)
	expectVers(t, what, gotVers, want.v)
	expectTalk(t, what, gotTalk, want.t)
	if out != want.out {
		t.Errorf("%s:\ngot  %q\nwant %q", what, out, want.out)
	}
}

// expectList expects an answer to messages, and to each of them alone if there is one.
func expectList(t *testing.T, v impl.Vers, s impl.Talk, list []impl.Letter, want answer) {
	t.Helper()
	what := fmt.Sprintf("TalkAll(%v, %+v, %q)", v, s, list)
	gotVers, gotTalk, sent := impl.TalkAll(v, s, list)
	expectVers(t, what, gotVers, want.v)
	expectTalk(t, what, gotTalk, want.t)
	expectLetters(t, what, sent, parse(t, want.out))
	if len(list) != 1 {
		return
	}
	what = fmt.Sprintf("TalkDo(%v, %+v, %q)", v, s, list[0])
	gotVers, gotTalk, sent = impl.TalkDo(v, s, list[0])
	expectVers(t, what, gotVers, want.v)
	expectTalk(t, what, gotTalk, want.t)
	expectLetters(t, what, sent, parse(t, want.out))
}

// expectSent expects the same answer to complete messages, whether they come as messages or as bytes.
func expectSent(t *testing.T, v impl.Vers, s impl.Talk, bytes string, want answer) {
	t.Helper()
	if !impl.TalkOk(v, s) {
		t.Fatalf("%+v is not valid", s)
	}
	if !impl.TalkOk(want.v, want.t) {
		t.Fatalf("%+v is not a valid session to expect", want.t)
	}
	expectList(t, v, s, parse(t, bytes), want)
	if s.In == "" {
		expectFeed(t, v, s, bytes, want)
	}
}

// validTalks has sessions that are valid in abStore.
func validTalks() map[string]impl.Talk {
	three := append(abNames(), named("z", askEnd()))
	return map[string]impl.Talk{
		"zero value":       {},
		"empty slices":     {Seat: impl.Seat{Work: impl.Work{Writes: []impl.Write{}}}, Names: []impl.Named{}},
		"open":             seated(opened(2)),
		"open, writes":     seated(opened(1, put("a", 5), gone("zz"))),
		"failed":           seated(failed(2, put("a", 5))),
		"one name":         seated(impl.Seat{}, named("q", askBegin())),
		"three names":      seated(impl.Seat{}, three...),
		"skips":            {Skip: true},
		"skips, open":      skipping(seated(opened(2), three...)),
		"skips, failed":    skipping(seated(failed(0), abNames()...)),
		"bytes":            {In: "Q05get "},
		"a type":           {In: "Q"},
		"a digit":          {In: "Q4"},
		"a length":         {In: "Q40"},
		"42 bytes":         {In: "Q40" + digits(39)},
		"all at once":      holding(skipping(seated(failed(1, put("a", 5)), three...)), "S0"),
		"closed":           {Gone: true},
		"closed, no names": {Gone: true, Names: []impl.Named{}, Seat: impl.Seat{Work: impl.Work{Writes: []impl.Write{}}}},
	}
}

// invalidTalks has sessions for each way in which one is not valid in fullRows(3).
func invalidTalks() map[string]impl.Talk {
	get := askGet("a")
	list := map[string]impl.Talk{
		"four names":            seated(impl.Seat{}, named("a", get), named("b", get), named("c", get), named("d", get)),
		"a hundred names":       seated(impl.Seat{}, slices.Repeat(abNames(), 50)...),
		"names not in order":    seated(impl.Seat{}, named("b", get), named("a", get)),
		"a name twice":          seated(impl.Seat{}, named("a", get), named("a", askBegin())),
		"last names disordered": seated(impl.Seat{}, named("a", get), named("c", get), named("b", get)),
		"closed, open":          {Gone: true, Seat: opened(3)},
		"closed, failed":        {Gone: true, Seat: failed(3)},
		"closed, a name":        {Gone: true, Names: []impl.Named{named("a", get)}},
		"closed, a zero name":   {Gone: true, Names: []impl.Named{{}}},
		"closed, skips":         {Gone: true, Skip: true},
		"closed, bytes":         {Gone: true, In: "Q"},
		"closed, bad bytes":     {Gone: true, In: "q"},
		"closed, a message":     {Gone: true, In: "S00"},
	}
	for _, in := range []string{"S00", "Q05get a", "S00Q", "S00q", "q", "Qx", "Q5", "Q41", "Q05get\n", "\n", " ", "\xff", "Q40" + digits(40), strings.Repeat("S00", 200)} {
		list[fmt.Sprintf("bytes %q", in)] = impl.Talk{In: in}
		list[fmt.Sprintf("skips, bytes %q", in)] = impl.Talk{Skip: true, In: in}
	}
	for _, name := range []string{"", "A", "Z", "`", "{", "1", " ", "ab", "aa", "a ", "\x00", "\xff", "é", "ä"} {
		list[fmt.Sprintf("name %q", name)] = seated(impl.Seat{}, named(name, get))
		list[fmt.Sprintf("names a and %q", name)] = seated(opened(3), named("a", get), named(name, get))
	}
	for how, a := range invalidAsks() {
		list["statement of "+how] = seated(impl.Seat{}, named("a", a))
		list["second statement of "+how] = seated(impl.Seat{}, named("a", get), named("b", a))
	}
	for how, s := range invalidSeats() {
		list["seat: "+how] = seated(s)
		list["seat and names: "+how] = skipping(seated(s, abNames()...))
		list["closed, seat: "+how] = impl.Talk{Gone: true, Seat: s}
	}
	return list
}

// anyLetters has messages of each type, valid ones and others.
func anyLetters() []impl.Letter {
	list := letters(letter("S", ""), letter("Q", "get a"), letter("Q", "put a 1"), letter("Q", "begin"), letter("Q", "fly"),
		letter("P", "a get a"), letter("P", "fly"), letter("E", "a"), letter("E", "z"), letter("X", ""), letter("A", ""), letter("1", ""))
	return slices.AppendSeq(list, maps.Values(invalidLetters()))
}

// expectNothing expects zero values of everything that a session is asked to do.
func expectNothing(t *testing.T, name string, v impl.Vers, s impl.Talk) {
	t.Helper()
	if impl.TalkOk(v, s) {
		t.Errorf("%s: valid", name)
	}
	for _, l := range anyLetters() {
		expectList(t, v, s, letters(l), answer{})
	}
	expectList(t, v, s, nil, answer{})
	expectList(t, v, s, anyLetters(), answer{})
	for _, bytes := range []string{"", "S00", "Q05get a", "q", "a", "X00", digits(400), digits(401)} {
		expectFeed(t, v, s, bytes, answer{})
	}
}

func TestTalkConstants(t *testing.T) {
	if impl.NamesMost != 3 {
		t.Error(impl.NamesMost)
	}
}

func TestTalkOk(t *testing.T) {
	for name, s := range validTalks() {
		if !impl.TalkOk(abStore(), s) {
			t.Errorf("%s: not valid", name)
		}
	}
	for name, v := range validStores() {
		for _, s := range []impl.Talk{{}, closed, seated(opened(v.Now)), seated(failed(0), abNames()...)} {
			if !impl.TalkOk(v, s) {
				t.Errorf("%s, %+v: not valid", name, s)
			}
		}
	}
	for text, a := range validAsks() {
		if !impl.TalkOk(impl.Vers{}, seated(impl.Seat{}, named("k", a))) {
			t.Errorf("%q cannot be prepared", text)
		}
	}
}

// TestNamesOfOneByte holds every byte against the statement names.
func TestNamesOfOneByte(t *testing.T) {
	for b := range 256 {
		name := string([]byte{byte(b)})
		want := "a" <= name && name <= "z"
		if impl.TalkOk(impl.Vers{}, seated(impl.Seat{}, named(name, askBegin()))) != want {
			t.Errorf("the name %q: %t", name, !want)
		}
		if b < 32 || b > 126 {
			continue
		}
		after := answer{t: impl.Talk{Skip: true}, out: "E04form"}
		if want {
			after = answer{t: seated(impl.Seat{}, named(name, askBegin())), out: "100"}
		}
		expectSent(t, impl.Vers{}, impl.Talk{}, "P07"+name+" begin", after)
	}
}

// TestBytesOfSessions holds what a session may hold against what LetterTake waits for.
func TestBytesOfSessions(t *testing.T) {
	for text := range validLetters() {
		for end := range len(text) + 1 {
			for _, in := range []string{text[:end], text[:end] + "\n"} {
				want := end < len(text) && in == text[:end]
				if impl.TalkOk(impl.Vers{}, impl.Talk{In: in}) != want {
					t.Errorf("the bytes %q: %t", in, !want)
				}
			}
		}
	}
}

func TestInvalidTalks(t *testing.T) {
	full := fullRows(3)
	for name, s := range invalidTalks() {
		expectNothing(t, name, full, s)
	}
}

func TestTalksOfInvalidStores(t *testing.T) {
	for name, v := range invalidStores() {
		for _, s := range []impl.Talk{{}, closed, {Skip: true}, {In: "Q"}, seated(opened(0)), seated(impl.Seat{}, abNames()...)} {
			expectNothing(t, name, v, s)
		}
	}
}

// A message that is not valid changes nothing, neither alone nor among others.
func TestInvalidLettersAreIgnored(t *testing.T) {
	v := abStore()
	for _, s := range validTalks() {
		for name, l := range invalidLetters() {
			what := fmt.Sprintf("%s, TalkDo(%v, %+v, %q)", name, v, s, l)
			gotVers, gotTalk, sent := impl.TalkDo(v, s, l)
			expectVers(t, what, gotVers, v)
			expectTalk(t, what, gotTalk, s)
			expectLetters(t, what, sent, nil)
		}
	}
	get, sync := letter("Q", "get a"), letter("S", "")
	for _, l := range invalidLetters() {
		expectList(t, v, impl.Talk{}, letters(l), answer{v: v})
		expectList(t, v, impl.Talk{}, letters(l, get, l, l, sync, l), answer{v: v, out: "R03a 1C04fineZ01iZ01i"})
		expectList(t, v, skipping(seated(opened(2))), letters(l, get, l), answer{v, skipping(seated(opened(2))), ""})
		expectList(t, v, closed, letters(l, get, l), answer{v, closed, ""})
	}
}

func TestNoMessages(t *testing.T) {
	v := abStore()
	for _, s := range validTalks() {
		expectList(t, v, s, nil, answer{v, s, ""})
		expectFeed(t, v, s, "", answer{v, s, ""})
	}
}

// states are sessions by their ready messages.
func states() map[string]impl.Talk {
	return map[string]impl.Talk{
		"Z01i": seated(impl.Seat{}, abNames()...),
		"Z01t": seated(opened(1, put("a", 5)), abNames()...),
		"Z01e": seated(failed(1, put("a", 5)), abNames()...),
	}
}

func TestSync(t *testing.T) {
	v := abStore()
	for ready, s := range states() {
		for _, body := range []string{"00", "01S", "03fly", "05get a", "40" + digits(40)} {
			expectSent(t, v, s, "S"+body, answer{v, s, ready})
			expectSent(t, v, skipping(s), "S"+body, answer{v, s, ready})
		}
		expectSent(t, v, skipping(s), "S00S00", answer{v, s, ready + ready})
		expectList(t, v, holding(skipping(s), "Q05g"), letters(letter("S", "")), answer{v, holding(s, "Q05g"), ready})
	}
}

// TestQueryOutside has each word of a code, where no transaction is open.
func TestQueryOutside(t *testing.T) {
	v := abStore()
	s := seated(impl.Seat{}, abNames()...)
	expectSent(t, v, s, "Q05get a", answer{v, s, "R03a 1C04fineZ01i"})
	expectSent(t, v, s, "Q07all a z", answer{v, s, "R03a 1R03b 2C04fineZ01i"})
	expectSent(t, v, s, "Q07all c z", answer{v, s, "C04fineZ01i"})
	expectSent(t, v, s, "Q07sum a z", answer{v, s, "R03a 3C04fineZ01i"})
	expectSent(t, v, s, "Q09put a -12", answer{store(3, ver("a", 1, 1, 3), ver("a", -12, 3, 0), ver("b", 2, 2, 0)), s, "C04fineZ01i"})
	expectSent(t, v, s, "Q07add b 5", answer{store(3, ver("a", 1, 1, 0), ver("b", 2, 2, 3), ver("b", 7, 3, 0)), s, "C04fineZ01i"})
	expectSent(t, v, s, "Q05cut a", answer{store(3, ver("a", 1, 1, 3), ver("b", 2, 2, 0)), s, "C04fineZ01i"})
	expectSent(t, v, s, "Q05begin", answer{v, seated(opened(2), abNames()...), "C04fineZ01t"})
	expectSent(t, v, s, "Q05get z", answer{v, s, "E04noneZ01i"})
	expectSent(t, v, s, "Q03end", answer{v, s, "E04noneZ01i"})
	expectSent(t, v, s, "Q04undo", answer{v, s, "E04noneZ01i"})
	expectSent(t, v, s, "Q09add a 999", answer{v, s, "E04overZ01i"})
	expectSent(t, v, s, "Q03fly", answer{v, s, "E04formZ01i"})
	expectSent(t, store(40), impl.Talk{}, "Q07put a 1", answer{store(40), impl.Talk{}, "E04fullZ01i"})
	expectSent(t, fullRows(3), impl.Talk{}, "Q07put k 1", answer{fullRows(3), impl.Talk{}, "E04fullZ01i"})
}

// TestQueryInTransaction has each word of a code, where a transaction is open.
func TestQueryInTransaction(t *testing.T) {
	v := abStore()
	s := seated(opened(1, put("a", 5)))
	bad := seated(failed(1, put("a", 5)))
	expectSent(t, v, s, "Q07all a z", answer{v, s, "R03a 5C04fineZ01t"})
	expectSent(t, v, s, "Q08put c 40", answer{v, seated(opened(1, put("a", 5), put("c", 40))), "C04fineZ01t"})
	expectSent(t, v, s, "Q03end", answer{store(3, ver("a", 1, 1, 3), ver("a", 5, 3, 0), ver("b", 2, 2, 0)), impl.Talk{}, "C04fineZ01i"})
	expectSent(t, v, s, "Q04undo", answer{v, impl.Talk{}, "C04fineZ01i"})
	expectSent(t, v, s, "Q03fly", answer{v, bad, "E04formZ01e"})
	expectSent(t, v, s, "Q07put b 3", answer{v, bad, "E04lateZ01e"})
	expectSent(t, v, s, "Q05get b", answer{v, bad, "E04noneZ01e"})
	expectSent(t, v, s, "Q05begin", answer{v, bad, "E04noneZ01e"})
	expectSent(t, v, s, "Q09add a 995", answer{v, bad, "E04overZ01e"})
	expectSent(t, v, bad, "Q05get a", answer{v, bad, "E03badZ01e"})
	expectSent(t, v, bad, "Q03fly", answer{v, bad, "E04formZ01e"})
	expectSent(t, v, bad, "Q03end", answer{v, impl.Talk{}, "E03badZ01i"})
	expectSent(t, v, bad, "Q04undo", answer{v, impl.Talk{}, "C04fineZ01i"})
	expectSent(t, v, seated(opened(1, put("b", 5))), "Q03end", answer{v, impl.Talk{}, "E04lateZ01i"})
	expectSent(t, store(40), seated(opened(40, put("b", 5))), "Q03end", answer{store(40), impl.Talk{}, "E04fullZ01i"})
	full := fullRows(3)
	expectSent(t, full, seated(opened(3)), "Q07put k 1", answer{full, seated(failed(3)), "E04fullZ01e"})
}

// An error of a query does not let messages be skipped.
func TestErrorOfQueryDoesNotSkip(t *testing.T) {
	v := abStore()
	expectSent(t, v, impl.Talk{}, "Q05get zQ03flyQ05get a", answer{v, impl.Talk{}, "E04noneZ01iE04formZ01iR03a 1C04fineZ01i"})
	expectSent(t, v, impl.Talk{}, "Q05get zP07a get aE01a", answer{v, seated(impl.Seat{}, named("a", askGet("a"))), "E04noneZ01i100R03a 1C04fine"})
}

// otherTexts are texts that AskRead does not accept, as bodies of messages.
func otherTexts() []string {
	return []string{"", " ", "fly", "get", "get ", " get a", "get a ", "get  a", "GET a", "get abc", "get a b", "put a", "put a 01", "put a 1000",
		"put a +1", "all a", "all a z z", "begin ", " begin", "end a", "undo 1", "a get a", "a begin", "begin begin", digits(40), strings.Repeat("a", 40)}
}

func TestQueryOfOtherBodies(t *testing.T) {
	v := abStore()
	for _, body := range otherTexts() {
		bytes := fmt.Sprintf("Q%02d%s", len(body), body)
		expectSent(t, v, impl.Talk{}, bytes, answer{v, impl.Talk{}, "E04formZ01i"})
		expectSent(t, v, seated(opened(2, put("a", 5))), bytes, answer{v, seated(failed(2, put("a", 5))), "E04formZ01e"})
		expectSent(t, v, seated(failed(2)), bytes, answer{v, seated(failed(2)), "E04formZ01e"})
	}
}

func TestPrepareEachStatement(t *testing.T) {
	v := abStore()
	for text, a := range validAsks() {
		bytes := fmt.Sprintf("P%02db %s", len(text)+2, text)
		for _, seat := range []impl.Seat{{}, opened(1, put("a", 5)), failed(2)} {
			expectSent(t, v, seated(seat), bytes, answer{v, seated(seat, named("b", a)), "100"})
			expectSent(t, v, seated(seat, abNames()...), bytes, answer{v, seated(seat, named("a", askGet("a")), named("b", a)), "100"})
		}
	}
}

// The names are kept in order, in whichever order they come.
func TestPrepareInAnyOrder(t *testing.T) {
	want := seated(impl.Seat{}, named("a", askGet("a")), named("m", askGet("m")), named("z", askGet("z")))
	for _, order := range []string{"amz", "azm", "maz", "mza", "zam", "zma"} {
		bytes := ""
		for i := range 3 {
			bytes += "P07" + order[i:i+1] + " get " + order[i:i+1]
		}
		expectSent(t, impl.Vers{}, impl.Talk{}, bytes, answer{t: want, out: "100100100"})
	}
}

// TestNamePreparedTwice is the third point of 'Watch': the later statement is the one that is executed.
func TestNamePreparedTwice(t *testing.T) {
	v := abStore()
	s := seated(impl.Seat{}, named("a", askGet("a")))
	expectSent(t, v, s, "P07a get b", answer{v, seated(impl.Seat{}, named("a", askGet("b"))), "100"})
	expectSent(t, v, s, "P07a get a", answer{v, s, "100"})
	expectSent(t, v, s, "E01aP07a get bE01a", answer{v, seated(impl.Seat{}, named("a", askGet("b"))), "R03a 1C04fine100R03b 2C04fine"})
	expectSent(t, v, s, "P09a all a zP07a sum aE01a", answer{v, skipping(seated(impl.Seat{}, named("a", askAll("a", "z")))), "100E04form"})
	expectSent(t, v, impl.Talk{}, "P07z begin"+"P05z end"+"P09z put z 9", answer{v, seated(impl.Seat{}, named("z", askPut("z", 9))), "100100100"})
}

// TestNamesMost prepares as many statements as there may be, one more, and each of those that are there again.
func TestNamesMost(t *testing.T) {
	v := abStore()
	all := []impl.Named{named("b", askGet("b")), named("d", askGet("d")), named("f", askGet("f"))}
	expectSent(t, v, seated(opened(2), all[:2]...), "P07f get f", answer{v, seated(opened(2), all...), "100"})
	for _, seat := range []impl.Seat{{}, opened(2, put("a", 5)), failed(2)} {
		s := seated(seat, all...)
		for _, name := range []string{"a", "c", "e", "g", "z"} {
			expectSent(t, v, s, "P07"+name+" begin", answer{v, skipping(s), "E04full"})
		}
		for i, name := range []string{"b", "d", "f"} {
			names := slices.Clone(all)
			names[i].Ask = askBegin()
			expectSent(t, v, s, "P07"+name+" begin", answer{v, seated(seat, names...), "100"})
		}
		// The form comes before the number of statements.
		expectSent(t, v, s, "P05a fly", answer{v, skipping(s), "E04form"})
		expectSent(t, v, s, "P05b fly", answer{v, skipping(s), "E04form"})
	}
	expectSent(t, v, impl.Talk{}, "P07b get bP07d get dP07f get fP07h get hP07b get aE01bS00E01bE01h",
		answer{v, skipping(seated(impl.Seat{}, all...)), "100100100E04fullZ01iR03b 2C04fineE04none"})
}

// Bodies of another form, with every text that is no statement behind a name.
func TestPrepareOfOtherBodies(t *testing.T) {
	v := abStore()
	bodies := []string{"", "a", "a ", " ", "get a", "aget a", "a  get a", " a get a", "a get a ", "A get a", "1 get a", "ab get a", "aa begin",
		" get a", "  get a", "a-get a", "begin", "begin begin", "a,get a", "a a get a", "` begin", "{ begin", "_ begin"}
	for _, text := range otherTexts() {
		if len(text) < 39 {
			bodies = append(bodies, "a "+text)
		}
	}
	for _, body := range bodies {
		bytes := fmt.Sprintf("P%02d%s", len(body), body)
		for _, s := range states() {
			expectSent(t, v, s, bytes, answer{v, skipping(s), "E04form"})
		}
	}
}

// TestExecute has each word of a code that a prepared statement may have; every error lets messages be skipped.
func TestExecute(t *testing.T) {
	v := abStore()
	var none impl.Seat
	open, bad := opened(1, put("a", 5)), failed(1, put("a", 5))
	cases := []struct {
		v      impl.Vers
		before impl.Seat
		a      impl.Ask
		after  impl.Seat
		out    string
	}{
		{v, none, askGet("a"), none, "R03a 1C04fine"},
		{v, none, askAll("a", "z"), none, "R03a 1R03b 2C04fine"},
		{v, none, askAll("c", "z"), none, "C04fine"},
		{v, none, askSum("b", "z"), none, "R03b 2C04fine"},
		{v, none, askBegin(), opened(2), "C04fine"},
		{v, none, askEnd(), none, "E04none"},
		{v, none, askGet("c"), none, "E04none"},
		{v, none, askAdd("b", 998), none, "E04over"},
		{fullRows(3), none, askPut("k", 1), none, "E04full"},
		{v, open, askGet("a"), open, "R03a 5C04fine"},
		{v, open, askPut("c", 9), opened(1, put("a", 5), put("c", 9)), "C04fine"},
		{v, open, askUndo(), none, "C04fine"},
		{v, open, askBegin(), bad, "E04none"},
		{v, open, askCut("b"), bad, "E04none"},
		{v, open, askPut("b", 1), bad, "E04late"},
		{v, open, askAdd("a", 999), bad, "E04over"},
		{fullRows(3), opened(3), askPut("k", 1), failed(3), "E04full"},
		{v, bad, askGet("a"), bad, "E03bad"},
		{v, bad, askEnd(), none, "E03bad"},
		{v, bad, askUndo(), none, "C04fine"},
		{v, opened(1, put("b", 5)), askEnd(), none, "E04late"},
		{store(40), opened(40, put("b", 5)), askEnd(), none, "E04full"},
	}
	for _, c := range cases {
		names := []impl.Named{named("a", askUndo()), named("k", c.a), named("z", askUndo())}
		after := seated(c.after, names...)
		after.Skip = strings.Contains(c.out, "E0")
		expectSent(t, c.v, seated(c.before, names...), "E01k", answer{c.v, after, c.out})
	}
	s := seated(none, named("k", askPut("a", -3)))
	twice := store(4, ver("a", 1, 1, 3), ver("a", -3, 3, 4), ver("a", -3, 4, 0), ver("b", 2, 2, 0))
	expectSent(t, v, s, "E01kE01k", answer{twice, s, "C04fineC04fine"})
	s = seated(open, named("k", askEnd()))
	ended := store(3, ver("a", 1, 1, 3), ver("a", 5, 3, 0), ver("b", 2, 2, 0))
	expectSent(t, v, s, "E01k", answer{ended, seated(none, named("k", askEnd())), "C04fine"})
}

// A name under which nothing is prepared makes an open transaction bad.
func TestExecuteOfOtherNames(t *testing.T) {
	v := abStore()
	for _, body := range []string{"", "c", "z", "A", "1", " ", "a ", " a", "aa", "ab", "get a", "a get a", "begin", digits(40)} {
		bytes := fmt.Sprintf("E%02d%s", len(body), body)
		for _, names := range [][]impl.Named{nil, abNames()} {
			expectSent(t, v, seated(impl.Seat{}, names...), bytes, answer{v, skipping(seated(impl.Seat{}, names...)), "E04none"})
			bad := skipping(seated(failed(1, put("a", 5)), names...))
			expectSent(t, v, seated(opened(1, put("a", 5)), names...), bytes, answer{v, bad, "E04none"})
			expectSent(t, v, seated(failed(1, put("a", 5)), names...), bytes, answer{v, bad, "E04none"})
		}
	}
}

// An error of a prepare message does not make a transaction bad.
func TestErrorOfPrepareInTransaction(t *testing.T) {
	v := abStore()
	want := store(3, ver("a", 1, 1, 3), ver("a", 5, 3, 0), ver("b", 2, 2, 0))
	expectSent(t, v, seated(opened(2, put("a", 5))), "P03flyQ03endS00Q03end", answer{want, impl.Talk{}, "E04formZ01tC04fineZ01i"})
}

// leavers are sessions in the midst of something, with no bytes held.
func leavers() []impl.Talk {
	return []impl.Talk{{}, seated(impl.Seat{}, abNames()...), seated(opened(2, put("a", 5)), abNames()...), seated(opened(1, gone("a"))), seated(failed(2, put("a", 5)), abNames()...)}
}

// TestTerminate is the second point of 'Watch': what was open is discarded, also while messages are skipped.
func TestTerminate(t *testing.T) {
	v := abStore()
	for _, s := range leavers() {
		for _, body := range []string{"00", "01S", "03end", "40" + digits(40)} {
			expectSent(t, v, s, "X"+body, answer{v, closed, "B00"})
			expectSent(t, v, skipping(s), "X"+body, answer{v, closed, "B00"})
			expectSent(t, v, holding(s, "Q05ge"), "X"+body, answer{v, closed, "B00"})
		}
		expectFeed(t, v, holding(s, "X0"), "0", answer{v, closed, "B00"})
		expectFeed(t, v, holding(skipping(s), "X"), "01S", answer{v, closed, "B00"})
	}
	expectSent(t, v, impl.Talk{}, "Q05beginQ07put a 5X00", answer{v, closed, "C04fineZ01tC04fineZ01tB00"})
	expectSent(t, v, impl.Talk{}, "Q07put a 5Q05beginQ07put b 5X00",
		answer{store(3, ver("a", 1, 1, 3), ver("a", 5, 3, 0), ver("b", 2, 2, 0)), closed, "C04fineZ01iC04fineZ01tC04fineZ01tB00"})
}

// otherTypes are the types that no client sends.
const otherTypes = "ABCDFGHIJKLMNORTUVWYZ0123456789"

func TestOtherTypes(t *testing.T) {
	v := abStore()
	for i := range otherTypes {
		for _, s := range leavers() {
			for _, body := range []string{"00", "01a", "05get a"} {
				bytes := otherTypes[i:i+1] + body
				expectSent(t, v, s, bytes, answer{v, closed, "E04formB00"})
				expectSent(t, v, s, bytes+"S00"+bytes, answer{v, closed, "E04formB00"})
				expectSent(t, v, skipping(s), bytes, answer{v, skipping(s), ""})
				expectSent(t, v, holding(s, "Q05ge"), bytes, answer{v, closed, "E04formB00"})
			}
		}
	}
}

// badBytes are bytes that begin no message.
func badBytes() []string {
	return []string{"q", "\n", " ", "\x00", "\xff", "Q5", "Q9", "Qx", "Q41", "Q0 ", "Q05get\n", "Q05get\n ", "qS00", "Q40" + digits(39) + "\x7f", "Q99" + digits(300)}
}

// Bytes that are bad close a session, also while messages are skipped; what came before them is handled.
func TestBadBytes(t *testing.T) {
	v := abStore()
	for _, bytes := range badBytes() {
		for _, s := range leavers() {
			expectFeed(t, v, s, bytes, answer{v, closed, "E04formB00"})
			expectFeed(t, v, skipping(s), bytes, answer{v, closed, "E04formB00"})
			expectFeed(t, v, skipping(s), "Q05get a"+bytes+"S00", answer{v, closed, "E04formB00"})
			expectFeed(t, v, s, "X00"+bytes, answer{v, closed, "B00"})
			expectFeed(t, v, s, "A00"+bytes, answer{v, closed, "E04formB00"})
		}
		expectFeed(t, v, impl.Talk{}, "Q05get a"+bytes, answer{v, closed, "R03a 1C04fineZ01iE04formB00"})
		expectFeed(t, v, impl.Talk{}, "Q05beginQ07put a 5"+bytes+"Q03end", answer{v, closed, "C04fineZ01tC04fineZ01tE04formB00"})
		expectFeed(t, v, impl.Talk{}, "Q05cut a"+bytes, answer{store(3, ver("a", 1, 1, 3), ver("b", 2, 2, 0)), closed, "C04fineZ01iE04formB00"})
	}
	expectFeed(t, v, holding(seated(opened(2, put("a", 5))), "Q05get"), "\n", answer{v, closed, "E04formB00"})
	expectFeed(t, v, holding(impl.Talk{}, "Q"), "q", answer{v, closed, "E04formB00"})
	expectFeed(t, v, holding(impl.Talk{}, "Q4"), "1", answer{v, closed, "E04formB00"})
	expectFeed(t, v, holding(skipping(impl.Talk{}), "Q0"), "x", answer{v, closed, "E04formB00"})
}

// Behind a session that is closed nothing happens any more.
func TestClosed(t *testing.T) {
	v := abStore()
	for i := range len(otherTypes) {
		expectSent(t, v, closed, otherTypes[i:i+1]+"00", answer{v, closed, ""})
	}
	for _, bytes := range []string{"S00", "Q05get a", "Q07put a 5", "P07a get a", "E01a", "X00", "Q03fly", "E04none", "P03fly"} {
		expectSent(t, v, closed, bytes, answer{v, closed, ""})
		expectSent(t, v, closed, bytes+bytes, answer{v, closed, ""})
		expectSent(t, v, seated(opened(2, put("a", 5))), "X00"+bytes, answer{v, closed, "B00"})
		expectSent(t, v, skipping(impl.Talk{}), "X00"+bytes+"X00", answer{v, closed, "B00"})
		expectFeed(t, v, closed, bytes[:2], answer{v, closed, ""})
	}
	for _, bytes := range append(badBytes(), "", "S", digits(400), digits(401)) {
		expectFeed(t, v, closed, bytes, answer{v, closed, ""})
	}
}

// While messages are skipped, only those of the types S and X are handled, of which S ends it.
func TestSkipped(t *testing.T) {
	v := abStore()
	skipped := []string{"Q05get a", "Q07put a 5", "Q05begin", "Q03end", "Q04undo", "Q03fly", "P07c get a", "P07a get c", "P03fly", "E01a", "E01b", "E01z", "E00"}
	for i := range otherTypes {
		skipped = append(skipped, otherTypes[i:i+1]+"00")
	}
	for ready, s := range states() {
		all := ""
		for _, bytes := range skipped {
			all += bytes
			expectSent(t, v, skipping(s), bytes, answer{v, skipping(s), ""})
			expectSent(t, v, skipping(s), bytes+"S00", answer{v, s, ready})
			expectSent(t, v, skipping(s), bytes+"X00", answer{v, closed, "B00"})
		}
		expectSent(t, v, skipping(s), all, answer{v, skipping(s), ""})
		expectSent(t, v, skipping(s), all+"S00E01z"+all, answer{v, skipping(seated(impl.Seat{On: s.Seat.On, Bad: s.Seat.On, Work: s.Seat.Work}, s.Names...)), ready + "E04none"})
	}
}

// Each error of a prepare or execute message lets what follows be skipped, until the client synchronizes.
func TestErrorsSkip(t *testing.T) {
	v := abStore()
	names := append(abNames(), named("c", askGet("z")))
	s := seated(impl.Seat{}, names...)
	for bytes, word := range map[string]string{"P03fly": "E04form", "P07d get a": "E04full", "E01c": "E04none", "E01d": "E04none"} {
		expectSent(t, v, s, bytes+"E01bQ07put a 5P07a begin"+bytes+"Q05get aW00", answer{v, skipping(s), word})
		expectSent(t, v, s, bytes+"E01bS00E01a", answer{v, s, word + "Z01iR03a 1C04fine"})
		expectSent(t, v, s, bytes+bytes+"S00S00"+bytes+"S00", answer{v, s, word + "Z01iZ01i" + word + "Z01i"})
	}
	// The end of a transaction is skipped too, so that it stays open; what was executed before the error counts.
	expectSent(t, v, seated(opened(2), names...), "E01bE01aE01cE01bQ03endS00",
		answer{v, seated(failed(2, put("b", 7)), names...), "C04fineR03a 1C04fineE04noneZ01e"})
}

// TestMessageInThreePieces is the first point of 'Watch'.
func TestMessageInThreePieces(t *testing.T) {
	v := abStore()
	s := seated(impl.Seat{}, abNames()...)
	expectFeed(t, v, s, "Q", answer{v, holding(s, "Q"), ""})
	expectFeed(t, v, holding(s, "Q"), "05ge", answer{v, holding(s, "Q05ge"), ""})
	expectFeed(t, v, holding(s, "Q05ge"), "t a", answer{v, s, "R03a 1C04fineZ01i"})
	expectFeed(t, v, holding(s, "Q05ge"), "t aE01", answer{v, holding(s, "E01"), "R03a 1C04fineZ01i"})
	expectFeed(t, v, holding(s, "Q05ge"), "", answer{v, holding(s, "Q05ge"), ""})
	expectFeed(t, v, holding(s, "E01"), "z", answer{v, skipping(s), "E04none"})
	expectFeed(t, v, holding(skipping(s), "Q05ge"), "t aS0", answer{v, holding(skipping(s), "S0"), ""})
	expectFeed(t, v, holding(skipping(s), "S0"), "0Q", answer{v, holding(s, "Q"), "Z01i"})
	// The pieces of a message that writes something, in a transaction that is left behind it.
	open := seated(opened(2, put("c", 1)))
	expectFeed(t, v, open, "Q07put", answer{v, holding(open, "Q07put"), ""})
	expectFeed(t, v, holding(open, "Q07put"), " a ", answer{v, holding(open, "Q07put a "), ""})
	expectFeed(t, v, holding(open, "Q07put a "), "5Q03end", answer{
		store(3, ver("a", 1, 1, 3), ver("a", 5, 3, 0), ver("b", 2, 2, 0), ver("c", 1, 3, 0)), impl.Talk{}, "C04fineZ01tC04fineZ01i"})
}

// What a session holds does not matter to messages that are handled at once.
func TestHeldBytesStay(t *testing.T) {
	v := abStore()
	for _, in := range []string{"Q", "Q05ge", "S0", "Q40" + digits(39)} {
		s := holding(impl.Talk{}, in)
		expectSent(t, v, s, "Q05get a", answer{v, s, "R03a 1C04fineZ01i"})
		expectSent(t, v, s, "E01aS00", answer{v, s, "E04noneZ01i"})
		expectSent(t, v, s, "P03fly", answer{v, skipping(s), "E04form"})
	}
}

// TestBytesMostOfSessions receives as many bytes as are allowed and one more, with none held and with as many held as there may be.
func TestBytesMostOfSessions(t *testing.T) {
	v := abStore()
	syncs, ready := strings.Repeat("S00", 133), strings.Repeat("Z01i", 133)
	var none impl.Talk
	expectFeed(t, v, none, syncs, answer{v, none, ready})
	expectFeed(t, v, none, syncs+"S", answer{v, holding(none, "S"), ready})
	expectFeed(t, v, none, syncs+"q", answer{v, closed, ready + "E04formB00"})
	expectFeed(t, v, none, "Q40"+digits(40)+strings.Repeat("S00", 119), answer{v, none, "E04formZ01i" + strings.Repeat("Z01i", 119)})
	held := holding(none, "Q40"+digits(39))
	expectFeed(t, v, held, "9"+syncs, answer{v, none, "E04formZ01i" + ready})
	expectFeed(t, v, held, "9"+syncs[:396]+"Q05", answer{v, holding(none, "Q05"), "E04formZ01i" + ready[:132*4]})
	expectFeed(t, v, held, "\n"+syncs, answer{v, closed, "E04formB00"})
	for _, bytes := range []string{syncs + "S0", "9" + syncs + "S", "X00" + syncs[:396] + "S0", "\n" + syncs + "q", strings.Repeat("S00", 134), digits(401), strings.Repeat("\xff", 401), strings.Repeat("Q07put a 5", 10000)} {
		if len(bytes) <= 400 {
			t.Fatalf("%d bytes", len(bytes))
		}
		for _, s := range validTalks() {
			expectFeed(t, v, s, bytes, answer{v, s, ""})
		}
		expectFeed(t, v, held, bytes, answer{v, held, ""})
	}
}

// The number of messages has no limit where they are not received as bytes.
func TestManyMessages(t *testing.T) {
	list := slices.Repeat(letters(letter("S", "")), 1000)
	expectList(t, impl.Vers{}, impl.Talk{}, list, answer{out: strings.Repeat("Z01i", 1000)})
}

// feedAll receives pieces of bytes, one after the other.
func feedAll(v impl.Vers, s impl.Talk, pieces ...string) answer {
	after := answer{v: v, t: s}
	for _, piece := range pieces {
		var out string
		after.v, after.t, out = impl.TalkFeed(after.v, after.t, piece)
		after.out += out
	}
	return after
}

func expectPieces(t *testing.T, v impl.Vers, s impl.Talk, want answer, pieces ...string) {
	t.Helper()
	got := feedAll(v, s, pieces...)
	if !impl.VersSame(got.v, want.v) || !impl.TalkSame(got.t, want.t) || got.out != want.out {
		t.Errorf("the pieces %q:\ngot  %v\nwant %v", pieces, got, want)
	}
}

// TestDividedSessions divides the same bytes at every one and every two places, and into single bytes.
func TestDividedSessions(t *testing.T) {
	v := abStore()
	last := store(3, ver("a", 1, 1, 3), ver("a", 5, 3, 0), ver("b", 2, 2, 0))
	streams := map[string]answer{
		"P07c get aE01cE01dE01cQ05get aS00Q05get b": {v, seated(impl.Seat{}, named("c", askGet("a"))), "100R03a 1C04fineE04noneZ01iR03b 2C04fineZ01i"},
		"Q05beginP03flyQ07put a 5S00Q07put a 6E01z": {v, skipping(seated(failed(2, put("a", 6)))), "C04fineZ01tE04formZ01tC04fineZ01tE04none"},
		"Q05beginQ07put a 5Q03endQ05ge":             {last, holding(impl.Talk{}, "Q05ge"), "C04fineZ01tC04fineZ01tC04fineZ01i"},
		"Q05beginQ07put a 5X00Q03endQ05ge":          {v, closed, "C04fineZ01tC04fineZ01tB00"},
		"Q05beginQ07put a 5Q41nQ03endS00":           {v, closed, "C04fineZ01tC04fineZ01tE04formB00"},
		"E01aS00A00Q05get aq":                       {v, closed, "E04noneZ01iE04formB00"},
		"E01aA00Q05get aS0":                         {v, holding(impl.Talk{Skip: true}, "S0"), "E04none"},
		"E01aA00Q05get aq":                          {v, closed, "E04noneE04formB00"},
		"Q07put a 5" + "Q40" + digits(39):           {last, holding(impl.Talk{}, "Q40"+digits(39)), "C04fineZ01i"},
	}
	for bytes, want := range streams {
		expectPieces(t, v, impl.Talk{}, want, bytes)
		expectPieces(t, v, impl.Talk{}, want, strings.Split(bytes, "")...)
		for i := range len(bytes) + 1 {
			expectPieces(t, v, impl.Talk{}, want, bytes[:i], bytes[i:])
			for j := i; j <= len(bytes); j++ {
				expectPieces(t, v, impl.Talk{}, want, bytes[:i], bytes[i:j], bytes[j:])
			}
		}
	}
}

// TestTwoSessions lets two sessions share a store: each line is a session, what it receives and what it sends.
func TestTwoSessions(t *testing.T) {
	v, sessions := impl.Vers{}, [2]impl.Talk{}
	lines := `0 Q07put a 1Q05begin > C04fineZ01iC04fineZ01t
		1 Q05beginQ07put a 5 > C04fineZ01tC04fineZ01t
		0 Q07put a 2Q05ge > C04fineZ01t
		1 Q03end > C04fineZ01i
		0 t aQ03end > R03a 2C04fineZ01tE04lateZ01i
		1 P09g all a zE01gE01hE01gS00 > 100R03a 5C04fineE04noneZ01i
		1 q > E04formB00
		0 Q05get aX00 > R03a 5C04fineZ01iB00
		0 S00 > `
	for line := range strings.Lines(lines) {
		line = strings.TrimLeft(strings.TrimSuffix(line, "\n"), "\t")
		bytes, want, _ := strings.Cut(line[2:], " > ")
		who := line[0] - '0'
		var out string
		v, sessions[who], out = impl.TalkFeed(v, sessions[who], bytes)
		if out != want {
			t.Fatalf("%s: got %q", line, out)
		}
	}
	expectVers(t, "store", v, store(2, ver("a", 1, 1, 2), ver("a", 5, 2, 0)))
	expectTalk(t, "first", sessions[0], closed)
	expectTalk(t, "second", sessions[1], closed)
}

func TestTalkSame(t *testing.T) {
	all := []impl.Talk{
		{}, {Skip: true}, {Gone: true}, {In: "Q"}, {In: "q"}, {Skip: true, Gone: true, In: "Q"},
		seated(opened(0)), seated(failed(0)), seated(opened(0, put("a", 1))), seated(opened(0, put("a", 2))), seated(impl.Seat{Bad: true}),
		seated(impl.Seat{}, named("a", askGet("a"))), seated(impl.Seat{}, named("a", askGet("b"))), seated(impl.Seat{}, named("b", askGet("a"))),
		seated(impl.Seat{}, abNames()...), seated(impl.Seat{}, named("A", impl.Ask{Kind: -1}), named("", impl.Ask{}), named("", impl.Ask{}), named("", impl.Ask{})),
		seated(impl.Seat{}, named("a", impl.Ask{Kind: 1, Key: "a", Hi: "b"})), seated(impl.Seat{}, named("a", impl.Ask{Kind: 1, Key: "a", Num: 1})),
		holding(skipping(seated(failed(3, put("a", 1)), abNames()...)), "Q05"),
	}
	for i, a := range all {
		for j, b := range all {
			b.Names = slices.Clone(b.Names)
			b.Seat.Work.Writes = slices.Clone(b.Seat.Work.Writes)
			if got := impl.TalkSame(a, b); got != (i == j) {
				t.Errorf("TalkSame(%+v, %+v): %t", a, b, got)
			}
		}
	}
	empty := impl.Talk{Names: []impl.Named{}, Seat: impl.Seat{Work: impl.Work{Writes: []impl.Write{}}}}
	if !impl.TalkSame(empty, impl.Talk{}) || !impl.TalkSame(impl.Talk{}, empty) {
		t.Error("nil slices and empty ones are not the same")
	}
}

// talker is what a session should be.
type talker struct {
	client
	names map[string]impl.Ask
	skip  bool
	gone  bool
	in    string
}

// talk is the session that it should be.
func (c talker) talk() impl.Talk {
	s := impl.Talk{Seat: c.seat(), Skip: c.skip, Gone: c.gone, In: c.in}
	for _, name := range slices.Sorted(maps.Keys(c.names)) {
		s.Names = append(s.Names, named(name, c.names[name]))
	}
	return s
}

func (c talker) ready() string {
	switch {
	case !c.on:
		return "Z01i"
	case !c.bad:
		return "Z01t"
	}
	return "Z01e"
}

// tell is the encoding of the result messages of a statement.
func (m *askModel) tell(c *talker, a impl.Ask) (string, bool) {
	list, code := m.do(&c.client, a)
	if code != impl.WorkFine {
		word := []string{"fine", "form", "late", "full", "none", "bad", "over"}[code]
		return fmt.Sprintf("E%02d%s", len(word), word), false
	}
	out := ""
	for _, r := range list {
		body := fmt.Sprint(r.Key, " ", r.Num)
		out += fmt.Sprintf("R%02d%s", len(body), body)
	}
	return out + "C04fine", true
}

// prepare stores a statement, unless there are too many, and says what is sent.
func (c *talker) prepare(body string) string {
	if len(body) < 2 || body[0] < 'a' || body[0] > 'z' || body[1] != ' ' || !statementTexts.MatchString(body[2:]) {
		c.skip = true
		return "E04form"
	}
	names := maps.Clone(c.names)
	if names == nil {
		names = map[string]impl.Ask{}
	}
	names[body[:1]], _ = impl.AskRead(body[2:])
	if len(names) > 3 {
		c.skip = true
		return "E04full"
	}
	c.names = names
	return "100"
}

// handle is what is sent for a message.
func (m *askModel) handle(c *talker, l impl.Letter) string {
	if c.gone || c.skip && !strings.Contains("SX", l.Sign) {
		return ""
	}
	switch l.Sign {
	case "S":
		c.skip = false
		return c.ready()
	case "Q":
		a, _ := impl.AskRead(l.Body)
		out, _ := m.tell(c, a)
		return out + c.ready()
	case "P":
		return c.prepare(l.Body)
	case "E":
		a, found := c.names[l.Body]
		if !found {
			c.skip, c.bad = true, c.on
			return "E04none"
		}
		out, fine := m.tell(c, a)
		c.skip = !fine
		return out
	case "X":
		*c = talker{gone: true}
		return "B00"
	}
	*c = talker{gone: true}
	return "E04formB00"
}

// receive is what is sent for some bytes, and the messages among them.
func (m *askModel) receive(c *talker, bytes string) (string, []impl.Letter) {
	out, list := "", []impl.Letter(nil)
	if !c.gone {
		c.in += bytes
	}
	for !c.gone {
		l, count, code := plainTake(c.in)
		if code == impl.LetterBad {
			*c = talker{gone: true}
			return out + "E04formB00", list
		}
		if code == impl.LetterWait {
			return out, list
		}
		c.in = c.in[count:]
		list = append(list, l)
		out += m.handle(c, l)
	}
	return out, list
}

// randomText is the text of any statement; transactions begin and end more often where that is of use.
func randomText(random *rand.Rand, c talker, keys []string) string {
	key, hi := keys[random.Intn(len(keys))], keys[random.Intn(len(keys))]
	if c.bad && random.Intn(2) == 0 || c.on && random.Intn(12) == 0 {
		return "end"
	}
	switch n := random.Intn(40); {
	case n == 0:
		return "end"
	case n == 1:
		return "undo"
	case n < 5:
		return "begin"
	case n < 10:
		return "get " + key
	case n < 12:
		return "all " + key + " " + hi
	case n < 14:
		return "sum " + key + " " + hi
	case n < 16:
		return "cut " + key
	case n < 28:
		return fmt.Sprint("add ", key, " ", random.Intn(1400)-700)
	}
	return fmt.Sprint("put ", key, " ", random.Intn(1400)-700)
}

// randomMessage is any message that a client may send, of which a few make no sense.
func randomMessage(random *rand.Rand, c talker, keys []string) string {
	text := randomText(random, c, keys)
	if c.skip && random.Intn(2) == 0 {
		return "S00"
	}
	name := string("abcd"[random.Intn(4)])
	switch n := random.Intn(200); {
	case n == 0:
		return []string{"X00", "A00", "100", "Z01i", "q", "Q41", "Q02a\n", "C04fine"}[random.Intn(8)]
	case n < 8:
		body := []string{"", "fly", "a fly", "a", "get a", "aa begin"}[random.Intn(6)]
		return fmt.Sprintf("%c%02d%s", "QPE"[random.Intn(3)], len(body), body)
	case n < 20:
		return "S00"
	case n < 60:
		return fmt.Sprintf("P%02d%s %s", len(text)+2, name, text)
	case n < 110:
		return "E01" + name
	}
	return fmt.Sprintf("Q%02d%s", len(text), text)
}

// Some sessions at once receive pieces of bytes, and are held against a model
// that is made of maps.
func TestSessionsBesideEachOther(t *testing.T) {
	random := rand.New(rand.NewSource(7))
	keys := []string{"a", "aa", "b", "c", "d", "e", "f", "g", "h", "i", "j", "k"}
	counts := map[string]int{}
	for range 200 {
		m := &askModel{rows: map[string]int{}, last: map[string]int{}}
		v, sessions, clients, queues := impl.Vers{}, [3]impl.Talk{}, [3]talker{}, [3]string{}
		some := keys[:3+random.Intn(len(keys)-2)]
		for range 150 {
			who := random.Intn(3)
			c := &clients[who]
			if c.gone && random.Intn(4) == 0 {
				*c, sessions[who], queues[who] = talker{}, impl.Talk{}, ""
			}
			for queues[who] == "" || random.Intn(2) == 0 {
				queues[who] += randomMessage(random, *c, some)
			}
			piece := queues[who][:1+random.Intn(len(queues[who]))]
			queues[who] = queues[who][len(piece):]
			what := fmt.Sprintf("TalkFeed(%v, %+v, %q)", v, sessions[who], piece)
			before, held := v, holding(sessions[who], "")
			want, list := m.receive(c, piece)
			var out string
			v, sessions[who], out = impl.TalkFeed(v, sessions[who], piece)
			if out != want {
				t.Errorf("%s:\ngot  %q\nwant %q", what, out, want)
			}
			m.expectSessions(t, what, v, sessions, clients)
			if !strings.HasSuffix(out, "E04formB00") {
				expectList(t, before, held, list, answer{v, holding(sessions[who], ""), out})
			}
			countLetters(t, counts, out)
			if t.Failed() {
				t.FailNow()
			}
		}
	}
	expectSentOften(t, counts, 20, "R", "Cfine", "Eform", "Elate", "Efull", "Enone", "Ebad", "Eover", "Zi", "Zt", "Ze", "1", "B")
}

// countLetters counts the messages that were sent, by their types alone and with their bodies.
func countLetters(t *testing.T, counts map[string]int, out string) {
	t.Helper()
	for _, l := range parse(t, out) {
		counts[l.Sign]++
		counts[l.Sign+l.Body]++
	}
}

// expectSentOften expects that each of some messages was sent often enough to have been tested.
func expectSentOften(t *testing.T, counts map[string]int, least int, names ...string) {
	t.Helper()
	for _, name := range names {
		if counts[name] < least {
			t.Errorf("%q was sent only %d times", name, counts[name])
		}
	}
}

// expectSessions expects that the store and the sessions are those of the model.
func (m *askModel) expectSessions(t *testing.T, what string, v impl.Vers, sessions [3]impl.Talk, clients [3]talker) {
	t.Helper()
	var seats [3]impl.Seat
	var plain [3]client
	for i := range clients {
		seats[i], plain[i] = sessions[i].Seat, clients[i].client
		expectTalk(t, what, sessions[i], clients[i].talk())
		if !impl.TalkOk(v, sessions[i]) {
			t.Errorf("%s: session %d is not valid", what, i)
		}
	}
	m.expectModel(t, what, v, seats, plain)
}

// spoilTalk overwrites all memory of a result.
func spoilTalk(v impl.Vers, s impl.Talk, sent []impl.Letter) {
	spoil(v, s.Seat, nil)
	names := s.Names[:cap(s.Names)]
	for i := range names {
		names[i] = named("changed", impl.Ask{Kind: -1})
	}
	all := sent[:cap(sent)]
	for i := range all {
		all[i] = letter("changed", "changed")
	}
}

// memoryMessages are messages that change each part of a session, and some that change nothing.
func memoryMessages() []string {
	return []string{"", "S00", "S0", "Q05get a", "Q07put d 1", "Q05cut a", "Q03fly", "Q03end", "Q04undo", "P07a get b", "P07c get b", "P03fly", "E01a", "E01b", "E01z", "X00", "A00",
		"P07c get bP07a beginE01cQ05get aP07d get aS00E01zS00"}
}

// Results share no memory with an argument, not even what lies beyond a length.
func TestSessionsShareNoMemory(t *testing.T) {
	for _, bytes := range memoryMessages() {
		for length := range 4 {
			for _, s := range []impl.Seat{{}, {On: true}, {On: true, Bad: true}} {
				vers := []impl.Ver{ver("a", 1, 1, 2), ver("a", 3, 2, 0), ver("b", 5, 1, 0), ver("zz", 1, 1, 0)}
				list := writes(put("b", 1), gone("c"), put("d", 2), put("x", 9))
				names := append(abNames(), named("c", askEnd()), named("x", askEnd()))
				sent := append(parse(t, strings.TrimSuffix(bytes, "S0")), letter("?", "behind"))
				if s.On {
					s.Work = work(2, list[:length]...)
				}
				v, talk := store(3, vers[:3]...), impl.Talk{Seat: s, Names: names[:length]}
				versBefore, listBefore, namesBefore, sentBefore := slices.Clone(vers), slices.Clone(list), slices.Clone(names), slices.Clone(sent)
				gotVers, gotTalk, _ := impl.TalkFeed(v, talk, bytes)
				spoilTalk(gotVers, gotTalk, nil)
				gotVers, gotTalk, _ = impl.TalkFeed(v, talk, bytes+strings.Repeat("S00", 200))
				spoilTalk(gotVers, gotTalk, nil)
				gotVers, gotTalk, out := impl.TalkAll(v, talk, sent[:len(sent)-1])
				spoilTalk(gotVers, gotTalk, out)
				for _, l := range sent {
					gotVers, gotTalk, out = impl.TalkDo(v, talk, l)
					spoilTalk(gotVers, gotTalk, out)
				}
				if !slices.Equal(vers, versBefore) || !slices.Equal(list, listBefore) || !slices.Equal(names, namesBefore) || !slices.Equal(sent, sentBefore) {
					t.Errorf("%q, %d: %v %v %v %q", bytes, length, vers, list, names, sent)
				}
			}
		}
	}
}

// What a session returned stays as it is, whatever is done with its other results.
func TestAnswersShareNoMemory(t *testing.T) {
	v, s := abStore(), seated(opened(2, put("c", 3)), abNames()...)
	for _, bytes := range memoryMessages() {
		list := parse(t, strings.TrimSuffix(bytes, "S0"))
		v1, s1, sent1 := impl.TalkAll(v, s, list)
		text := impl.LettersText(sent1)
		v2, s2, sent2 := impl.TalkAll(v, s, list)
		spoilTalk(v2, impl.Talk{}, nil)
		spoilTalk(impl.Vers{}, s2, nil)
		spoilTalk(impl.Vers{}, impl.Talk{}, sent2)
		expectList(t, v, s, list, answer{v1, s1, text})
		v3, s3, _ := impl.TalkFeed(v, s, bytes)
		v4, s4, _ := impl.TalkFeed(v, s, bytes)
		spoilTalk(v4, impl.Talk{}, nil)
		spoilTalk(impl.Vers{}, s4, nil)
		expectFeed(t, v, s, bytes, answer{v3, s3, text})
	}
}

func TestReadingSessionsChangesNothing(t *testing.T) {
	v, s := abStore(), holding(seated(opened(2, put("a", 3)), abNames()...), "Q05ge")
	for range 2 {
		impl.TalkOk(v, s)
		impl.TalkSame(s, s)
		impl.TalkAll(v, s, anyLetters())
		impl.TalkFeed(v, s, "t aP07a beginE01bQ03endX00")
	}
	expectVers(t, "store", v, abStore())
	expectTalk(t, "session", s, holding(seated(opened(2, put("a", 3)), abNames()...), "Q05ge"))
}

// The goroutine of a session has ended when its bytes are handled.
func TestNoGoroutineIsLeft(t *testing.T) {
	before := runtime.NumGoroutine()
	for range 200 {
		for _, bytes := range []string{"", "S00", "Q05ge", "X00", "X00S00", "q", digits(401)} {
			impl.TalkFeed(abStore(), impl.Talk{}, bytes)
			impl.TalkFeed(abStore(), closed, bytes)
			impl.TalkFeed(store(-1), impl.Talk{}, bytes)
		}
	}
	expectGoroutines(t, before)
}

// expectGoroutines expects that there are no more goroutines than before.
func expectGoroutines(t *testing.T, before int) {
	t.Helper()
	// One that has nothing left to do may still be counted for a moment.
	for range 100 {
		if runtime.NumGoroutine() <= before {
			return
		}
		time.Sleep(10 * time.Millisecond)
	}
	t.Errorf("%d goroutines, before %d", runtime.NumGoroutine(), before)
}

// Calls at the same time do not affect each other: nothing is kept between them.
func TestSessionsAtTheSameTime(t *testing.T) {
	var all sync.WaitGroup
	for i := range 16 {
		all.Go(func() {
			v, s := abStore(), impl.Talk{}
			for range 50 {
				got := feedAll(v, s, "P09a put c ", fmt.Sprint(i%10, "E01aQ05g"), "et cE01zQ05get cS00X00")
				want := fmt.Sprintf("100C04fineR03c %dC04fineZ01iE04noneZ01iB00", i%10)
				if got.out != want || got.v.Now != 3 || !got.t.Gone {
					t.Errorf("%d: %v, want %q", i, got, want)
				}
			}
		})
	}
	all.Wait()
}
