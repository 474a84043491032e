package tests

import (
	"fmt"
	"math"
	"math/rand"
	"runtime"
	"slices"
	"strings"
	"sync"
	"testing"

	"loop.example/engrosser/impl"
)

func hall(v impl.Vers, talks ...impl.Talk) impl.Hall { return impl.Hall{Vers: v, Talks: talks} }

// newHall is what HallNew should return.
func newHall() impl.Hall { return hall(impl.Vers{}, closed, closed, closed) }

func evBytes(who int, bytes string) impl.Ev {
	return impl.Ev{Kind: impl.EvBytes, Who: who, Bytes: bytes}
}

func evClose(who int) impl.Ev { return impl.Ev{Kind: impl.EvClose, Who: who} }

func evOpen(who int) impl.Ev { return impl.Ev{Kind: impl.EvOpen, Who: who} }

func evs(list ...impl.Ev) []impl.Ev { return list }

// among is a server in which session who is s, and the others are in the midst of something.
func among(v impl.Vers, who int, s impl.Talk) impl.Hall {
	others := []impl.Talk{seated(opened(1, put("a", 5)), abNames()...), holding(skipping(seated(failed(0))), "S0")}
	return hall(v, slices.Insert(others, who, s)...)
}

func expectHall(t *testing.T, what string, got impl.Hall, want impl.Hall) {
	t.Helper()
	expectVers(t, what, got.Vers, want.Vers)
	if len(got.Talks) != len(want.Talks) {
		t.Errorf("%s: %d sessions, want %d", what, len(got.Talks), len(want.Talks))
		return
	}
	for i, s := range got.Talks {
		expectTalk(t, fmt.Sprintf("%s, session %d", what, i), s, want.Talks[i])
	}
}

// expectDo expects what an event does to a server, and the bytes that are sent.
func expectDo(t *testing.T, h impl.Hall, e impl.Ev, want impl.Hall, out string) {
	t.Helper()
	what := fmt.Sprintf("HallDo(%+v, %+v)", h, e)
	got, sent := impl.HallDo(h, e)
	expectHall(t, what, got, want)
	if sent != out {
		t.Errorf("%s:\ngot  %q\nwant %q", what, sent, out)
	}
}

// expectEvent expects what an event does to a session, whichever place it has, while nothing happens to the others.
func expectEvent(t *testing.T, v impl.Vers, s impl.Talk, kind int, bytes string, want answer) {
	t.Helper()
	for who := range 3 {
		before, after := among(v, who, s), among(want.v, who, want.t)
		if !impl.HallOk(before) || !impl.HallOk(after) {
			t.Fatalf("%+v or %+v is not valid", before, after)
		}
		expectDo(t, before, impl.Ev{Kind: kind, Who: who, Bytes: bytes}, after, want.out)
	}
}

// expectPlay expects the server and the bytes of each session behind some events.
func expectPlay(t *testing.T, list []impl.Ev, want impl.Hall, outs ...string) {
	t.Helper()
	what := fmt.Sprintf("HallPlay(%+v)", list)
	got, sent := impl.HallPlay(list)
	expectHall(t, what, got, want)
	if !slices.Equal(sent, outs) {
		t.Errorf("%s:\ngot  %q\nwant %q", what, sent, outs)
	}
}

// readEv is the event of a line such as `0 open`, `1 close` or `2 send S00`.
func readEv(t *testing.T, line string) impl.Ev {
	t.Helper()
	who, what := int(line[0]-'0'), line[2:]
	switch {
	case what == "open":
		return evOpen(who)
	case what == "close":
		return evClose(who)
	case !strings.HasPrefix(what, "send "):
		t.Fatalf("%q is no event", line)
	}
	return evBytes(who, strings.TrimPrefix(what, "send "))
}

// expectScript lets the events of a text happen, each on a line with the bytes
// that it sends behind ` > `, one by one and all at once. It returns the server.
func expectScript(t *testing.T, text string) impl.Hall {
	t.Helper()
	h := impl.HallNew()
	var list []impl.Ev
	var outs [3]string
	for line := range strings.Lines(text) {
		line, want, _ := strings.Cut(strings.Trim(line, "\t\n"), " > ")
		if line == "" {
			continue
		}
		e := readEv(t, line)
		var out string
		h, out = impl.HallDo(h, e)
		if out != want {
			t.Errorf("%q: got %q, want %q\n%s", line, out, want, text)
		}
		list = append(list, e)
		outs[e.Who] += out
	}
	if !impl.HallOk(h) {
		t.Errorf("not valid behind this: %+v\n%s", h, text)
	}
	expectPlay(t, list, h, outs[:]...)
	return h
}

// renumber exchanges the numbers of the sessions of a script.
func renumber(text string, order string) string {
	result := ""
	for line := range strings.Lines(text) {
		line = strings.Trim(line, "\t\n")
		if line != "" {
			result += order[line[0]-'0':][:1] + line[1:] + "\n"
		}
	}
	return result
}

// orders are the orders of three sessions.
var orders = [...]string{"012", "021", "102", "120", "201", "210"}

func TestHallConstants(t *testing.T) {
	if impl.EvBytes != 1 || impl.EvClose != 2 || impl.EvOpen != 3 || impl.TalksMax != 3 || impl.EvsMost != 24 {
		t.Error(impl.EvBytes, impl.EvClose, impl.EvOpen, impl.TalksMax, impl.EvsMost)
	}
}

func TestHallNew(t *testing.T) {
	h := impl.HallNew()
	expectHall(t, "HallNew", h, newHall())
	if !impl.HallOk(h) {
		t.Error("HallNew is not valid")
	}
}

func TestHallOk(t *testing.T) {
	for name, v := range validStores() {
		for who := range 3 {
			talks := []impl.Talk{{}, closed, seated(opened(v.Now), abNames()...)}
			talks[who] = holding(seated(failed(0)), "Q05ge")
			if !impl.HallOk(hall(v, talks...)) {
				t.Errorf("%s, %d: not valid", name, who)
			}
		}
	}
	for name, s := range validTalks() {
		if !impl.HallOk(hall(abStore(), s, s, s)) {
			t.Errorf("%s, everywhere: not valid", name)
		}
		for who := range 3 {
			if !impl.HallOk(among(abStore(), who, s)) {
				t.Errorf("%s at %d: not valid", name, who)
			}
		}
	}
}

// anyEvs has events of each kind, for each session and for others.
func anyEvs() []impl.Ev {
	var list []impl.Ev
	for _, who := range []int{0, 1, 2, 3, -1} {
		for kind := range 5 {
			for _, bytes := range []string{"", "S00", "Q07put a 5", "Q05begin", "X00", "q", "Q05g", digits(401)} {
				list = append(list, impl.Ev{Kind: kind, Who: who, Bytes: bytes})
			}
		}
	}
	return list
}

// expectInvalid expects that a server is not valid, and the zero value of whatever happens.
func expectInvalid(t *testing.T, name string, h impl.Hall) {
	t.Helper()
	if impl.HallOk(h) {
		t.Errorf("%s: valid", name)
	}
	for _, e := range evs(evOpen(0), evOpen(2), evClose(0), evClose(1), evBytes(0, ""), evBytes(1, "S00"), evBytes(2, "Q07put a 5"), evBytes(2, "q"),
		evBytes(0, digits(401)), evBytes(3, "S00"), evOpen(-1), evClose(4), impl.Ev{}, impl.Ev{Kind: 4, Who: 1, Bytes: "S00"}) {
		got, out := impl.HallDo(h, e)
		expectHall(t, name, got, impl.Hall{})
		if out != "" {
			t.Errorf("%s, %+v: %q", name, e, out)
		}
	}
}

// TestNumberOfSessions has TalksMax sessions, one fewer, one more, and other numbers.
func TestNumberOfSessions(t *testing.T) {
	for count := range 8 {
		for _, s := range []impl.Talk{closed, {}, seated(opened(2, put("a", 5)), abNames()...)} {
			h := hall(abStore(), slices.Repeat([]impl.Talk{s}, count)...)
			if count != 3 {
				expectInvalid(t, fmt.Sprint(count, " sessions"), h)
			} else if !impl.HallOk(h) {
				t.Errorf("not valid: %+v", h)
			}
		}
	}
	expectInvalid(t, "zero value", impl.Hall{})
}

func TestHallsOfInvalidStores(t *testing.T) {
	for name, v := range invalidStores() {
		expectInvalid(t, name, hall(v, closed, closed, closed))
		expectInvalid(t, name, hall(v, impl.Talk{}, impl.Talk{}, impl.Talk{}))
	}
}

func TestHallsOfInvalidSessions(t *testing.T) {
	for name, s := range invalidTalks() {
		for who := range 3 {
			if !impl.HallOk(among(fullRows(3), who, closed)) {
				t.Fatal("the other sessions are not valid")
			}
			expectInvalid(t, name, among(fullRows(3), who, s))
		}
		if impl.HallOk(hall(fullRows(3), s, s, s)) {
			t.Errorf("%s, everywhere: valid", name)
		}
	}
}

func TestEvBytes(t *testing.T) {
	v := abStore()
	s := seated(impl.Seat{}, abNames()...)
	written := store(3, ver("a", 1, 1, 0), ver("b", 2, 2, 3), ver("b", 7, 3, 0))
	cases := []struct {
		before impl.Talk
		bytes  string
		after  answer
	}{
		{s, "", answer{v, s, ""}},
		{s, "S00", answer{v, s, "Z01i"}},
		{s, "Q07all a zS00", answer{v, s, "R03a 1R03b 2C04fineZ01iZ01i"}},
		{s, "Q07put b 7", answer{written, s, "C04fineZ01i"}},
		{s, "E01bE01zE01bS00", answer{written, s, "C04fineE04noneZ01i"}},
		{s, "Q05ge", answer{v, holding(s, "Q05ge"), ""}},
		{holding(s, "Q05ge"), "t bQ", answer{v, holding(s, "Q"), "R03b 2C04fineZ01i"}},
		{s, "Q05begin", answer{v, seated(opened(2), abNames()...), "C04fineZ01t"}},
		{seated(opened(1, put("b", 7))), "Q03end", answer{v, impl.Talk{}, "E04lateZ01i"}},
		{seated(opened(2, put("b", 7))), "Q03end", answer{written, impl.Talk{}, "C04fineZ01i"}},
		{seated(opened(2, put("b", 7))), "Q05get c", answer{v, seated(failed(2, put("b", 7))), "E04noneZ01e"}},
		{s, "P03fly", answer{v, skipping(s), "E04form"}},
		{seated(opened(2, put("b", 7))), "X00", answer{v, closed, "B00"}},
		{seated(opened(2, put("b", 7))), "A00", answer{v, closed, "E04formB00"}},
		{seated(opened(2, put("b", 7))), "q", answer{v, closed, "E04formB00"}},
		{closed, "", answer{v, closed, ""}},
		{closed, "S00Q07put b 7", answer{v, closed, ""}},
		{closed, "q", answer{v, closed, ""}},
	}
	for _, c := range cases {
		expectEvent(t, v, c.before, impl.EvBytes, c.bytes, c.after)
	}
}

// TestEvBytesIsTalkFeed lets every valid session receive bytes of every sort.
func TestEvBytesIsTalkFeed(t *testing.T) {
	v := abStore()
	for _, s := range validTalks() {
		for _, bytes := range append(memoryMessages(), badBytes()...) {
			gotVers, gotTalk, out := impl.TalkFeed(v, s, bytes)
			expectEvent(t, v, s, impl.EvBytes, bytes, answer{gotVers, gotTalk, out})
		}
	}
}

func TestEvClose(t *testing.T) {
	v := abStore()
	for _, s := range validTalks() {
		expectEvent(t, v, s, impl.EvClose, "", answer{v, closed, ""})
	}
}

// TestEvOpen opens a session that is closed, and all that are open already: nothing happens to these.
func TestEvOpen(t *testing.T) {
	v := abStore()
	for _, s := range validTalks() {
		want := s
		if s.Gone {
			want = impl.Talk{}
		}
		expectEvent(t, v, s, impl.EvOpen, "", answer{v, want, ""})
	}
}

// expectUnchanged expects that an event does nothing.
func expectUnchanged(t *testing.T, h impl.Hall, e impl.Ev) {
	t.Helper()
	expectDo(t, h, e, h, "")
}

// Events with Bytes where Bytes must be empty.
func TestBytesOfOtherEvents(t *testing.T) {
	for _, s := range validTalks() {
		for who := range 3 {
			h := among(abStore(), who, s)
			for _, bytes := range []string{" ", "\x00", "q", "S00", "X00", "Q07put a 5", digits(400), digits(401)} {
				expectUnchanged(t, h, impl.Ev{Kind: impl.EvClose, Who: who, Bytes: bytes})
				expectUnchanged(t, h, impl.Ev{Kind: impl.EvOpen, Who: who, Bytes: bytes})
			}
		}
	}
}

func TestUnknownKinds(t *testing.T) {
	for _, kind := range []int{0, 4, 5, -1, -2, -3, 255, 257, 1 << 32, math.MaxInt, math.MinInt} {
		for _, s := range validTalks() {
			for who := range 3 {
				for _, bytes := range []string{"", "S00", "Q07put a 5", "X00"} {
					expectUnchanged(t, among(abStore(), who, s), impl.Ev{Kind: kind, Who: who, Bytes: bytes})
				}
			}
		}
	}
}

func TestSessionsThatDoNotExist(t *testing.T) {
	for _, who := range []int{-1, 3, 4, -2, -3, 256, 1 << 32, -1 << 32, math.MaxInt, math.MinInt} {
		for _, h := range []impl.Hall{newHall(), among(abStore(), 0, impl.Talk{}), among(abStore(), 2, closed)} {
			expectUnchanged(t, h, evOpen(who))
			expectUnchanged(t, h, evClose(who))
			for _, bytes := range []string{"", "S00", "Q07put a 5", "X00", "q", digits(401)} {
				expectUnchanged(t, h, evBytes(who, bytes))
			}
		}
	}
}

// TestBytesMostOfServers receives as many bytes as are allowed, and one more.
func TestBytesMostOfServers(t *testing.T) {
	v := abStore()
	syncs, ready := strings.Repeat("S00", 133), strings.Repeat("Z01i", 133)
	expectEvent(t, v, impl.Talk{}, impl.EvBytes, syncs+"S", answer{v, holding(impl.Talk{}, "S"), ready})
	expectEvent(t, v, impl.Talk{}, impl.EvBytes, syncs+"q", answer{v, closed, ready + "E04formB00"})
	held := holding(impl.Talk{}, "Q40"+digits(39))
	expectEvent(t, v, held, impl.EvBytes, "9"+syncs, answer{v, impl.Talk{}, "E04formZ01i" + ready})
	for _, s := range validTalks() {
		for _, bytes := range []string{syncs + "S0", "X00" + syncs[:396] + "S0", "q" + syncs + "S", digits(401), strings.Repeat("Q07put a 5", 1000)} {
			expectEvent(t, v, s, impl.EvBytes, bytes, answer{v, s, ""})
		}
	}
	expectPlay(t, evs(evOpen(1), evBytes(1, syncs+"S"), evBytes(1, syncs+"S0"), evBytes(1, "00")),
		hall(impl.Vers{}, closed, impl.Talk{}, closed), "", ready+"Z01i", "")
}

// TestEvsMost plays as many events as are allowed, and one more.
func TestEvsMost(t *testing.T) {
	for who := range 3 {
		list := append(evs(evOpen(who)), slices.Repeat(evs(evBytes(who, "S00")), 23)...)
		h, outs := newHall(), make([]string, 3)
		h.Talks[who], outs[who] = impl.Talk{}, strings.Repeat("Z01i", 23)
		expectPlay(t, list, h, outs...)
		list[23] = evClose(who)
		outs[who] = strings.Repeat("Z01i", 22)
		expectPlay(t, list, newHall(), outs...)
		list[23] = evBytes(who, "Q07put a 1")
		h.Vers, outs[who] = store(1, ver("a", 1, 1, 0)), outs[who]+"C04fineZ01i"
		expectPlay(t, list, h, outs...)
		for _, e := range anyEvs() {
			expectPlay(t, append(list, e), newHall(), "", "", "")
		}
		expectPlay(t, slices.Repeat(list, 100), newHall(), "", "", "")
	}
	// Events that change nothing count as well.
	nothing := slices.Repeat(evs(impl.Ev{}, evOpen(-1), evBytes(3, "S00")), 7)
	expectPlay(t, append(nothing, evOpen(0), evBytes(0, "S00"), evBytes(0, "S00")), hall(impl.Vers{}, impl.Talk{}, closed, closed), "Z01iZ01i", "", "")
	expectPlay(t, append(nothing, evOpen(0), evBytes(0, "S00"), evBytes(0, "S00"), impl.Ev{}), newHall(), "", "", "")
}

func TestPlayOfNothing(t *testing.T) {
	expectPlay(t, nil, newHall(), "", "", "")
	expectPlay(t, evs(), newHall(), "", "", "")
	for _, e := range anyEvs() {
		h, outs := newHall(), []string{"", "", ""}
		if e == evOpen(e.Who) && 0 <= e.Who && e.Who < 3 {
			h.Talks[e.Who] = impl.Talk{}
		}
		expectPlay(t, evs(e), h, outs...)
	}
}

// TestLaterOfTwoSessions is the first point of 'Watch': of two open transactions
// that write one key, the later one to end is told so and changes nothing.
func TestLaterOfTwoSessions(t *testing.T) {
	for _, order := range orders {
		h := expectScript(t, renumber(`0 open
			1 open
			0 send Q07put a 1Q07put b 1Q05begin > C04fineZ01iC04fineZ01iC04fineZ01t
			1 send Q05begin > C04fineZ01t
			0 send Q07put a 2Q07put c 2Q05cut b > C04fineZ01tC04fineZ01tC04fineZ01t
			1 send Q07put a 3 > C04fineZ01t
			1 send Q07all a z > R03a 3R03b 1C04fineZ01t
			1 send Q03end > C04fineZ01i
			0 send Q07all a z > R03a 2R03c 2C04fineZ01t
			0 send Q03end > E04lateZ01i
			0 send Q07all a z > R03a 3R03b 1C04fineZ01i
			1 send Q07all a z > R03a 3R03b 1C04fineZ01i`, order))
		expectVers(t, order, h.Vers, store(3, ver("a", 1, 1, 3), ver("a", 3, 3, 0), ver("b", 1, 2, 0)))
	}
}

// What is written after a snapshot is late at once, and the transaction is bad.
func TestLateWrites(t *testing.T) {
	changes := map[string]string{"Q07put a 3": "C04fineZ01i", "Q07add a 2": "C04fineZ01i", "P09x put a 3E01x": "100C04fine",
		"Q05beginQ07put a 3Q03end": "C04fineZ01tC04fineZ01tC04fineZ01i"}
	lates := map[string]string{"Q07put a 9": "E04lateZ01e", "Q07add a 9": "E04lateZ01e", "Q05cut a": "E04lateZ01e", "P09y put a 9E01yS00": "100E04lateZ01e"}
	for change, changed := range changes {
		for late, told := range lates {
			h := expectScript(t, `0 open
				2 open
				0 send Q07put a 1Q05beginQ07put b 5 > C04fineZ01iC04fineZ01tC04fineZ01t
				2 send `+change+` > `+changed+`
				0 send Q05get a > R03a 1C04fineZ01t
				0 send `+late+` > `+told+`
				0 send Q03end > E03badZ01i
				0 send Q07all a z > R03a 3C04fineZ01i`)
			expectVers(t, change+" "+late, h.Vers, store(2, ver("a", 1, 1, 2), ver("a", 3, 2, 0)))
		}
	}
}

// Two transactions that write different keys both end well.
func TestTwoSessionsWithDifferentKeys(t *testing.T) {
	for _, order := range orders {
		h := expectScript(t, renumber(`0 open
			1 open
			0 send Q05beginQ07put a 1 > C04fineZ01tC04fineZ01t
			1 send Q05beginQ07put b 2 > C04fineZ01tC04fineZ01t
			0 send Q03endQ05get b > C04fineZ01iE04noneZ01i
			1 send Q05get a > E04noneZ01e
			1 send Q04undoQ05beginQ07put b 3Q03end > C04fineZ01iC04fineZ01tC04fineZ01tC04fineZ01i
			0 send Q07all a z > R03a 1R03b 3C04fineZ01i`, order))
		expectVers(t, order, h.Vers, store(2, ver("a", 1, 1, 0), ver("b", 3, 2, 0)))
	}
}

// leavings are the ways to close a session, with what is sent.
func leavings() map[string]string {
	return map[string]string{"close": "", "send X00": "B00", "send X03end": "B00", "send A00": "E04formB00", "send Z01i": "E04formB00",
		"send q": "E04formB00", "send Q41": "E04formB00", "send \x00": "E04formB00", "send Q03\xff": "E04formB00", "send Q05get \x1f": "E04formB00",
		"send Q07put d 4X00": "C04fineZ01tB00", "send Q07put d 4q": "C04fineZ01tE04formB00", "send Q07put d 4A00S00": "C04fineZ01tE04formB00",
		"send X00Q03end": "B00", "send qQ03end": "E04formB00", "send E01zQ03end\x7f": "E04noneE04formB00"}
}

// TestClosedInTheMidst is the second point of 'Watch': a session is closed while
// its transaction is open, which leaves the store and the other sessions as they are.
func TestClosedInTheMidst(t *testing.T) {
	for way, out := range leavings() {
		for _, order := range orders {
			before := renumber(`0 open
				1 open
				0 send Q07put a 1P07x get a > C04fineZ01i100
				1 send Q05beginQ07put b 2P07y get bQ05g > C04fineZ01tC04fineZ01t100
				0 send Q05beginQ07put a 5Q07put c 3Q05get a > C04fineZ01tC04fineZ01tC04fineZ01tR03a 5C04fineZ01t`, order)
			want := expectScript(t, before)
			want.Talks[order[0]-'0'] = closed
			before += renumber("0 "+way+" > "+out, order)
			expectHall(t, before, expectScript(t, before), want)
			h := expectScript(t, before+renumber(`2 open
				2 send Q07all a z > R03a 1C04fineZ01i
				1 send et a > R03a 1C04fineZ01t
				1 send Q07put a 7E01yQ03end > C04fineZ01tR03b 2C04fineC04fineZ01i
				0 send Q03end
				0 open
				0 send Q07all a zE01x > R03a 7R03b 2C04fineZ01iE04none`, order))
			expectVers(t, before, h.Vers, store(2, ver("a", 1, 1, 2), ver("a", 7, 2, 0), ver("b", 2, 2, 0)))
		}
	}
}

// TestBytesToClosedSession is the third point of 'Watch', for sessions that were closed in each way or never opened.
func TestBytesToClosedSession(t *testing.T) {
	for way, out := range leavings() {
		h := expectScript(t, `0 open
			1 open
			1 send Q07put a 1Q05begin > C04fineZ01iC04fineZ01t
			0 send Q05begin > C04fineZ01t
			0 `+way+` > `+out)
		for _, bytes := range append(badBytes(), "", "S00", "Q05get a", "Q07put a 5", "P07a get a", "E01a", "X00", "Q05g", digits(400), digits(401)) {
			expectUnchanged(t, h, evBytes(0, bytes))
			expectUnchanged(t, h, evBytes(2, bytes))
			expectUnchanged(t, newHall(), evBytes(1, bytes))
		}
		expectUnchanged(t, h, evClose(0))
		expectUnchanged(t, h, evClose(2))
	}
}

// A session that is opened again has nothing of what it was before.
func TestOpenedAgain(t *testing.T) {
	for who := range 3 {
		list := evs(evOpen(who), evBytes(who, "P07a get aQ05beginQ07put a 1E01zQ05ge"), evClose(who), evOpen(who), evBytes(who, "S00E01aS00Q05get a"))
		h, outs := newHall(), make([]string, 3)
		h.Talks[who], outs[who] = impl.Talk{}, "100C04fineZ01tC04fineZ01tE04noneZ01iE04noneZ01iE04noneZ01i"
		expectPlay(t, list, h, outs...)
		// An opening in between changes nothing, so that the session goes on.
		list[2] = evOpen(who)
		list[4].Bytes = "t aS00E01aQ03end"
		h.Talks[who], outs[who] = impl.Talk{Names: []impl.Named{named("a", askGet("a"))}}, "100C04fineZ01tC04fineZ01tE04noneZ01eE03bad"
		h.Talks[who].Skip, h.Talks[who].Seat = true, failed(0, put("a", 1))
		expectPlay(t, list, h, outs...)
	}
}

// TestSnapshotsOfSessions lets a session read again and again while others commit.
func TestSnapshotsOfSessions(t *testing.T) {
	for _, order := range orders {
		h := expectScript(t, renumber(`0 open
			1 open
			2 open
			0 send Q07put a 1Q07put b 2Q05begin > C04fineZ01iC04fineZ01iC04fineZ01t
			1 send Q07put a 5 > C04fineZ01i
			0 send Q07all a z > R03a 1R03b 2C04fineZ01t
			2 send Q05beginQ07all a z > C04fineZ01tR03a 5R03b 2C04fineZ01t
			1 send Q05beginQ05cut bQ07put c 3 > C04fineZ01tC04fineZ01tC04fineZ01t
			0 send Q07all a zQ05get b > R03a 1R03b 2C04fineZ01tR03b 2C04fineZ01t
			2 send Q07all a z > R03a 5R03b 2C04fineZ01t
			1 send Q03endQ07all a z > C04fineZ01iR03a 5R03c 3C04fineZ01i
			0 send Q07sum a zQ07all a z > R03a 3C04fineZ01tR03a 1R03b 2C04fineZ01t
			0 send Q07put d 4Q07all a z > C04fineZ01tR03a 1R03b 2R03d 4C04fineZ01t
			2 send Q07all a z > R03a 5R03b 2C04fineZ01t
			0 send Q03end > C04fineZ01i
			0 send Q07all a z > R03a 5R03c 3R03d 4C04fineZ01i
			2 send Q07all a z > R03a 5R03b 2C04fineZ01t
			1 send Q07add d 5 > C04fineZ01i
			2 send Q07all a zQ05get c > R03a 5R03b 2C04fineZ01tE04noneZ01e
			2 send Q03endQ07all a z > E03badZ01iR03a 5R03c 3R03d 9C04fineZ01i`, order))
		expectVers(t, order, h.Vers, store(6, ver("a", 1, 1, 3), ver("a", 5, 3, 0), ver("b", 2, 2, 4), ver("c", 3, 4, 0), ver("d", 4, 5, 6), ver("d", 9, 6, 0)))
	}
}

// The bytes of the sessions come in turns, in the midst of each other's messages.
func TestPiecesOfSessionsInTurns(t *testing.T) {
	bytes := [3]string{"Q07put a 1Q05get a", "P07b get aE01zQ05get b", "Q05beginQ07put c 3qS00"}
	outs := [3]string{"C04fineZ01iR03a 1C04fineZ01i", "100E04none", "C04fineZ01tC04fineZ01tE04formB00"}
	want := hall(store(1, ver("a", 1, 1, 0)), impl.Talk{}, skipping(seated(impl.Seat{}, named("b", askGet("a")))), closed)
	for size := 4; size < 30; size++ {
		list := evs(evOpen(0), evOpen(1), evOpen(2))
		for from := 0; from < 24; from += size {
			for who, all := range bytes {
				list = append(list, evBytes(who, all[min(from, len(all)):min(from+size, len(all))]))
			}
		}
		expectPlay(t, list, want, outs[:]...)
	}
}

// noise is any event of a session that commits nothing.
func noise(random *rand.Rand, who int) impl.Ev {
	bytes := []string{"Q05beginQ07put a 5", "Q05beginQ05cut aQ05cut b", "Q05begin", "Q05g", "Q05ge", "t a", "q", "X00", "A00", "\x00", "E01z", "P03fly", "P07a get aE01a", "S00", "", digits(401),
		"Q05beginQ07put a 7Q07put b 7Q04undo", "Q05beginQ07put c 7Q03flyQ03end", "Q05beginQ07put a 7X00Q03end", "Q05beginQ07put a 7\nQ03end", "Q07all a z", "Q05beginQ07sum a z"}
	switch random.Intn(5) {
	case 0:
		return evOpen(who)
	case 1:
		return evClose(who)
	case 2:
		return impl.Ev{Kind: random.Intn(6) - 1, Who: who, Bytes: "Q05begin"}
	}
	return evBytes(who, bytes[random.Intn(len(bytes))])
}

// The other sessions are told the same, and the store is the same, whatever one
// of them receives and however it ends, if it commits nothing.
func TestSessionsDoNotAffectEachOther(t *testing.T) {
	random := rand.New(rand.NewSource(8))
	keys := []string{"a", "b", "c"}
	counts := map[string]int{}
	for round := range 2000 {
		noisy := round % 3
		list := evs(evOpen(0), evOpen(1), evOpen(2))
		for len(list) < 24 {
			who := random.Intn(3)
			if who == noisy {
				list = append(list, noise(random, who))
				continue
			}
			bytes := randomMessage(random, talker{}, keys)
			if random.Intn(8) == 0 {
				bytes = bytes[:random.Intn(len(bytes))]
			}
			list = append(list, evBytes(who, bytes))
		}
		rest := slices.DeleteFunc(slices.Clone(list), func(e impl.Ev) bool { return e.Who == noisy })
		got, outs := impl.HallPlay(list)
		countLetters(t, counts, outs[noisy])
		got.Talks[noisy], outs[noisy] = closed, ""
		expectPlay(t, rest, got, outs...)
	}
	expectSentOften(t, counts, 200, "B", "Eform", "Ebad", "Zt", "Ze", "Cfine")
}

// TestHallOnly has lists with and without events of a session.
func TestHallOnly(t *testing.T) {
	list := evs(evOpen(0), evOpen(2), evBytes(0, "S00"), evBytes(-1, "S00"), impl.Ev{Kind: 9, Who: 2, Bytes: "q"}, evOpen(3), evClose(0), evClose(2), evBytes(0, ""), evOpen(math.MaxInt), evBytes(-1, digits(401)), evOpen(0), evOpen(0))
	want := map[int][]impl.Ev{
		0:            {evOpen(0), evBytes(0, "S00"), evClose(0), evBytes(0, ""), evOpen(0), evOpen(0)},
		1:            nil,
		2:            {evOpen(2), {Kind: 9, Who: 2, Bytes: "q"}, evClose(2)},
		3:            {evOpen(3)},
		4:            nil,
		-1:           {evBytes(-1, "S00"), evBytes(-1, digits(401))},
		math.MaxInt:  {evOpen(math.MaxInt)},
		math.MinInt:  nil,
		impl.EvsMost: nil,
	}
	for who, only := range want {
		if got := impl.HallOnly(list, who); !slices.Equal(got, only) {
			t.Errorf("HallOnly(%+v, %d):\ngot  %+v\nwant %+v", list, who, got, only)
		}
		if got := impl.HallOnly(only, who); !slices.Equal(got, only) {
			t.Errorf("HallOnly(%+v, %d):\ngot  %+v", only, who, got)
		}
		if got := impl.HallOnly(nil, who); len(got) != 0 {
			t.Errorf("HallOnly of nothing, %d: %+v", who, got)
		}
	}
	// More events than can be played are told apart too.
	many := slices.Repeat(evs(evOpen(1), evBytes(2, "S00"), evOpen(1)), 100)
	if got := impl.HallOnly(many, 1); !slices.Equal(got, slices.Repeat(evs(evOpen(1)), 200)) {
		t.Errorf("%d events", len(got))
	}
	if got := impl.HallOnly(many, 2); !slices.Equal(got, slices.Repeat(evs(evBytes(2, "S00")), 100)) {
		t.Errorf("%d events", len(got))
	}
}

func TestHallSame(t *testing.T) {
	s := holding(skipping(seated(failed(2, put("a", 1)), abNames()...)), "Q05")
	all := []impl.Hall{{}, newHall(), hall(abStore()), hall(abStore(), closed, closed, closed), hall(abStore(), closed), hall(abStore(), closed, closed),
		hall(abStore(), closed, closed, closed, closed), hall(abStore(), s, s, s), hall(impl.Vers{}, impl.Talk{}, impl.Talk{}, impl.Talk{})}
	for _, v := range []impl.Vers{store(3, abStore().List...), store(2, abStore().List[:1]...), store(2, ver("a", 2, 1, 0), ver("b", 2, 2, 0)), store(2, ver("aa", 1, 1, 0), ver("b", 2, 2, 0)),
		store(2, ver("a", 1, 2, 0), ver("b", 2, 2, 0)), store(2, ver("a", 1, 1, 2), ver("b", 2, 2, 0)), store(2, ver("b", 2, 2, 0), ver("a", 1, 1, 0)), store(-1)} {
		all = append(all, hall(v, s, s, s))
	}
	other := abNames()
	other[1].Ask.Num = 8
	for _, o := range []impl.Talk{{}, closed, holding(s, "Q0"), {Seat: s.Seat, Names: s.Names, In: s.In}, {Seat: s.Seat, Names: s.Names[:1], Skip: true, In: s.In}, {Seat: s.Seat, Names: other, Skip: true, In: s.In},
		{Seat: opened(2, put("a", 1)), Names: s.Names, Skip: true, In: s.In}, {Seat: failed(1, put("a", 1)), Names: s.Names, Skip: true, In: s.In}, {Seat: failed(2, put("a", 2)), Names: s.Names, Skip: true, In: s.In},
		{Seat: failed(2), Names: s.Names, Skip: true, In: s.In}, {Seat: s.Seat, Names: s.Names, Skip: true, Gone: true, In: s.In}} {
		all = append(all, hall(abStore(), o, s, s), hall(abStore(), s, o, s), hall(abStore(), s, s, o))
	}
	for i, a := range all {
		for j, b := range all {
			if got := impl.HallSame(a, copyHall(b)); got != (i == j) {
				t.Errorf("HallSame(%+v, %+v): %t", a, b, got)
			}
		}
	}
	empty := impl.Hall{Vers: impl.Vers{List: []impl.Ver{}}, Talks: []impl.Talk{}}
	if !impl.HallSame(empty, impl.Hall{}) || !impl.HallSame(impl.Hall{}, empty) {
		t.Error("nil slices and empty ones are not the same")
	}
}

// copyHall is an equal server in other memory, which has no room beyond its lengths.
func copyHall(h impl.Hall) impl.Hall {
	c := impl.Hall{Vers: store(h.Vers.Now, slices.Clone(h.Vers.List)...)}
	for _, s := range h.Talks {
		s.Names = slices.Clone(s.Names)
		s.Seat.Work.Writes = slices.Clone(s.Seat.Work.Writes)
		c.Talks = append(c.Talks, s)
	}
	return c
}

// hallModel is what a server should be.
type hallModel struct {
	askModel
	clients [3]talker
}

func newHallModel() *hallModel {
	m := &hallModel{askModel: askModel{rows: map[string]int{}, last: map[string]int{}}}
	for i := range m.clients {
		m.clients[i].gone = true
	}
	return m
}

// happen is what is sent for an event.
func (m *hallModel) happen(e impl.Ev) string {
	if e.Who < 0 || e.Who > 2 {
		return ""
	}
	c := &m.clients[e.Who]
	switch {
	case e.Kind == 1 && len(e.Bytes) <= 400:
		out, _ := m.receive(c, e.Bytes)
		return out
	case e.Kind == 2 && e.Bytes == "":
		*c = talker{gone: true}
	case e.Kind == 3 && e.Bytes == "" && c.gone:
		*c = talker{}
	}
	return ""
}

// randomEv is any event, mostly a piece of the messages that the session is about to send.
func (m *hallModel) randomEv(random *rand.Rand, queues *[3]string, keys []string) impl.Ev {
	who := random.Intn(3)
	c, queue := m.clients[who], &queues[who]
	if c.gone {
		*queue = ""
	}
	switch n := random.Intn(120); {
	case c.gone && n < 100:
		return evOpen(who)
	case n == 0:
		return impl.Ev{Kind: random.Intn(8) - 2, Who: who, Bytes: []string{"", "S00"}[random.Intn(2)]}
	case n == 1:
		return impl.Ev{Kind: 1 + random.Intn(3), Who: []int{-1, 3}[random.Intn(2)], Bytes: "Q07put a 1"}
	case n == 2:
		return evBytes(who, strings.Repeat("S00", 134))
	case n < 5:
		return evOpen(who)
	case n < 7:
		*queue = ""
		return evClose(who)
	}
	for *queue == "" || random.Intn(3) > 0 {
		*queue += randomMessage(random, c, keys)
	}
	piece := (*queue)[:1+random.Intn(len(*queue))]
	*queue = (*queue)[len(piece):]
	return evBytes(who, piece)
}

// Servers are held against a model that is made of maps, by one event after the
// other and, as long as there are few enough, by all of them at once.
func TestServersAgainstModel(t *testing.T) {
	random := rand.New(rand.NewSource(9))
	keys := []string{"a", "aa", "b", "c", "d", "e", "f", "g", "h", "i", "j", "k"}
	counts := map[string]int{}
	for range 150 {
		m, h := newHallModel(), impl.HallNew()
		var list []impl.Ev
		var queues, outs [3]string
		some := keys[:3+random.Intn(len(keys)-2)]
		for range 100 {
			e := m.randomEv(random, &queues, some)
			what := fmt.Sprintf("HallDo(%+v, %+v)", h, e)
			want := m.happen(e)
			var out string
			h, out = impl.HallDo(h, e)
			if out != want {
				t.Errorf("%s:\ngot  %q\nwant %q", what, out, want)
			}
			m.expectSessions(t, what, h.Vers, [3]impl.Talk(h.Talks), m.clients)
			list = append(list, e)
			if out != "" {
				outs[e.Who] += out
			}
			if len(list) <= 24 {
				expectPlay(t, list, h, outs[:]...)
			}
			countLetters(t, counts, out)
			if t.Failed() {
				t.FailNow()
			}
		}
	}
	expectSentOften(t, counts, 10, "R", "Cfine", "Eform", "Elate", "Efull", "Enone", "Ebad", "Eover", "Zi", "Zt", "Ze", "1", "B")
}

// spoilHall overwrites all memory of a server.
func spoilHall(h impl.Hall) {
	spoilTalk(h.Vers, impl.Talk{}, nil)
	all := h.Talks[:cap(h.Talks)]
	for i, s := range all {
		spoilTalk(impl.Vers{}, s, nil)
		all[i] = impl.Talk{In: "changed"}
	}
}

// memoryEvs are events that change each part of a server, and some that change nothing.
func memoryEvs() []impl.Ev {
	list := evs(evOpen(0), evOpen(2), evClose(0), evClose(1), evClose(2), evOpen(3), evOpen(-1), impl.Ev{}, impl.Ev{Kind: impl.EvClose, Bytes: "q"}, evBytes(0, digits(401)))
	for _, bytes := range memoryMessages() {
		list = append(list, evBytes(0, bytes), evBytes(1, bytes), evBytes(2, bytes))
	}
	return list
}

// memory is what the slices of a server are parts of.
type memory struct {
	vers   []impl.Ver
	writes []impl.Write
	names  []impl.Named
	talks  []impl.Talk
}

// newMemory has an item behind each slice, and slices that two sessions have in common.
func newMemory() memory {
	m := memory{
		vers:   []impl.Ver{ver("a", 1, 1, 2), ver("a", 3, 2, 0), ver("b", 5, 1, 0), ver("zz", 1, 1, 0)},
		writes: writes(put("b", 1), gone("c"), put("d", 2), put("x", 9)),
		names:  append(abNames(), named("c", askEnd()), named("x", askEnd())),
	}
	first := impl.Talk{Seat: impl.Seat{On: true, Work: impl.Work{At: 2, Writes: m.writes[:3]}}, Names: m.names[:3]}
	second := impl.Talk{Seat: impl.Seat{On: true, Bad: true, Work: impl.Work{At: 1, Writes: m.writes[:1]}}, Names: m.names[:2]}
	m.talks = []impl.Talk{first, second, closed, {In: "behind"}}
	return m
}

func (m memory) hall() impl.Hall { return hall(store(3, m.vers[:3]...), m.talks[:3]...) }

// Results share no memory with an argument, not even what lies beyond a length.
func TestServersShareNoMemory(t *testing.T) {
	for _, e := range memoryEvs() {
		m, fresh := newMemory(), newMemory()
		what := fmt.Sprintf("HallDo(%+v, %+v)", m.hall(), e)
		if !impl.HallOk(m.hall()) {
			t.Fatalf("%s: not valid", what)
		}
		kept, out := impl.HallDo(m.hall(), e)
		want := copyHall(kept)
		spoiled, _ := impl.HallDo(m.hall(), e)
		spoilHall(spoiled)
		if !slices.Equal(m.vers, fresh.vers) || !slices.Equal(m.writes, fresh.writes) || !slices.Equal(m.names, fresh.names) {
			t.Errorf("%s: %+v", what, m)
		}
		expectHall(t, what+", its argument", hall(impl.Vers{}, m.talks...), hall(impl.Vers{}, fresh.talks...))
		expectHall(t, what+", another result", kept, want)
		expectDo(t, m.hall(), e, want, out)
		for i := range kept.Talks {
			spoilTalk(impl.Vers{}, kept.Talks[i], nil)
			for j := i + 1; j < len(kept.Talks); j++ {
				expectTalk(t, what+", another session", kept.Talks[j], want.Talks[j])
			}
		}
		expectVers(t, what+", the store", kept.Vers, want.Vers)
	}
}

func TestPlaysShareNoMemory(t *testing.T) {
	list := evs(evOpen(0), evBytes(0, "P07a get aQ07put a 1Q05beginQ07put b 1Q05ge"), evOpen(1), evBytes(1, "Q03flyP05b endS"), evOpen(1), impl.Ev{Kind: 7})
	for length := range len(list) + 1 {
		for _, part := range [][]impl.Ev{list[:length], slices.Repeat(list, 10)} {
			before := slices.Clone(list)
			got, outs := impl.HallPlay(part)
			want, texts := copyHall(got), slices.Clone(outs)
			again, others := impl.HallPlay(part)
			spoilHall(again)
			others = others[:cap(others)]
			for i := range others {
				others[i] = "changed"
			}
			expectHall(t, "another result", got, want)
			expectPlay(t, part, want, texts...)
			if !slices.Equal(outs, texts) || !slices.Equal(list, before) {
				t.Errorf("%q %+v", outs, list)
			}
		}
		for who := range 3 {
			before := slices.Clone(list)
			only := impl.HallOnly(list[:length], who)
			only = only[:cap(only)]
			for i := range only {
				only[i] = impl.Ev{Kind: -1, Bytes: "changed"}
			}
			if !slices.Equal(list, before) {
				t.Errorf("HallOnly changed its argument: %+v", list)
			}
		}
	}
	spoilHall(impl.HallNew())
	expectHall(t, "HallNew", impl.HallNew(), newHall())
}

func TestReadingServersChangesNothing(t *testing.T) {
	h := among(abStore(), 1, holding(seated(opened(2, put("a", 3)), abNames()...), "Q05ge"))
	before := copyHall(h)
	for _, e := range anyEvs() {
		impl.HallOk(h)
		impl.HallSame(h, h)
		impl.HallDo(h, e)
	}
	expectHall(t, "server", h, before)
}

// The goroutines of a server have ended when its events are handled.
func TestNoGoroutineOfServersIsLeft(t *testing.T) {
	before := runtime.NumGoroutine()
	for range 20 {
		for _, e := range anyEvs() {
			impl.HallDo(among(abStore(), 1, impl.Talk{}), e)
			impl.HallDo(impl.Hall{}, e)
			impl.HallPlay(evs(evOpen(0), e, evOpen(1), e))
			impl.HallPlay(slices.Repeat(evs(e), 25))
		}
	}
	expectGoroutines(t, before)
}

// Calls at the same time do not affect each other: nothing is kept between them.
func TestServersAtTheSameTime(t *testing.T) {
	var all sync.WaitGroup
	for i := range 16 {
		all.Go(func() {
			for range 50 {
				h, outs := impl.HallPlay(evs(evOpen(0), evOpen(1), evBytes(0, fmt.Sprintf("Q07put c %dQ05begin", i%10)), evBytes(1, "Q05get cX00"), evBytes(0, "Q05get c")))
				row := fmt.Sprintf("R03c %dC04fine", i%10)
				if want := []string{"C04fineZ01iC04fineZ01t" + row + "Z01t", row + "Z01iB00", ""}; !slices.Equal(outs, want) || h.Vers.Now != 1 {
					t.Errorf("%d: %q, want %q", i, outs, want)
				}
			}
		})
	}
	all.Wait()
}
