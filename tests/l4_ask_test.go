package tests

import (
	"fmt"
	"maps"
	"math"
	"math/rand"
	"regexp"
	"slices"
	"strings"
	"testing"

	"loop.example/engrosser/impl"
)

// opened is a seat with an open transaction.
func opened(at int, list ...impl.Write) impl.Seat {
	return impl.Seat{On: true, Work: work(at, list...)}
}

// failed is a seat with an open transaction in which a statement has failed.
func failed(at int, list ...impl.Write) impl.Seat {
	return impl.Seat{On: true, Bad: true, Work: work(at, list...)}
}

func row(key string, num int) impl.Row { return impl.Row{Key: key, Num: num} }

func table(list ...impl.Row) []impl.Row { return list }

func expectSeat(t *testing.T, what string, got impl.Seat, want impl.Seat) {
	t.Helper()
	if got.On != want.On || got.Bad != want.Bad {
		t.Errorf("%s: got the seat %v, want %v", what, got, want)
	}
	expectWork(t, what, got.Work, want.Work)
}

// result is what AskDo should return.
type result struct {
	v    impl.Vers
	s    impl.Seat
	rows []impl.Row
	code int
}

func expectAsk(t *testing.T, v impl.Vers, s impl.Seat, a impl.Ask, want result) {
	t.Helper()
	what := fmt.Sprintf("AskDo(%v, %v, %+v)", v, s, a)
	gotVers, gotSeat, gotRows, code := impl.AskDo(v, s, a)
	expectVers(t, what, gotVers, want.v)
	expectSeat(t, what, gotSeat, want.s)
	expectRows(t, what, gotRows, want.rows)
	if code != want.code {
		t.Errorf("%s: code %d, want %d", what, code, want.code)
	}
}

// expectFail expects that the statement changes nothing but Bad of an open transaction.
func expectFail(t *testing.T, v impl.Vers, s impl.Seat, a impl.Ask, code int) {
	t.Helper()
	after := s
	after.Bad = s.On
	expectAsk(t, v, s, a, result{v, after, nil, code})
}

// expectTold expects rows, and that nothing changes.
func expectTold(t *testing.T, v impl.Vers, s impl.Seat, a impl.Ask, rows ...impl.Row) {
	t.Helper()
	expectAsk(t, v, s, a, result{v, s, rows, impl.WorkFine})
}

func askGet(key string) impl.Ask          { return impl.Ask{Kind: impl.AskGet, Key: key} }
func askAll(key, hi string) impl.Ask      { return impl.Ask{Kind: impl.AskAll, Key: key, Hi: hi} }
func askSum(key, hi string) impl.Ask      { return impl.Ask{Kind: impl.AskSum, Key: key, Hi: hi} }
func askPut(key string, num int) impl.Ask { return impl.Ask{Kind: impl.AskPut, Key: key, Num: num} }
func askAdd(key string, num int) impl.Ask { return impl.Ask{Kind: impl.AskAdd, Key: key, Num: num} }
func askCut(key string) impl.Ask          { return impl.Ask{Kind: impl.AskCut, Key: key} }
func askBegin() impl.Ask                  { return impl.Ask{Kind: impl.AskBegin} }
func askEnd() impl.Ask                    { return impl.Ask{Kind: impl.AskEnd} }
func askUndo() impl.Ask                   { return impl.Ask{Kind: impl.AskUndo} }

// validAsks has statements of each kind by their texts.
func validAsks() map[string]impl.Ask {
	return map[string]impl.Ask{
		"get a": askGet("a"), "get zz": askGet("zz"), "get k": askGet("k"),
		"all a z": askAll("a", "z"), "all zz a": askAll("zz", "a"), "all b b": askAll("b", "b"),
		"sum a z": askSum("a", "z"), "sum b aa": askSum("b", "aa"), "sum az za": askSum("az", "za"),
		"put a 1": askPut("a", 1), "put zz 0": askPut("zz", 0), "put b 999": askPut("b", 999),
		"put b -999": askPut("b", -999), "put c -1": askPut("c", -1), "put ab 10": askPut("ab", 10),
		"add a 1": askAdd("a", 1), "add zz 0": askAdd("zz", 0), "add b 999": askAdd("b", 999),
		"add b -999": askAdd("b", -999), "add c -10": askAdd("c", -10),
		"cut a": askCut("a"), "cut zz": askCut("zz"),
		"begin": askBegin(), "end": askEnd(), "undo": askUndo(),
	}
}

// invalidAsks has statements of each kind with a field that is not valid or that the kind does not have.
func invalidAsks() map[string]impl.Ask {
	asks := map[string]impl.Ask{}
	fields := map[int]string{
		impl.AskGet: "k", impl.AskAll: "kh", impl.AskSum: "kh", impl.AskPut: "kn", impl.AskAdd: "kn",
		impl.AskCut: "k", impl.AskBegin: "", impl.AskEnd: "", impl.AskUndo: "",
	}
	for kind, has := range fields {
		base := impl.Ask{Kind: kind}
		badKeys, badHis, badNums := []string{"a", "?"}, []string{"a", "?"}, []int{1, -1, 5000}
		texts := []string{"", "A", "abc", "a1", " a", "a ", "\xff", "é", "a\x00"}
		if strings.Contains(has, "k") {
			base.Key, badKeys = "a", texts
		}
		if strings.Contains(has, "h") {
			base.Hi, badHis = "z", texts
		}
		if strings.Contains(has, "n") {
			badNums = []int{1000, -1000, math.MaxInt, math.MinInt}
		}
		for _, key := range badKeys {
			a := base
			a.Key = key
			asks[fmt.Sprintf("kind %d, key %q", kind, key)] = a
		}
		for _, hi := range badHis {
			a := base
			a.Hi = hi
			asks[fmt.Sprintf("kind %d, hi %q", kind, hi)] = a
		}
		for _, num := range badNums {
			a := base
			a.Num = num
			asks[fmt.Sprintf("kind %d, num %d", kind, num)] = a
		}
	}
	for _, kind := range []int{0, -1, 10, 11, math.MinInt, math.MaxInt} {
		asks[fmt.Sprint("only a kind, ", kind)] = impl.Ask{Kind: kind}
		asks[fmt.Sprint("a key, kind ", kind)] = impl.Ask{Kind: kind, Key: "a"}
		asks[fmt.Sprint("a range, kind ", kind)] = impl.Ask{Kind: kind, Key: "a", Hi: "b"}
		asks[fmt.Sprint("a number, kind ", kind)] = impl.Ask{Kind: kind, Key: "a", Num: 1}
	}
	return asks
}

// statementTexts is what the texts of statements look like.
var statementTexts = regexp.MustCompile(`^(?:(?:get|cut) [a-z]{1,2}|(?:all|sum) [a-z]{1,2} [a-z]{1,2}|(?:put|add) [a-z]{1,2} (?:0|-?[1-9][0-9]{0,2})|begin|end|undo)$`)

func TestAskConstants(t *testing.T) {
	kinds := []int{impl.AskGet, impl.AskAll, impl.AskSum, impl.AskPut, impl.AskAdd, impl.AskCut, impl.AskBegin, impl.AskEnd, impl.AskUndo}
	if !slices.Equal(kinds, []int{1, 2, 3, 4, 5, 6, 7, 8, 9}) {
		t.Error(kinds)
	}
	if impl.AskNone != 4 || impl.AskBad != 5 || impl.AskOver != 6 {
		t.Error("codes")
	}
}

func TestValidAsks(t *testing.T) {
	for text, a := range validAsks() {
		if !impl.AskOk(a) {
			t.Errorf("%q: not valid", text)
		}
		if got := impl.AskText(a); got != text {
			t.Errorf("AskText of %+v: %q, want %q", a, got, text)
		}
		if got, ok := impl.AskRead(text); !ok || got != a {
			t.Errorf("AskRead of %q: %+v, %t", text, got, ok)
		}
	}
}

func TestInvalidAsks(t *testing.T) {
	for name, a := range invalidAsks() {
		if impl.AskOk(a) {
			t.Errorf("%s: valid", name)
		}
		if got := impl.AskText(a); got != "" {
			t.Errorf("%s: AskText: %q", name, got)
		}
	}
}

// Each number that may stand in a statement is written and read, and those beside them are not.
func TestNumbersOfAsks(t *testing.T) {
	for num := -1100; num <= 1100; num++ {
		ok := -999 <= num && num <= 999
		for word, a := range map[string]impl.Ask{"put": askPut("ab", num), "add": askAdd("ab", num)} {
			text := fmt.Sprintf("%s ab %d", word, num)
			if impl.AskOk(a) != ok {
				t.Errorf("%q: valid %t", text, !ok)
			}
			want, written := impl.Ask{}, ""
			if ok {
				want, written = a, text
			}
			if got := impl.AskText(a); got != written {
				t.Errorf("AskText: %q, want %q", got, written)
			}
			if got, read := impl.AskRead(text); read != ok || got != want {
				t.Errorf("AskRead of %q: %+v, %t", text, got, read)
			}
		}
	}
}

// All combinations of kinds and fields are held against the table of the chapter.
func TestAskOkOfAllFields(t *testing.T) {
	texts := []string{"", "a", "zz", "A", "abc", "a b", "\xff"}
	key := regexp.MustCompile(`^[a-z]{1,2}$`)
	for kind := -2; kind <= 12; kind++ {
		for _, k := range texts {
			for _, hi := range texts {
				for _, num := range []int{0, 1, -1, 999, -999, 1000, -1000, math.MinInt, math.MaxInt} {
					a := impl.Ask{Kind: kind, Key: k, Hi: hi, Num: num}
					want := false
					switch kind {
					case 1, 6:
						want = key.MatchString(k) && hi == "" && num == 0
					case 2, 3:
						want = key.MatchString(k) && key.MatchString(hi) && num == 0
					case 4, 5:
						want = key.MatchString(k) && hi == "" && -999 <= num && num <= 999
					case 7, 8, 9:
						want = k == "" && hi == "" && num == 0
					}
					if got := impl.AskOk(a); got != want {
						t.Errorf("AskOk(%+v): %t", a, got)
					}
					text := impl.AskText(a)
					if want != statementTexts.MatchString(text) || !want && text != "" {
						t.Errorf("AskText(%+v): %q", a, text)
					}
					if back, ok := impl.AskRead(text); ok != want || ok && back != a || !ok && back != (impl.Ask{}) {
						t.Errorf("AskRead(%q): %+v, %t", text, back, ok)
					}
				}
			}
		}
	}
}

func expectUnread(t *testing.T, text string) {
	t.Helper()
	if a, ok := impl.AskRead(text); ok || a != (impl.Ask{}) {
		t.Errorf("AskRead of %q: %+v, %t", text, a, ok)
	}
}

func TestAskReadOfOtherTexts(t *testing.T) {
	for _, text := range []string{
		"", " ", "  ", "a", "get", "get ", "get  ", "get A", "get abc", "get a b", "get a ", " get a", "get  a", "get\ta", "get a\n",
		"Get a", "GET a", "gets a", "ge a", "geta", "get 1", "get a 1", "get\x00a", "get é",
		"all", "all a", "all a ", "all  a", "all a  z", "all  a z", "all a z ", "all a z z", "all a 1", "all A z", "all a Z", "all a abc",
		"sum", "sum a", "sum a ", "sum a  z", "sum a z ", "sum a 1", " sum a z",
		"put", "put a", "put a ", "put 1", "put 1 a", "put a b", "put a 01", "put a 00", "put a -0", "put a +0", "put a +1", "put a -01",
		"put a 1 ", "put a  1", "put  a 1", " put a 1", "put a 1000", "put a -1000", "put a 1.0", "put a 1e2", "put a 0x1", "put a 1_0",
		"put a --1", "put a -", "put a +", "put a - 1", "put a 1 1", "put a 99999999999999999999", "put a -99999999999999999999",
		"put a 9223372036854775807", "put a 18446744073709551617", "put a ١", "put A 1", "put abc 1", "put a z 1", "put a 1a", "put a \xff",
		"add", "add a", "add a ", "add a 01", "add a +1", "add a -0", "add a 1 ", "add  a 1", "add a 1000", "add a -1000",
		"cut", "cut ", "cut A", "cut a ", "cut  a", "cut a 0", "cut abc",
		"begin ", " begin", "begin a", "Begin", "begi", "beginn", "begin begin", "begin\n", "begin  ",
		"end ", " end", "end a", "END", "en", "ends", "undo ", " undo", "undo a", "undo 0", "und",
		"fly", "0", "1 a", "get a get a", strings.Repeat("get ", 1000), "get " + strings.Repeat("a", 1000), "put a " + strings.Repeat("0", 1000) + "1",
	} {
		expectUnread(t, text)
	}
}

// Texts that differ in one byte from the text of a statement, and all that begin one, are held against the pattern.
func TestAskReadOfChangedTexts(t *testing.T) {
	check := func(text string) {
		a, ok := impl.AskRead(text)
		if ok != statementTexts.MatchString(text) || ok && impl.AskText(a) != text || ok != impl.AskOk(a) || !ok && a != (impl.Ask{}) {
			t.Fatalf("AskRead of %q: %+v, %t", text, a, ok)
		}
	}
	for text := range validAsks() {
		for i := range len(text) + 1 {
			check(text[:i])
			check(text[i:])
			if i < len(text) {
				check(text[:i] + text[i+1:])
			}
			for b := range 256 {
				one := string([]byte{byte(b)})
				check(text[:i] + one + text[i:])
				if i < len(text) {
					check(text[:i] + one + text[i+1:])
				}
			}
		}
	}
}

// invalidSeats has one seat for each way in which it is not valid in fullRows(3).
func invalidSeats() map[string]impl.Seat {
	seats := map[string]impl.Seat{
		"bad without a transaction": {Bad: true},
		"not on, a time":            {Work: work(3)},
		"not on, a time below 0":    {Work: work(-1)},
		"not on, writes":            {Work: work(0, gone("zz"))},
		"not on, time and writes":   {Work: work(3, put("a", 1))},
		"not on, bad and a time":    {Bad: true, Work: work(3)},
		"not on, bad and writes":    {Bad: true, Work: work(0, put("a", 1))},
	}
	for name, w := range invalidWorks() {
		seats["on, "+name] = impl.Seat{On: true, Work: w}
		seats["on and bad, "+name] = impl.Seat{On: true, Bad: true, Work: w}
		seats["not on, "+name] = impl.Seat{Work: w}
	}
	return seats
}

// anyAsks has statements of each kind, valid ones and others.
func anyAsks() []impl.Ask {
	return slices.AppendSeq(slices.Collect(maps.Values(validAsks())), maps.Values(invalidAsks()))
}

func TestSeatOk(t *testing.T) {
	for name, v := range validStores() {
		for _, s := range []impl.Seat{{}, {Work: impl.Work{Writes: []impl.Write{}}}, opened(v.Now), failed(v.Now), opened(0, gone("zz")), failed(0, put("zz", 1)), opened(0, put("a", 1), put("b", 2))} {
			if !impl.SeatOk(v, s) {
				t.Errorf("%s, %v: not valid", name, s)
			}
		}
		for _, s := range []impl.Seat{{Bad: true}, {Work: work(1)}, {Work: work(0, gone("zz"))}, opened(v.Now + 1), failed(-1), opened(0, put("b", 1), put("a", 1))} {
			if impl.SeatOk(v, s) {
				t.Errorf("%s, %v: valid", name, s)
			}
		}
	}
}

func TestInvalidSeats(t *testing.T) {
	full := fullRows(3)
	for name, s := range invalidSeats() {
		if impl.SeatOk(full, s) {
			t.Errorf("%s: valid", name)
		}
		for _, a := range anyAsks() {
			expectAsk(t, full, s, a, result{code: impl.WorkForm})
		}
	}
}

func TestSeatsOfInvalidStores(t *testing.T) {
	for name, v := range invalidStores() {
		for _, s := range []impl.Seat{{}, {Bad: true}, opened(0), failed(0), opened(1, put("b", 1)), failed(1, put("b", 1)), opened(v.Now), {Work: work(1)}} {
			if impl.SeatOk(v, s) {
				t.Errorf("%s, %v: valid", name, s)
			}
			for _, a := range validAsks() {
				expectAsk(t, v, s, a, result{code: impl.WorkForm})
			}
			for _, a := range []impl.Ask{{}, askGet("B"), {Kind: impl.AskEnd, Num: 1}} {
				expectAsk(t, v, s, a, result{code: impl.WorkForm})
			}
		}
	}
}

// A statement that is not valid fails before anything else is looked at: an end
// with a field does not end anything, nor does Bad come first.
func TestInvalidAskFails(t *testing.T) {
	v := abStore()
	for _, s := range []impl.Seat{{}, opened(2), opened(1, put("a", 3)), opened(1, put("b", 3)), failed(2), failed(1, gone("b"), put("c", 1))} {
		for _, a := range invalidAsks() {
			expectFail(t, v, s, a, impl.WorkForm)
		}
	}
}

func TestEndWithoutTransaction(t *testing.T) {
	for _, v := range validStores() {
		expectFail(t, v, impl.Seat{}, askEnd(), impl.AskNone)
		expectFail(t, v, impl.Seat{}, askUndo(), impl.AskNone)
	}
}

func TestEndCommits(t *testing.T) {
	v := abStore()
	expectAsk(t, v, opened(2), askEnd(), result{v: v})
	expectAsk(t, v, opened(0), askEnd(), result{v: v})
	expectAsk(t, v, opened(2, put("a", 5)), askEnd(), result{v: store(3, ver("a", 1, 1, 3), ver("a", 5, 3, 0), ver("b", 2, 2, 0))})
	expectAsk(t, v, opened(1, put("a", 5), put("aa", 6)), askEnd(),
		result{v: store(3, ver("a", 1, 1, 3), ver("a", 5, 3, 0), ver("aa", 6, 3, 0), ver("b", 2, 2, 0))})
	expectAsk(t, v, opened(2, gone("a"), gone("b"), put("c", -3)), askEnd(),
		result{v: store(3, ver("a", 1, 1, 3), ver("b", 2, 2, 3), ver("c", -3, 3, 0))})
	// The deletion of a key that is not there is a commit too.
	expectAsk(t, v, opened(2, gone("z")), askEnd(), result{v: store(3, abStore().List...)})
}

// An end that cannot commit leaves the store as it is, and the transaction is over all the same.
func TestEndThatFails(t *testing.T) {
	v := abStore()
	expectAsk(t, v, opened(1, put("b", 3)), askEnd(), result{v: v, code: impl.WorkLate})
	expectAsk(t, v, opened(1, put("a", 3), gone("b"), put("c", 4)), askEnd(), result{v: v, code: impl.WorkLate})
	expectAsk(t, v, opened(0, put("a", 3)), askEnd(), result{v: v, code: impl.WorkLate})

	expectAsk(t, store(40), opened(40, put("a", 3)), askEnd(), result{v: store(40), code: impl.WorkFull})
	expectAsk(t, store(40), opened(40), askEnd(), result{v: store(40)})
	full := fullRows(3)
	expectAsk(t, full, opened(0, put("k", 1)), askEnd(), result{v: full, code: impl.WorkFull})
	last := store(40, ver("a", 1, 40, 0))
	expectAsk(t, last, opened(39, put("a", 3)), askEnd(), result{v: last, code: impl.WorkLate})
	versions := store(39, append(manyVers("a", 30), manyVers("b", 30)...)...)
	expectAsk(t, versions, opened(39, put("c", 1)), askEnd(), result{v: versions, code: impl.WorkFull})
}

// An end behind something that went wrong: nothing is committed, and the seat is the zero value.
func TestEndOfFailedTransaction(t *testing.T) {
	for name, v := range validStores() {
		for _, s := range []impl.Seat{failed(v.Now), failed(0), failed(v.Now, gone("a")), failed(0, put("a", 5), gone("b")), failed(0, gone("zz"))} {
			if !impl.SeatOk(v, s) {
				t.Fatalf("%s, %v: not valid", name, s)
			}
			expectAsk(t, v, s, askEnd(), result{v: v, code: impl.AskBad})
		}
	}
}

func TestUndo(t *testing.T) {
	v := abStore()
	for _, s := range []impl.Seat{opened(2), opened(0), opened(2, put("a", 5)), opened(1, put("b", 5)), failed(2), failed(1, put("b", 5), put("c", 1)), failed(0, gone("a"))} {
		expectAsk(t, v, s, askUndo(), result{v: v})
	}
	expectAsk(t, store(40), opened(40, put("a", 1)), askUndo(), result{v: store(40)})
}

// In a failed transaction only end and undo do something.
func TestStatementsInFailedTransaction(t *testing.T) {
	v := gapStore()
	for _, s := range []impl.Seat{failed(6), failed(5), failed(6, put("a", 3)), failed(0, gone("b")), failed(6, gone("a"))} {
		for text, a := range validAsks() {
			if text != "end" && text != "undo" {
				expectFail(t, v, s, a, impl.AskBad)
			}
		}
		// What would have another code in a transaction that has not failed.
		for _, a := range []impl.Ask{askGet("q"), askAdd("q", 1), askAdd("a", 999), askCut("q"), askPut("b", 1), askBegin()} {
			expectFail(t, v, s, a, impl.AskBad)
		}
	}
}

func TestBegin(t *testing.T) {
	for _, v := range validStores() {
		expectAsk(t, v, impl.Seat{}, askBegin(), result{v: v, s: opened(v.Now)})
	}
	expectAsk(t, abStore(), impl.Seat{Work: impl.Work{Writes: []impl.Write{}}}, askBegin(), result{v: abStore(), s: opened(2)})
}

// One who begins twice: the transaction stays open as it was, and has failed.
func TestBeginTwice(t *testing.T) {
	v := abStore()
	for _, w := range []impl.Work{work(2), work(0), work(1, put("a", 5)), work(2, gone("a"), put("z", 1))} {
		s := impl.Seat{On: true, Work: w}
		expectAsk(t, v, s, askBegin(), result{v, impl.Seat{On: true, Bad: true, Work: w}, nil, impl.AskNone})
		bad := impl.Seat{On: true, Bad: true, Work: w}
		expectAsk(t, v, bad, askBegin(), result{v, bad, nil, impl.AskBad})
	}
}

func TestWritesWithoutTransaction(t *testing.T) {
	v := abStore()
	var none impl.Seat
	expectAsk(t, v, none, askPut("a", 5), result{v: store(3, ver("a", 1, 1, 3), ver("a", 5, 3, 0), ver("b", 2, 2, 0))})
	expectAsk(t, v, none, askPut("a", 1), result{v: store(3, ver("a", 1, 1, 3), ver("a", 1, 3, 0), ver("b", 2, 2, 0))})
	expectAsk(t, v, none, askPut("aa", -999), result{v: store(3, ver("a", 1, 1, 0), ver("aa", -999, 3, 0), ver("b", 2, 2, 0))})
	expectAsk(t, v, none, askAdd("b", -5), result{v: store(3, ver("a", 1, 1, 0), ver("b", 2, 2, 3), ver("b", -3, 3, 0))})
	expectAsk(t, v, none, askAdd("b", 0), result{v: store(3, ver("a", 1, 1, 0), ver("b", 2, 2, 3), ver("b", 2, 3, 0))})
	expectAsk(t, v, none, askCut("a"), result{v: store(3, ver("a", 1, 1, 3), ver("b", 2, 2, 0))})
	expectAsk(t, impl.Vers{}, none, askPut("zz", 999), result{v: store(1, ver("zz", 999, 1, 0))})
	// The example of the chapter.
	expectAsk(t, store(1, ver("a", 5, 1, 0)), none, askAdd("a", 1), result{v: store(2, ver("a", 5, 1, 2), ver("a", 6, 2, 0))})
}

func TestFailuresWithoutTransaction(t *testing.T) {
	var none impl.Seat
	v := gapStore() // b is no more
	for _, key := range []string{"b", "aa", "z", "c"} {
		expectFail(t, v, none, askAdd(key, 1), impl.AskNone)
		expectFail(t, v, none, askAdd(key, 999), impl.AskNone)
		expectFail(t, v, none, askCut(key), impl.AskNone)
		expectFail(t, v, none, askGet(key), impl.AskNone)
		expectFail(t, impl.Vers{}, none, askCut(key), impl.AskNone)
	}
	top := store(1, ver("a", 999, 1, 0), ver("b", -999, 1, 0), ver("c", 1, 1, 0))
	expectFail(t, top, none, askAdd("a", 1), impl.AskOver)
	expectFail(t, top, none, askAdd("a", 999), impl.AskOver)
	expectFail(t, top, none, askAdd("b", -1), impl.AskOver)
	expectFail(t, top, none, askAdd("b", -999), impl.AskOver)
	expectFail(t, top, none, askAdd("c", 999), impl.AskOver)
	expectAsk(t, top, none, askAdd("c", 998), result{v: store(2, ver("a", 999, 1, 0), ver("b", -999, 1, 0), ver("c", 1, 1, 2), ver("c", 999, 2, 0))})
	expectAsk(t, top, none, askAdd("a", -999), result{v: store(2, ver("a", 999, 1, 2), ver("a", 0, 2, 0), ver("b", -999, 1, 0), ver("c", 1, 1, 0))})
	expectAsk(t, top, none, askAdd("b", 0), result{v: store(2, ver("a", 999, 1, 0), ver("b", -999, 1, 2), ver("b", -999, 2, 0), ver("c", 1, 1, 0))})
}

func TestFullWithoutTransaction(t *testing.T) {
	var none impl.Seat
	full := fullRows(3) // the view has no room: the code is that of WorkPut
	expectFail(t, full, none, askPut("k", 1), impl.WorkFull)
	expectFail(t, full, none, askPut("aa", 1), impl.WorkFull)
	expectAsk(t, full, none, askCut("j"), result{v: store(4, append(slices.Clone(full.List[:9]), ver("j", 10, 1, 4))...)})

	over := store(40, ver("a", 999, 40, 0)) // no time is left: the code is that of WorkEnd
	expectFail(t, over, none, askPut("a", 1), impl.WorkFull)
	expectFail(t, over, none, askAdd("a", 0), impl.WorkFull)
	expectFail(t, over, none, askAdd("a", -1), impl.WorkFull)
	expectFail(t, over, none, askCut("a"), impl.WorkFull)
	expectFail(t, over, none, askAdd("a", 1), impl.AskOver)
	expectFail(t, over, none, askAdd("b", 1), impl.AskNone)
	expectFail(t, over, none, askCut("b"), impl.AskNone)

	versions := store(39, append(manyVers("a", 30), append(manyVers("b", 29), ver("c", 1, 39, 0))...)...)
	expectFail(t, versions, none, askPut("d", 1), impl.WorkFull)
	expectFail(t, versions, none, askAdd("c", 1), impl.WorkFull)
	ended := slices.Clone(versions.List)
	ended[59].To = 40
	expectAsk(t, versions, none, askCut("c"), result{v: store(40, ended...)})
}

func TestWritesInTransaction(t *testing.T) {
	v := abStore()
	steps := []struct {
		a    impl.Ask
		want []impl.Write
	}{
		{askPut("c", 3), writes(put("c", 3))},
		{askAdd("a", 4), writes(put("a", 5), put("c", 3))},
		{askAdd("a", -9), writes(put("a", -4), put("c", 3))}, // it sees its own write
		{askCut("b"), writes(put("a", -4), gone("b"), put("c", 3))},
		{askPut("b", 7), writes(put("a", -4), put("b", 7), put("c", 3))},
		{askAdd("b", 0), writes(put("a", -4), put("b", 7), put("c", 3))},
		{askCut("c"), writes(put("a", -4), put("b", 7), gone("c"))},
		{askPut("a", 999), writes(put("a", 999), put("b", 7), gone("c"))},
	}
	s := opened(2)
	for _, step := range steps {
		want := opened(2, step.want...)
		expectAsk(t, v, s, step.a, result{v: v, s: want})
		s = want
	}
	expectAsk(t, v, s, askEnd(), result{v: store(3, ver("a", 1, 1, 3), ver("a", 999, 3, 0), ver("b", 2, 2, 3), ver("b", 7, 3, 0))})
}

func TestFailuresInTransaction(t *testing.T) {
	v := abStore()
	// The snapshot of the time 1 has no b yet, and a transaction that deleted a sees none.
	for _, a := range []impl.Ask{askAdd("b", 1), askCut("b"), askAdd("z", 999), askCut("z"), askGet("b"), askGet("z")} {
		expectFail(t, v, opened(1), a, impl.AskNone)
	}
	for _, a := range []impl.Ask{askAdd("a", 1), askCut("a"), askGet("a")} {
		expectFail(t, v, opened(2, gone("a"), put("c", 1)), a, impl.AskNone)
	}
	expectFail(t, v, opened(2, put("a", 500)), askAdd("a", 500), impl.AskOver)
	expectFail(t, v, opened(2, put("a", -500)), askAdd("a", -500), impl.AskOver)
	expectAsk(t, v, opened(2, put("a", 500)), askAdd("a", 499), result{v: v, s: opened(2, put("a", 999))})
	expectFail(t, v, opened(1), askPut("b", 1), impl.WorkLate)
	expectFail(t, v, opened(0, put("c", 1)), askPut("a", 1), impl.WorkLate)
	expectFail(t, v, opened(1, put("b", 5)), askPut("b", 6), impl.WorkLate)
	expectFail(t, v, opened(1, put("b", 5)), askAdd("b", 6), impl.WorkLate)
	expectFail(t, v, opened(1, put("b", 5)), askCut("b"), impl.WorkLate)
	six := writes(put("a", 1), put("b", 1), put("c", 1), put("d", 1), gone("e"), put("f", 1))
	expectFail(t, v, opened(2, six...), askPut("g", 1), impl.WorkFull)
	expectAsk(t, v, opened(2, six...), askAdd("f", 1), result{v: v, s: opened(2, append(slices.Clone(six[:5]), put("f", 2))...)})
	full := fullRows(3)
	expectFail(t, full, opened(3), askPut("k", 1), impl.WorkFull)
	expectFail(t, full, opened(3, gone("a"), put("k", 1)), askPut("l", 1), impl.WorkFull)
	expectAsk(t, full, opened(3, gone("a")), askPut("k", 1), result{v: full, s: opened(3, gone("a"), put("k", 1))})
}

// Where several codes apply, the first in the chapter's order is used.
func TestOrderOfFailures(t *testing.T) {
	// a is 1 at the time 1 and is written at 3; c is there until 3; zz comes at 3.
	v := store(3, ver("a", 1, 1, 3), ver("a", 2, 3, 0), ver("b", 1, 1, 0), ver("c", 1, 1, 3), ver("zz", 5, 3, 0))
	s := opened(1)
	expectFail(t, v, s, askAdd("zz", 999), impl.AskNone) // not there, before late and over
	expectFail(t, v, s, askCut("zz"), impl.AskNone)      // not there, before late
	expectFail(t, v, s, askPut("zz", 1), impl.WorkLate)  // a put asks for no row
	expectFail(t, v, s, askAdd("a", 999), impl.AskOver)  // over, before late
	expectFail(t, v, s, askAdd("a", 998), impl.WorkLate) // 1 and 998 are not over
	expectFail(t, v, s, askAdd("c", 999), impl.AskOver)  // c is there for it
	expectFail(t, v, s, askCut("c"), impl.WorkLate)      // and late
	expectFail(t, v, opened(3), askAdd("c", 1), impl.AskNone)

	six := writes(put("d", 1), put("e", 1), put("f", 1), put("g", 1), put("h", 1), put("i", 1))
	full := opened(1, six...)
	expectFail(t, v, full, askAdd("j", 1), impl.AskNone) // not there, before full
	expectFail(t, v, full, askCut("j"), impl.AskNone)
	expectFail(t, v, full, askAdd("b", 999), impl.AskOver) // over, before full
	expectFail(t, v, full, askAdd("b", 1), impl.WorkFull)
	expectFail(t, v, full, askCut("b"), impl.WorkFull)
	expectFail(t, v, full, askAdd("a", 1), impl.WorkLate) // late, before full
	expectFail(t, v, full, askPut("zz", 1), impl.WorkLate)
	expectFail(t, v, full, askPut("k", 1), impl.WorkFull)
	// A begin while one is open, an end of what is late: bad comes first.
	expectAsk(t, v, failed(1, put("a", 1)), askEnd(), result{v: v, code: impl.AskBad})
	expectAsk(t, v, opened(1, put("a", 1)), askEnd(), result{v: v, code: impl.WorkLate})
	expectFail(t, v, failed(1, put("a", 1)), askBegin(), impl.AskBad)
	// Not even a time that has run out matters before end.
	over := store(40, ver("a", 1, 1, 0))
	expectAsk(t, over, opened(40), askPut("a", 2), result{v: over, s: opened(40, put("a", 2))})
}

func TestReadsWithoutTransaction(t *testing.T) {
	var none impl.Seat
	v := store(3, ver("a", 1, 1, 2), ver("a", 5, 2, 0), ver("aa", -7, 1, 0), ver("b", 3, 1, 3), ver("c", 999, 3, 0))
	expectTold(t, v, none, askGet("a"), row("a", 5))
	expectTold(t, v, none, askGet("aa"), row("aa", -7))
	expectFail(t, v, none, askGet("b"), impl.AskNone)
	expectTold(t, v, none, askAll("a", "z"), row("a", 5), row("aa", -7), row("c", 999))
	expectTold(t, v, none, askAll("aa", "c"), row("aa", -7), row("c", 999))
	expectTold(t, v, none, askAll("ab", "bz"))
	expectTold(t, v, none, askAll("a", "a"), row("a", 5))
	expectTold(t, v, none, askAll("z", "a"))
	expectTold(t, v, none, askAll("d", "zz"))
	expectTold(t, v, none, askSum("a", "z"), row("a", 997))
	expectTold(t, v, none, askSum("aa", "b"), row("aa", -7))
	expectTold(t, v, none, askSum("b", "zz"), row("b", 999))
	expectTold(t, store(0), none, askAll("a", "zz"))
}

// A sum of no rows is still one row.
func TestSumOfNoRows(t *testing.T) {
	v := gapStore()
	for _, s := range []impl.Seat{{}, opened(6), opened(6, put("m", 3))} {
		expectTold(t, v, s, askSum("b", "lz"), row("b", 0))
		expectTold(t, v, s, askSum("n", "zz"), row("n", 0))
		expectTold(t, v, s, askSum("zz", "a"), row("zz", 0))
		expectTold(t, impl.Vers{}, impl.Seat{}, askSum("a", "zz"), row("a", 0))
	}
	expectTold(t, v, opened(0), askSum("a", "zz"), row("a", 0))
	expectTold(t, v, opened(6, gone("a")), askSum("a", "zz"), row("a", 0))
	// Rows whose numbers are together 0 are no different.
	expectTold(t, store(1, ver("a", 5, 1, 0), ver("b", -5, 1, 0)), impl.Seat{}, askSum("a", "b"), row("a", 0))
}

// A sum may be more than a number that is stored.
func TestSumOfManyRows(t *testing.T) {
	high, low := fullRows(1), fullRows(1)
	for i := range high.List {
		high.List[i].Num, low.List[i].Num = 999, -999
	}
	expectTold(t, high, impl.Seat{}, askSum("a", "j"), row("a", 9990))
	expectTold(t, high, opened(1), askSum("b", "i"), row("b", 7992))
	expectTold(t, low, impl.Seat{}, askSum("a", "zz"), row("a", -9990))
	expectTold(t, low, opened(1), askSum("a", "b"), row("a", -1998))
}

func TestReadsInTransaction(t *testing.T) {
	v := gapStore()
	// The snapshot of the time 2, and what it wrote.
	s := opened(2, put("a", 4), gone("b"), put("c", 9))
	expectTold(t, v, s, askGet("a"), row("a", 4))
	expectFail(t, v, s, askGet("b"), impl.AskNone)
	expectTold(t, v, s, askGet("c"), row("c", 9))
	expectTold(t, v, s, askAll("a", "z"), row("a", 4), row("c", 9))
	expectTold(t, v, s, askAll("b", "b"))
	expectTold(t, v, s, askSum("a", "c"), row("a", 13))
	expectTold(t, v, opened(2), askAll("a", "z"), row("a", 1), row("b", 7))
	expectTold(t, v, opened(4), askAll("a", "z"), row("b", 7))
	expectFail(t, v, opened(4), askGet("a"), impl.AskNone)
	expectTold(t, v, opened(0), askAll("a", "z"))
	expectTold(t, v, opened(2), askSum("a", "z"), row("a", 8))
	expectTold(t, v, opened(2), askGet("b"), row("b", 7))
	expectTold(t, v, impl.Seat{}, askAll("a", "z"), row("a", 2))
}

func TestSeatSame(t *testing.T) {
	all := []impl.Seat{{}, {On: true}, {Bad: true}, {On: true, Bad: true}, {Work: work(1)}, {Work: work(0, put("a", 1))},
		opened(1), failed(1), opened(0, put("a", 1)), opened(0, put("a", 2)), opened(0, gone("a")), failed(-5, put("A", 5000), put("A", 5000)), opened(0, put("a", 1), put("b", 1))}
	for i, a := range all {
		for j, b := range all {
			b.Work.Writes = slices.Clone(b.Work.Writes)
			if got := impl.SeatSame(a, b); got != (i == j) {
				t.Errorf("SeatSame(%v, %v): %t", a, b, got)
			}
		}
	}
	empty := impl.Seat{Work: impl.Work{Writes: []impl.Write{}}}
	if !impl.SeatSame(empty, impl.Seat{}) || !impl.SeatSame(impl.Seat{}, empty) {
		t.Error("nil writes and empty ones are not the same")
	}
}

func read(t *testing.T, text string) impl.Ask {
	t.Helper()
	a, ok := impl.AskRead(text)
	if !ok {
		t.Fatalf("AskRead of %q fails", text)
	}
	return a
}

// Two clients of one store: each line is a client, a statement, its code and the rows that it returns.
func TestTwoClients(t *testing.T) {
	v, seats := impl.Vers{}, [2]impl.Seat{}
	lines := `0 put a 1:0 []
		0 begin:0 []
		1 begin:0 []
		1 put a 5:0 []
		1 get a:0 [{a 5}]
		0 get a:0 [{a 1}]
		0 put a 2:0 []
		1 end:0 []
		0 get a:0 [{a 2}]
		1 get a:0 [{a 5}]
		0 end:2 []
		0 all a z:0 [{a 5}]
		0 end:4 []
		0 begin:0 []
		0 cut a:0 []
		0 put b 7:0 []
		1 all a z:0 [{a 5}]
		0 all a z:0 [{b 7}]
		0 cut a:4 []
		0 get b:5 []
		0 put c 1:5 []
		1 put b 3:0 []
		0 end:5 []
		0 all a z:0 [{a 5} {b 3}]
		0 begin:0 []
		0 add a 1:0 []
		0 add b 1:0 []
		0 begin:4 []
		0 undo:0 []
		0 sum a z:0 [{a 8}]
		0 begin:0 []
		0 add a 994:0 []
		0 add a 1:6 []
		0 end:5 []
		0 begin:0 []
		0 add a 994:0 []
		0 cut b:0 []
		0 end:0 []
		1 all a z:0 [{a 999}]
		1 undo:4 []`
	for line := range strings.Lines(lines) {
		line = strings.TrimSpace(line)
		text, want, _ := strings.Cut(line[2:], ":")
		who := line[0] - '0'
		var told []impl.Row
		var code int
		v, seats[who], told, code = impl.AskDo(v, seats[who], read(t, text))
		if got := fmt.Sprint(code, " ", told); got != want {
			t.Fatalf("%s: got %s", line, got)
		}
	}
	// Only what was committed counts: a, a, b, and a with the deletion of b.
	expectVers(t, "store", v, store(4, ver("a", 1, 1, 2), ver("a", 5, 2, 4), ver("a", 999, 4, 0), ver("b", 3, 3, 4)))
	expectSeat(t, "first", seats[0], impl.Seat{})
	expectSeat(t, "second", seats[1], impl.Seat{})
}

// client is what a seat should be.
type client struct {
	on      bool
	bad     bool
	at      int
	view    map[string]int
	written map[string]impl.Write
}

// askModel is what statements should do to a store.
type askModel struct {
	now   int
	count int
	rows  map[string]int
	last  map[string]int
}

func (m *askModel) begin() client {
	return client{on: true, at: m.now, view: maps.Clone(m.rows), written: map[string]impl.Write{}}
}

func (c client) seat() impl.Seat {
	s := impl.Seat{On: c.on, Bad: c.bad, Work: impl.Work{At: c.at}}
	for _, key := range slices.Sorted(maps.Keys(c.written)) {
		s.Work.Writes = append(s.Work.Writes, c.written[key])
	}
	return s
}

func apply(rows map[string]int, list map[string]impl.Write) map[string]int {
	rows = maps.Clone(rows)
	for key, x := range list {
		if x.Gone {
			delete(rows, key)
		} else {
			rows[key] = x.Num
		}
	}
	return rows
}

func (m *askModel) write(c client, x impl.Write) (client, int) {
	written := maps.Clone(c.written)
	written[x.Key] = x
	view := apply(c.view, map[string]impl.Write{x.Key: x})
	switch {
	case m.last[x.Key] > c.at:
		return c, impl.WorkLate
	case len(written) > 6 || len(view) > 10:
		return c, impl.WorkFull
	}
	c.written, c.view = written, view
	return c, impl.WorkFine
}

func (m *askModel) commit(c client) int {
	next, added := apply(m.rows, c.written), 0
	for key, x := range c.written {
		if m.last[key] > c.at {
			return impl.WorkLate
		}
		if !x.Gone {
			added++
		}
	}
	if len(c.written) == 0 {
		return impl.WorkFine
	}
	if m.now == 40 || len(next) > 10 || m.count+added > 60 {
		return impl.WorkFull
	}
	m.now++
	noteLast(m.last, m.rows, slices.Collect(maps.Values(c.written)), m.now)
	m.rows, m.count = next, m.count+added
	return impl.WorkFine
}

// leave is the code of an end or an undo.
func (m *askModel) leave(c *client, a impl.Ask) int {
	left := *c
	if !left.on {
		return impl.AskNone
	}
	*c = client{}
	if a.Kind == impl.AskUndo {
		return impl.WorkFine
	}
	if left.bad {
		return impl.AskBad
	}
	return m.commit(left)
}

// change is the code of a put, an add or a cut.
func (m *askModel) change(c *client, a impl.Ask) int {
	w := m.begin()
	if c.on {
		w = *c
	}
	x := impl.Write{Key: a.Key, Num: a.Num, Gone: a.Kind == impl.AskCut}
	num, found := w.view[a.Key]
	if a.Kind != impl.AskPut && !found {
		return impl.AskNone
	}
	if a.Kind == impl.AskAdd {
		x.Num += num
		if x.Num < -999 || x.Num > 999 {
			return impl.AskOver
		}
	}
	w, code := m.write(w, x)
	switch {
	case code != impl.WorkFine:
		return code
	case !c.on:
		return m.commit(w)
	}
	*c = w
	return impl.WorkFine
}

// told is the rows and the code of a get, an all or a sum.
func (m *askModel) told(c *client, a impl.Ask) ([]impl.Row, int) {
	rows := m.rows
	if c.on {
		rows = c.view
	}
	if a.Kind == impl.AskGet {
		num, found := rows[a.Key]
		if !found {
			return nil, impl.AskNone
		}
		return table(row(a.Key, num)), impl.WorkFine
	}
	var list []impl.Row
	sum := 0
	for _, r := range tableOf(rows) {
		if a.Key <= r.Key && r.Key <= a.Hi {
			list = append(list, r)
			sum += r.Num
		}
	}
	if a.Kind == impl.AskSum {
		return table(row(a.Key, sum)), impl.WorkFine
	}
	return list, impl.WorkFine
}

// do is the rows and the code of a statement, of which only a code that is not fine makes a transaction bad.
func (m *askModel) do(c *client, a impl.Ask) ([]impl.Row, int) {
	var list []impl.Row
	code := impl.WorkFine
	switch {
	case !impl.AskOk(a):
		code = impl.WorkForm
	case a.Kind == impl.AskEnd || a.Kind == impl.AskUndo:
		return nil, m.leave(c, a)
	case c.bad:
		code = impl.AskBad
	case a.Kind == impl.AskBegin && c.on:
		code = impl.AskNone
	case a.Kind == impl.AskBegin:
		*c = m.begin()
	case a.Kind <= impl.AskSum:
		list, code = m.told(c, a)
	default:
		code = m.change(c, a)
	}
	c.bad = c.on && (c.bad || code != impl.WorkFine)
	return list, code
}

// randomAsk is any statement; the more kinds there are, the more of them are a put or an add.
func randomAsk(random *rand.Rand, keys []string, kinds int) impl.Ask {
	key, hi := keys[random.Intn(len(keys))], keys[random.Intn(len(keys))]
	num := (random.Intn(1400) - 700) * 30 / kinds
	switch random.Intn(kinds) {
	case 0, 1:
		return askBegin()
	case 2, 3:
		return askEnd()
	case 4:
		return askUndo()
	case 5:
		return askGet(key)
	case 6, 7:
		return askAll(key, hi)
	case 8, 9:
		return askSum(key, hi)
	case 10, 11, 12, 13:
		return askCut(key)
	case 14:
		return impl.Ask{Kind: random.Intn(12) - 1, Key: key, Hi: hi, Num: num}
	}
	if random.Intn(3) > 0 {
		return askPut(key, num)
	}
	return askAdd(key, num)
}

// clientAsk is any statement, but a client often begins, leaves what has failed, and cuts where no write is left.
func clientAsk(random *rand.Rand, c client, keys []string, kinds int) impl.Ask {
	switch {
	case !c.on && random.Intn(3) == 0:
		return askBegin()
	case c.bad && random.Intn(2) == 0:
		return askEnd()
	case len(c.written) == 6 && random.Intn(3) == 0:
		return askCut(keys[random.Intn(len(keys))])
	}
	return randomAsk(random, keys, kinds)
}

// expectModel expects that the store and the seats are those of the model.
func (m *askModel) expectModel(t *testing.T, what string, v impl.Vers, seats [3]impl.Seat, clients [3]client) {
	t.Helper()
	if v.Now != m.now {
		t.Errorf("%s: now %d, want %d", what, v.Now, m.now)
	}
	expectRows(t, what, impl.VersAt(v, v.Now), tableOf(m.rows))
	for i := range clients {
		expectSeat(t, what, seats[i], clients[i].seat())
		if !impl.SeatOk(v, seats[i]) {
			t.Errorf("%s: seat %d is not valid", what, i)
		}
	}
}

// Some clients at once are held against maps of what each of them should see:
// what fails changes nothing, and a transaction is done as a whole or not at all.
func TestClientsBesideEachOther(t *testing.T) {
	random := rand.New(rand.NewSource(6))
	keys := []string{"a", "aa", "b", "c", "d", "e", "f", "g", "h", "i", "j", "k"}
	counts := map[string]int{}
	for round := range 100 {
		m := &askModel{rows: map[string]int{}, last: map[string]int{}}
		v, seats, clients := impl.Vers{}, [3]impl.Seat{}, [3]client{}
		some := keys[:4+random.Intn(len(keys)-3)]
		for range 300 {
			who := random.Intn(len(clients))
			before, c := v, &clients[who]
			a := clientAsk(random, *c, some, 30+round%2*100)
			what := fmt.Sprintf("AskDo(%v, %v, %+v)", v, seats[who], a)
			list, code := m.do(c, a)
			counts[fmt.Sprint(c.on, " ", a.Kind, " ", code)]++
			var told []impl.Row
			var got int
			v, seats[who], told, got = impl.AskDo(v, seats[who], a)
			if got != code {
				t.Errorf("%s: code %d, want %d", what, got, code)
			}
			expectRows(t, what, told, list)
			if v.Now == before.Now || code != impl.WorkFine {
				expectVers(t, what, v, before)
			}
			m.expectModel(t, what, v, seats, clients)
			if t.Failed() {
				t.FailNow()
			}
		}
	}
	expectAllCodes(t, counts)
}

// expectAllCodes expects that each kind had every code that it may have, in a
// transaction that is still open behind it (true) and outside (false).
func expectAllCodes(t *testing.T, counts map[string]int) {
	t.Helper()
	for _, name := range []string{
		"false 1 0", "false 1 4", "true 1 0", "true 1 4", "true 1 5", "false 2 0", "true 2 0", "true 2 5", "false 3 0", "true 3 0", "true 3 5",
		"false 4 0", "false 4 3", "true 4 0", "true 4 2", "true 4 3", "true 4 5",
		"false 5 0", "false 5 3", "false 5 4", "false 5 6", "true 5 0", "true 5 2", "true 5 3", "true 5 4", "true 5 5", "true 5 6",
		"false 6 0", "false 6 3", "false 6 4", "true 6 0", "true 6 2", "true 6 3", "true 6 4", "true 6 5",
		"true 7 0", "true 7 4", "true 7 5", "false 8 0", "false 8 2", "false 8 3", "false 8 4", "false 8 5", "false 9 0", "false 9 4",
		"false 0 1", "true 0 1", "false 7 1", "true 7 1", "false 8 1", "true 8 1",
	} {
		if counts[name] == 0 {
			t.Errorf("%q never happened", name)
		}
	}
}

// spoil overwrites all memory of a result.
func spoil(v impl.Vers, s impl.Seat, list []impl.Row) {
	all := v.List[:cap(v.List)]
	for i := range all {
		all[i] = ver("changed", -1, -1, -1)
	}
	done := s.Work.Writes[:cap(s.Work.Writes)]
	for i := range done {
		done[i] = put("changed", -1)
	}
	told := list[:cap(list)]
	for i := range told {
		told[i] = row("changed", -1)
	}
}

// Results share no memory with an argument, not even what lies beyond a length.
func TestAsksShareNoMemory(t *testing.T) {
	for _, a := range anyAsks() {
		for length := range 4 {
			for _, on := range []int{0, 1, 2} {
				vers := []impl.Ver{ver("a", 1, 1, 2), ver("a", 3, 2, 0), ver("b", 5, 1, 0), ver("c", 7, 1, 0), ver("zz", 1, 1, 0)}
				list := writes(put("b", 1), gone("c"), put("d", 2), put("x", 9))
				v, s := store(3, vers[:4]...), impl.Seat{}
				if on > 0 {
					s = impl.Seat{On: true, Bad: on == 2, Work: work(2, list[:length]...)}
				}
				versBefore, listBefore := slices.Clone(vers), slices.Clone(list)
				gotVers, gotSeat, told, _ := impl.AskDo(v, s, a)
				spoil(gotVers, gotSeat, told)
				if !slices.Equal(vers, versBefore) || !slices.Equal(list, listBefore) {
					t.Errorf("%+v, %d writes: %v %v", a, length, vers, list)
				}
			}
		}
	}
}

// What a statement returned stays as it is, whatever is done with its other results.
func TestResultsShareNoMemory(t *testing.T) {
	v, s := abStore(), opened(2, put("c", 3))
	for _, a := range []impl.Ask{askAll("a", "z"), askGet("c"), askSum("a", "z"), askPut("d", 1), askCut("c"), askBegin(), askGet("q")} {
		v1, s1, rows1, code1 := impl.AskDo(v, s, a)
		v2, s2, rows2, code2 := impl.AskDo(v, s, a)
		spoil(v2, impl.Seat{}, nil)
		spoil(impl.Vers{}, s2, nil)
		spoil(impl.Vers{}, impl.Seat{}, rows2)
		if code1 != code2 {
			t.Errorf("%+v: %d, then %d", a, code1, code2)
		}
		expectAsk(t, v, s, a, result{v1, s1, rows1, code1})
	}
}

func TestReadingAsksChangesNothing(t *testing.T) {
	v, list := abStore(), writes(put("a", 3), gone("b"), put("c", 4), put("d", 5))
	s := opened(2, list[:3]...)
	for range 2 {
		impl.SeatOk(v, s)
		impl.SeatSame(s, s)
		for _, a := range anyAsks() {
			impl.AskDo(v, s, a)
		}
		expectTold(t, v, s, askAll("a", "z"), row("a", 3), row("c", 4))
	}
	expectVers(t, "store", v, abStore())
	if !slices.Equal(list, writes(put("a", 3), gone("b"), put("c", 4), put("d", 5))) {
		t.Error(list)
	}
}
