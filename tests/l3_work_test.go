package tests

import (
	"fmt"
	"maps"
	"math"
	"math/rand"
	"slices"
	"testing"

	"loop.example/engrosser/impl"
)

func work(at int, list ...impl.Write) impl.Work {
	return impl.Work{At: at, Writes: list}
}

func expectWork(t *testing.T, what string, got impl.Work, want impl.Work) {
	t.Helper()
	if got.At != want.At || !slices.Equal(got.Writes, want.Writes) {
		t.Errorf("%s:\ngot  %v\nwant %v", what, got, want)
	}
}

func expectPut(t *testing.T, v impl.Vers, w impl.Work, x impl.Write, want impl.Work, code int) {
	t.Helper()
	got, c := impl.WorkPut(v, w, x)
	expectWork(t, fmt.Sprintf("WorkPut(%v, %v, %v)", v, w, x), got, want)
	if c != code {
		t.Errorf("WorkPut(%v, %v, %v): code %d, want %d", v, w, x, c, code)
	}
}

func expectEnd(t *testing.T, v impl.Vers, w impl.Work, want impl.Vers, code int) {
	t.Helper()
	got, c := impl.WorkEnd(v, w)
	expectVers(t, fmt.Sprintf("WorkEnd(%v, %v)", v, w), got, want)
	if c != code {
		t.Errorf("WorkEnd(%v, %v): code %d, want %d", v, w, c, code)
	}
}

// abStore has a=1 from the time 1 on, and b=2 from the time 2 on.
func abStore() impl.Vers {
	return store(2, ver("a", 1, 1, 0), ver("b", 2, 2, 0))
}

// invalidWorks has one transaction for each way in which it is not valid in fullRows(3).
func invalidWorks() map[string]impl.Work {
	works := map[string]impl.Work{
		"time below 0":     work(-1),
		"least time":       work(math.MinInt),
		"time above Now":   work(4),
		"greatest time":    work(math.MaxInt, put("a", 1)),
		"one row too many": work(3, put("k", 1)),
		"a row before all": work(3, put("a", 1), put("aa", 1)),
		"not enough gone":  work(3, gone("a"), put("x", 1), put("y", 1)),
		"gone, not there":  work(3, put("x", 1), gone("y")),
	}
	for name, list := range invalidWrites() {
		works["writes: "+name] = work(0, list...)
	}
	return works
}

func TestWorkCodes(t *testing.T) {
	if impl.WorkFine != 0 || impl.WorkForm != 1 || impl.WorkLate != 2 || impl.WorkFull != 3 {
		t.Error("codes")
	}
}

func TestWorkNew(t *testing.T) {
	for name, v := range validStores() {
		w := impl.WorkNew(v)
		expectWork(t, name, w, work(v.Now))
		if !impl.WorkOk(v, w) {
			t.Errorf("%s: a new transaction is not valid", name)
		}
		expectRows(t, name, impl.WorkRows(v, w), impl.VersAt(v, v.Now))
	}
	for name, v := range invalidStores() {
		expectWork(t, name, impl.WorkNew(v), impl.Work{})
	}
}

func TestWorkRowsAtEachTime(t *testing.T) {
	v := gapStore()
	for at := range v.Now + 1 {
		if !impl.WorkOk(v, work(at)) {
			t.Errorf("not valid at %d", at)
		}
		expectRows(t, fmt.Sprint("at ", at), impl.WorkRows(v, work(at)), impl.VersAt(v, at))
	}
}

func TestWorkRowsMergesWrites(t *testing.T) {
	v := store(1, ver("b", 1, 1, 0), ver("d", 2, 1, 0), ver("f", 3, 1, 0))
	cases := []struct {
		list []impl.Write
		want string
	}{
		{nil, "b=1 d=2 f=3"},
		{writes(put("a", 9)), "a=9 b=1 d=2 f=3"},
		{writes(put("b", 9)), "b=9 d=2 f=3"},
		{writes(put("bz", 9)), "b=1 bz=9 d=2 f=3"},
		{writes(put("d", 9)), "b=1 d=9 f=3"},
		{writes(put("f", -9)), "b=1 d=2 f=-9"},
		{writes(put("g", 0)), "b=1 d=2 f=3 g=0"},
		{writes(gone("a")), "b=1 d=2 f=3"},
		{writes(gone("b")), "d=2 f=3"},
		{writes(gone("d")), "b=1 f=3"},
		{writes(gone("f")), "b=1 d=2"},
		{writes(gone("z")), "b=1 d=2 f=3"},
		{writes(gone("b"), gone("d"), gone("f")), ""},
		{writes(put("a", 4), put("aa", 5), gone("b"), put("c", 6), put("d", 7), gone("e")), "a=4 aa=5 c=6 d=7 f=3"},
		{writes(gone("a"), put("d", 7), gone("f"), put("g", 8), gone("h"), put("i", 9)), "b=1 d=7 g=8 i=9"},
		{writes(put("v", 1), put("w", 2), put("x", 3), put("y", 4), put("z", 5), put("zz", 6)), "b=1 d=2 f=3 v=1 w=2 x=3 y=4 z=5 zz=6"},
	}
	for _, c := range cases {
		got := ""
		for i, row := range impl.WorkRows(v, work(1, c.list...)) {
			if i > 0 {
				got += " "
			}
			got += fmt.Sprintf("%s=%d", row.Key, row.Num)
		}
		if got != c.want {
			t.Errorf("%v: got %q, want %q", c.list, got, c.want)
		}
	}
	// What stands at the time 1 is not there at the time 0.
	expectRows(t, "at 0", impl.WorkRows(v, work(0, put("d", 9))), []impl.Row{{Key: "d", Num: 9}})
	expectRows(t, "at 0, a deletion", impl.WorkRows(v, work(0, gone("d"))), nil)
}

func TestViewOfTenRows(t *testing.T) {
	full := fullRows(3)
	for name, w := range map[string]impl.Work{
		"nothing":           work(3),
		"another number":    work(3, put("a", 5)),
		"one for another":   work(3, gone("a"), put("z", 5)),
		"the later one":     work(3, put("aa", 5), gone("j")),
		"before the rows":   work(0, put("k", 5)),
		"three for three":   work(3, gone("a"), gone("b"), gone("c"), put("x", 1), put("y", 1), put("z", 1)),
		"gone, not there":   work(3, gone("zz")),
		"at an earlier now": work(1, gone("b"), put("zz", 1)),
	} {
		if !impl.WorkOk(full, w) {
			t.Errorf("%s: not valid", name)
		}
		if rows := impl.WorkRows(full, w); w.At > 0 && len(rows) != impl.RowsMost {
			t.Errorf("%s: %v", name, rows)
		}
	}
	nine := store(1, fullRows(1).List[:9]...)
	if rows := impl.WorkRows(nine, work(1, put("z", 1))); len(rows) != impl.RowsMost {
		t.Error("the tenth row", rows)
	}
	expectPut(t, nine, work(1), put("z", 1), work(1, put("z", 1)), impl.WorkFine)
	expectPut(t, nine, work(1, put("z", 1)), put("y", 1), work(1, put("z", 1)), impl.WorkFull)
}

func TestInvalidWorks(t *testing.T) {
	full := fullRows(3)
	for name, w := range invalidWorks() {
		if impl.WorkOk(full, w) {
			t.Errorf("%s: valid", name)
		}
		expectRows(t, name, impl.WorkRows(full, w), nil)
		for _, x := range writes(put("a", 1), gone("a"), put("A", 1), gone("k")) {
			expectPut(t, full, w, x, impl.Work{}, impl.WorkForm)
		}
		expectEnd(t, full, w, impl.Vers{}, impl.WorkForm)
	}
}

func TestWorksOfInvalidStores(t *testing.T) {
	for name, v := range invalidStores() {
		for _, w := range []impl.Work{work(0), work(1, put("b", 1)), work(2, put("b", 1)), work(v.Now)} {
			if impl.WorkOk(v, w) {
				t.Errorf("%s, %v: valid", name, w)
			}
			expectRows(t, name, impl.WorkRows(v, w), nil)
			expectPut(t, v, w, put("b", 1), impl.Work{}, impl.WorkForm)
			expectPut(t, v, w, put("B", 1), impl.Work{}, impl.WorkForm)
			expectEnd(t, v, w, impl.Vers{}, impl.WorkForm)
		}
	}
}

func TestWorkPut(t *testing.T) {
	v := abStore()
	// A write finds its place by its key, in whatever order it comes.
	w := work(2)
	steps := []struct {
		x    impl.Write
		want []impl.Write
	}{
		{put("c", 3), writes(put("c", 3))},
		{put("a", 4), writes(put("a", 4), put("c", 3))},
		{gone("b"), writes(put("a", 4), gone("b"), put("c", 3))},
		{put("aa", -999), writes(put("a", 4), put("aa", -999), gone("b"), put("c", 3))},
		{put("c", 999), writes(put("a", 4), put("aa", -999), gone("b"), put("c", 999))},
		{gone("zz"), writes(put("a", 4), put("aa", -999), gone("b"), put("c", 999), gone("zz"))},
		{put("zz", 0), writes(put("a", 4), put("aa", -999), gone("b"), put("c", 999), put("zz", 0))},
	}
	for _, step := range steps {
		want := work(2, step.want...)
		expectPut(t, v, w, step.x, want, impl.WorkFine)
		w = want
	}
}

func TestDeletedKeyIsPutAgain(t *testing.T) {
	v := abStore()
	expectPut(t, v, work(2), gone("a"), work(2, gone("a")), impl.WorkFine)
	expectRows(t, "gone", impl.WorkRows(v, work(2, gone("a"))), []impl.Row{{Key: "b", Num: 2}})
	expectPut(t, v, work(2, gone("a")), put("a", 7), work(2, put("a", 7)), impl.WorkFine)
	expectRows(t, "again", impl.WorkRows(v, work(2, put("a", 7))), []impl.Row{{Key: "a", Num: 7}, {Key: "b", Num: 2}})
	expectEnd(t, v, work(2, put("a", 7)), store(3, ver("a", 1, 1, 3), ver("a", 7, 3, 0), ver("b", 2, 2, 0)), impl.WorkFine)
	// Its own old number, too, is a write.
	expectPut(t, v, work(2, gone("a")), put("a", 1), work(2, put("a", 1)), impl.WorkFine)
	expectEnd(t, v, work(2, put("a", 1)), store(3, ver("a", 1, 1, 3), ver("a", 1, 3, 0), ver("b", 2, 2, 0)), impl.WorkFine)

	// A key that the store no longer has is put again.
	g := gapStore()
	expectPut(t, g, work(6), put("b", 5), work(6, put("b", 5)), impl.WorkFine)
	expectEnd(t, g, work(6, put("b", 5)), store(7, ver("a", 1, 1, 3), ver("a", 2, 5, 0), ver("b", 7, 2, 6), ver("b", 5, 7, 0)), impl.WorkFine)
}

func TestWrittenKeyIsDeleted(t *testing.T) {
	v := abStore()
	// A key that the store has.
	expectPut(t, v, work(2, put("a", 7)), gone("a"), work(2, gone("a")), impl.WorkFine)
	expectEnd(t, v, work(2, gone("a")), store(3, ver("a", 1, 1, 3), ver("b", 2, 2, 0)), impl.WorkFine)
	// A key that only the transaction has: the deletion stays a write, and the commit counts.
	expectPut(t, v, work(2, put("c", 7)), gone("c"), work(2, gone("c")), impl.WorkFine)
	expectRows(t, "c", impl.WorkRows(v, work(2, gone("c"))), []impl.Row{{Key: "a", Num: 1}, {Key: "b", Num: 2}})
	expectEnd(t, v, work(2, gone("c")), store(3, abStore().List...), impl.WorkFine)
}

func TestWorkPutForm(t *testing.T) {
	v := abStore()
	bad := writes(put("", 1), put("A", 1), put("abc", 1), gone("a1"), gone(""), put("a", 1000), put("a", -1000),
		put("a", math.MinInt), put("a", math.MaxInt), impl.Write{Key: "a", Num: 1, Gone: true}, impl.Write{Key: "b", Num: -1, Gone: true})
	for _, x := range bad {
		for _, w := range []impl.Work{work(2), work(0), work(2, gone("a"), put("c", 3))} {
			expectPut(t, v, w, x, w, impl.WorkForm)
		}
	}
	// No room is left, and the key is late: still the form comes first.
	late := store(3, append(fullRows(3).List[:9:9], ver("zz", 1, 3, 0))...)
	six := work(2, put("a", 1), put("b", 1), put("c", 1), put("d", 1), put("e", 1), put("f", 1))
	expectPut(t, late, six, put("zz", 1000), six, impl.WorkForm)
	expectPut(t, late, six, put("zzz", 1), six, impl.WorkForm)
}

func TestWorkPutLate(t *testing.T) {
	v := gapStore()
	// a was written at 1, 3 and 5, b at 2 and 6: the last time counts.
	for at := range v.Now + 1 {
		for key, last := range map[string]int{"a": 5, "b": 6, "c": 0, "aa": 0} {
			for _, x := range writes(put(key, 5), gone(key)) {
				w, want, code := work(at, gone("d")), work(at, gone("d")), impl.WorkLate
				if last <= at {
					want, code = impl.Work{At: at}, impl.WorkFine
					want.Writes = writes(x, gone("d"))
				}
				expectPut(t, v, w, x, want, code)
			}
		}
	}
	// The transaction has written the key already; meanwhile another one did.
	expectPut(t, v, work(4, put("a", 5)), put("a", 6), work(4, put("a", 5)), impl.WorkLate)
	expectPut(t, v, work(4, put("a", 5)), gone("a"), work(4, put("a", 5)), impl.WorkLate)
	// A late write of another key does not matter to this one.
	expectPut(t, v, work(4, put("a", 5)), put("c", 6), work(4, put("a", 5), put("c", 6)), impl.WorkFine)
}

func TestWorkPutFull(t *testing.T) {
	v := abStore()
	six := work(2, put("a", 1), put("b", 1), put("c", 1), put("d", 1), gone("e"), put("f", 1))
	for _, x := range writes(put("aa", 1), put("g", 1), gone("g"), gone("aa")) {
		expectPut(t, v, six, x, six, impl.WorkFull)
	}
	// A write in place of another one is not one more.
	expectPut(t, v, six, gone("f"), work(2, put("a", 1), put("b", 1), put("c", 1), put("d", 1), gone("e"), gone("f")), impl.WorkFine)
	expectPut(t, v, six, put("e", 9), work(2, put("a", 1), put("b", 1), put("c", 1), put("d", 1), put("e", 9), put("f", 1)), impl.WorkFine)
	five := work(2, six.Writes[1:]...)
	expectPut(t, v, five, put("a", 1), six, impl.WorkFine)

	full := fullRows(3)
	expectPut(t, full, work(3), put("k", 1), work(3), impl.WorkFull)
	expectPut(t, full, work(3), put("aa", 1), work(3), impl.WorkFull)
	expectPut(t, full, work(3, gone("a")), put("k", 1), work(3, gone("a"), put("k", 1)), impl.WorkFine)
	expectPut(t, full, work(3, gone("a"), put("k", 1)), put("a", 1), work(3, gone("a"), put("k", 1)), impl.WorkFull)
	expectPut(t, full, work(3, gone("a"), put("k", 1)), put("b", 1), work(3, gone("a"), put("b", 1), put("k", 1)), impl.WorkFine)
}

func TestWorkPutLateBeforeFull(t *testing.T) {
	v := store(3, append(fullRows(3).List[:9:9], ver("zz", 1, 3, 0))...)
	six := work(2, put("a", 1), put("b", 1), put("c", 1), put("d", 1), put("e", 1), put("f", 1))
	expectPut(t, v, six, put("zz", 1), six, impl.WorkLate)
	expectPut(t, v, six, put("k", 1), six, impl.WorkFull)
	// The view at the time 2 has nine rows and the written one, so that another one is too many.
	ten := work(2, put("k", 1))
	expectPut(t, v, ten, put("zz", 1), ten, impl.WorkLate)
	expectPut(t, v, ten, put("l", 1), ten, impl.WorkFull)
}

func TestWorkWithoutWrites(t *testing.T) {
	for name, v := range validStores() {
		for at := range v.Now + 1 {
			got, code := impl.WorkEnd(v, work(at))
			if code != impl.WorkFine {
				t.Errorf("%s, at %d: code %d", name, at, code)
			}
			expectVers(t, name, got, v)
		}
	}
	// Not even at the last time is anything refused, for nothing is committed.
	expectEnd(t, store(40), work(40), store(40), impl.WorkFine)
	expectEnd(t, store(40), work(0), store(40), impl.WorkFine)
}

func TestWorkEndLate(t *testing.T) {
	v := gapStore()
	expectEnd(t, v, work(4, put("a", 5)), v, impl.WorkLate)
	expectEnd(t, v, work(4, gone("a")), v, impl.WorkLate)
	expectEnd(t, v, work(5, put("b", 5)), v, impl.WorkLate)
	expectEnd(t, v, work(5, gone("b")), v, impl.WorkLate)
	expectEnd(t, v, work(0, gone("b")), v, impl.WorkLate)
	// One late write is enough, wherever it is.
	expectEnd(t, v, work(4, put("a", 5), put("aa", 1), put("c", 1)), v, impl.WorkLate)
	expectEnd(t, v, work(5, put("a", 5), put("aa", 1), put("b", 1)), v, impl.WorkLate)
	expectEnd(t, v, work(5, put("a", 5), put("b", 1), put("c", 1)), v, impl.WorkLate)
	// The time of the snapshot itself is not later than it.
	expectEnd(t, v, work(5, put("a", 5)), store(7, ver("a", 1, 1, 3), ver("a", 2, 5, 7), ver("a", 5, 7, 0), ver("b", 7, 2, 6)), impl.WorkFine)
	// Keys that were not written after At.
	expectEnd(t, v, work(0, put("c", 5)), store(7, append(gapStore().List, ver("c", 5, 7, 0))...), impl.WorkFine)
	expectEnd(t, v, work(2, gone("c")), store(7, gapStore().List...), impl.WorkFine)
	// A late one is late even if the store has no time left.
	over := store(40, ver("a", 1, 40, 0))
	expectEnd(t, over, work(39, put("a", 2)), over, impl.WorkLate)
	expectEnd(t, over, work(40, put("a", 2)), over, impl.WorkFull)
	expectEnd(t, over, work(39, put("b", 2)), over, impl.WorkFull)
}

func TestWorkEndFull(t *testing.T) {
	expectEnd(t, store(40), work(40, put("a", 2)), store(40), impl.WorkFull)
	expectEnd(t, store(39), work(39, put("a", 2)), store(40, ver("a", 2, 40, 0)), impl.WorkFine)

	// The view has a row, but the rows of others have become ten meanwhile.
	full := fullRows(3)
	expectEnd(t, full, work(0, put("k", 1)), full, impl.WorkFull)
	expectEnd(t, full, work(0, gone("k")), store(4, full.List...), impl.WorkFine)
	nine := store(3, full.List[:9]...)
	expectEnd(t, nine, work(0, put("k", 1)), store(4, append(slices.Clone(nine.List), ver("k", 1, 4, 0))...), impl.WorkFine)
	expectEnd(t, nine, work(0, put("k", 1), put("l", 1)), nine, impl.WorkFull)

	// All versions that there may be.
	versions := store(39, append(manyVers("a", 30), manyVers("b", 30)...)...)
	expectEnd(t, versions, work(39, put("c", 1)), versions, impl.WorkFull)
	expectEnd(t, versions, work(39, gone("c")), store(40, versions.List...), impl.WorkFine)
	almost := store(39, versions.List[:59]...)
	expectEnd(t, almost, work(39, put("c", 1)), store(40, append(slices.Clone(almost.List), ver("c", 1, 40, 0))...), impl.WorkFine)
	expectEnd(t, almost, work(39, put("c", 1), put("d", 1)), almost, impl.WorkFull)
}

func TestLaterOfTwoFails(t *testing.T) {
	v := abStore()
	lists := map[string][]impl.Write{"a put": writes(put("a", 5)), "a deletion": writes(gone("a")), "among others": writes(put("a", 7), gone("b"), put("c", 1))}
	for name, first := range lists {
		for other, second := range lists {
			after, code := impl.WorkEnd(v, work(2, first...))
			if code != impl.WorkFine {
				t.Errorf("%s: code %d", name, code)
			}
			expectVers(t, name, after, mustDo(t, v, first))
			got, code := impl.WorkEnd(after, work(2, second...))
			if code != impl.WorkLate {
				t.Errorf("%s, then %s: code %d", name, other, code)
			}
			expectVers(t, name+", then "+other, got, after)
			// The snapshot of the second one stays as it was.
			expectRows(t, name+", then "+other, impl.WorkRows(after, work(2)), impl.VersAt(v, 2))
			// One that begins afterwards is not late.
			if _, code := impl.WorkEnd(after, work(3, second...)); code != impl.WorkFine {
				t.Errorf("%s, later %s: code %d", name, other, code)
			}
		}
	}
}

func TestTwoWithDifferentKeys(t *testing.T) {
	v := abStore()
	v, code := impl.WorkEnd(v, work(2, put("a", 5)))
	if code != impl.WorkFine {
		t.Fatal(code)
	}
	expectEnd(t, v, work(2, put("b", 6)), store(4, ver("a", 1, 1, 3), ver("a", 5, 3, 0), ver("b", 2, 2, 4), ver("b", 6, 4, 0)), impl.WorkFine)
}

// A key that was not there is written by nothing if it is deleted, so that it is not late.
func TestDeletionOfNothingIsNotLate(t *testing.T) {
	v, code := impl.WorkEnd(abStore(), work(2, gone("c")))
	if code != impl.WorkFine || v.Now != 3 {
		t.Fatal(v, code)
	}
	expectEnd(t, v, work(2, put("c", 1)), store(4, append(abStore().List, ver("c", 1, 4, 0))...), impl.WorkFine)
}

func TestWorkSame(t *testing.T) {
	all := []impl.Work{
		{}, work(1), work(-1), work(math.MaxInt), work(0, put("a", 0)), work(0, gone("a")), work(0, put("b", 0)), work(0, put("a", 1)),
		work(1, put("a", 0)), work(0, put("a", 0), put("b", 0)), work(0, put("b", 0), put("a", 0)), work(0, put("", 5000)),
		work(0, put("a", 0), put("a", 0)), work(0, put("A", 0)), work(0, impl.Write{Key: "a", Num: 1, Gone: true}),
	}
	for i, a := range all {
		for j, b := range all {
			b.Writes = slices.Clone(b.Writes)
			if got := impl.WorkSame(a, b); got != (i == j) {
				t.Errorf("WorkSame(%v, %v): %t", a, b, got)
			}
		}
	}
	if !impl.WorkSame(impl.Work{Writes: []impl.Write{}}, impl.Work{}) || !impl.WorkSame(impl.Work{}, impl.Work{Writes: []impl.Write{}}) {
		t.Error("nil writes and empty ones are not the same")
	}
}

// player is a transaction beside the map of what it should see.
type player struct {
	w    impl.Work
	rows map[string]int
}

// model is what some transactions at once should do to a store.
type model struct {
	v       impl.Vers
	rows    map[string]int
	last    map[string]int
	count   int
	players []player
	codes   map[string]int
}

// begin lets a player begin anew.
func (m *model) begin(t *testing.T, i int) {
	t.Helper()
	m.players[i] = player{impl.WorkNew(m.v), maps.Clone(m.rows)}
	expectWork(t, "begin", m.players[i].w, work(m.v.Now))
}

// put lets a player write.
func (m *model) put(t *testing.T, i int, x impl.Write) {
	t.Helper()
	p := &m.players[i]
	keys := map[string]impl.Write{x.Key: x}
	next := maps.Clone(p.rows)
	next[x.Key] = x.Num
	if x.Gone {
		delete(next, x.Key)
	}
	for _, y := range p.w.Writes {
		if y.Key != x.Key {
			keys[y.Key] = y
		}
	}
	want := impl.WorkFine
	switch {
	case !impl.WritesOk(writes(x)):
		want = impl.WorkForm
	case m.last[x.Key] > p.w.At:
		want = impl.WorkLate
	case len(keys) > 6 || len(next) > 10:
		want = impl.WorkFull
	}
	got, code := impl.WorkPut(m.v, p.w, x)
	m.codes[fmt.Sprint("put ", code)]++
	if code != want {
		t.Fatalf("WorkPut(%v, %v, %v): %d, want %d", m.v, p.w, x, code, want)
	}
	if code != impl.WorkFine {
		expectWork(t, "put", got, p.w)
		return
	}
	var list []impl.Write
	for _, key := range slices.Sorted(maps.Keys(keys)) {
		list = append(list, keys[key])
	}
	expectWork(t, "put", got, work(p.w.At, list...))
	p.w, p.rows = got, next
}

// end lets a player commit.
func (m *model) end(t *testing.T, i int) {
	t.Helper()
	w := m.players[i].w
	next, want, added := maps.Clone(m.rows), impl.WorkFine, 0
	for _, x := range w.Writes {
		if m.last[x.Key] > w.At {
			want = impl.WorkLate
		}
		if x.Gone {
			delete(next, x.Key)
		} else {
			next[x.Key] = x.Num
			added++
		}
	}
	if want == impl.WorkFine && len(w.Writes) > 0 && (len(next) > 10 || m.count+added > 60 || m.v.Now == 40) {
		want = impl.WorkFull
	}
	got, code := impl.WorkEnd(m.v, w)
	m.codes[fmt.Sprint("end ", code)]++
	if code != want {
		t.Fatalf("WorkEnd(%v, %v): %d, want %d", m.v, w, code, want)
	}
	if code != impl.WorkFine || len(w.Writes) == 0 {
		expectVers(t, "end", got, m.v)
		return
	}
	expectVers(t, "end", got, mustDo(t, m.v, w.Writes))
	noteLast(m.last, m.rows, w.Writes, got.Now)
	m.v, m.rows, m.count = got, next, m.count+added
}

// Some transactions at once are held against maps of what each of them should see.
func TestTransactionsBesideEachOther(t *testing.T) {
	random := rand.New(rand.NewSource(4))
	keys := []string{"a", "aa", "b", "c", "d", "e", "f", "g", "h", "i", "j", "z", "zz", "Z"}
	codes := map[string]int{}
	for range 150 {
		m := &model{rows: map[string]int{}, last: map[string]int{}, players: make([]player, 3), codes: codes}
		for i := range m.players {
			m.begin(t, i)
		}
		for range 150 {
			i := random.Intn(3)
			switch random.Intn(6) {
			case 0:
				m.end(t, i)
				m.begin(t, i)
			default:
				x := put(keys[random.Intn(len(keys))], random.Intn(2100)-1050)
				if random.Intn(5) == 0 {
					x.Num, x.Gone = random.Intn(20)/19, true
				}
				m.put(t, i, x)
			}
			for _, p := range m.players {
				if !impl.WorkOk(m.v, p.w) {
					t.Fatalf("not valid: %v, %v", m.v, p.w)
				}
				expectRows(t, "view", impl.WorkRows(m.v, p.w), tableOf(p.rows))
			}
		}
	}
	for _, name := range []string{"put 0", "put 1", "put 2", "put 3", "end 0", "end 2", "end 3"} {
		if codes[name] < 50 {
			t.Errorf("%s happened only %d times", name, codes[name])
		}
	}
}

// plainView is the view as the document describes it: the table, the deleted keys removed, the others put.
func plainView(v impl.Vers, w impl.Work) []impl.Row {
	rows := map[string]int{}
	for _, row := range impl.VersAt(v, w.At) {
		rows[row.Key] = row.Num
	}
	for _, x := range w.Writes {
		if x.Gone {
			delete(rows, x.Key)
		} else {
			rows[x.Key] = x.Num
		}
	}
	return tableOf(rows)
}

// Any transactions, valid ones and others, are held against the description of the view.
func TestWorkOkOfAnyWorks(t *testing.T) {
	random := rand.New(rand.NewSource(5))
	counts := map[bool]int{}
	for range 10000 {
		v := impl.Vers{}
		for range 1 + random.Intn(15) {
			v, _ = impl.VersDo(v, randomWrites(random))
		}
		if random.Intn(4) == 0 {
			changeStore(random, &v)
		}
		w := work(random.Intn(max(v.Now, 0)+3)-1, randomWrites(random)...)
		want := plainVersOk(v) && w.At >= 0 && w.At <= v.Now && impl.WritesOk(w.Writes) && len(plainView(v, w)) <= 10
		counts[want]++
		if got := impl.WorkOk(v, w); got != want {
			t.Fatalf("WorkOk(%v, %v): %t, want %t", v, w, got, want)
		}
		rows := impl.WorkRows(v, w)
		if want {
			expectRows(t, "view", rows, plainView(v, w))
		} else {
			expectRows(t, "no view", rows, nil)
		}
	}
	if counts[true] < 1000 || counts[false] < 1000 {
		t.Error(counts)
	}
}

// Results share no memory with an argument, not even what lies beyond a length.
func TestWorksShareNoMemory(t *testing.T) {
	for name, x := range map[string]impl.Write{"more": put("z", 1), "first": put("a", 1), "replaced": gone("b"), "bad": put("Z", 1), "late": put("q", 1), "full": put("y", 1)} {
		for length := range 5 {
			list := writes(put("b", 1), put("c", 2), gone("d"), put("e", 3), put("x", 9))
			vers := []impl.Ver{ver("a", 1, 1, 3), ver("f", 1, 1, 0), ver("g", 1, 1, 0), ver("h", 1, 1, 0), ver("i", 1, 1, 0),
				ver("j", 1, 1, 0), ver("k", 1, 1, 0), ver("l", 1, 1, 0), ver("q", 7, 4, 0), ver("r", 7, 2, 6)}
			listBefore, versBefore := slices.Clone(list), slices.Clone(vers)
			v, w := store(6, vers[:9]...), work(3, list[:length]...)
			result, _ := impl.WorkPut(v, w, x)
			all := result.Writes[:cap(result.Writes)]
			for i := range all {
				all[i] = put("changed", -1)
			}
			if !slices.Equal(list, listBefore) || !slices.Equal(vers, versBefore) {
				t.Errorf("%s, %d: %v %v", name, length, list, vers)
			}
		}
	}
}

func TestEndedWorksShareNoMemory(t *testing.T) {
	for name, w := range map[string]impl.Work{"no writes": work(6), "fine": work(6, put("a", 1)), "deletion": work(6, gone("d")), "late": work(3, put("c", 1)), "full": work(40, put("a", 1))} {
		vers := []impl.Ver{ver("a", 1, 1, 3), ver("b", 1, 1, 0), ver("c", 7, 4, 0), ver("d", 7, 2, 0)}
		before, now := slices.Clone(vers), 6
		if w.At == 40 {
			now = 40
		}
		result, _ := impl.WorkEnd(store(now, vers[:3]...), w)
		all := result.List[:cap(result.List)]
		for i := range all {
			all[i] = ver("changed", -1, -1, -1)
		}
		if !slices.Equal(vers, before) {
			t.Errorf("%s: %v", name, vers)
		}
	}
}

func TestReadingWorksChangesNothing(t *testing.T) {
	v, list := abStore(), writes(put("a", 3), gone("b"), put("c", 4), put("d", 5))
	w := work(2, list[:3]...)
	rows := impl.WorkRows(v, w)
	for i := range rows {
		rows[i] = impl.Row{Key: "changed"}
	}
	impl.WorkOk(v, w)
	impl.WorkSame(w, w)
	impl.WorkNew(v)
	impl.WorkEnd(v, w)
	expectVers(t, "store", v, abStore())
	if !slices.Equal(list, writes(put("a", 3), gone("b"), put("c", 4), put("d", 5))) {
		t.Error(list)
	}
}
