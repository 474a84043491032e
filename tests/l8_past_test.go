package tests

import (
	"fmt"
	"maps"
	"math"
	"math/rand"
	"slices"
	"strings"
	"testing"

	"loop.example/engrosser/impl"
)

// past makes a history: the writes of the time 1, of the time 2 and so on.
func past(list ...[]impl.Write) [][]impl.Write { return list }

func expectWrites(t *testing.T, what string, got []impl.Write, want []impl.Write) {
	t.Helper()
	if !slices.Equal(got, want) {
		t.Errorf("%s:\ngot  %v\nwant %v", what, got, want)
	}
}

// expectPast expects PastAll, PastAt of each time, and that the replay is the store again.
func expectPast(t *testing.T, what string, v impl.Vers, want [][]impl.Write) {
	t.Helper()
	all := impl.PastAll(v)
	if !slices.EqualFunc(all, want, slices.Equal[[]impl.Write]) {
		t.Errorf("%s:\ngot  %v\nwant %v", what, all, want)
	}
	for i, list := range want {
		expectWrites(t, fmt.Sprint(what, " at ", i+1), impl.PastAt(v, i+1), list)
	}
	expectFold(t, what+": replay", all, v)
}

func expectFold(t *testing.T, what string, list [][]impl.Write, want impl.Vers) {
	t.Helper()
	got, ok := impl.PastFold(list)
	if !ok {
		t.Errorf("%s: not replayed", what)
	}
	expectVers(t, what, got, want)
}

func expectNoFold(t *testing.T, what string, list [][]impl.Write) {
	t.Helper()
	got, ok := impl.PastFold(list)
	if ok {
		t.Errorf("%s: replayed", what)
	}
	expectVers(t, what, got, impl.Vers{})
}

// tenPuts makes writes of as many keys as a table may have, which begin with a letter or none.
func tenPuts(letter string) []impl.Write {
	var list []impl.Write
	for _, row := range fullTable() {
		list = append(list, put(letter+row.Key, row.Num))
	}
	return list
}

func tenGone(letter string) []impl.Write {
	var list []impl.Write
	for _, x := range tenPuts(letter) {
		list = append(list, gone(x.Key))
	}
	return list
}

// turnStore is a store of which all rows are exchanged for others at the time 2.
func turnStore() impl.Vers {
	v := store(2)
	for _, x := range tenPuts("m") {
		v.List = append(v.List, ver(x.Key, x.Num, 1, 2))
	}
	for _, x := range tenPuts("n") {
		v.List = append(v.List, ver(x.Key, x.Num, 2, 0))
	}
	return v
}

func TestPastAt(t *testing.T) {
	v := gapStore()
	wants := map[int][]impl.Write{
		math.MinInt: nil,
		-1:          nil,
		0:           nil, // b stands, so its To is 0, but nothing was taken away at 0
		1:           writes(put("a", 1)),
		2:           writes(put("b", 7)),
		3:           writes(gone("a")),
		4:           nil,
		5:           writes(put("a", 2)),
		6:           writes(gone("b")),
		7:           nil,
		40:          nil,
		math.MaxInt: nil,
	}
	for time, want := range wants {
		expectWrites(t, fmt.Sprint("at ", time), impl.PastAt(v, time), want)
		if got := impl.PastAt(impl.Vers{}, time); len(got) != 0 {
			t.Errorf("empty store at %d: %v", time, got)
		}
	}
	many := store(3, ver("a", 1, 1, 3), ver("aa", -999, 3, 0), ver("ab", 0, 2, 3), ver("b", 999, 3, 0), ver("ba", 4, 1, 3), ver("c", 5, 2, 0), ver("z", 0, 3, 0), ver("zz", 1, 1, 3))
	expectWrites(t, "puts and deletions", impl.PastAt(many, 3), writes(gone("a"), put("aa", -999), gone("ab"), put("b", 999), gone("ba"), put("z", 0), gone("zz")))
}

func TestPastAll(t *testing.T) {
	cases := []struct {
		name string
		v    impl.Vers
		want [][]impl.Write
	}{
		{"the time 0", impl.Vers{}, nil},
		{"only commits", store(3), past(nil, nil, nil)},
		{"a gap", gapStore(), past(writes(put("a", 1)), writes(put("b", 7)), writes(gone("a")), nil, writes(put("a", 2)), writes(gone("b")))},
		{"nothing at the end", store(3, ver("a", 1, 1, 0)), past(writes(put("a", 1)), nil, nil)},
		{"nothing at the beginning", store(3, ver("a", 1, 3, 0)), past(nil, nil, writes(put("a", 1)))},
		{"two keys at once", store(2, ver("a", 1, 2, 0), ver("b", 2, 2, 0)), past(nil, writes(put("a", 1), put("b", 2)))},
		{"all at once", fullRows(1), past(tenPuts(""))},
		{"all exchanged", turnStore(), past(tenPuts("m"), append(tenGone("m"), tenPuts("n")...))},
	}
	for _, c := range cases {
		expectPast(t, c.name, c.v, c.want)
	}
	if list := impl.PastAt(turnStore(), 2); len(list) != 2*impl.RowsMost {
		t.Error(list)
	}
}

// At the time at which one version of a key ends the next one begins: the key was put, not deleted.
func TestPastOfKeyTakenAwayAndPutAtOneTime(t *testing.T) {
	expectPast(t, "another number", store(2, ver("a", 1, 1, 2), ver("a", 5, 2, 0)), past(writes(put("a", 1)), writes(put("a", 5))))
	expectPast(t, "the same number", store(2, ver("a", 1, 1, 2), ver("a", 1, 2, 0)), past(writes(put("a", 1)), writes(put("a", 1))))
	expectPast(t, "the number 0", store(2, ver("a", 1, 1, 2), ver("a", 0, 2, 0)), past(writes(put("a", 1)), writes(put("a", 0))))
	expectPast(t, "more than once", store(5, ver("a", 1, 1, 2), ver("a", 2, 2, 3), ver("a", 3, 3, 5)),
		past(writes(put("a", 1)), writes(put("a", 2)), writes(put("a", 3)), nil, writes(gone("a"))))
	expectPast(t, "with a gap behind", store(4, ver("a", 1, 1, 2), ver("a", 2, 2, 3), ver("a", 3, 4, 0)),
		past(writes(put("a", 1)), writes(put("a", 2)), writes(gone("a")), writes(put("a", 3))))
	expectPast(t, "beside others", store(2, ver("a", 1, 1, 2), ver("b", 1, 1, 2), ver("b", 2, 2, 0), ver("c", 1, 1, 2), ver("d", 1, 2, 0)),
		past(writes(put("a", 1), put("b", 1), put("c", 1)), writes(gone("a"), put("b", 2), gone("c"), put("d", 1))))
}

// A time at which nothing was written, or only keys that were not there were deleted, has no writes, but its place in the history.
func TestPastOfTimesAtWhichNothingWasDone(t *testing.T) {
	v := mustDo(t, impl.Vers{}, nil, writes(put("a", 1)), nil, writes(gone("b")), writes(gone("a"), gone("b")), writes(gone("a")), nil)
	expectPast(t, "commits", v, past(nil, writes(put("a", 1)), nil, nil, writes(gone("a")), nil, nil))
	all := impl.PastAll(v)
	for time, want := range map[int]impl.Write{2: put("a", 1), 3: put("a", 1), 4: put("a", 1), 5: gone("a"), 6: gone("a"), 7: gone("a")} {
		expectLast(t, all, "a", time, want)
	}
	expectNoLast(t, all, "a", 1)
	expectNoLast(t, all, "b", 7)
	for from := 2; from < 4; from++ {
		expectKeys(t, "nothing", impl.PastSince(all, from, 4))
	}
	expectKeys(t, "behind", impl.PastSince(all, 4, 7), "a")
}

// What was forgotten is in the history no more: neither the put, nor the deletion that ended it.
func TestPastOfWhatWasForgotten(t *testing.T) {
	v := mustDo(t, impl.Vers{}, writes(put("a", 1), put("b", 2)), writes(put("a", 5), gone("b")), writes(put("b", 3)), writes(gone("b")))
	whole := past(writes(put("a", 1), put("b", 2)), writes(put("a", 5), gone("b")), writes(put("b", 3)), writes(gone("b")))
	expectPast(t, "whole", v, whole)
	wants := map[int][][]impl.Write{
		0: whole,
		1: whole,
		2: past(nil, writes(put("a", 5)), writes(put("b", 3)), writes(gone("b"))),
		3: past(nil, writes(put("a", 5)), writes(put("b", 3)), writes(gone("b"))),
		4: past(nil, writes(put("a", 5)), nil, nil),
		9: past(nil, writes(put("a", 5)), nil, nil),
	}
	for time, want := range wants {
		trimmed := impl.VersTrim(v, time)
		expectPast(t, fmt.Sprint("trimmed at ", time), trimmed, want)
		again, _ := impl.PastFold(impl.PastAll(trimmed))
		if impl.VersSame(again, v) != (time < 2) {
			t.Errorf("trimmed at %d: %v", time, again)
		}
	}
	expectPast(t, "all forgotten", impl.VersTrim(store(3, ver("a", 1, 1, 3)), 3), past(nil, nil, nil))
	// Of two versions that meet, the later one still begins.
	expectPast(t, "the later one", impl.VersTrim(store(3, ver("a", 1, 1, 2), ver("a", 2, 2, 3), ver("a", 3, 3, 0)), 2), past(nil, writes(put("a", 2)), writes(put("a", 3))))
}

func TestPastOfInvalidStores(t *testing.T) {
	for name, v := range invalidStores() {
		if got := impl.PastAll(v); len(got) != 0 {
			t.Errorf("%s: PastAll: %v", name, got)
		}
		for _, time := range []int{math.MinInt, -1, 0, 1, 2, 3, 4, v.Now, 40, 41, math.MaxInt} {
			if got := impl.PastAt(v, time); len(got) != 0 {
				t.Errorf("%s: PastAt %d: %v", name, time, got)
			}
		}
	}
}

func TestPastOfValidStores(t *testing.T) {
	for name, v := range validStores() {
		all := impl.PastAll(v)
		if len(all) != v.Now {
			t.Errorf("%s: %d times", name, len(all))
		}
		expectPast(t, name, v, all)
	}
}

func TestPastFold(t *testing.T) {
	cases := []struct {
		name string
		list [][]impl.Write
		want impl.Vers
	}{
		{"nil", nil, impl.Vers{}},
		{"no elements", past(), impl.Vers{}},
		{"an empty element", past(nil), store(1)},
		{"empty elements", past(nil, writes(), nil), store(3)},
		{"one write", past(writes(put("a", 1))), store(1, ver("a", 1, 1, 0))},
		{"empty elements between", past(nil, writes(put("a", 1)), nil, writes(put("a", 2)), nil), store(5, ver("a", 1, 2, 4), ver("a", 2, 4, 0))},
		{"deletion", past(writes(put("a", 1), put("b", -2)), writes(gone("a"))), store(2, ver("a", 1, 1, 2), ver("b", -2, 1, 0))},
		{"deletion of what is not there", past(writes(gone("a")), writes(put("b", 1)), writes(gone("a"))), store(3, ver("b", 1, 2, 0))},
		{"again after a deletion", past(writes(put("a", 1)), writes(gone("a")), writes(put("a", 2))), store(3, ver("a", 1, 1, 2), ver("a", 2, 3, 0))},
		{"limits of a number", past(writes(put("a", 999), put("aa", -999))), store(1, ver("a", 999, 1, 0), ver("aa", -999, 1, 0))},
		{"more writes than of a transaction", past(invalidWrites()["one too many"]), store(1, ver("a", 1, 1, 0), ver("b", 1, 1, 0), ver("c", 1, 1, 0), ver("d", 1, 1, 0), ver("e", 1, 1, 0), ver("f", 1, 1, 0), ver("g", 1, 1, 0))},
		{"as many rows at once", past(tenPuts("")), fullRows(1)},
		{"as many writes", past(tenPuts("m"), append(tenGone("m"), tenPuts("n")...)), turnStore()},
		{"as many deletions", past(append(tenGone("x"), tenGone("y")...)), store(1)},
		{"as many times", make([][]impl.Write, 40), store(40)},
	}
	for _, c := range cases {
		expectFold(t, c.name, c.list, c.want)
	}
}

func TestPastFoldOfBadElements(t *testing.T) {
	bad := invalidWrites()
	delete(bad, "one too many")
	bad["a deletion too many"] = append(append(tenGone("x"), tenGone("y")...), gone("z"))
	bad["a write too many"] = append(append(tenGone("x"), tenPuts("y")...), gone("z"))
	bad["many more"] = slices.Repeat(tenGone("x"), 50)
	bad["a row too many"] = append(tenPuts("x"), put("z", 1))
	bad["twice as many rows"] = append(tenPuts("x"), tenPuts("y")...)
	bad["bad key behind many"] = append(tenGone("x"), gone("yyy"))
	bad["bad number behind many"] = append(tenGone("x"), put("y", 1000))
	bad["equal keys behind many"] = append(tenGone("x"), gone("y"), gone("y"))
	bad["descending behind many"] = append(tenGone("x"), gone("a"))
	for name, list := range bad {
		expectNoFold(t, name, past(list))
		expectNoFold(t, name+", behind others", past(writes(put("a", 1)), nil, list))
		expectNoFold(t, name+", ahead of others", past(list, writes(put("a", 1)), nil))
		expectNoFold(t, name+", between others", past(nil, list, writes(put("a", 1))))
	}
}

func TestPastFoldOfCommitsThatFail(t *testing.T) {
	expectNoFold(t, "a time too many", make([][]impl.Write, 41))
	expectNoFold(t, "many more times", make([][]impl.Write, 100000))
	expectNoFold(t, "a write at the time 41", append(make([][]impl.Write, 40), writes(put("a", 1))))
	expectFold(t, "a write at the time 40", append(make([][]impl.Write, 39), writes(put("a", 1))), store(40, ver("a", 1, 40, 0)))

	full := past(tenPuts("m"))
	expectNoFold(t, "a row too many", append(full, writes(put("a", 1))))
	expectNoFold(t, "a row too many for a time", append(full, writes(put("a", 1)), writes(gone("a"))))
	expectNoFold(t, "one less, two more", append(full, writes(put("a", 1), put("b", 1), gone("ma"))))
	v, ok := impl.PastFold(append(full, writes(put("a", 1), gone("ma"))))
	if !ok || len(v.List) != impl.RowsMost+1 {
		t.Error("one less, one more", ok, v)
	}

	var versions [][]impl.Write
	for range 6 {
		versions = append(versions, tenPuts("m"))
	}
	v, ok = impl.PastFold(versions)
	if !ok || len(v.List) != impl.VersMost {
		t.Error(ok, v)
	}
	expectNoFold(t, "a version too many", append(versions, writes(put("ma", 1))))
	expectNoFold(t, "a version of another key too many", append(versions, tenGone("m"), writes(put("a", 1))))
	expectFold(t, "as many versions", append(versions, nil), impl.Vers{Now: 7, List: v.List})
}

// An element is committed as a commit does it, with the same result where that may be done at all.
func TestPastFoldCommits(t *testing.T) {
	random := rand.New(rand.NewSource(81))
	counts := map[bool]int{}
	for range 3000 {
		var list [][]impl.Write
		v, want := impl.Vers{}, true
		for range random.Intn(12) {
			element := randomWrites(random)
			list = append(list, element)
			if want {
				v, want = commitMany(v, element)
			}
		}
		counts[want]++
		if want {
			expectFold(t, fmt.Sprint(list), list, v)
		} else {
			expectNoFold(t, fmt.Sprint(list), list)
		}
	}
	if counts[true] < 500 || counts[false] < 500 {
		t.Error(counts)
	}
}

// commitMany is the chapter's commit, version after version.
func commitMany(v impl.Vers, list []impl.Write) (impl.Vers, bool) {
	result := impl.Vers{Now: v.Now + 1, List: slices.Clone(v.List)}
	for i, x := range list {
		if len(list) > 20 || !impl.WritesOk(writes(x)) || i > 0 && list[i-1].Key >= x.Key {
			return impl.Vers{}, false
		}
		place := 0
		for j, version := range result.List {
			if version.Key == x.Key && version.To == 0 {
				result.List[j].To = result.Now
			}
			if version.Key <= x.Key {
				place = j + 1
			}
		}
		if !x.Gone {
			result.List = slices.Insert(result.List, place, ver(x.Key, x.Num, result.Now, 0))
		}
	}
	return result, plainVersOk(result)
}

func expectLast(t *testing.T, list [][]impl.Write, key string, time int, want impl.Write) {
	t.Helper()
	got, ok := impl.PastLast(list, key, time)
	if !ok || got != want {
		t.Errorf("PastLast(%v, %q, %d): %v %t, want %v", list, key, time, got, ok, want)
	}
}

func expectNoLast(t *testing.T, list [][]impl.Write, key string, time int) {
	t.Helper()
	got, ok := impl.PastLast(list, key, time)
	if ok || got != (impl.Write{}) {
		t.Errorf("PastLast(%v, %q, %d): %v %t", list, key, time, got, ok)
	}
}

func TestPastLast(t *testing.T) {
	list := past(writes(put("a", 1), put("b", 2)), nil, writes(gone("a"), put("c", 3)), writes(put("b", 4)), writes(put("a", 5), gone("b")))
	wants := map[string][]impl.Write{
		// The key a at the times 1 to 5, and at one behind the last.
		"a": {put("a", 1), put("a", 1), gone("a"), gone("a"), put("a", 5), put("a", 5)},
		"b": {put("b", 2), put("b", 2), put("b", 2), put("b", 4), gone("b"), gone("b")},
	}
	for key, lasts := range wants {
		for i, want := range lasts {
			expectLast(t, list, key, i+1, want)
		}
		expectLast(t, list, key, 41, lasts[5])
		expectLast(t, list, key, math.MaxInt, lasts[5])
		for _, time := range []int{0, -1, -5, math.MinInt} {
			expectNoLast(t, list, key, time)
		}
	}
	expectNoLast(t, list, "c", 2)
	expectLast(t, list, "c", 3, put("c", 3))
	for _, key := range []string{"d", "ab", "aa", "", "A", "a ", "\xff"} {
		for time := -1; time < 8; time++ {
			expectNoLast(t, list, key, time)
		}
	}
	for _, time := range []int{math.MinInt, 0, 1, math.MaxInt} {
		expectNoLast(t, nil, "a", time)
		expectNoLast(t, past(nil, nil), "a", time)
	}
}

// Within an element, the last write of the key counts, not the greatest one.
func TestPastLastOfKeyTwiceInAnElement(t *testing.T) {
	expectLast(t, past(writes(put("a", 9), put("a", 1))), "a", 1, put("a", 1))
	expectLast(t, past(writes(put("a", 1), gone("a"))), "a", 1, gone("a"))
	expectLast(t, past(writes(gone("a"), put("a", 1))), "a", 1, put("a", 1))
	expectLast(t, past(writes(put("a", 1), put("b", 2), put("a", 3), put("b", 4), put("c", 5))), "a", 1, put("a", 3))
	list := past(writes(put("a", 1), put("a", 2)), writes(put("b", 1)), writes(put("a", 3), gone("a"), put("b", 2)))
	expectLast(t, list, "a", 1, put("a", 2))
	expectLast(t, list, "a", 2, put("a", 2))
	expectLast(t, list, "a", 3, gone("a"))
}

// PastLast and PastSince take any list: neither valid writes nor as many times as a store has.
func TestPastOfAnyList(t *testing.T) {
	odd := writes(impl.Write{Key: "", Num: math.MinInt, Gone: true}, put("abc", 1000), impl.Write{Key: "A", Num: 7, Gone: true}, put("\xff", 1), put("a\x00", 2), impl.Write{})
	list := past(odd)
	expectLast(t, list, "abc", 1, put("abc", 1000))
	expectLast(t, list, "A", 1, impl.Write{Key: "A", Num: 7, Gone: true})
	expectLast(t, list, "\xff", 1, put("\xff", 1))
	expectLast(t, list, "", 1, impl.Write{}) // the zero value is a write of the empty key
	expectLast(t, past(odd[:1]), "", 1, odd[0])
	expectNoLast(t, list, "a", 1)
	expectKeys(t, "any keys", impl.PastSince(list, 0, 1), "", "A", "a\x00", "abc", "\xff")

	for name, bad := range invalidWrites() {
		var keys []string
		for _, x := range bad {
			keys = append(keys, x.Key)
		}
		slices.Sort(keys)
		expectKeys(t, name, impl.PastSince(past(bad), 0, 1), slices.Compact(keys)...)
		last := bad[len(bad)-1]
		expectLast(t, past(nil, bad), last.Key, 2, last)
	}

	long := make([][]impl.Write, 500)
	long[0], long[299], long[499] = writes(put("a", 1)), slices.Repeat(writes(put("b", 2), put("c", 3)), 50), writes(gone("a"))
	expectLast(t, long, "a", 499, put("a", 1))
	expectLast(t, long, "a", 500, gone("a"))
	expectNoLast(t, long, "b", 299)
	expectLast(t, long, "b", 300, put("b", 2))
	expectKeys(t, "long", impl.PastSince(long, 1, 500), "a", "b", "c")
	expectKeys(t, "part", impl.PastSince(long, 1, 499), "b", "c")
	expectKeys(t, "last", impl.PastSince(long, 300, 501), "a")
}

func TestPastSince(t *testing.T) {
	list := past(writes(put("b", 1), put("c", 2)), writes(put("a", 3)), nil, writes(gone("b"), put("c", 4)), writes(gone("z"), put("aa", 1)))
	cases := []struct {
		from, to int
		want     string
	}{
		{0, 5, "a aa b c z"},
		{0, 4, "a b c"},
		{0, 3, "a b c"},
		{0, 2, "a b c"},
		{0, 1, "b c"},
		{1, 2, "a"},
		{1, 3, "a"},
		{1, 4, "a b c"},
		{2, 3, ""},
		{2, 4, "b c"},
		{3, 4, "b c"},
		{3, 5, "aa b c z"},
		{4, 5, "aa z"},
		// from = to
		{0, 0, ""},
		{1, 1, ""},
		{4, 4, ""},
		{5, 5, ""},
		{9, 9, ""},
		{-3, -3, ""},
		{math.MaxInt, math.MaxInt, ""},
		{math.MinInt, math.MinInt, ""},
		// from > to
		{2, 1, ""},
		{5, 0, ""},
		{1, -1, ""},
		{0, -1, ""},
		{math.MaxInt, 2, ""},
		{math.MaxInt, math.MinInt, ""},
		{3, math.MinInt, ""},
		// from below 0, or to behind the last
		{-1, 1, "b c"},
		{-1, 0, ""},
		{-9, -1, ""},
		{-9, 2, "a b c"},
		{math.MinInt, 1, "b c"},
		{math.MinInt, 0, ""},
		{math.MinInt, math.MaxInt, "a aa b c z"},
		{4, 6, "aa z"},
		{4, 99, "aa z"},
		{4, math.MaxInt, "aa z"},
		{5, 6, ""},
		{5, math.MaxInt, ""},
		{6, 9, ""},
		{math.MaxInt - 1, math.MaxInt, ""},
	}
	for _, c := range cases {
		what := fmt.Sprintf("from %d to %d", c.from, c.to)
		expectKeys(t, what, impl.PastSince(list, c.from, c.to), strings.Fields(c.want)...)
		expectKeys(t, what+" of no list", impl.PastSince(nil, c.from, c.to))
		expectKeys(t, what+" of empty elements", impl.PastSince(make([][]impl.Write, 5), c.from, c.to))
	}
}

// A key that is written at several times, or more than once at one, is there once.
func TestPastSinceHasNoKeyTwice(t *testing.T) {
	list := past(writes(put("a", 1), put("b", 1)), writes(put("a", 1)), writes(gone("a"), gone("b")), writes(put("b", 1), put("b", 2), gone("b"), put("a", 3)))
	expectKeys(t, "all", impl.PastSince(list, 0, 4), "a", "b")
	expectKeys(t, "one element", impl.PastSince(list, 3, 4), "a", "b")
	expectKeys(t, "one key", impl.PastSince(list, 1, 2), "a")
	many := past(slices.Concat(tenPuts("z"), tenPuts("y"), tenGone("z"), tenPuts("a")))
	want := impl.PastSince(many, 0, 1)
	if len(want) != 30 || !slices.IsSorted(want) || len(slices.Compact(slices.Clone(want))) != 30 {
		t.Error(want)
	}
	for range 100 {
		expectKeys(t, "again", impl.PastSince(many, 0, 1), want...)
	}
}

// keptHistory is what a client notes of its commits: all writes, and those without deletions of keys that are not there.
type keptHistory struct {
	all    [][]impl.Write
	effect [][]impl.Write
	table  map[string]int
}

func (k *keptHistory) note(list []impl.Write) {
	var effect []impl.Write
	for _, x := range list {
		_, stood := k.table[x.Key]
		if x.Gone {
			delete(k.table, x.Key)
		} else {
			k.table[x.Key] = x.Num
		}
		if stood || !x.Gone {
			effect = append(effect, x)
		}
	}
	k.all = append(k.all, list)
	k.effect = append(k.effect, effect)
}

// Promise 8: a store from which nothing was trimmed is the replay of its
// history, which is what was committed; and what the history says fits the
// rows of each time.
func TestStoresAreTheReplayOfTheirHistory(t *testing.T) {
	random := rand.New(rand.NewSource(8))
	for range 60 {
		v := impl.Vers{}
		kept := keptHistory{table: map[string]int{}}
		for range random.Intn(60) {
			list := randomWrites(random)
			if random.Intn(8) == 0 {
				list = nil
			}
			next, ok := impl.VersDo(v, list)
			if ok {
				kept.note(list)
			}
			v = next
		}
		expectPast(t, "store", v, kept.effect)
		expectFold(t, "all writes", kept.all, v)
		checkPast(t, v, kept.effect)
		for time := range v.Now + 1 {
			trimmed := impl.VersTrim(v, time)
			expectPast(t, "trimmed", trimmed, plainPast(trimmed))
		}
	}
}

// plainPast derives the history as the chapter says, key by key and version by version.
func plainPast(v impl.Vers) [][]impl.Write {
	all := make([][]impl.Write, v.Now)
	for time := 1; time <= v.Now; time++ {
		found := map[string]impl.Write{}
		for _, version := range v.List {
			if version.To == time {
				found[version.Key] = gone(version.Key)
			}
		}
		for _, version := range v.List {
			if version.From == time {
				found[version.Key] = put(version.Key, version.Num)
			}
		}
		for _, key := range slices.Sorted(maps.Keys(found)) {
			all[time-1] = append(all[time-1], found[key])
		}
	}
	return all
}

// checkPast holds PastLast and PastSince of a history against the tables of its store.
func checkPast(t *testing.T, v impl.Vers, all [][]impl.Write) {
	t.Helper()
	keys := impl.PastSince(all, 0, v.Now)
	for time := range v.Now + 1 {
		table := map[string]int{}
		for _, key := range keys {
			if x, ok := impl.PastLast(all, key, time); ok && !x.Gone {
				table[key] = x.Num
			}
		}
		expectRows(t, fmt.Sprint("at ", time), tableOf(table), impl.VersAt(v, time))
		part, ok := impl.PastFold(all[:time])
		if !ok {
			t.Fatal("part", time)
		}
		expectRows(t, fmt.Sprint("replay up to ", time), impl.VersAt(part, time), impl.VersAt(v, time))
		for from := range time {
			since := impl.PastSince(all, from, time)
			for _, key := range impl.RowsDiff(impl.VersAt(v, from), impl.VersAt(v, time)) {
				if !slices.Contains(since, key) {
					t.Fatalf("%q is different at %d and %d, but was not written: %v", key, from, time, since)
				}
			}
		}
	}
	for _, key := range keys {
		last := impl.VersLast(v, key)
		if slices.Contains(impl.PastSince(all, last, v.Now), key) || !slices.Contains(impl.PastSince(all, last-1, last), key) {
			t.Fatalf("%q was written at %d last: %v", key, last, all)
		}
	}
}

// PastLast and PastSince of any lists are held against plain loops.
func TestPastOfRandomLists(t *testing.T) {
	random := rand.New(rand.NewSource(82))
	keys := []string{"", "a", "aa", "b", "B", "\xff"}
	for range 3000 {
		list := make([][]impl.Write, random.Intn(6))
		for i := range list {
			for range random.Intn(5) {
				list[i] = append(list[i], impl.Write{Key: keys[random.Intn(len(keys))], Num: random.Intn(5) - 2, Gone: random.Intn(2) == 0})
			}
		}
		from, to := random.Intn(10)-2, random.Intn(10)-2
		last, since := map[string]impl.Write{}, map[string]int{}
		for i, element := range list {
			for _, x := range element {
				if i+1 <= to {
					last[x.Key] = x
				}
				if i+1 > from && i+1 <= to {
					since[x.Key]++
				}
			}
		}
		for _, key := range keys {
			if want, ok := last[key]; ok {
				expectLast(t, list, key, to, want)
			} else {
				expectNoLast(t, list, key, to)
			}
		}
		expectKeys(t, fmt.Sprint(list, from, to), impl.PastSince(list, from, to), slices.Sorted(maps.Keys(since))...)
	}
}

// Results share no memory with an argument or with each other, not even what lies beyond a length.
func TestPastSharesNoMemory(t *testing.T) {
	memory := []impl.Ver{ver("a", 1, 1, 2), ver("a", 2, 2, 0), ver("b", 7, 1, 3), ver("c", 7, 2, 0), ver("d", 1, 1, 0)}
	before := slices.Clone(memory)
	v := store(4, memory[:4]...)
	all := impl.PastAll(v)
	want := plainPast(v)
	for i := range all {
		spoilWrites(impl.PastAt(v, i+1))
		for j := range all {
			if j != i {
				expectWrites(t, fmt.Sprint("at ", j+1), all[j], want[j])
			}
		}
		kept := slices.Clone(all[i])
		spoilWrites(all[i])
		for j := range all {
			if j != i {
				expectWrites(t, fmt.Sprint(i+1, " is spoiled, at ", j+1), all[j], want[j])
			}
		}
		all[i] = kept
	}
	for i := range all[:cap(all)] {
		spoilWrites(all[:cap(all)][i])
	}
	expectPast(t, "again", v, want)
	expectVers(t, "argument", impl.Vers{List: memory}, impl.Vers{List: before})
}

func spoilWrites(list []impl.Write) {
	all := list[:cap(list)]
	for i := range all {
		all[i] = put("spoiled", -1)
	}
}

// The functions change neither a history nor the memory behind it.
func TestPastChangesNothing(t *testing.T) {
	memory := writes(put("a", 1), put("b", 2), gone("c"), put("d", 4))
	list := past(memory[:2], memory[:3], nil, memory[1:3], memory[3:])
	kept := slices.Clone(list)
	before := slices.Clone(memory)
	v, ok := impl.PastFold(list[:4])
	if !ok || len(v.List) != 5 {
		t.Error(v, ok)
	}
	spoil(v, impl.Seat{}, nil)
	impl.PastFold(past(memory[2:], memory[:1]))
	keys := impl.PastSince(list[:4], 0, 4)
	for i := range keys[:cap(keys)] {
		keys[:cap(keys)][i] = "spoiled"
	}
	impl.PastLast(list[:4], "b", 4)
	expectWrites(t, "memory", memory, before)
	if !slices.EqualFunc(list, kept, slices.Equal[[]impl.Write]) {
		t.Error(list)
	}
	expectKeys(t, "again", impl.PastSince(list, 0, 5), "a", "b", "c", "d")
	again, ok := impl.PastFold(list[:4])
	if !ok || !impl.VersOk(again) || len(again.List) != 5 {
		t.Error(again, ok)
	}
}
