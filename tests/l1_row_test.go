package tests

import (
	"fmt"
	"math"
	"math/rand"
	"slices"
	"sort"
	"testing"

	"loop.example/engrosser/impl"
)

// rows makes a table of keys that are numbered 1, 2, 3 and so on.
func rows(keys ...string) []impl.Row {
	var list []impl.Row
	for i, key := range keys {
		list = append(list, impl.Row{Key: key, Num: i + 1})
	}
	return list
}

func fullTable() []impl.Row {
	return rows("a", "b", "c", "d", "e", "f", "g", "h", "i", "j")
}

// invalidTables has one table for each way in which a table is not valid.
func invalidTables() map[string][]impl.Row {
	return map[string][]impl.Row{
		"one row too many":   append(fullTable(), impl.Row{Key: "k"}),
		"empty key":          {{Key: ""}, {Key: "b", Num: 1}},
		"key of three":       {{Key: "b", Num: 1}, {Key: "bbb"}},
		"capital key":        {{Key: "A"}, {Key: "b", Num: 1}},
		"key with a space":   {{Key: "a "}, {Key: "b", Num: 1}},
		"key with a digit":   {{Key: "a1"}, {Key: "b", Num: 1}},
		"key of other bytes": {{Key: "b", Num: 1}, {Key: "é"}},
		"number above":       {{Key: "a", Num: impl.NumMost + 1}, {Key: "b", Num: 1}},
		"number below":       {{Key: "a", Num: -impl.NumMost - 1}, {Key: "b", Num: 1}},
		"greatest number":    {{Key: "a", Num: math.MaxInt}, {Key: "b", Num: 1}},
		"least number":       {{Key: "a", Num: math.MinInt}, {Key: "b", Num: 1}},
		"descending":         {{Key: "c"}, {Key: "b", Num: 1}},
		"same key twice":     {{Key: "b", Num: 1}, {Key: "b", Num: 1}},
		"two before one":     {{Key: "aa"}, {Key: "a"}, {Key: "b", Num: 1}},
		"last out of order":  {{Key: "a"}, {Key: "b", Num: 1}, {Key: "az"}},
	}
}

func expectRows(t *testing.T, what string, got []impl.Row, want []impl.Row) {
	t.Helper()
	if !slices.Equal(got, want) {
		t.Errorf("%s: got %#v, want %#v", what, got, want)
	}
}

func expectKeys(t *testing.T, what string, got []string, want ...string) {
	t.Helper()
	if !slices.Equal(got, want) {
		t.Errorf("%s: got %q, want %q", what, got, want)
	}
}

func TestRowLimits(t *testing.T) {
	if impl.NumMost != 999 || impl.RowsMost != 10 {
		t.Error(impl.NumMost, impl.RowsMost)
	}
}

func TestKeyOkOfAllShortTexts(t *testing.T) {
	letter := func(b int) bool { return 'a' <= b && b <= 'z' }
	if impl.KeyOk("") {
		t.Error("the empty text is a key")
	}
	for a := range 256 {
		one := string([]byte{byte(a)})
		if impl.KeyOk(one) != letter(a) {
			t.Errorf("KeyOk(%q)", one)
		}
		for b := range 256 {
			two := string([]byte{byte(a), byte(b)})
			if impl.KeyOk(two) != (letter(a) && letter(b)) {
				t.Errorf("KeyOk(%q)", two)
			}
			if impl.KeyOk(two+"a") || impl.KeyOk("a"+two) {
				t.Errorf("KeyOk accepts three bytes of %q and a", two)
			}
		}
	}
}

func TestRowsOk(t *testing.T) {
	valid := map[string][]impl.Row{
		"nil":                 nil,
		"empty":               {},
		"one":                 rows("z"),
		"two between ones":    rows("a", "aa", "az", "b", "ba", "zz"),
		"full":                fullTable(),
		"limits of a number":  {{Key: "a", Num: impl.NumMost}, {Key: "b", Num: -impl.NumMost}},
		"zero is a number":    {{Key: "a", Num: 0}},
		"same number, 2 keys": {{Key: "a", Num: 7}, {Key: "b", Num: 7}},
	}
	for name, list := range valid {
		if !impl.RowsOk(list) {
			t.Errorf("%s: not valid: %v", name, list)
		}
	}
	for name, list := range invalidTables() {
		if impl.RowsOk(list) {
			t.Errorf("%s: valid: %v", name, list)
		}
	}
}

func TestInvalidTablesHaveEmptyResults(t *testing.T) {
	for name, list := range invalidTables() {
		if num, ok := impl.RowsGet(list, "b"); num != 0 || ok {
			t.Errorf("%s: RowsGet: %d %t", name, num, ok)
		}
		if got, ok := impl.RowsPut(list, "b", 1); len(got) != 0 || ok {
			t.Errorf("%s: RowsPut: %v %t", name, got, ok)
		}
		if got, ok := impl.RowsPut(list, "B", 1000); len(got) != 0 || ok {
			t.Errorf("%s: RowsPut of an invalid row: %v %t", name, got, ok)
		}
		if got, ok := impl.RowsCut(list, "b"); len(got) != 0 || ok {
			t.Errorf("%s: RowsCut: %v %t", name, got, ok)
		}
		if got := impl.RowsIn(list, "", "zz"); len(got) != 0 {
			t.Errorf("%s: RowsIn: %v", name, got)
		}
		if got := impl.RowsSum(list); got != 0 {
			t.Errorf("%s: RowsSum: %d", name, got)
		}
		for _, other := range [][]impl.Row{nil, rows("q"), list} {
			expectKeys(t, name+": RowsDiff, first", impl.RowsDiff(list, other))
			expectKeys(t, name+": RowsDiff, second", impl.RowsDiff(other, list))
		}
	}
}

// A cut must not make a table valid that was not, by taking away what is wrong with it.
func TestRowsCutOfTheInvalidRow(t *testing.T) {
	list := append(fullTable(), impl.Row{Key: "k", Num: 5})
	if got, ok := impl.RowsCut(list, "k"); len(got) != 0 || ok {
		t.Error(got, ok)
	}
	if got, ok := impl.RowsCut([]impl.Row{{Key: "a", Num: 1}, {Key: "b", Num: 1000}}, "b"); len(got) != 0 || ok {
		t.Error(got, ok)
	}
	// A put must not either, by replacing the number that is beyond the limit.
	if got, ok := impl.RowsPut([]impl.Row{{Key: "a", Num: 1}, {Key: "b", Num: 1000}}, "b", 1); len(got) != 0 || ok {
		t.Error(got, ok)
	}
}

func TestRowsGet(t *testing.T) {
	list := []impl.Row{{Key: "a", Num: -999}, {Key: "ab", Num: 0}, {Key: "b", Num: 999}}
	for _, row := range list {
		if num, ok := impl.RowsGet(list, row.Key); num != row.Num || !ok {
			t.Errorf("%s: %d %t", row.Key, num, ok)
		}
	}
	for _, key := range []string{"", "aa", "ac", "ba", "z", "abc", "A", "a\x00", "\xff"} {
		if num, ok := impl.RowsGet(list, key); num != 0 || ok {
			t.Errorf("%q: %d %t", key, num, ok)
		}
	}
	if num, ok := impl.RowsGet(nil, "a"); num != 0 || ok {
		t.Error(num, ok)
	}
	for i, row := range fullTable() {
		if num, ok := impl.RowsGet(fullTable(), row.Key); num != i+1 || !ok {
			t.Errorf("%s: %d %t", row.Key, num, ok)
		}
	}
}

func TestRowsPut(t *testing.T) {
	ab := []impl.Row{{Key: "a", Num: 1}, {Key: "b", Num: 2}}
	cases := []struct {
		name string
		list []impl.Row
		key  string
		num  int
		want []impl.Row
	}{
		{"into none", nil, "m", 4, []impl.Row{{Key: "m", Num: 4}}},
		{"two letters between one and one", ab, "aa", 9, []impl.Row{{Key: "a", Num: 1}, {Key: "aa", Num: 9}, {Key: "b", Num: 2}}},
		{"last of two letters", ab, "az", 9, []impl.Row{{Key: "a", Num: 1}, {Key: "az", Num: 9}, {Key: "b", Num: 2}}},
		{"at the front", rows("b"), "ab", 3, []impl.Row{{Key: "ab", Num: 3}, {Key: "b", Num: 1}}},
		{"one letter before two", rows("aa"), "a", 3, []impl.Row{{Key: "a", Num: 3}, {Key: "aa", Num: 1}}},
		{"at the end", ab, "ba", 3, []impl.Row{{Key: "a", Num: 1}, {Key: "b", Num: 2}, {Key: "ba", Num: 3}}},
		{"replacing the first", ab, "a", -5, []impl.Row{{Key: "a", Num: -5}, {Key: "b", Num: 2}}},
		{"replacing the last", ab, "b", 0, []impl.Row{{Key: "a", Num: 1}, {Key: "b", Num: 0}}},
		{"replacing with the same", ab, "b", 2, ab},
		{"greatest number", ab, "a", 999, []impl.Row{{Key: "a", Num: 999}, {Key: "b", Num: 2}}},
		{"least number", ab, "a", -999, []impl.Row{{Key: "a", Num: -999}, {Key: "b", Num: 2}}},
	}
	for _, c := range cases {
		got, ok := impl.RowsPut(c.list, c.key, c.num)
		if !ok {
			t.Errorf("%s: refused", c.name)
		}
		expectRows(t, c.name, got, c.want)
	}
}

func TestRowsPutRefused(t *testing.T) {
	list := rows("a", "c")
	for _, key := range []string{"", "abc", "A", "aB", "1", "a ", " a", "é", "\x00", "\xff"} {
		got, ok := impl.RowsPut(list, key, 1)
		if ok {
			t.Errorf("key %q is put", key)
		}
		expectRows(t, fmt.Sprintf("key %q", key), got, list)
	}
	for _, num := range []int{1000, -1000, math.MaxInt, math.MinInt} {
		for _, key := range []string{"a", "b", "d"} {
			got, ok := impl.RowsPut(list, key, num)
			if ok {
				t.Errorf("%s=%d is put", key, num)
			}
			expectRows(t, fmt.Sprintf("%s=%d", key, num), got, list)
		}
	}
	if got, ok := impl.RowsPut(nil, "A", 1); ok || len(got) != 0 {
		t.Error(got, ok)
	}
}

func TestRowsPutOneTooMany(t *testing.T) {
	full := fullTable()
	for _, key := range []string{"aa", "ej", "jz", "k", "zz"} {
		got, ok := impl.RowsPut(full, key, 1)
		if ok {
			t.Errorf("%s is put into a full table", key)
		}
		expectRows(t, "full, "+key, got, full)
	}
	for i, row := range full {
		got, ok := impl.RowsPut(full, row.Key, 500)
		want := slices.Clone(full)
		want[i].Num = 500
		if !ok {
			t.Errorf("%s is not replaced in a full table", row.Key)
		}
		expectRows(t, "full, "+row.Key, got, want)
	}
	got, ok := impl.RowsPut(full[:9], "zz", 10)
	if !ok {
		t.Error("the tenth row is refused")
	}
	expectRows(t, "tenth", got, append(slices.Clone(full[:9]), impl.Row{Key: "zz", Num: 10}))
}

func TestRowsCut(t *testing.T) {
	list := rows("a", "aa", "b")
	for i, row := range list {
		got, ok := impl.RowsCut(list, row.Key)
		if !ok {
			t.Errorf("%s is not cut", row.Key)
		}
		expectRows(t, "cut "+row.Key, got, slices.Concat(list[:i], list[i+1:]))
	}
	for _, key := range []string{"", "ab", "c", "abc", "B", "\xff"} {
		got, ok := impl.RowsCut(list, key)
		if ok {
			t.Errorf("%q is cut", key)
		}
		expectRows(t, fmt.Sprintf("cut %q", key), got, list)
	}
	if got, ok := impl.RowsCut(nil, "a"); ok || len(got) != 0 {
		t.Error(got, ok)
	}
	if got, ok := impl.RowsCut(rows("a"), "a"); !ok || len(got) != 0 {
		t.Error(got, ok)
	}
}

func TestRowsIn(t *testing.T) {
	list := []impl.Row{{Key: "a", Num: 1}, {Key: "b", Num: 2}, {Key: "c", Num: 3}}
	cases := []struct {
		lo, hi string
		want   []impl.Row
	}{
		{"aa", "c", list[1:]}, // the document's example
		{"a", "c", list},
		{"b", "b", list[1:2]},
		{"a", "b", list[:2]},
		{"ab", "bz", list[1:2]},
		{"c", "a", nil},
		{"ba", "bz", nil},
		{"d", "z", nil},
		// Ends that are no keys.
		{"", "", nil},
		{"", "b", list[:2]},
		{"", "zzz", list},
		{"a", "", nil},
		{"A", "Z", nil},
		{"A", "a", list[:1]},
		{"aaa", "bbb", list[1:2]},
		{"a\x00", "c\x00", list[1:]},
		{"`", "{", list},
		{"\x00", "\xff", list},
		{"\xff", "\xff", nil},
		{"b ", "é", list[2:]},
	}
	for _, c := range cases {
		expectRows(t, fmt.Sprintf("%q to %q", c.lo, c.hi), impl.RowsIn(list, c.lo, c.hi), c.want)
	}
	expectRows(t, "two letters", impl.RowsIn(rows("a", "ab", "b"), "a", "az"), rows("a", "ab"))
	expectRows(t, "none", impl.RowsIn(nil, "", "zz"), nil)
	expectRows(t, "full", impl.RowsIn(fullTable(), "a", "j"), fullTable())
}

func TestRowsSum(t *testing.T) {
	var most []impl.Row
	for _, row := range fullTable() {
		most = append(most, impl.Row{Key: row.Key, Num: impl.NumMost})
	}
	sums := []struct {
		list []impl.Row
		want int
	}{
		{nil, 0},
		{rows("a"), 1},
		{[]impl.Row{{Key: "a", Num: 5}, {Key: "b", Num: -8}}, -3},
		{fullTable(), 55},
		{most, 9990},
	}
	for _, c := range sums {
		if got := impl.RowsSum(c.list); got != c.want {
			t.Errorf("%v: got %d, want %d", c.list, got, c.want)
		}
	}
}

func TestRowsDiff(t *testing.T) {
	ab := []impl.Row{{Key: "a", Num: 1}, {Key: "b", Num: 2}}
	expectKeys(t, "same", impl.RowsDiff(ab, slices.Clone(ab)))
	expectKeys(t, "both empty", impl.RowsDiff(nil, nil))
	expectKeys(t, "second empty", impl.RowsDiff(ab, nil), "a", "b")
	expectKeys(t, "first empty", impl.RowsDiff(nil, ab), "a", "b")
	expectKeys(t, "other number", impl.RowsDiff(ab, []impl.Row{{Key: "a", Num: 1}, {Key: "b", Num: 3}}), "b")
	expectKeys(t, "in turn", impl.RowsDiff(rows("a", "b", "c"), rows("aa", "bb", "cc")), "a", "aa", "b", "bb", "c", "cc")
	expectKeys(t, "a zero is a row", impl.RowsDiff([]impl.Row{{Key: "a"}}, nil), "a")
	expectKeys(t, "first ends early", impl.RowsDiff(ab[:1], []impl.Row{{Key: "a", Num: 1}, {Key: "aa"}, {Key: "z"}}), "aa", "z")
	other := rows("k", "l", "m", "n", "o", "p", "q", "r", "s", "t")
	if got := impl.RowsDiff(other, fullTable()); len(got) != 20 || !slices.IsSorted(got) {
		t.Error(got)
	}
}

// A stored number is found under its key, and no other row changes: the table is
// held against a map through many puts and cuts.
func TestRowsKeepWhatWasStored(t *testing.T) {
	random := rand.New(rand.NewSource(1))
	keys := []string{"a", "aa", "ab", "az", "b", "ba", "c", "m", "y", "z", "za", "zz", "", "A", "abc"}
	var table []impl.Row
	model := map[string]int{}
	for range 20000 {
		key := keys[random.Intn(len(keys))]
		before := slices.Clone(table)
		var ok, want bool
		if random.Intn(3) > 0 {
			num := random.Intn(2020) - 1010
			_, there := model[key]
			want = impl.KeyOk(key) && num >= -999 && num <= 999 && (there || len(model) < 10)
			table, ok = impl.RowsPut(table, key, num)
			if want {
				model[key] = num
			}
		} else {
			_, want = model[key]
			table, ok = impl.RowsCut(table, key)
			delete(model, key)
		}
		if ok != want {
			t.Fatalf("%q: got %t, want %t in %v", key, ok, want, before)
		}
		checkAgainst(t, table, model, keys)
		checkDiff(t, before, table, key, ok)
	}
}

func checkAgainst(t *testing.T, table []impl.Row, model map[string]int, keys []string) {
	t.Helper()
	var want []impl.Row
	sum := 0
	for key, num := range model {
		want = append(want, impl.Row{Key: key, Num: num})
		sum += num
	}
	sort.Slice(want, func(i, j int) bool { return want[i].Key < want[j].Key })
	if !slices.Equal(table, want) || impl.RowsSum(table) != sum {
		t.Fatalf("got %v, want %v", table, want)
	}
	for _, key := range keys {
		num, ok := impl.RowsGet(table, key)
		wantNum, wantOk := model[key]
		if num != wantNum || ok != wantOk {
			t.Fatalf("RowsGet(%v, %q): %d %t", table, key, num, ok)
		}
	}
	for _, lo := range keys {
		for _, hi := range keys {
			var in []impl.Row
			for _, row := range want {
				if lo <= row.Key && row.Key <= hi {
					in = append(in, row)
				}
			}
			if got := impl.RowsIn(table, lo, hi); !slices.Equal(got, in) {
				t.Fatalf("RowsIn(%v, %q, %q): %v", table, lo, hi, got)
			}
		}
	}
}

// checkDiff expects that at most the row of key is another one now.
func checkDiff(t *testing.T, before []impl.Row, after []impl.Row, key string, ok bool) {
	t.Helper()
	got := impl.RowsDiff(before, after)
	oldNum, wasThere := impl.RowsGet(before, key)
	newNum, isThere := impl.RowsGet(after, key)
	var want []string
	if ok && (wasThere != isThere || oldNum != newNum) {
		want = []string{key}
	}
	if !slices.Equal(got, want) {
		t.Fatalf("RowsDiff(%v, %v): %q, want %q", before, after, got, want)
	}
}

// Results share no memory with an argument, not even what lies beyond a length.
func TestRowsShareNoMemory(t *testing.T) {
	calls := map[string]func(list []impl.Row) []impl.Row{
		"put a new row":    func(l []impl.Row) []impl.Row { r, _ := impl.RowsPut(l, "z", 1); return r },
		"put at the front": func(l []impl.Row) []impl.Row { r, _ := impl.RowsPut(l, "a", 1); return r },
		"replace":          func(l []impl.Row) []impl.Row { r, _ := impl.RowsPut(l, "c", 7); return r },
		"put no key":       func(l []impl.Row) []impl.Row { r, _ := impl.RowsPut(l, "C", 7); return r },
		"put no number":    func(l []impl.Row) []impl.Row { r, _ := impl.RowsPut(l, "c", 1000); return r },
		"cut":              func(l []impl.Row) []impl.Row { r, _ := impl.RowsCut(l, "c"); return r },
		"cut the last":     func(l []impl.Row) []impl.Row { r, _ := impl.RowsCut(l, "d"); return r },
		"cut none":         func(l []impl.Row) []impl.Row { r, _ := impl.RowsCut(l, "x"); return r },
		"all":              func(l []impl.Row) []impl.Row { return impl.RowsIn(l, "", "zz") },
		"some":             func(l []impl.Row) []impl.Row { return impl.RowsIn(l, "b", "c") },
		"none":             func(l []impl.Row) []impl.Row { return impl.RowsIn(l, "x", "z") },
	}
	for name, call := range calls {
		for _, length := range []int{0, 1, 3} {
			memory := rows("b", "c", "d", "e", "f", "g")
			before := slices.Clone(memory)
			result := call(memory[:length])
			expectRows(t, name+", argument", memory, before)
			all := result[:cap(result)]
			for i := range all {
				all[i] = impl.Row{Key: "changed", Num: -1}
			}
			expectRows(t, name+", argument after a change of the result", memory, before)
		}
	}
}

func TestReadingRowsChangesNothing(t *testing.T) {
	memory := rows("b", "c", "d", "e")
	before := slices.Clone(memory)
	list := memory[:2]
	impl.RowsOk(list)
	impl.RowsGet(list, "c")
	impl.RowsSum(list)
	impl.RowsDiff(list, memory)
	impl.RowsDiff(memory, list)
	expectRows(t, "argument", memory, before)
}
