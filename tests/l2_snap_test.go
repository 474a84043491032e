package tests

import (
	"fmt"
	"maps"
	"math"
	"math/rand"
	"slices"
	"testing"

	"loop.example/engrosser/impl"
)

func ver(key string, num int, from int, to int) impl.Ver {
	return impl.Ver{Key: key, Num: num, From: from, To: to}
}

func store(now int, list ...impl.Ver) impl.Vers {
	return impl.Vers{Now: now, List: list}
}

func put(key string, num int) impl.Write { return impl.Write{Key: key, Num: num} }

func gone(key string) impl.Write { return impl.Write{Key: key, Gone: true} }

func writes(list ...impl.Write) []impl.Write { return list }

// manyVers makes versions of one key, each of them one commit long, from the time 1 on.
func manyVers(key string, count int) []impl.Ver {
	var list []impl.Ver
	for i := range count {
		list = append(list, ver(key, i, i+1, i+2))
	}
	return list
}

// fullRows makes a store in which as many rows as there may be are visible from the time 1 on.
func fullRows(now int) impl.Vers {
	v := impl.Vers{Now: now}
	for _, row := range fullTable() {
		v.List = append(v.List, ver(row.Key, row.Num, 1, 0))
	}
	return v
}

// gapStore is a store whose key a is written, deleted and written again.
func gapStore() impl.Vers {
	return store(6, ver("a", 1, 1, 3), ver("a", 2, 5, 0), ver("b", 7, 2, 6))
}

// validStores has stores that are just still valid.
func validStores() map[string]impl.Vers {
	return map[string]impl.Vers{
		"zero value":            {},
		"empty list":            {List: []impl.Ver{}},
		"only commits":          store(40),
		"a key put again":       gapStore(),
		"one ends, one begins":  store(2, ver("a", 1, 1, 2), ver("a", 2, 2, 0)),
		"last one ended":        store(3, ver("a", 1, 1, 2), ver("a", 2, 2, 3)),
		"from 1 and from Now":   store(4, ver("a", 1, 1, 0), ver("b", 1, 4, 0)),
		"to just after from":    store(4, ver("a", 1, 3, 4)),
		"limits of a number":    store(1, ver("a", 999, 1, 0), ver("b", -999, 1, 0)),
		"two letters":           store(1, ver("a", 0, 1, 0), ver("aa", 0, 1, 0), ver("b", 0, 1, 0)),
		"times of other keys":   store(5, ver("a", 0, 5, 0), ver("b", 0, 1, 0)),
		"as many versions":      store(40, append(manyVers("a", 30), manyVers("b", 30)...)...),
		"as many rows":          fullRows(1),
		"11 keys, 10 at a time": store(2, append([]impl.Ver{ver("a", 0, 1, 2), ver("aa", 0, 2, 0)}, fullRows(2).List[1:]...)...),
	}
}

// invalidStores has one store for each way in which a store is not valid.
func invalidStores() map[string]impl.Vers {
	eleven := append(fullRows(3).List, ver("k", 0, 2, 3))
	return map[string]impl.Vers{
		"time below 0":           {Now: -1},
		"least time":             {Now: math.MinInt},
		"one commit too many":    {Now: 41},
		"greatest time":          {Now: math.MaxInt, List: []impl.Ver{ver("b", 1, 1, 0)}},
		"one version too many":   store(40, append(manyVers("a", 30), manyVers("b", 31)...)...),
		"empty key":              store(2, ver("", 0, 1, 0), ver("b", 1, 1, 0)),
		"capital key":            store(2, ver("B", 0, 1, 0), ver("b", 1, 1, 0)),
		"key of three":           store(2, ver("b", 1, 1, 0), ver("bbb", 0, 1, 0)),
		"key of other bytes":     store(2, ver("b", 1, 1, 0), ver("\xff", 0, 1, 0)),
		"number above":           store(2, ver("b", 1000, 1, 0)),
		"number below":           store(2, ver("b", -1000, 1, 0)),
		"number of an ended one": store(2, ver("b", math.MinInt, 1, 2)),
		"from 0":                 store(2, ver("b", 1, 0, 0)),
		"from below 0":           store(2, ver("b", 1, -1, 2)),
		"from after Now":         store(2, ver("b", 1, 3, 0)),
		"from at the time 0":     store(0, ver("b", 1, 1, 0)),
		"to after Now":           store(2, ver("b", 1, 1, 3)),
		"to below 0":             store(2, ver("b", 1, 1, -1)),
		"to equal to from":       store(2, ver("b", 1, 1, 1)),
		"to below from":          store(3, ver("b", 1, 2, 1)),
		"keys descending":        store(2, ver("b", 1, 1, 0), ver("a", 1, 1, 0)),
		"two letters first":      store(2, ver("ba", 1, 1, 0), ver("b", 1, 1, 0)),
		"key not adjacent":       store(4, ver("b", 1, 1, 2), ver("c", 1, 1, 2), ver("b", 1, 3, 0)),
		"two stand":              store(2, ver("b", 1, 1, 0), ver("b", 1, 2, 0)),
		"first one stands":       store(4, ver("b", 1, 1, 0), ver("b", 1, 2, 3)),
		"they overlap":           store(4, ver("b", 1, 1, 3), ver("b", 1, 2, 0)),
		"newer one first":        store(4, ver("b", 1, 3, 4), ver("b", 1, 1, 2)),
		"same version twice":     store(4, ver("b", 1, 1, 2), ver("b", 1, 1, 2)),
		"one row too many":       store(3, append(fullRows(3).List, ver("k", 0, 1, 0))...),
		"too many rows at Now":   store(3, append(fullRows(3).List, ver("k", 0, 3, 0))...),
		"too many rows before":   store(3, eleven...),
	}
}

// invalidWrites has one list for each way in which a list of writes is not valid.
func invalidWrites() map[string][]impl.Write {
	return map[string][]impl.Write{
		"one too many":         writes(put("a", 1), put("b", 1), put("c", 1), put("d", 1), put("e", 1), put("f", 1), put("g", 1)),
		"empty key":            writes(put("", 1)),
		"key of three":         writes(put("a", 1), put("abc", 1)),
		"capital key":          writes(put("A", 1)),
		"deletion of no key":   writes(gone("a1")),
		"deletion of nothing":  writes(gone("")),
		"number above":         writes(put("a", 1000)),
		"number below":         writes(put("a", -1000)),
		"least number":         writes(put("a", 1), put("b", math.MinInt)),
		"deletion with number": writes(impl.Write{Key: "a", Num: 1, Gone: true}),
		"deletion, below 0":    writes(impl.Write{Key: "a", Num: -999, Gone: true}),
		"descending":           writes(put("b", 1), put("a", 1)),
		"two letters first":    writes(put("aa", 1), put("a", 1)),
		"same key twice":       writes(put("a", 1), put("a", 1)),
		"put and deletion":     writes(put("a", 1), gone("a")),
		"last out of order":    writes(put("a", 1), put("c", 1), gone("b")),
	}
}

func expectVers(t *testing.T, what string, got impl.Vers, want impl.Vers) {
	t.Helper()
	if got.Now != want.Now || !slices.Equal(got.List, want.List) {
		t.Errorf("%s:\ngot  %v\nwant %v", what, got, want)
	}
}

// mustDo commits each list in turn.
func mustDo(t *testing.T, v impl.Vers, lists ...[]impl.Write) impl.Vers {
	t.Helper()
	for _, list := range lists {
		result, ok := impl.VersDo(v, list)
		if !ok {
			t.Fatalf("VersDo(%v, %v) fails", v, list)
		}
		v = result
	}
	return v
}

// expectRefused commits and expects v and false.
func expectRefused(t *testing.T, what string, v impl.Vers, list []impl.Write) {
	t.Helper()
	got, ok := impl.VersDo(v, list)
	if ok {
		t.Errorf("%s: committed", what)
	}
	expectVers(t, what, got, v)
}

func TestSnapLimits(t *testing.T) {
	if impl.NowMost != 40 || impl.VersMost != 60 || impl.WritesMost != 6 {
		t.Error(impl.NowMost, impl.VersMost, impl.WritesMost)
	}
}

func TestVersOk(t *testing.T) {
	for name, v := range validStores() {
		if !impl.VersOk(v) {
			t.Errorf("%s: not valid: %v", name, v)
		}
	}
	for name, v := range invalidStores() {
		if impl.VersOk(v) {
			t.Errorf("%s: valid: %v", name, v)
		}
	}
}

func TestInvalidStoresHaveZeroResults(t *testing.T) {
	for name, v := range invalidStores() {
		for _, time := range []int{-1, 0, 1, 2, 3, v.Now, math.MaxInt} {
			if got := impl.VersAt(v, time); len(got) != 0 {
				t.Errorf("%s: VersAt %d: %v", name, time, got)
			}
			expectVers(t, name+": VersTrim", impl.VersTrim(v, time), impl.Vers{})
		}
		for _, key := range []string{"a", "b", "c", "k", "", "B"} {
			if got := impl.VersLast(v, key); got != 0 {
				t.Errorf("%s: VersLast of %q: %d", name, key, got)
			}
		}
		// The zero value, not v, is the result even if the writes are not valid either.
		lists := invalidWrites()
		lists["valid"] = writes(put("b", 1))
		lists["deletion"] = writes(gone("k"))
		lists["empty"] = nil
		for kind, list := range lists {
			got, ok := impl.VersDo(v, list)
			if ok {
				t.Errorf("%s, writes %s: committed", name, kind)
			}
			expectVers(t, name+", writes "+kind, got, impl.Vers{})
		}
	}
}

func TestVersAt(t *testing.T) {
	v := gapStore()
	wants := map[int][]impl.Row{
		math.MinInt: nil,
		-1:          nil,
		0:           nil, // nothing stood yet
		1:           {{Key: "a", Num: 1}},
		2:           {{Key: "a", Num: 1}, {Key: "b", Num: 7}},
		3:           {{Key: "b", Num: 7}}, // a was taken away at 3
		4:           {{Key: "b", Num: 7}},
		5:           {{Key: "a", Num: 2}, {Key: "b", Num: 7}},
		6:           {{Key: "a", Num: 2}},
		7:           nil, // after Now, although a still stands
		41:          nil,
		math.MaxInt: nil,
	}
	for time, want := range wants {
		expectRows(t, fmt.Sprint("at ", time), impl.VersAt(v, time), want)
	}
	alone := store(5, ver("a", 1, 1, 2), ver("a", 2, 4, 5))
	for time, want := range map[int][]impl.Row{0: nil, 1: {{Key: "a", Num: 1}}, 2: nil, 3: nil, 4: {{Key: "a", Num: 2}}, 5: nil} {
		expectRows(t, fmt.Sprint("alone at ", time), impl.VersAt(alone, time), want)
	}
	expectRows(t, "zero value", impl.VersAt(impl.Vers{}, 0), nil)
	expectRows(t, "full", impl.VersAt(fullRows(40), 40), fullTable())
}

func TestVersLast(t *testing.T) {
	v := store(9, ver("a", 1, 1, 3), ver("a", 2, 5, 0), ver("aa", 1, 1, 8), ver("b", 1, 1, 2), ver("b", 2, 2, 4), ver("c", 1, 9, 0))
	wants := map[string]int{"a": 5, "aa": 8, "b": 4, "c": 9, "ab": 0, "z": 0, "": 0, "A": 0, "abc": 0, "\xff": 0}
	for key, want := range wants {
		if got := impl.VersLast(v, key); got != want {
			t.Errorf("%q: got %d, want %d", key, got, want)
		}
	}
	if got := impl.VersLast(impl.Vers{}, "a"); got != 0 {
		t.Error(got)
	}
}

func TestWritesOk(t *testing.T) {
	valid := map[string][]impl.Write{
		"nil":                nil,
		"empty":              {},
		"limits of a number": writes(put("a", 999), put("b", -999)),
		"zero":               writes(put("a", 0)),
		"deletion":           writes(gone("a")),
		"two letters":        writes(put("a", 1), gone("aa"), put("az", 1), gone("b")),
		"as many":            writes(put("a", 1), gone("b"), put("c", 1), gone("d"), put("e", 1), gone("zz")),
	}
	for name, list := range valid {
		if !impl.WritesOk(list) {
			t.Errorf("%s: not valid: %v", name, list)
		}
	}
	for name, list := range invalidWrites() {
		if impl.WritesOk(list) {
			t.Errorf("%s: valid: %v", name, list)
		}
	}
}

func TestVersDo(t *testing.T) {
	// The document's example.
	v := mustDo(t, impl.Vers{}, writes(put("a", 1)), writes(put("a", 2)))
	expectVers(t, "example", v, store(2, ver("a", 1, 1, 2), ver("a", 2, 2, 0)))

	cases := []struct {
		name string
		v    impl.Vers
		list []impl.Write
		want impl.Vers
	}{
		{"into none", impl.Vers{}, writes(put("b", 4)), store(1, ver("b", 4, 1, 0))},
		{"in front", store(1, ver("b", 4, 1, 0)), writes(put("a", 1)), store(2, ver("a", 1, 2, 0), ver("b", 4, 1, 0))},
		{"between", store(1, ver("a", 4, 1, 0), ver("b", 5, 1, 0)), writes(put("aa", 1)), store(2, ver("a", 4, 1, 0), ver("aa", 1, 2, 0), ver("b", 5, 1, 0))},
		{"at the end", store(1, ver("b", 4, 1, 0)), writes(put("ba", 1)), store(2, ver("b", 4, 1, 0), ver("ba", 1, 2, 0))},
		{"after all of its key", gapStore(), writes(put("a", 9)), store(7, ver("a", 1, 1, 3), ver("a", 2, 5, 7), ver("a", 9, 7, 0), ver("b", 7, 2, 6))},
		{"the same number", store(1, ver("a", 4, 1, 0)), writes(put("a", 4)), store(2, ver("a", 4, 1, 2), ver("a", 4, 2, 0))},
		{"deletion", store(1, ver("a", 4, 1, 0)), writes(gone("a")), store(2, ver("a", 4, 1, 2))},
		{"deleted before", store(3, ver("a", 4, 1, 2)), writes(gone("a")), store(4, ver("a", 4, 1, 2))},
		{"deletion of a key without versions", store(1, ver("b", 4, 1, 0)), writes(gone("a")), store(2, ver("b", 4, 1, 0))},
		{"deletion in the empty store", impl.Vers{}, writes(gone("a")), store(1)},
		{"again after a deletion", store(2, ver("a", 4, 1, 2)), writes(put("a", 5)), store(3, ver("a", 4, 1, 2), ver("a", 5, 3, 0))},
		{"nothing", store(1, ver("b", 4, 1, 0)), nil, store(2, ver("b", 4, 1, 0))},
		{"nothing to nothing", impl.Vers{}, []impl.Write{}, store(1)},
		{"some at once", gapStore(), writes(gone("a"), put("aa", 3), put("b", 8), gone("c"), put("d", -1)),
			store(7, ver("a", 1, 1, 3), ver("a", 2, 5, 7), ver("aa", 3, 7, 0), ver("b", 7, 2, 6), ver("b", 8, 7, 0), ver("d", -1, 7, 0))},
	}
	for _, c := range cases {
		got, ok := impl.VersDo(c.v, c.list)
		if !ok {
			t.Errorf("%s: refused", c.name)
		}
		expectVers(t, c.name, got, c.want)
	}
}

// A key that is deleted and put again has a gap between its versions.
func TestKeyDeletedAndPutAgain(t *testing.T) {
	v := mustDo(t, impl.Vers{}, writes(put("a", 1)), writes(gone("a")), nil, writes(gone("a")), writes(put("a", 2)), writes(gone("a")), writes(put("a", 2)))
	expectVers(t, "versions", v, store(7, ver("a", 1, 1, 2), ver("a", 2, 5, 6), ver("a", 2, 7, 0)))
	for time, want := range map[int]int{0: 0, 1: 1, 2: 0, 3: 0, 4: 0, 5: 2, 6: 0, 7: 2} {
		num, found := impl.RowsGet(impl.VersAt(v, time), "a")
		if num != want || found != (want != 0) {
			t.Errorf("at %d: %d %t", time, num, found)
		}
	}
	if got := impl.VersLast(v, "a"); got != 7 {
		t.Error(got)
	}
}

func TestVersDoOfInvalidWrites(t *testing.T) {
	for name, list := range invalidWrites() {
		for _, v := range validStores() {
			expectRefused(t, name, v, list)
		}
	}
}

func TestOneCommitTooMany(t *testing.T) {
	v := impl.Vers{}
	for i := range impl.NowMost {
		v = mustDo(t, v, nil)
		expectVers(t, "commits", v, store(i+1))
	}
	for name, list := range map[string][]impl.Write{"put": writes(put("a", 1)), "deletion": writes(gone("a")), "nothing": nil} {
		expectRefused(t, name, v, list)
	}
	expectRefused(t, "a deletion of what stands", fullRows(40), writes(gone("a")))
	got, ok := impl.VersDo(fullRows(39), writes(gone("a")))
	if !ok || got.Now != 40 {
		t.Error(got, ok)
	}
}

func TestOneVersionTooMany(t *testing.T) {
	v := store(35, append(manyVers("a", 30), manyVers("b", 29)...)...)
	full := mustDo(t, v, writes(put("b", 5)))
	if len(full.List) != impl.VersMost {
		t.Fatal(len(full.List))
	}
	for _, key := range []string{"a", "ab", "b", "c"} {
		expectRefused(t, "a version too many of "+key, full, writes(put(key, 1)))
	}
	expectRefused(t, "a deletion and a put", full, writes(gone("b"), put("c", 1)))
	expectRefused(t, "two at once", v, writes(put("c", 1), put("d", 1)))
	// What adds no version is still done.
	got := mustDo(t, full, writes(gone("a"), gone("b"), gone("c")), nil)
	want := impl.Vers{Now: 38, List: slices.Clone(full.List)}
	want.List[59].To = 37
	expectVers(t, "deletions", got, want)
}

func TestOneVisibleRowTooMany(t *testing.T) {
	full := fullRows(1)
	for _, key := range []string{"aa", "jj", "zz"} {
		expectRefused(t, "a row too many, "+key, full, writes(put(key, 1)))
		expectRefused(t, "a row too many with others, "+key, full, writes(put("a", 5), put(key, 1)))
	}
	expectRefused(t, "one less, two more", full, writes(gone("a"), put("y", 1), put("z", 1)))
	// One more is right if another one goes at the same time, before or after it in the list.
	for _, list := range [][]impl.Write{writes(gone("a"), put("z", 1)), writes(put("aa", 1), gone("j")), writes(put("c", 1))} {
		v := mustDo(t, full, list)
		if rows := impl.VersAt(v, 2); len(rows) != impl.RowsMost {
			t.Error(list, rows)
		}
		expectRows(t, "before", impl.VersAt(v, 1), fullTable())
	}
	nine := impl.Vers{Now: 1, List: full.List[:9]}
	if rows := impl.VersAt(mustDo(t, nine, writes(put("z", 1))), 2); len(rows) != impl.RowsMost {
		t.Error("the tenth row", rows)
	}
}

func TestVersTrim(t *testing.T) {
	v := store(6, ver("a", 1, 1, 3), ver("a", 2, 3, 5), ver("a", 3, 5, 0), ver("b", 7, 2, 6), ver("c", 1, 1, 0), ver("d", 1, 1, 2))
	wants := map[int][]impl.Ver{
		math.MinInt: v.List,
		-1:          v.List,
		0:           v.List, // an open version has To 0, and is not of the time 0
		1:           v.List,
		2:           v.List[:5],
		3:           v.List[1:5],
		4:           v.List[1:5],
		5:           v.List[2:5],
		6:           {v.List[2], v.List[4]},
		7:           {v.List[2], v.List[4]},
		math.MaxInt: {v.List[2], v.List[4]},
	}
	for time, want := range wants {
		expectVers(t, fmt.Sprint("trim ", time), impl.VersTrim(v, time), store(6, want...))
	}
	expectVers(t, "zero value", impl.VersTrim(impl.Vers{}, 0), impl.Vers{})
	expectVers(t, "nothing left", impl.VersTrim(store(5, ver("a", 1, 1, 2), ver("a", 1, 4, 5)), 5), store(5))
	expectVers(t, "the gap", impl.VersTrim(gapStore(), 3), store(6, ver("a", 2, 5, 0), ver("b", 7, 2, 6)))
}

func TestVersSame(t *testing.T) {
	for name, v := range validStores() {
		if !impl.VersSame(v, impl.Vers{Now: v.Now, List: slices.Clone(v.List)}) {
			t.Errorf("%s: not the same as itself", name)
		}
	}
	for name, v := range invalidStores() {
		if !impl.VersSame(v, impl.Vers{Now: v.Now, List: slices.Clone(v.List)}) {
			t.Errorf("%s: not the same as itself", name)
		}
	}
	if !impl.VersSame(impl.Vers{List: []impl.Ver{}}, impl.Vers{}) || !impl.VersSame(impl.Vers{}, impl.Vers{List: []impl.Ver{}}) {
		t.Error("a nil list and an empty one are not the same")
	}
	v := gapStore()
	others := map[string]impl.Vers{
		"zero value": {},
		"time":       store(7, v.List...),
		"shorter":    store(6, v.List[:2]...),
		"longer":     store(6, append(slices.Clone(v.List), ver("c", 0, 1, 0))...),
		"key":        store(6, v.List[0], v.List[1], ver("c", 7, 2, 6)),
		"number":     store(6, v.List[0], ver("a", 3, 5, 0), v.List[2]),
		"from":       store(6, ver("a", 1, 2, 3), v.List[1], v.List[2]),
		"to":         store(6, ver("a", 1, 1, 4), v.List[1], v.List[2]),
		"order":      store(6, v.List[1], v.List[0], v.List[2]),
	}
	for name, other := range others {
		if impl.VersSame(v, other) || impl.VersSame(other, v) {
			t.Errorf("%s: the same", name)
		}
	}
}

// randomWrites makes a list that is mostly valid.
func randomWrites(random *rand.Rand) []impl.Write {
	keys := []string{"a", "aa", "ab", "b", "c", "d", "e", "f", "g", "h", "i", "j", "z"}
	var list []impl.Write
	for _, key := range keys {
		switch random.Intn(12) {
		case 0, 1:
			list = append(list, put(key, random.Intn(1999)-999))
		case 2:
			list = append(list, gone(key))
		}
	}
	if random.Intn(10) == 0 {
		list = append(list, put("y", random.Intn(3000)-1500))
	}
	return list
}

// A store is held against the tables that a map of numbers makes at each time.
func TestCommitsKeepWhatWasVisible(t *testing.T) {
	random := rand.New(rand.NewSource(2))
	refused := 0
	for range 60 {
		v := impl.Vers{}
		tables := [][]impl.Row{nil}
		model := map[string]int{}
		last := map[string]int{}
		count := 0
		for range 60 {
			list := randomWrites(random)
			next := maps.Clone(model)
			added := 0
			for _, w := range list {
				if w.Gone {
					delete(next, w.Key)
				} else {
					next[w.Key] = w.Num
					added++
				}
			}
			want := impl.WritesOk(list) && len(next) <= 10 && count+added <= 60 && v.Now < 40
			got, ok := impl.VersDo(v, list)
			if ok != want {
				t.Fatalf("VersDo(%v, %v): %t, want %t", v, list, ok, want)
			}
			if !ok {
				refused++
				expectVers(t, "refused", got, v)
			} else {
				noteLast(last, model, list, got.Now)
				model, count = next, count+added
				tables = append(tables, tableOf(model))
			}
			v = got
			checkStore(t, v, tables, last)
		}
		checkTrims(t, v, tables)
	}
	if refused == 0 {
		t.Error("no commit was refused")
	}
}

// noteLast notes the time at which a version of each written key begins or ends.
func noteLast(last map[string]int, before map[string]int, list []impl.Write, now int) {
	for _, w := range list {
		if _, stood := before[w.Key]; stood || !w.Gone {
			last[w.Key] = now
		}
	}
}

func tableOf(model map[string]int) []impl.Row {
	var table []impl.Row
	for _, key := range slices.Sorted(maps.Keys(model)) {
		table = append(table, impl.Row{Key: key, Num: model[key]})
	}
	return table
}

func checkStore(t *testing.T, v impl.Vers, tables [][]impl.Row, last map[string]int) {
	t.Helper()
	if !impl.VersOk(v) || v.Now != len(tables)-1 {
		t.Fatalf("not valid, or not at the time %d: %v", len(tables)-1, v)
	}
	for time, want := range tables {
		if got := impl.VersAt(v, time); !slices.Equal(got, want) {
			t.Fatalf("at %d: got %v, want %v", time, got, want)
		}
	}
	for _, key := range []string{"a", "aa", "ab", "b", "c", "y", "z", "q"} {
		if got := impl.VersLast(v, key); got != last[key] {
			t.Fatalf("VersLast(%v, %q): %d, want %d", v, key, got, last[key])
		}
	}
}

// checkTrims expects that a trim keeps the rows of its time and of all later
// ones, and removes every version that is not among them.
func checkTrims(t *testing.T, v impl.Vers, tables [][]impl.Row) {
	t.Helper()
	for time := -1; time <= v.Now+1; time++ {
		trimmed := impl.VersTrim(v, time)
		if !impl.VersOk(trimmed) || trimmed.Now != v.Now {
			t.Fatalf("trim %d: %v", time, trimmed)
		}
		for later := max(time, 0); later <= v.Now; later++ {
			if got := impl.VersAt(trimmed, later); !slices.Equal(got, tables[later]) {
				t.Fatalf("trim %d, at %d: got %v, want %v", time, later, got, tables[later])
			}
		}
		var want []impl.Ver
		for _, version := range v.List {
			if version.To == 0 || version.To > time {
				want = append(want, version)
			}
		}
		expectVers(t, fmt.Sprint("trim ", time), trimmed, store(v.Now, want...))
	}
}

// plainVersOk is the document's list of conditions, one after the other.
func plainVersOk(v impl.Vers) bool {
	if v.Now < 0 || v.Now > 40 || len(v.List) > 60 {
		return false
	}
	for i, a := range v.List {
		if !impl.KeyOk(a.Key) || a.Num < -999 || a.Num > 999 || a.From < 1 || a.From > v.Now {
			return false
		}
		if a.To != 0 && (a.To <= a.From || a.To > v.Now) {
			return false
		}
		for _, b := range v.List[i+1:] {
			if a.Key > b.Key || a.Key == b.Key && (a.To == 0 || a.To > b.From) {
				return false
			}
		}
	}
	for time := 0; time <= v.Now; time++ {
		count := 0
		for _, a := range v.List {
			if a.From <= time && (a.To == 0 || time < a.To) {
				count++
			}
		}
		if count > 10 {
			return false
		}
	}
	return true
}

// Stores of which one number or key is changed are held against the conditions.
func TestVersOkOfChangedStores(t *testing.T) {
	random := rand.New(rand.NewSource(3))
	counts := map[bool]int{}
	for range 20000 {
		v := impl.Vers{}
		for range 1 + random.Intn(12) {
			v, _ = impl.VersDo(v, randomWrites(random))
		}
		for range random.Intn(3) {
			changeStore(random, &v)
		}
		want := plainVersOk(v)
		counts[want]++
		if got := impl.VersOk(v); got != want {
			t.Fatalf("VersOk(%v): %t, want %t", v, got, want)
		}
	}
	if counts[true] < 1000 || counts[false] < 1000 {
		t.Error(counts)
	}
}

func changeStore(random *rand.Rand, v *impl.Vers) {
	if len(v.List) == 0 {
		v.Now = random.Intn(50) - 5
		return
	}
	i := random.Intn(len(v.List))
	j := random.Intn(len(v.List))
	switch random.Intn(7) {
	case 0:
		v.Now += random.Intn(5) - 2
	case 1:
		v.List[i].From += random.Intn(5) - 2
	case 2:
		v.List[i].To += random.Intn(5) - 2
	case 3:
		v.List[i].To = 0
	case 4:
		v.List[i].Num += random.Intn(801) - 400
	case 5:
		v.List[i].Key = v.List[j].Key
	case 6:
		v.List[i], v.List[j] = v.List[j], v.List[i]
	}
}

// Results share no memory with an argument, not even what lies beyond a length.
func TestStoresShareNoMemory(t *testing.T) {
	calls := map[string]func(v impl.Vers, list []impl.Write) impl.Vers{
		"commit":       func(v impl.Vers, list []impl.Write) impl.Vers { r, _ := impl.VersDo(v, list); return r },
		"no writes":    func(v impl.Vers, list []impl.Write) impl.Vers { r, _ := impl.VersDo(v, nil); return r },
		"deletion":     func(v impl.Vers, list []impl.Write) impl.Vers { r, _ := impl.VersDo(v, writes(gone("b"))); return r },
		"bad writes":   func(v impl.Vers, list []impl.Write) impl.Vers { r, _ := impl.VersDo(v, writes(put("B", 1))); return r },
		"refused":      func(v impl.Vers, list []impl.Write) impl.Vers { v.Now = 40; r, _ := impl.VersDo(v, list); return r },
		"trim nothing": func(v impl.Vers, list []impl.Write) impl.Vers { return impl.VersTrim(v, 0) },
		"trim":         func(v impl.Vers, list []impl.Write) impl.Vers { return impl.VersTrim(v, 3) },
	}
	for name, call := range calls {
		for length := range 4 {
			memory := []impl.Ver{ver("a", 1, 1, 3), ver("a", 2, 3, 0), ver("c", 7, 2, 0), ver("d", 7, 2, 6)}
			list := writes(put("a", 5), gone("b"), put("c", 6), put("e", 1))
			before, listBefore := slices.Clone(memory), slices.Clone(list)
			result := call(impl.Vers{Now: 6, List: memory[:length]}, list[:3])
			all := result.List[:cap(result.List)]
			for i := range all {
				all[i] = ver("changed", -1, -1, -1)
			}
			expectVers(t, name+", argument", impl.Vers{List: memory}, impl.Vers{List: before})
			if !slices.Equal(list, listBefore) {
				t.Errorf("%s: writes %v", name, list)
			}
		}
	}
}

func TestReadingStoresChangesNothing(t *testing.T) {
	v := gapStore()
	list := writes(put("a", 5), gone("b"), put("c", 6))
	rows := impl.VersAt(v, 5)
	for i := range rows {
		rows[i] = impl.Row{Key: "changed"}
	}
	impl.VersOk(v)
	impl.VersLast(v, "a")
	impl.VersSame(v, v)
	impl.WritesOk(list)
	expectVers(t, "store", v, gapStore())
	if !slices.Equal(list, writes(put("a", 5), gone("b"), put("c", 6))) {
		t.Error(list)
	}
}
