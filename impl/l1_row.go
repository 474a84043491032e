package impl

import "iter"

// Row is a number under a key.
type Row struct {
	Key string
	Num int
}

// Bounds of numbers and rows.
const (
	NumMost  = 999
	RowsMost = 10
)

// keyed is an item that a sorted list orders by its key.
type keyed interface {
	sortKey() string
}

// sortedList is a list of items whose keys are meant to be strictly ascending.
// Its methods never write to it: what they return is new memory.
type sortedList[T keyed] []T

func (r Row) sortKey() string { return r.Key }

// ascending says whether the keys are in order, each of them once.
func (s sortedList[T]) ascending() bool {
	for i := 1; i < len(s); i++ {
		if s[i-1].sortKey() >= s[i].sortKey() {
			return false
		}
	}
	return true
}

// find is the index at which key is or would be inserted, and whether it is there.
func (s sortedList[T]) find(key string) (int, bool) {
	low, high := 0, len(s)
	for low < high {
		middle := low + (high-low)/2
		if s[middle].sortKey() < key {
			low = middle + 1
		} else {
			high = middle
		}
	}
	return low, low < len(s) && s[low].sortKey() == key
}

// splice is the list with the items from index from up to before index to replaced by others.
func (s sortedList[T]) splice(from int, to int, others ...T) sortedList[T] {
	result := make(sortedList[T], 0, len(s)-(to-from)+len(others))
	result = append(result, s[:from]...)
	result = append(result, others...)
	return append(result, s[to:]...)
}

// put is the list with item under its key, in place of the one that was there.
func (s sortedList[T]) put(item T) sortedList[T] {
	i, found := s.find(item.sortKey())
	if found {
		return s.splice(i, i+1, item)
	}
	return s.splice(i, i, item)
}

// cut is the list without the item under key, and whether there was one.
func (s sortedList[T]) cut(key string) (sortedList[T], bool) {
	i, found := s.find(key)
	if found {
		return s.splice(i, i+1), true
	}
	return s.splice(i, i), false
}

// between yields the items whose keys are at least low and at most high.
func (s sortedList[T]) between(low string, high string) iter.Seq[T] {
	return func(yield func(T) bool) {
		start, _ := s.find(low)
		for _, item := range s[start:] {
			if item.sortKey() > high || !yield(item) {
				return
			}
		}
	}
}

// numOk says whether a number may be stored.
func numOk(num int) bool { return -NumMost <= num && num <= NumMost }

// KeyOk says whether a text is a key.
func KeyOk(k string) bool {
	if len(k) < 1 || len(k) > 2 {
		return false
	}
	for i := range len(k) {
		if k[i] < 'a' || k[i] > 'z' {
			return false
		}
	}
	return true
}

// RowsOk says whether rows are in order, each key once.
func RowsOk(list []Row) bool {
	if len(list) > RowsMost {
		return false
	}
	for _, row := range list {
		if !KeyOk(row.Key) || !numOk(row.Num) {
			return false
		}
	}
	return sortedList[Row](list).ascending()
}

// RowsGet is the number under a key.
func RowsGet(list []Row, key string) (int, bool) {
	if !RowsOk(list) {
		return 0, false
	}
	i, found := sortedList[Row](list).find(key)
	if !found {
		return 0, false
	}
	return list[i].Num, true
}

// RowsPut puts a number under a key.
func RowsPut(list []Row, key string, num int) ([]Row, bool) {
	if !RowsOk(list) {
		return nil, false
	}
	rows := sortedList[Row](list)
	result := rows.put(Row{Key: key, Num: num})
	if !RowsOk(result) {
		return rows.splice(0, 0), false
	}
	return result, true
}

// RowsCut takes a key away.
func RowsCut(list []Row, key string) ([]Row, bool) {
	if !RowsOk(list) {
		return nil, false
	}
	return sortedList[Row](list).cut(key)
}

// RowsIn is the rows from one key to another one.
func RowsIn(list []Row, lo string, hi string) []Row {
	if !RowsOk(list) {
		return nil
	}
	var result []Row
	for row := range sortedList[Row](list).between(lo, hi) {
		result = append(result, row)
	}
	return result
}

// RowsSum is all numbers together.
func RowsSum(list []Row) int {
	if !RowsOk(list) {
		return 0
	}
	sum := 0
	for _, row := range list {
		sum += row.Num
	}
	return sum
}

// RowsDiff is the keys under which two lists have not the same.
func RowsDiff(a []Row, b []Row) []string {
	if !RowsOk(a) || !RowsOk(b) {
		return nil
	}
	var keys []string
	i, j := 0, 0
	for i < len(a) || j < len(b) {
		switch {
		case j == len(b) || i < len(a) && a[i].Key < b[j].Key:
			keys = append(keys, a[i].Key)
			i++
		case i == len(a) || b[j].Key < a[i].Key:
			keys = append(keys, b[j].Key)
			j++
		default:
			if a[i].Num != b[j].Num {
				keys = append(keys, a[i].Key)
			}
			i++
			j++
		}
	}
	return keys
}
