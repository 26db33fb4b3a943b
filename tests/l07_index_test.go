package tests

import (
	"fmt"
	"math"
	"math/rand/v2"
	"slices"
	"testing"

	"loop.example/g00583/impl"
)

// Promise 7: walking backwards gives the items in the opposite order (chapter 7).

// storeOfNumbers has the number keys 1, 2 and so on, with these numbers in the field n.
func storeOfNumbers(numbers ...int) impl.Store {
	s := store(0)
	for i, n := range numbers {
		s.Items = append(s.Items, item(numberKey(i+1), field("n", n)))
	}
	return s
}

// itemsAt are the items of the store with these indices.
func itemsAt(s impl.Store, places ...int) []impl.Item {
	items := []impl.Item{}
	for _, at := range places {
		items = append(items, s.Items[at])
	}
	return items
}

// wantNumber reads a field without the functions of the package.
func wantNumber(r impl.Record, name string) (int, bool) {
	at := slices.IndexFunc(r.Fields, func(f impl.Field) bool { return f.Name == name })
	if at < 0 {
		return 0, false
	}
	return r.Fields[at].N, true
}

// wantOrder is orderOfKeys, which it extends to invalid keys.
func wantOrder(a impl.Key, b impl.Key) int {
	if !impl.IsKey(a) || !impl.IsKey(b) {
		return 0
	}
	return orderOfKeys(a, b)
}

// wantIndex looks at all items for the last one that the next one does not precede.
func wantIndex(s impl.Store, name string) []impl.Item {
	index := []impl.Item{}
	for _, x := range s.Items {
		n, exists := wantNumber(x.Record, name)
		if !exists {
			continue
		}
		behind := 0
		for i, y := range index {
			m, _ := wantNumber(y.Record, name)
			precedes := n < m || n == m && wantOrder(x.Key, y.Key) < 0
			if !precedes {
				behind = i + 1
			}
		}
		index = slices.Insert(index, behind, x)
	}
	return index
}

func checkIndex(t *testing.T, s impl.Store, name string, want []impl.Item) {
	t.Helper()
	if got := impl.IndexOn(s, name); !slices.EqualFunc(got, want, sameItem) {
		t.Errorf("IndexOn(%v, %q) = %v, want %v", s, name, got, want)
	}
}

func TestIndexOnOfNoItems(t *testing.T) {
	for _, name := range []string{"n", "a", "zzzzzzzz", "", "A", "abcdefghi"} {
		checkIndex(t, impl.Store{}, name, nil)
		checkIndex(t, store(7), name, nil)
		checkIndex(t, store(0, item(numberKey(1)), item(textKey("x"))), name, nil)
		checkIndex(t, store(0, item(numberKey(1), field("b", 1)), item(textKey("x"), field("nn", 2))), name, nil)
	}
}

func TestIndexOnExamples(t *testing.T) {
	cases := []struct {
		numbers []int
		places  []int
	}{
		{[]int{7}, []int{0}},
		{[]int{1, 2, 3}, []int{0, 1, 2}},
		{[]int{3, 2, 1}, []int{2, 1, 0}},
		{[]int{2, 3, 1}, []int{2, 0, 1}},
		{[]int{3, 1, 2}, []int{1, 2, 0}},
		{[]int{5, 5, 5}, []int{0, 1, 2}},
		{[]int{5, 3, 5, 1}, []int{3, 1, 0, 2}},
		{[]int{1, 0, 1, 0, 1, 0}, []int{1, 3, 5, 0, 2, 4}},
		{[]int{maxField, 0, maxField - 1, 0}, []int{1, 3, 2, 0}},
		{[]int{10, 9, 100, 99}, []int{1, 0, 3, 2}},
		{[]int{15, 14, 13, 12, 11, 10, 9, 8, 7, 6, 5, 4, 3, 2, 1, 0}, []int{15, 14, 13, 12, 11, 10, 9, 8, 7, 6, 5, 4, 3, 2, 1, 0}},
		{[]int{1, 1, 0, 0, 1, 1, 0, 0, 1, 1, 0, 0, 1, 1, 0, 0}, []int{2, 3, 6, 7, 10, 11, 14, 15, 0, 1, 4, 5, 8, 9, 12, 13}},
	}
	for _, c := range cases {
		s := storeOfNumbers(c.numbers...)
		checkIndex(t, s, "n", itemsAt(s, c.places...))
		checkIndex(t, s, "m", nil)
	}
}

func TestIndexOnOfSomeItems(t *testing.T) {
	s := store(0,
		item(numberKey(-3), field("a", 4), field("n", 9)), item(numberKey(7), field("a", 4)), item(numberKey(300)), item(textKey(""), field("n", 0)),
		item(textKey("x"), field("a", 1), field("b", 4), field("n", 9)), item(pairKey(1, ""), field("b", 4)), item(pairKey(1, "a"), field("b", 3), field("n", 8)),
	)
	checkIndex(t, s, "n", itemsAt(s, 3, 6, 0, 4))
	checkIndex(t, s, "a", itemsAt(s, 4, 0, 1))
	checkIndex(t, s, "b", itemsAt(s, 6, 4, 5))
	for _, name := range []string{"", "c", "nn", "aa", "N", "a "} {
		checkIndex(t, s, name, nil)
	}
	// Of the keys of all kinds with equal numbers, those of a lower kind come first, whatever their other parts.
	equal := store(0)
	for _, k := range mixedKeys {
		equal.Items = append(equal.Items, item(k, field("n", 5)))
	}
	checkIndex(t, equal, "n", equal.Items)
}

func TestIndexOnOfInvalidStores(t *testing.T) {
	bad, worse := impl.Key{Kind: 9}, textKey("A")
	n := func(number int, keys ...impl.Key) impl.Store {
		s := store(-1)
		for i, k := range keys {
			s.Items = append(s.Items, item(k, field("i", i), field("n", number)))
		}
		return s
	}
	cases := []struct {
		s      impl.Store
		places []int
	}{
		{n(5, numberKey(3), numberKey(1), numberKey(2)), []int{1, 2, 0}},
		{n(5, pairKey(1, ""), textKey("b"), textKey("a"), numberKey(300)), []int{3, 2, 1, 0}},
		{n(5, numberKey(1), numberKey(1), numberKey(1)), []int{0, 1, 2}},
		{n(5, numberKey(2), numberKey(1), numberKey(2), numberKey(1)), []int{1, 3, 0, 2}},
		{n(5, bad, worse, bad), []int{0, 1, 2}},
		{n(5, numberKey(3), bad, numberKey(1)), []int{0, 1, 2}},
		{n(5, bad, numberKey(3), numberKey(1)), []int{0, 2, 1}},
		{n(5, numberKey(3), numberKey(1), bad), []int{1, 0, 2}},
		{n(5, numberKey(4), numberKey(2), bad, numberKey(3), numberKey(1)), []int{1, 0, 2, 4, 3}},
		{n(5, numberKey(4), worse, numberKey(3), bad, numberKey(2), numberKey(1)), []int{0, 1, 2, 3, 5, 4}},
	}
	for _, c := range cases {
		checkIndex(t, c.s, "n", itemsAt(c.s, c.places...))
	}
	// An invalid key does not keep its item from the place of its number.
	mixed := store(-1, item(bad, field("n", 3)), item(numberKey(9), field("n", 2)), item(worse, field("n", 2)), item(numberKey(8), field("n", 2)), item(bad, field("n", 1)))
	checkIndex(t, mixed, "n", itemsAt(mixed, 4, 1, 2, 3, 0))
}

func TestIndexOnOfInvalidRecords(t *testing.T) {
	s := storeOfNumbers(math.MaxInt, math.MinInt, 0, -1, 1, math.MinInt+1, math.MaxInt-1)
	checkIndex(t, s, "n", itemsAt(s, 1, 5, 3, 2, 4, 6, 0))
	// GetField reads the first field with a name, in whatever order, and also those with an invalid name.
	s = store(0, item(numberKey(1), field("n", 3), field("n", 1)), item(numberKey(2), field("z", 0), field("n", 2)), item(numberKey(3), field("", 1)), item(numberKey(4), field("", 0)))
	checkIndex(t, s, "n", itemsAt(s, 1, 0))
	checkIndex(t, s, "", itemsAt(s, 3, 2))
	s = store(0, item(numberKey(1), slices.Repeat([]impl.Field{field("a", 1)}, 20)...), item(numberKey(2), field("A", 1), field("n", 1)), impl.Item{Key: numberKey(3), Record: recordOfFirst(8)})
	checkIndex(t, s, "a", itemsAt(s, 0, 2))
	checkIndex(t, s, "h", itemsAt(s, 2))
	checkIndex(t, s, "A", itemsAt(s, 1))
}

func checkWith(t *testing.T, s impl.Store, name string, n int, want []impl.Item) {
	t.Helper()
	if got := impl.ItemsWith(s, name, n); !slices.EqualFunc(got, want, sameItem) {
		t.Errorf("ItemsWith(%v, %q, %d) = %v, want %v", s, name, n, got, want)
	}
	if got := impl.CountWith(s, name, n); got != len(want) {
		t.Errorf("CountWith(%v, %q, %d) = %d, want %d", s, name, n, got, len(want))
	}
}

func TestItemsWithExamples(t *testing.T) {
	s := storeOfNumbers(5, 3, 5, 1, 0, 5)
	checkWith(t, s, "n", 5, itemsAt(s, 0, 2, 5))
	checkWith(t, s, "n", 3, itemsAt(s, 1))
	checkWith(t, s, "n", 1, itemsAt(s, 3))
	checkWith(t, s, "n", 0, itemsAt(s, 4))
	for _, n := range []int{2, 4, 6, -1, -5, maxField, math.MinInt, math.MaxInt} {
		checkWith(t, s, "n", n, nil)
	}
	for _, name := range []string{"", "a", "nn", "N"} {
		checkWith(t, s, name, 5, nil)
		checkWith(t, s, name, 0, nil)
	}
	full := storeOfNumbers(slices.Repeat([]int{7}, maxItems)...)
	checkWith(t, full, "n", 7, full.Items)
	checkWith(t, full, "n", 8, nil)
	checkWith(t, impl.Store{}, "n", 0, nil)
	checkWith(t, store(5), "", 0, nil)
}

// TestItemsWithOfMissingFields looks for 0, which is no number of a missing field.
func TestItemsWithOfMissingFields(t *testing.T) {
	s := store(0, item(numberKey(1)), item(numberKey(2), field("n", 0)), item(numberKey(3), field("a", 0), field("b", 4)), item(textKey("x"), field("a", 4), field("n", 4)), item(pairKey(1, ""), field("a", 1), field("n", 0)))
	checkWith(t, s, "n", 0, itemsAt(s, 1, 4))
	checkWith(t, s, "n", 4, itemsAt(s, 3))
	checkWith(t, s, "a", 0, itemsAt(s, 2))
	checkWith(t, s, "b", 0, nil)
	checkWith(t, s, "b", 4, itemsAt(s, 2))
	checkWith(t, s, "c", 0, nil)
}

func TestItemsWithOfInvalidStores(t *testing.T) {
	// The items stay as they stand, whatever their keys.
	s := store(-1, item(textKey("x"), field("n", 5)), item(numberKey(2), field("n", 5)), item(impl.Key{}, field("n", 5)), item(numberKey(2), field("n", 4)), item(textKey("A"), field("n", 4)), item(numberKey(1), field("n", 5)), item(numberKey(2), field("n", 5)))
	checkWith(t, s, "n", 5, itemsAt(s, 0, 1, 2, 5, 6))
	checkWith(t, s, "n", 4, itemsAt(s, 3, 4))
	checkWith(t, s, "n", 0, nil)
	many := storeOfNumbers(slices.Repeat([]int{7, 8}, 20)...)
	if got := impl.CountWith(many, "n", 8); got != 20 {
		t.Errorf("CountWith of 20 items = %d", got)
	}
	s = store(0, item(numberKey(1), field("n", -1)), item(numberKey(2), field("n", math.MinInt)), item(numberKey(3), field("n", 3), field("n", -1)), item(numberKey(4), field("z", 1), field("", -1)))
	checkWith(t, s, "n", -1, itemsAt(s, 0))
	checkWith(t, s, "n", 3, itemsAt(s, 2))
	checkWith(t, s, "n", math.MinInt, itemsAt(s, 1))
	checkWith(t, s, "", -1, itemsAt(s, 3))
}

func checkFault(t *testing.T, s impl.Store, name string, a impl.Key, b impl.Key, fault bool) {
	t.Helper()
	if x, y, got := impl.UniqueFault(s, name); x != a || y != b || got != fault {
		t.Errorf("UniqueFault(%v, %q) = %v, %v, %t, want %v, %v, %t", s, name, x, y, got, a, b, fault)
	}
}

func checkNoFault(t *testing.T, s impl.Store, name string) {
	t.Helper()
	checkFault(t, s, name, impl.Key{}, impl.Key{}, false)
}

func TestUniqueFaultOfNone(t *testing.T) {
	checkNoFault(t, impl.Store{}, "n")
	checkNoFault(t, impl.Store{}, "")
	for _, numbers := range [][]int{{}, {0}, {1, 2}, {2, 1}, {1, 0, 2}, {0, maxField, maxField - 1}, {15, 14, 13, 12, 11, 10, 9, 8, 7, 6, 5, 4, 3, 2, 1, 0}} {
		checkNoFault(t, storeOfNumbers(numbers...), "n")
		checkNoFault(t, storeOfNumbers(numbers...), "m")
	}
	// Items without the field are not like each other, nor like one with 0 in it.
	checkNoFault(t, store(0, item(numberKey(1)), item(numberKey(2)), item(numberKey(3), field("n", 0)), item(numberKey(4), field("a", 0))), "n")
	checkNoFault(t, store(0, item(numberKey(1), field("a", 5)), item(numberKey(2), field("n", 5)), item(numberKey(3), field("a", 6), field("n", 6))), "n")
}

func TestUniqueFaultExamples(t *testing.T) {
	cases := []struct {
		numbers []int
		a, b    int
	}{
		{[]int{5, 5}, 1, 2}, {[]int{0, 0}, 1, 2}, {[]int{maxField, 3, maxField}, 1, 3}, {[]int{5, 5, 5}, 1, 2}, {[]int{4, 5, 5}, 2, 3}, {[]int{6, 5, 5}, 2, 3},
		{[]int{5, 3, 5, 1}, 1, 3}, {[]int{5, 1, 2, 3, 4, 5}, 1, 6},
		// The fault of the lowest number is the first one, whichever stands first in the store.
		{[]int{5, 5, 3, 3}, 3, 4}, {[]int{5, 3, 5, 3}, 2, 4}, {[]int{3, 5, 5, 3}, 1, 4}, {[]int{9, 9, 8, 8, 7, 7, 6, 6, 0, 1}, 7, 8}, {[]int{9, 0, 9, 8, 0, 8, 0}, 2, 5},
		{[]int{15, 14, 13, 12, 11, 10, 9, 8, 7, 6, 5, 4, 3, 2, 1, 15}, 1, 16},
	}
	for _, c := range cases {
		checkFault(t, storeOfNumbers(c.numbers...), "n", numberKey(c.a), numberKey(c.b), true)
		checkNoFault(t, storeOfNumbers(c.numbers...), "m")
	}
	s := store(0, item(numberKey(300), field("a", 1), field("n", 2)), item(textKey("x"), field("a", 1)), item(pairKey(1, ""), field("n", 2)), item(pairKey(1, "a"), field("a", 1), field("n", 3)))
	checkFault(t, s, "n", numberKey(300), pairKey(1, ""), true)
	checkFault(t, s, "a", numberKey(300), textKey("x"), true)
}

func TestUniqueFaultOfInvalidStores(t *testing.T) {
	bad := impl.Key{Kind: 9, N: 4, Text: "'"}
	checkFault(t, store(-1, item(numberKey(3), field("n", 5)), item(numberKey(1), field("n", 5))), "n", numberKey(1), numberKey(3), true)
	checkFault(t, store(-1, item(numberKey(3), field("n", 5)), item(numberKey(3), field("n", 5))), "n", numberKey(3), numberKey(3), true)
	checkFault(t, store(-1, item(numberKey(3), field("n", 5)), item(bad, field("n", 5)), item(numberKey(1), field("n", 5))), "n", numberKey(3), bad, true)
	checkFault(t, store(-1, item(impl.Key{}, field("n", 5)), item(impl.Key{}, field("n", 5))), "n", impl.Key{}, impl.Key{}, true)
	checkNoFault(t, store(-1, item(bad, field("n", 5)), item(bad, field("n", 4)), item(bad)), "n")
	checkNoFault(t, storeOfNumbers(math.MinInt, math.MaxInt, -1, 0), "n")
	checkFault(t, storeOfNumbers(math.MinInt, 0, math.MinInt), "n", numberKey(1), numberKey(3), true)
}

// randomStore has up to most items; an invalid one has its keys in any order, and some of them invalid.
func randomStore(r *rand.Rand, most int, valid bool) impl.Store {
	keys := slices.Clone(mixedKeys)
	if !valid {
		keys = slices.Concat(keys, keys, someInvalidKeys())
	}
	r.Shuffle(len(keys), func(i int, j int) { keys[i], keys[j] = keys[j], keys[i] })
	keys = keys[:r.IntN(min(most, len(keys))+1)]
	if valid {
		slices.SortFunc(keys, orderOfKeys)
	}
	s := store(0)
	for _, k := range keys {
		x := item(k)
		for _, name := range []string{"a", "b", "n"} {
			if r.IntN(5) > 0 {
				x.Record.Fields = append(x.Record.Fields, field(name, r.IntN(4)))
			}
		}
		s.Items = append(s.Items, x)
	}
	return s
}

func wantFault(s impl.Store, name string) (impl.Key, impl.Key, bool) {
	index := wantIndex(s, name)
	for i := range index[:max(len(index), 1)-1] {
		a, _ := wantNumber(index[i].Record, name)
		b, _ := wantNumber(index[i+1].Record, name)
		if a == b {
			return index[i].Key, index[i+1].Key, true
		}
	}
	return impl.Key{}, impl.Key{}, false
}

func checkIndexes(t *testing.T, s impl.Store, name string) {
	t.Helper()
	checkIndex(t, s, name, wantIndex(s, name))
	a, b, fault := wantFault(s, name)
	checkFault(t, s, name, a, b, fault)
	for n := range 5 {
		with := []impl.Item{}
		for _, x := range s.Items {
			if m, exists := wantNumber(x.Record, name); exists && m == n {
				with = append(with, x)
			}
		}
		checkWith(t, s, name, n, with)
	}
}

func TestIndexesOfManyStores(t *testing.T) {
	r := rand.New(rand.NewPCG(7, 7))
	for range 3000 {
		for _, name := range []string{"a", "n", "z"} {
			checkIndexes(t, randomStore(r, maxItems, true), name)
			checkIndexes(t, randomStore(r, 5, false), name)
			checkIndexes(t, randomStore(r, 44, false), name)
		}
	}
	for _, s := range append(validStores(), invalidStores()...) {
		for _, name := range []string{"a", "b", "n", ""} {
			checkIndexes(t, s, name)
		}
	}
}

// wantNext is the index of the item that a cursor moves to, or -1.
func wantNext(s impl.Store, x impl.Cursor) int {
	ahead := []int{}
	for i, y := range s.Items {
		order := wantOrder(y.Key, x.At)
		if wantInRange(y.Key, x.Range) && (!x.Started || order == 1 && !x.Backward || order == -1 && x.Backward) {
			ahead = append(ahead, i)
		}
	}
	switch {
	case len(ahead) == 0:
		return -1
	case x.Backward:
		return ahead[len(ahead)-1]
	}
	return ahead[0]
}

// checkNext takes the index of the item to which the cursor moves, or -1.
func checkNext(t *testing.T, s impl.Store, x impl.Cursor, at int) {
	t.Helper()
	cursor, found := x, impl.Item{}
	if at >= 0 {
		found = s.Items[at]
		cursor.Started, cursor.At = true, found.Key
	}
	if moved, got, ok := impl.CursorNext(s, x); moved != cursor || !sameItem(got, found) || ok != (at >= 0) {
		t.Errorf("CursorNext(%v, %+v) = %+v, %v, %t, want %+v, %v, %t", s, x, moved, got, ok, cursor, found, at >= 0)
	}
}

// walkedStore has number keys with gaps between them, a text and a pair.
func walkedStore() impl.Store {
	return store(0, item(numberKey(10), field("a", 1)), item(numberKey(20), field("b", 2)), item(numberKey(30)), item(textKey("m"), field("a", 3)), item(pairKey(5, "x"), field("c", 4)))
}

func TestCursorNextNotStarted(t *testing.T) {
	cases := []struct {
		r           impl.KeyRange
		first, last int
	}{
		{impl.KeyRange{}, 0, 4},
		{atLeast(numberKey(-1)), 0, 4}, {atLeast(numberKey(9)), 0, 4}, {atLeast(numberKey(10)), 0, 4}, {atLeast(numberKey(11)), 1, 4}, {atLeast(numberKey(30)), 2, 4}, {atLeast(numberKey(31)), 3, 4},
		{atLeast(textKey("")), 3, 4}, {atLeast(textKey("m")), 3, 4}, {atLeast(textKey("m0")), 4, 4}, {atLeast(pairKey(5, "x")), 4, 4}, {atLeast(pairKey(5, "x0")), -1, -1},
		{atMost(numberKey(9)), -1, -1}, {atMost(numberKey(10)), 0, 0}, {atMost(numberKey(11)), 0, 0}, {atMost(numberKey(29)), 0, 1}, {atMost(numberKey(30)), 0, 2}, {atMost(numberKey(31)), 0, 2},
		{atMost(textKey("l")), 0, 2}, {atMost(textKey("m")), 0, 3}, {atMost(pairKey(5, "")), 0, 3}, {atMost(pairKey(5, "x")), 0, 4}, {atMost(pairKey(6, "")), 0, 4},
		{between(numberKey(10), pairKey(5, "x")), 0, 4}, {between(numberKey(11), pairKey(5, "w")), 1, 3}, {between(numberKey(20), numberKey(20)), 1, 1}, {between(numberKey(20), numberKey(30)), 1, 2},
		{between(numberKey(21), numberKey(29)), -1, -1}, {between(numberKey(19), numberKey(21)), 1, 1}, {between(numberKey(31), textKey("l")), -1, -1}, {between(numberKey(30), textKey("m")), 2, 3},
		// The lower bound is above the upper one.
		{between(numberKey(30), numberKey(10)), -1, -1}, {between(numberKey(21), numberKey(20)), -1, -1}, {between(numberKey(20), numberKey(19)), -1, -1}, {between(textKey("m"), numberKey(30)), -1, -1}, {between(pairKey(5, "x"), numberKey(10)), -1, -1},
		{atLeast(impl.Key{}), -1, -1}, {atMost(textKey("M")), -1, -1}, {between(numberKey(10), impl.Key{Kind: 9}), -1, -1},
	}
	s := walkedStore()
	for _, c := range cases {
		// At does not count before the start.
		for _, at := range []impl.Key{{}, numberKey(-5), numberKey(20), textKey("m"), pairKey(90, ""), {Kind: 9}} {
			checkNext(t, s, impl.Cursor{Range: c.r, At: at}, c.first)
			checkNext(t, s, impl.Cursor{Range: c.r, Backward: true, At: at}, c.last)
		}
	}
}

func TestCursorNextStarted(t *testing.T) {
	cases := []struct {
		at             impl.Key
		next, previous int
	}{
		{numberKey(-maxNumber), 0, -1}, {numberKey(9), 0, -1}, {numberKey(10), 1, -1}, {numberKey(11), 1, 0}, {numberKey(19), 1, 0}, {numberKey(20), 2, 0}, {numberKey(21), 2, 1}, {numberKey(30), 3, 1}, {numberKey(31), 3, 2},
		{textKey(""), 3, 2}, {textKey("l"), 3, 2}, {textKey("m"), 4, 2}, {textKey("m0"), 4, 3}, {pairKey(5, ""), 4, 3}, {pairKey(5, "x"), -1, 3}, {pairKey(5, "x0"), -1, 4}, {pairKey(maxNumber, ""), -1, 4},
		// No key is greater or smaller than an invalid one.
		{impl.Key{}, -1, -1}, {numberKey(maxNumber + 1), -1, -1}, {textKey("M"), -1, -1}, {impl.Key{Kind: 9}, -1, -1},
	}
	s := walkedStore()
	for _, c := range cases {
		for _, r := range []impl.KeyRange{{}, atLeast(numberKey(10)), atMost(pairKey(5, "x")), between(numberKey(10), pairKey(5, "x")), {Low: textKey("m"), High: numberKey(10)}} {
			checkNext(t, s, impl.Cursor{Range: r, Started: true, At: c.at}, c.next)
			checkNext(t, s, impl.Cursor{Range: r, Backward: true, Started: true, At: c.at}, c.previous)
		}
	}
}

func TestCursorNextStartedInARange(t *testing.T) {
	cases := []struct {
		r              impl.KeyRange
		at             impl.Key
		next, previous int
	}{
		// The cursor is at the first item, at one inside and at the last item of the range.
		{between(numberKey(20), textKey("m")), numberKey(20), 2, -1}, {between(numberKey(20), textKey("m")), numberKey(30), 3, 1}, {between(numberKey(20), textKey("m")), textKey("m"), -1, 2},
		{between(numberKey(11), textKey("z")), numberKey(20), 2, -1}, {between(numberKey(11), textKey("z")), textKey("m"), -1, 2},
		{between(numberKey(20), numberKey(20)), numberKey(20), -1, -1}, {between(numberKey(20), numberKey(20)), numberKey(19), 1, -1}, {between(numberKey(20), numberKey(20)), numberKey(21), -1, 1},
		// It is at an item beside the range, which may not be the next item to the range either.
		{between(numberKey(20), textKey("m")), numberKey(10), 1, -1}, {between(numberKey(20), textKey("m")), pairKey(5, "x"), -1, 3}, {atLeast(textKey("a")), numberKey(10), 3, -1}, {atMost(numberKey(15)), textKey("m"), -1, 0},
		{atLeast(numberKey(21)), numberKey(20), 2, -1}, {atLeast(numberKey(20)), numberKey(20), 2, -1}, {atLeast(numberKey(20)), numberKey(-5), 1, -1}, {atLeast(numberKey(20)), pairKey(5, "x"), -1, 3},
		{atMost(numberKey(20)), numberKey(20), -1, 0}, {atMost(numberKey(19)), numberKey(20), -1, 0}, {atMost(numberKey(20)), numberKey(10), 1, -1}, {atMost(numberKey(20)), pairKey(9, ""), -1, 1},
		// The lower bound is above the upper one.
		{between(textKey("m"), numberKey(20)), numberKey(30), -1, -1}, {between(textKey("m"), numberKey(20)), numberKey(10), -1, -1}, {between(textKey("m"), numberKey(20)), pairKey(5, "x"), -1, -1}, {between(numberKey(21), numberKey(20)), numberKey(20), -1, -1},
		{atLeast(impl.Key{}), numberKey(20), -1, -1}, {atMost(impl.Key{}), numberKey(20), -1, -1}, {between(numberKey(10), textKey("M")), numberKey(20), -1, -1},
	}
	s := walkedStore()
	for _, c := range cases {
		checkNext(t, s, impl.Cursor{Range: c.r, Started: true, At: c.at}, c.next)
		checkNext(t, s, impl.Cursor{Range: c.r, Backward: true, Started: true, At: c.at}, c.previous)
	}
}

func TestCursorNextOfInvalidStores(t *testing.T) {
	bad := impl.Key{Kind: 9}
	s := storeOfKeys(-1, bad, numberKey(3), numberKey(1), textKey("A"), numberKey(4), numberKey(1), numberKey(2), bad)
	cases := []struct {
		x  impl.Cursor
		at int
	}{
		{impl.Cursor{}, 1}, {impl.Cursor{Backward: true}, 6},
		{impl.Cursor{Started: true, At: numberKey(3)}, 4}, {impl.Cursor{Started: true, At: numberKey(1)}, 1}, {impl.Cursor{Started: true, At: numberKey(2)}, 1}, {impl.Cursor{Started: true, At: numberKey(4)}, -1},
		{impl.Cursor{Backward: true, Started: true, At: numberKey(3)}, 6}, {impl.Cursor{Backward: true, Started: true, At: numberKey(2)}, 5}, {impl.Cursor{Backward: true, Started: true, At: numberKey(1)}, -1}, {impl.Cursor{Backward: true, Started: true, At: textKey("")}, 6},
		{impl.Cursor{Range: atMost(numberKey(2))}, 2}, {impl.Cursor{Range: atLeast(numberKey(4)), Backward: true}, 4}, {impl.Cursor{Range: between(numberKey(1), numberKey(1)), Backward: true}, 5},
		{impl.Cursor{Range: between(numberKey(2), numberKey(1))}, -1}, {impl.Cursor{Started: true, At: bad}, -1}, {impl.Cursor{Backward: true, Started: true, At: bad}, -1}, {impl.Cursor{Started: true}, -1},
	}
	for _, c := range cases {
		checkNext(t, s, c.x, c.at)
	}
	for _, empty := range []impl.Store{{}, store(7), storeOfKeys(0, bad, textKey("A"))} {
		for _, c := range cases {
			checkNext(t, empty, c.x, -1)
		}
	}
}

// someStores are few enough to be walked through in every range.
func someStores() []impl.Store {
	return []impl.Store{
		{}, store(7), store(0, item(numberKey(5), field("a", 1))), walkedStore(), storeOfCount(maxItems), storeOfKeys(0, mixedKeys...), storeOfKeys(7, mixedKeys[3:12]...),
		storeOfKeys(0, slices.Concat(mixedKeys[8:], mixedKeys[:8])...), storeOfKeys(0, slices.Concat(mixedKeys, mixedKeys)...), storeOfKeys(0, slices.Repeat([]impl.Key{numberKey(7)}, 40)...),
		storeOfKeys(0, slices.Concat(someInvalidKeys()[:4], mixedKeys[:5], someInvalidKeys(), mixedKeys[3:])...), storeOfCount(maxItems + 20),
	}
}

// someCursors are forward and backward, not started and started at keys of all kinds, also at invalid ones.
func someCursors(r impl.KeyRange) []impl.Cursor {
	cursors := []impl.Cursor{}
	for _, backward := range []bool{false, true} {
		cursors = append(cursors, impl.Cursor{Range: r, Backward: backward}, impl.Cursor{Range: r, Backward: backward, At: numberKey(7)})
		for _, at := range []impl.Key{
			numberKey(-maxNumber), numberKey(-4), numberKey(5), numberKey(7), numberKey(45), numberKey(160), numberKey(170), numberKey(maxNumber),
			textKey(""), textKey("a"), textKey("aa"), pairKey(-5, ""), pairKey(7, "a"), pairKey(maxNumber, "zzzzzzzzzzzz"), {}, {Kind: 9}, textKey("A"),
		} {
			cursors = append(cursors, impl.Cursor{Range: r, Backward: backward, Started: true, At: at})
		}
	}
	return cursors
}

func TestCursorNextInAllRanges(t *testing.T) {
	found, none := 0, 0
	for _, s := range someStores() {
		for _, r := range keyRanges() {
			for _, x := range someCursors(r) {
				at := wantNext(s, x)
				checkNext(t, s, x, at)
				if at >= 0 {
					found++
				} else {
					none++
				}
			}
		}
	}
	if found < 10000 || none < 10000 {
		t.Errorf("the cursors find an item %d times, and none %d times", found, none)
	}
}

func reversed(items []impl.Item) []impl.Item {
	opposite := slices.Clone(items)
	slices.Reverse(opposite)
	return opposite
}

func checkWalk(t *testing.T, s impl.Store, x impl.Cursor, want []impl.Item) {
	t.Helper()
	if got := impl.WalkStore(s, x); !slices.EqualFunc(got, want, sameItem) {
		t.Errorf("WalkStore(%v, %+v) = %v, want %v", s, x, got, want)
	}
}

// checkBothWalks takes the items of the forward walk.
func checkBothWalks(t *testing.T, s impl.Store, r impl.KeyRange, want []impl.Item) {
	t.Helper()
	checkWalk(t, s, impl.Cursor{Range: r}, want)
	checkWalk(t, s, impl.Cursor{Range: r, Backward: true}, reversed(want))
}

func TestWalkStoreExamples(t *testing.T) {
	s := walkedStore()
	cases := []struct {
		r      impl.KeyRange
		places []int
	}{
		{impl.KeyRange{}, []int{0, 1, 2, 3, 4}}, {impl.KeyRange{Low: textKey("m"), High: numberKey(10)}, []int{0, 1, 2, 3, 4}},
		{atLeast(numberKey(10)), []int{0, 1, 2, 3, 4}}, {atLeast(numberKey(11)), []int{1, 2, 3, 4}}, {atLeast(textKey("")), []int{3, 4}}, {atLeast(pairKey(5, "y")), nil},
		{atMost(numberKey(9)), nil}, {atMost(numberKey(10)), []int{0}}, {atMost(textKey("m")), []int{0, 1, 2, 3}}, {atMost(pairKey(6, "")), []int{0, 1, 2, 3, 4}},
		{between(numberKey(20), textKey("m")), []int{1, 2, 3}}, {between(numberKey(19), numberKey(31)), []int{1, 2}}, {between(numberKey(30), numberKey(30)), []int{2}}, {between(numberKey(21), numberKey(29)), nil},
		{between(numberKey(30), numberKey(20)), nil}, {between(numberKey(31), numberKey(30)), nil}, {between(textKey("m"), numberKey(10)), nil},
		{atLeast(impl.Key{}), nil}, {between(numberKey(10), textKey("M")), nil},
	}
	for _, c := range cases {
		checkBothWalks(t, s, c.r, itemsAt(s, c.places...))
		checkBothWalks(t, impl.Store{}, c.r, nil)
	}
}

func TestWalkStoreFromAStartedCursor(t *testing.T) {
	s := walkedStore()
	cases := []struct {
		r             impl.KeyRange
		at            impl.Key
		ahead, behind []int
	}{
		{impl.KeyRange{}, numberKey(30), []int{3, 4}, []int{1, 0}}, {impl.KeyRange{}, numberKey(25), []int{2, 3, 4}, []int{1, 0}}, {impl.KeyRange{}, numberKey(10), []int{1, 2, 3, 4}, nil},
		{impl.KeyRange{}, numberKey(0), []int{0, 1, 2, 3, 4}, nil}, {impl.KeyRange{}, pairKey(5, "x"), nil, []int{3, 2, 1, 0}}, {impl.KeyRange{}, pairKey(9, ""), nil, []int{4, 3, 2, 1, 0}}, {impl.KeyRange{}, impl.Key{}, nil, nil},
		{between(numberKey(20), textKey("m")), numberKey(30), []int{3}, []int{1}}, {between(numberKey(20), textKey("m")), numberKey(20), []int{2, 3}, nil}, {between(numberKey(20), textKey("m")), numberKey(5), []int{1, 2, 3}, nil}, {between(numberKey(20), textKey("m")), pairKey(5, "x"), nil, []int{3, 2, 1}},
		{atLeast(numberKey(21)), textKey("m"), []int{4}, []int{2}}, {atMost(numberKey(29)), numberKey(15), []int{1}, []int{0}}, {between(numberKey(30), numberKey(20)), numberKey(10), nil, nil}, {between(numberKey(30), numberKey(20)), textKey("m"), nil, nil},
	}
	for _, c := range cases {
		checkWalk(t, s, impl.Cursor{Range: c.r, Started: true, At: c.at}, itemsAt(s, c.ahead...))
		checkWalk(t, s, impl.Cursor{Range: c.r, Backward: true, Started: true, At: c.at}, itemsAt(s, c.behind...))
	}
}

// TestWalkingBackwardsIsTheOpposite walks through valid stores in every range, where the items of the range are known.
func TestWalkingBackwardsIsTheOpposite(t *testing.T) {
	none, one, more := 0, 0, 0
	for _, s := range validStores() {
		for _, r := range keyRanges() {
			in, _ := wantParts(s, r)
			checkBothWalks(t, s, r, in)
			switch len(in) {
			case 0:
				none++
			case 1:
				one++
			default:
				more++
			}
		}
	}
	if none < 1000 || one < 1000 || more < 1000 {
		t.Errorf("the ranges have no items %d times, one %d times and more %d times", none, one, more)
	}
}

// TestWalkingTurnsRound goes forward to each item of a range, and back from there.
func TestWalkingTurnsRound(t *testing.T) {
	for _, s := range []impl.Store{walkedStore(), storeOfCount(maxItems), storeOfKeys(0, mixedKeys...)} {
		for _, r := range keyRanges() {
			in, _ := wantParts(s, r)
			x := impl.Cursor{Range: r}
			for i := range in {
				x, _, _ = impl.CursorNext(s, x)
				checkWalk(t, s, x, in[i+1:])
				back := x
				back.Backward = true
				checkWalk(t, s, back, reversed(in[:i]))
			}
			if _, _, ok := impl.CursorNext(s, x); ok {
				t.Errorf("CursorNext(%v, %+v) goes on behind the last item", s, x)
			}
		}
	}
}

func TestWalkStoreOfManyItems(t *testing.T) {
	full := storeOfCount(maxItems)
	checkBothWalks(t, full, impl.KeyRange{}, full.Items)
	checkBothWalks(t, full, between(numberKey(10), numberKey(160)), full.Items)
	for _, count := range []int{maxItems + 1, maxItems + 2, 2 * maxItems, 2*maxItems + 1, 100} {
		many := storeOfCount(count)
		checkWalk(t, many, impl.Cursor{}, many.Items[:16])
		checkWalk(t, many, impl.Cursor{Backward: true}, reversed(many.Items[count-16:]))
		checkWalk(t, many, impl.Cursor{Started: true, At: numberKey(10)}, many.Items[1:17])
		checkWalk(t, many, impl.Cursor{Backward: true, Started: true, At: numberKey(10 * count)}, reversed(many.Items[count-17:count-1]))
		checkWalk(t, many, impl.Cursor{Started: true, At: numberKey(10 * (count - 3))}, many.Items[count-3:])
		checkBothWalks(t, many, between(numberKey(20), numberKey(170)), many.Items[1:17])
	}
}

func TestWalkStoreOfInvalidStores(t *testing.T) {
	bad := impl.Key{Kind: 9}
	cases := []struct {
		keys        []impl.Key
		forth, back []int
	}{
		{[]impl.Key{numberKey(1), numberKey(1), numberKey(2), numberKey(2)}, []int{0, 2}, []int{3, 1}},
		{slices.Repeat([]impl.Key{numberKey(1)}, 40), []int{0}, []int{39}},
		{[]impl.Key{numberKey(3), numberKey(1), numberKey(2)}, []int{0}, []int{2, 1}},
		{[]impl.Key{numberKey(2), numberKey(3), numberKey(1)}, []int{0, 1}, []int{2}},
		{[]impl.Key{numberKey(1), numberKey(3), numberKey(2), numberKey(4), numberKey(0)}, []int{0, 1, 3}, []int{4}},
		{[]impl.Key{numberKey(1), bad, numberKey(2), textKey("A"), {}}, []int{0, 2}, []int{2, 0}},
		{[]impl.Key{bad, {}, textKey("A")}, nil, nil},
	}
	for _, c := range cases {
		s := storeOfKeys(-1, c.keys...)
		checkWalk(t, s, impl.Cursor{}, itemsAt(s, c.forth...))
		checkWalk(t, s, impl.Cursor{Backward: true}, itemsAt(s, c.back...))
	}
}

// wantWalk goes on with wantNext until there is no item, but not beyond 16 of them.
func wantWalk(s impl.Store, x impl.Cursor) []impl.Item {
	items := []impl.Item{}
	for at := wantNext(s, x); at >= 0 && len(items) < 16; at = wantNext(s, x) {
		items = append(items, s.Items[at])
		x.Started, x.At = true, s.Items[at].Key
	}
	return items
}

func TestWalkStoreOfManyStores(t *testing.T) {
	r := rand.New(rand.NewPCG(8, 8))
	ranges := keyRanges()
	for range 2000 {
		for _, s := range []impl.Store{randomStore(r, maxItems, true), randomStore(r, 44, false)} {
			for _, x := range someCursors(ranges[r.IntN(len(ranges))]) {
				checkWalk(t, s, x, wantWalk(s, x))
			}
		}
	}
	for _, s := range append(someStores(), invalidStores()...) {
		for _, x := range someCursors(ranges[r.IntN(len(ranges))]) {
			checkWalk(t, s, x, wantWalk(s, x))
		}
		for _, x := range someCursors(impl.KeyRange{}) {
			checkWalk(t, s, x, wantWalk(s, x))
		}
	}
}

func TestIndexResultsAreFresh(t *testing.T) {
	ranges := []impl.KeyRange{{}, atLeast(numberKey(2)), atMost(textKey("x")), between(textKey("a"), numberKey(1))}
	for _, s := range slices.Concat(validStores(), invalidStores(), someStores()) {
		for _, name := range []string{"a", "n", "q"} {
			checkStoreResult(t, fmt.Sprintf("IndexOn(%v, %q)", s, name), s, record(), func(s impl.Store, _ impl.Record) []impl.Item {
				return impl.IndexOn(s, name)
			})
			for _, n := range []int{0, 1, 10} {
				checkStoreResult(t, fmt.Sprintf("ItemsWith(%v, %q, %d)", s, name, n), s, record(), func(s impl.Store, _ impl.Record) []impl.Item {
					return impl.ItemsWith(s, name, n)
				})
			}
		}
		for _, r := range ranges {
			for _, x := range []impl.Cursor{{Range: r}, {Range: r, Backward: true}, {Range: r, Started: true, At: numberKey(3)}, {Range: r, Backward: true, Started: true, At: pairKey(1, "")}} {
				checkStoreResult(t, fmt.Sprintf("CursorNext(%v, %+v)", s, x), s, record(), func(s impl.Store, _ impl.Record) []impl.Item {
					_, found, _ := impl.CursorNext(s, x)
					return []impl.Item{found}
				})
				checkStoreResult(t, fmt.Sprintf("WalkStore(%v, %+v)", s, x), s, record(), func(s impl.Store, _ impl.Record) []impl.Item {
					return impl.WalkStore(s, x)
				})
			}
		}
	}
}

func TestReadingIndexesChangesNothing(t *testing.T) {
	for _, s := range slices.Concat(validStores(), invalidStores(), someStores()) {
		arg := guardStore(s)
		for _, name := range []string{"a", "n", "q", ""} {
			impl.UniqueFault(arg.store, name)
			for _, n := range []int{-1, 0, 1, 10} {
				impl.CountWith(arg.store, name, n)
			}
		}
		arg.check(t, "UniqueFault or CountWith")
	}
}
