package tests

import (
	"cmp"
	"fmt"
	"math"
	"slices"
	"testing"
	"unsafe"

	"loop.example/g00583/impl"
)

// Promise 6: an item that was put is found in its place (chapter 6).

const (
	maxItems = 16
	maxAuto  = 1000000
)

func TestStoreConstants(t *testing.T) {
	got := []int{impl.MaxItems, impl.MaxAuto}
	if want := []int{maxItems, maxAuto}; !slices.Equal(got, want) {
		t.Errorf("the constants of stores are %v, want %v", got, want)
	}
}

func item(k impl.Key, fields ...impl.Field) impl.Item {
	return impl.Item{Key: k, Record: record(fields...)}
}

func store(auto int, items ...impl.Item) impl.Store {
	return impl.Store{Name: "notes", Items: items, Auto: auto}
}

// storeOfKeys has another record under each key: its fields are as many as its index modulo 7.
func storeOfKeys(auto int, keys ...impl.Key) impl.Store {
	s := store(auto)
	for i, k := range keys {
		s.Items = append(s.Items, impl.Item{Key: k, Record: recordOfFirst(i % (maxFields + 1))})
	}
	return s
}

// storeOfCount has the number keys 10, 20 and so on.
func storeOfCount(count int) impl.Store {
	s := store(500)
	for i := range count {
		s.Items = append(s.Items, item(numberKey(10*(i+1)), field("n", i)))
	}
	return s
}

func cloneItems(items []impl.Item) []impl.Item {
	clones := []impl.Item{}
	for _, x := range items {
		clones = append(clones, impl.Item{Key: x.Key, Record: record(append([]impl.Field{}, x.Record.Fields...)...)})
	}
	return clones
}

func cloneStore(s impl.Store) impl.Store {
	return impl.Store{Name: s.Name, Items: cloneItems(s.Items), Auto: s.Auto}
}

// withItemAt has one more item, whether or not it is in order there.
func withItemAt(s impl.Store, at int, x impl.Item) impl.Store {
	with := cloneStore(s)
	with.Items = slices.Insert(with.Items, at, x)
	return with
}

func withoutItemAt(s impl.Store, at int) impl.Store {
	without := cloneStore(s)
	without.Items = slices.Delete(without.Items, at, at+1)
	return without
}

func withRecordAt(s impl.Store, at int, r impl.Record) impl.Store {
	with := cloneStore(s)
	with.Items[at].Record = r
	return with
}

func withAuto(s impl.Store, auto int) impl.Store {
	with := cloneStore(s)
	with.Auto = auto
	return with
}

func withName(s impl.Store, name string) impl.Store {
	with := cloneStore(s)
	with.Name = name
	return with
}

func sameItem(a impl.Item, b impl.Item) bool {
	return a.Key == b.Key && sameRecord(a.Record, b.Record)
}

// sameStore compares stores without the functions of the package.
func sameStore(a impl.Store, b impl.Store) bool {
	return a.Name == b.Name && a.Auto == b.Auto && slices.EqualFunc(a.Items, b.Items, sameItem)
}

// orderOfKeys compares valid keys without the functions of the package.
func orderOfKeys(a impl.Key, b impl.Key) int {
	return cmp.Or(cmp.Compare(a.Kind, b.Kind), cmp.Compare(a.N, b.N), cmp.Compare(a.Text, b.Text))
}

// mixedKeys are all three kinds, as many as a store holds, in ascending order.
var mixedKeys = []impl.Key{
	numberKey(-maxNumber), numberKey(-3), numberKey(0), numberKey(7), numberKey(300), numberKey(maxNumber),
	textKey(""), textKey("0"), textKey("a"), textKey("ab"), textKey("zzzzzzzzzzzz"),
	pairKey(-maxNumber, "z"), pairKey(7, ""), pairKey(7, "a"), pairKey(8, ""), pairKey(maxNumber, "zzzzzzzzzzzz"),
}

func validStores() []impl.Store {
	stores := []impl.Store{
		{Name: "a"}, {Name: "zzzzzzzz", Items: []impl.Item{}}, {Name: "abcdefgh", Auto: maxAuto}, store(0), store(1), store(maxAuto - 1),
		store(0, item(numberKey(5))), store(9, item(numberKey(5), field("a", 1))), store(0, item(textKey("x"), field("b", 2))),
		store(3, item(pairKey(3, "x"), field("a", maxField), field("zzzzzzzz", 0))), store(maxAuto, item(numberKey(maxAuto)), item(numberKey(maxAuto+1))),
		store(7, item(numberKey(1), field("a", 1)), item(numberKey(7), field("a", 1)), item(textKey("x"))),
		storeOfKeys(0, mixedKeys...), storeOfKeys(maxAuto, mixedKeys...), storeOfKeys(6, mixedKeys[3:12]...), storeOfKeys(7, mixedKeys[5:8]...),
	}
	for count := range maxItems + 1 {
		stores = append(stores, storeOfCount(count))
	}
	return stores
}

var badAutos = []int{-1, -2, -maxAuto, math.MinInt, math.MinInt + 1, maxAuto + 1, maxAuto + 2, 1 << 31, 1 << 32, maxNumber, math.MaxInt - 1, math.MaxInt}

// someInvalidKeys and someInvalidRecords are few enough to be tried at many places.
func someInvalidKeys() []impl.Key {
	return []impl.Key{
		{}, {Kind: 4}, {Kind: -1, N: 7}, numberKey(maxNumber + 1), numberKey(-maxNumber - 1), numberKey(math.MinInt), {Kind: impl.KeyNumber, N: 5, Text: "a"},
		textKey("aaaaaaaaaaaaa"), textKey("A"), {Kind: impl.KeyText, N: 1}, pairKey(maxNumber+1, "a"), pairKey(0, "a b"),
	}
}

func someInvalidRecords() []impl.Record {
	return []impl.Record{
		record(field("b", 1), field("a", 2)), record(field("a", 1), field("a", 1)), record(field("", 1)), record(field("A", 1)), record(field("abcdefghi", 1)),
		record(field("a", -1)), record(field("a", maxField+1)), recordOfFirst(maxFields + 1),
	}
}

func invalidStores() []impl.Store {
	full, few := storeOfCount(maxItems), storeOfKeys(7, numberKey(1), numberKey(7), textKey("x"))
	stores := []impl.Store{
		{}, {Auto: 5}, {Items: []impl.Item{item(numberKey(1))}},
		withItemAt(full, maxItems, item(numberKey(1000))), withItemAt(full, 0, item(numberKey(1))), withItemAt(withItemAt(full, 0, item(numberKey(1))), 0, item(numberKey(0))),
		storeOfKeys(7, slices.Repeat([]impl.Key{numberKey(1)}, 40)...),
		storeOfKeys(7, numberKey(7), numberKey(1)), storeOfKeys(7, textKey("x"), numberKey(1)), storeOfKeys(7, pairKey(1, ""), textKey("x")), storeOfKeys(7, pairKey(1, ""), numberKey(1)),
		storeOfKeys(7, textKey("b"), textKey("ab")), storeOfKeys(7, textKey("ab"), textKey("a")), storeOfKeys(7, pairKey(2, "a"), pairKey(1, "b")), storeOfKeys(7, pairKey(1, "b"), pairKey(1, "a")),
		storeOfKeys(7, numberKey(1), numberKey(1)), storeOfKeys(7, textKey("x"), textKey("x")), storeOfKeys(7, pairKey(1, "x"), pairKey(1, "x")),
		storeOfKeys(7, numberKey(1), numberKey(2), numberKey(2), numberKey(3)), storeOfKeys(7, numberKey(1), numberKey(2), numberKey(1)), storeOfKeys(7, numberKey(3), numberKey(2), numberKey(1)),
	}
	for _, name := range []string{"", "abcdefghi", "A", "a1", "a b", "é", "\x00", "a'"} {
		stores = append(stores, withName(few, name), withName(full, name))
	}
	for _, auto := range badAutos {
		stores = append(stores, store(auto), withAuto(few, auto), withAuto(full, auto))
	}
	for at := range few.Items {
		for _, k := range someInvalidKeys() {
			stores = append(stores, withItemAt(withoutItemAt(few, at), at, item(k, field("a", 1))))
		}
		for _, r := range someInvalidRecords() {
			stores = append(stores, withRecordAt(few, at, r))
		}
	}
	return stores
}

func TestIsStore(t *testing.T) {
	for _, s := range validStores() {
		if !impl.IsStore(s) {
			t.Errorf("IsStore(%v) = false", s)
		}
	}
	for _, s := range invalidStores() {
		if impl.IsStore(s) {
			t.Errorf("IsStore(%v) = true", s)
		}
	}
	for _, name := range badNames() {
		if impl.IsStore(impl.Store{Name: name}) {
			t.Errorf("IsStore of the name %q = true", name)
		}
	}
}

func TestIsStoreOfEachCount(t *testing.T) {
	for count := range 2*maxItems + 4 {
		if got, want := impl.IsStore(storeOfCount(count)), count <= 16; got != want {
			t.Errorf("IsStore of %d items = %t", count, got)
		}
	}
}

func TestIsStoreOfEachAuto(t *testing.T) {
	for _, s := range []impl.Store{store(0), store(0, item(numberKey(5))), storeOfKeys(0, mixedKeys...)} {
		// The greatest number of a store may be beyond Auto, and Auto beyond that number.
		for _, auto := range []int{0, 1, 4, 5, 6, maxAuto - 1, maxAuto} {
			if !impl.IsStore(withAuto(s, auto)) {
				t.Errorf("IsStore(%v) = false", withAuto(s, auto))
			}
		}
		for _, auto := range badAutos {
			if impl.IsStore(withAuto(s, auto)) {
				t.Errorf("IsStore(%v) = true", withAuto(s, auto))
			}
		}
	}
}

func TestIsStoreOfEachPlace(t *testing.T) {
	full := storeOfKeys(7, mixedKeys...)
	for i := range mixedKeys {
		for j, k := range mixedKeys {
			s := cloneStore(full)
			s.Items[i].Key = k
			if got, want := impl.IsStore(s), i == j; got != want {
				t.Errorf("IsStore(%v) = %t", s, got)
			}
		}
		for _, k := range someInvalidKeys() {
			s := cloneStore(full)
			s.Items[i].Key = k
			if impl.IsStore(s) {
				t.Errorf("IsStore(%v) = true", s)
			}
		}
		for _, r := range someInvalidRecords() {
			if s := withRecordAt(full, i, r); impl.IsStore(s) {
				t.Errorf("IsStore(%v) = true", s)
			}
		}
	}
}

func TestIsStoreOfEachInvalidKeyAndRecord(t *testing.T) {
	for _, k := range invalidKeys() {
		if s := store(7, item(k)); impl.IsStore(s) {
			t.Errorf("IsStore(%v) = true", s)
		}
	}
	for _, r := range invalidRecords() {
		if s := store(7, impl.Item{Key: numberKey(1), Record: r}); impl.IsStore(s) {
			t.Errorf("IsStore(%v) = true", s)
		}
	}
}

func checkFind(t *testing.T, s impl.Store, k impl.Key, want int) {
	t.Helper()
	if got := impl.FindItem(s, k); got != want {
		t.Errorf("FindItem(%v, %v) = %d, want %d", s, k, got, want)
	}
}

func TestFindItem(t *testing.T) {
	for count := range len(mixedKeys) + 1 {
		s := storeOfKeys(7, mixedKeys[:count]...)
		for i, k := range mixedKeys {
			if i < count {
				checkFind(t, s, k, i)
			} else {
				checkFind(t, s, k, -1)
			}
		}
		// Each of these differs from a key of the store in one of its three parts, or in none that is valid.
		for _, k := range []impl.Key{
			numberKey(-4), numberKey(-2), numberKey(1), numberKey(6), numberKey(8), numberKey(maxNumber - 1), textKey("b"), textKey("00"), textKey("aba"), textKey("zzzzzzzzzzz"),
			pairKey(0, ""), pairKey(-3, ""), pairKey(7, "b"), pairKey(8, "a"), pairKey(0, "a"), pairKey(maxNumber, "zzzzzzzzzzzy"),
		} {
			checkFind(t, s, k, -1)
		}
		for _, k := range someInvalidKeys() {
			checkFind(t, s, k, -1)
		}
	}
	for _, k := range invalidKeys() {
		checkFind(t, storeOfKeys(7, mixedKeys...), k, -1)
	}
}

func TestFindItemOfInvalidStores(t *testing.T) {
	checkFind(t, impl.Store{}, numberKey(0), -1)
	checkFind(t, impl.Store{}, impl.Key{}, -1)
	checkFind(t, storeOfKeys(7, numberKey(3), numberKey(1), textKey("a"), numberKey(2)), numberKey(2), 3)
	checkFind(t, storeOfKeys(7, numberKey(3), numberKey(1), textKey("a"), numberKey(2)), numberKey(1), 1)
	checkFind(t, storeOfKeys(7, numberKey(3), numberKey(1), textKey("a"), numberKey(2)), numberKey(4), -1)
	checkFind(t, storeOfKeys(7, numberKey(2), numberKey(1), numberKey(1), numberKey(2)), numberKey(1), 1)
	checkFind(t, storeOfKeys(7, numberKey(2), numberKey(1), numberKey(1), numberKey(2)), numberKey(2), 0)
	checkFind(t, storeOfKeys(-1, mixedKeys...), mixedKeys[9], 9)
	checkFind(t, withName(storeOfKeys(7, mixedKeys...), ""), mixedKeys[15], 15)
	checkFind(t, withItemAt(storeOfCount(maxItems), maxItems, item(numberKey(1000))), numberKey(1000), 16)
	checkFind(t, store(7, impl.Item{Key: numberKey(1), Record: record(field("", -1))}), numberKey(1), 0)
	// An invalid key is not the key of the items beside it, but it is that of its own item.
	bad := impl.Key{Kind: 9, N: 1}
	checkFind(t, storeOfKeys(7, numberKey(1), bad, numberKey(2)), bad, 1)
	checkFind(t, storeOfKeys(7, numberKey(1), bad, numberKey(2)), numberKey(2), 2)
	checkFind(t, storeOfKeys(7, bad), numberKey(1), -1)
	checkFind(t, storeOfKeys(7, bad), impl.Key{Kind: 9, N: 2}, -1)
}

// checkStore compares a result of PutItem, AddItem or AutoItem.
func checkStore(t *testing.T, what string, got impl.Store, ok bool, want impl.Store, fine bool) {
	t.Helper()
	if !sameStore(got, want) || ok != fine {
		t.Errorf("%s = %v, %t, want %v, %t", what, got, ok, want, fine)
	}
}

func checkPut(t *testing.T, s impl.Store, k impl.Key, r impl.Record, want impl.Store, fine bool) {
	t.Helper()
	got, ok := impl.PutItem(s, k, r)
	checkStore(t, fmt.Sprintf("PutItem(%v, %v, %v)", s, k, r), got, ok, want, fine)
}

func checkAdd(t *testing.T, s impl.Store, k impl.Key, r impl.Record, want impl.Store, fine bool) {
	t.Helper()
	got, ok := impl.AddItem(s, k, r)
	checkStore(t, fmt.Sprintf("AddItem(%v, %v, %v)", s, k, r), got, ok, want, fine)
}

// checkInserted is for a key that the store does not have, where PutItem and AddItem do the same.
func checkInserted(t *testing.T, s impl.Store, k impl.Key, r impl.Record, want impl.Store) {
	t.Helper()
	checkPut(t, s, k, r, want, true)
	checkAdd(t, s, k, r, want, true)
}

// checkNeither is for what PutItem and AddItem both reject.
func checkNeither(t *testing.T, s impl.Store, k impl.Key, r impl.Record) {
	t.Helper()
	checkPut(t, s, k, r, s, false)
	checkAdd(t, s, k, r, s, false)
}

func TestPutItemExamples(t *testing.T) {
	a, b, c, r := field("a", 1), field("b", 2), field("c", 3), record(field("n", 9))
	s := store(50, item(numberKey(10), a), item(numberKey(20), b), item(textKey("m"), c))
	n := func(k impl.Key) impl.Item {
		return item(k, field("n", 9))
	}
	checkInserted(t, s, numberKey(-1), r, store(50, n(numberKey(-1)), s.Items[0], s.Items[1], s.Items[2]))
	checkInserted(t, s, numberKey(9), r, store(50, n(numberKey(9)), s.Items[0], s.Items[1], s.Items[2]))
	checkInserted(t, s, numberKey(15), r, store(50, s.Items[0], n(numberKey(15)), s.Items[1], s.Items[2]))
	checkInserted(t, s, numberKey(30), r, store(50, s.Items[0], s.Items[1], n(numberKey(30)), s.Items[2]))
	checkInserted(t, s, textKey("a"), r, store(50, s.Items[0], s.Items[1], n(textKey("a")), s.Items[2]))
	checkInserted(t, s, textKey("ma"), r, store(50, s.Items[0], s.Items[1], s.Items[2], n(textKey("ma"))))
	checkInserted(t, s, pairKey(0, ""), r, store(50, s.Items[0], s.Items[1], s.Items[2], n(pairKey(0, ""))))
	checkPut(t, s, numberKey(10), r, store(50, n(numberKey(10)), s.Items[1], s.Items[2]), true)
	checkPut(t, s, numberKey(20), r, store(50, s.Items[0], n(numberKey(20)), s.Items[2]), true)
	checkPut(t, s, textKey("m"), r, store(50, s.Items[0], s.Items[1], n(textKey("m"))), true)
	checkPut(t, s, textKey("m"), record(), store(50, s.Items[0], s.Items[1], item(textKey("m"))), true)
	checkInserted(t, store(0), numberKey(1), r, store(1, n(numberKey(1))))
}

// TestPutItemAtEachPlace takes one of the keys of a store out and puts it back.
func TestPutItemAtEachPlace(t *testing.T) {
	for count := range len(mixedKeys) + 1 {
		whole := storeOfKeys(maxAuto, mixedKeys[:count]...)
		for at, x := range whole.Items {
			checkInserted(t, withoutItemAt(whole, at), x.Key, x.Record, whole)
			got, _ := impl.PutItem(withoutItemAt(whole, at), x.Key, x.Record)
			checkFind(t, got, x.Key, at)
		}
	}
}

// TestPutItemReplaces also takes full stores, and stores with an Auto below the number that is replaced.
func TestPutItemReplaces(t *testing.T) {
	for _, s := range validStores() {
		for at, x := range s.Items {
			for _, r := range validRecords() {
				for _, auto := range []int{0, s.Auto, maxAuto} {
					from := withAuto(s, auto)
					checkPut(t, from, x.Key, r, withRecordAt(from, at, r), true)
					checkAdd(t, from, x.Key, r, from, false)
				}
			}
			for _, r := range someInvalidRecords() {
				checkNeither(t, s, x.Key, r)
			}
		}
	}
}

func TestPutItemOfEachCount(t *testing.T) {
	for count := range maxItems + 1 {
		s := storeOfCount(count)
		for _, k := range []impl.Key{numberKey(0), numberKey(15), numberKey(1000), numberKey(maxAuto), textKey("x"), pairKey(10, "")} {
			if count == maxItems {
				checkNeither(t, s, k, record(field("a", 1)))
				continue
			}
			_, ok := impl.PutItem(s, k, record(field("a", 1)))
			_, also := impl.AddItem(s, k, record(field("a", 1)))
			if !ok || !also {
				t.Errorf("PutItem, AddItem(%v, %v) = %t, %t", s, k, ok, also)
			}
		}
	}
}

func TestPutItemRejects(t *testing.T) {
	r := record(field("a", 1))
	for _, s := range []impl.Store{store(0), store(7, item(numberKey(5), field("a", 1)), item(textKey("b"))), storeOfCount(maxItems - 1), storeOfCount(maxItems)} {
		for _, k := range invalidKeys() {
			checkNeither(t, s, k, r)
		}
		for _, bad := range someInvalidRecords() {
			for _, k := range append(someInvalidKeys(), numberKey(s.Auto+1), numberKey(-1), textKey("q"), textKey("b"), pairKey(5, "q")) {
				checkNeither(t, s, k, bad)
			}
		}
	}
	for _, bad := range invalidRecords() {
		checkNeither(t, store(7, item(numberKey(5))), numberKey(9), bad)
		checkPut(t, store(7, item(numberKey(5))), numberKey(5), bad, store(7, item(numberKey(5))), false)
	}
	for _, s := range invalidStores() {
		for _, k := range append(someInvalidKeys(), append(slices.Clone(mixedKeys), numberKey(1), numberKey(2), textKey("x"), pairKey(1, "x"))...) {
			checkNeither(t, s, k, r)
		}
	}
}

// TestPutItemMendsNothing puts what would make an invalid store valid.
func TestPutItemMendsNothing(t *testing.T) {
	for _, bad := range someInvalidRecords() {
		checkNeither(t, store(7, impl.Item{Key: numberKey(1), Record: bad}), numberKey(1), record())
	}
	for _, auto := range badAutos {
		checkNeither(t, store(auto), numberKey(5), record())
		checkNeither(t, store(auto), numberKey(maxAuto), record())
	}
}

// wantAuto is the Auto of a store after an item with a new key.
func wantAuto(auto int, k impl.Key) int {
	if k.Kind == impl.KeyNumber && k.N > auto && k.N <= 1000000 {
		return k.N
	}
	return auto
}

func TestAutoOfNumbers(t *testing.T) {
	cases := []struct{ auto, n, want int }{
		{0, 0, 0}, {0, 1, 1}, {0, 2, 2}, {0, -1, 0}, {0, -maxNumber, 0},
		{5, 3, 5}, {5, 4, 5}, {5, 5, 5}, {5, 6, 6}, {5, 7, 7}, {5, 300, 300}, {5, -6, 5}, {5, -300, 5}, {5, 0, 5},
		{5, maxAuto - 1, maxAuto - 1}, {5, maxAuto, maxAuto}, {5, maxAuto + 1, 5}, {5, maxAuto + 2, 5}, {5, maxNumber, 5},
		{0, maxAuto, maxAuto}, {0, maxAuto + 1, 0}, {0, maxNumber, 0},
		{maxAuto - 1, maxAuto - 1, maxAuto - 1}, {maxAuto - 1, maxAuto, maxAuto}, {maxAuto - 1, maxAuto + 1, maxAuto - 1},
		{maxAuto, 1, maxAuto}, {maxAuto, maxAuto, maxAuto}, {maxAuto, maxAuto + 1, maxAuto}, {maxAuto, maxNumber, maxAuto},
	}
	for _, c := range cases {
		checkInserted(t, store(c.auto), numberKey(c.n), record(field("a", 1)), store(c.want, item(numberKey(c.n), field("a", 1))))
		checkInserted(t, store(c.auto, item(textKey("x"))), numberKey(c.n), record(), store(c.want, item(numberKey(c.n)), item(textKey("x"))))
		// The keys of the other kinds have no number of their own, or one that does not count.
		checkInserted(t, store(c.auto), pairKey(c.n, ""), record(), store(c.auto, item(pairKey(c.n, ""))))
		checkInserted(t, store(c.auto), pairKey(c.n, "x"), record(), store(c.auto, item(pairKey(c.n, "x"))))
		checkInserted(t, store(c.auto), textKey("7"), record(), store(c.auto, item(textKey("7"))))
		// A number that is replaced does not count either.
		checkPut(t, store(c.auto, item(numberKey(c.n))), numberKey(c.n), record(field("a", 1)), store(c.auto, item(numberKey(c.n), field("a", 1))), true)
	}
}

func TestAutoOfRejectedNumbers(t *testing.T) {
	checkNeither(t, store(5), numberKey(6), record(field("a", -1)))
	checkNeither(t, withAuto(storeOfCount(maxItems), 5), numberKey(6), record())
	checkNeither(t, store(5), impl.Key{Kind: impl.KeyNumber, N: 6, Text: "a"}, record())
	checkAdd(t, store(5, item(numberKey(6))), numberKey(6), record(), store(5, item(numberKey(6))), false)
}

func checkAuto(t *testing.T, s impl.Store, r impl.Record, want impl.Store, k impl.Key, fine bool) {
	t.Helper()
	got, given, ok := impl.AutoItem(s, r)
	what := fmt.Sprintf("AutoItem(%v, %v)", s, r)
	checkStore(t, what, got, ok, want, fine)
	if given != k {
		t.Errorf("%s gives the key %v, want %v", what, given, k)
	}
}

func checkNoAuto(t *testing.T, s impl.Store, r impl.Record) {
	t.Helper()
	checkAuto(t, s, r, s, impl.Key{}, false)
}

func TestAutoItem(t *testing.T) {
	r, a := record(field("a", 1)), field("a", 1)
	for _, auto := range []int{0, 1, 5, 126, 255, maxAuto - 2, maxAuto - 1} {
		k := numberKey(auto + 1)
		checkAuto(t, store(auto), r, store(auto+1, item(k, a)), k, true)
		checkAuto(t, store(auto, item(textKey("x"))), r, store(auto+1, item(k, a), item(textKey("x"))), k, true)
		checkAuto(t, store(auto, item(pairKey(auto+1, ""))), record(), store(auto+1, item(k), item(pairKey(auto+1, ""))), k, true)
		checkAuto(t, store(auto, item(numberKey(auto))), r, store(auto+1, item(numberKey(auto)), item(k, a)), k, true)
		// Numbers beyond Auto stand behind the new one, and those beyond MaxAuto leave automatic keys to give.
		checkAuto(t, store(auto, item(numberKey(auto+2))), r, store(auto+1, item(k, a), item(numberKey(auto+2))), k, true)
		checkAuto(t, store(auto, item(numberKey(maxAuto+1)), item(numberKey(maxNumber))), r, store(auto+1, item(k, a), item(numberKey(maxAuto+1)), item(numberKey(maxNumber))), k, true)
	}
}

func TestAutoItemRejects(t *testing.T) {
	r := record(field("a", 1))
	for _, auto := range []int{0, 5, maxAuto - 1} {
		checkNoAuto(t, store(auto, item(numberKey(auto+1))), r)
		checkNoAuto(t, store(auto, item(numberKey(auto+1)), item(textKey("x"))), record())
		checkNoAuto(t, withAuto(storeOfCount(maxItems), auto), r)
		for _, bad := range someInvalidRecords() {
			checkNoAuto(t, store(auto), bad)
		}
	}
	for _, s := range []impl.Store{store(maxAuto), store(maxAuto, item(numberKey(maxAuto))), store(maxAuto, item(numberKey(5))), store(maxAuto, item(numberKey(maxAuto+1))), withAuto(storeOfCount(maxItems), maxAuto)} {
		checkNoAuto(t, s, r)
	}
	for _, bad := range invalidRecords() {
		checkNoAuto(t, store(5), bad)
	}
	for _, s := range invalidStores() {
		checkNoAuto(t, s, r)
		checkNoAuto(t, s, record(field("a", -1)))
	}
}

// TestAutoItemAfterItem puts, replaces and deletes numbers between automatic keys: a number is never given twice.
func TestAutoItemAfterItem(t *testing.T) {
	give := func(s impl.Store, want int) impl.Store {
		t.Helper()
		next, k, ok := impl.AutoItem(s, record())
		if !ok || k != numberKey(want) || next.Auto != want {
			t.Fatalf("AutoItem(%v) = %v, %v, %t, want the number %d", s, next, k, ok, want)
		}
		return next
	}
	put := func(s impl.Store, k impl.Key) impl.Store {
		t.Helper()
		next, ok := impl.PutItem(s, k, record())
		if !ok {
			t.Fatalf("PutItem(%v, %v) = false", s, k)
		}
		return next
	}
	s := give(give(store(0), 1), 2)
	s = give(put(s, numberKey(7)), 8)
	s = give(put(put(s, pairKey(90, "")), textKey("99")), 9)
	s = give(put(put(s, numberKey(-50)), numberKey(7)), 10)
	s = give(put(put(s, numberKey(maxAuto+1)), numberKey(maxNumber)), 11)
	s, n := impl.DeleteItems(s, impl.KeyRange{HasLow: true, Low: numberKey(3)})
	if n != 9 {
		t.Errorf("DeleteItems removes %d items, want 9", n)
	}
	s = give(s, 12)
	s = give(put(s, numberKey(maxAuto-1)), maxAuto)
	checkNoAuto(t, s, record())
	s, _ = impl.DeleteItems(s, impl.KeyRange{})
	checkNoAuto(t, s, record())
}

func TestAutoItemFillsAStore(t *testing.T) {
	s, want := store(0), store(0)
	for i := range maxItems {
		want = withAuto(withItemAt(want, i, item(numberKey(i+1), field("n", i))), i+1)
		checkAuto(t, s, record(field("n", i)), want, numberKey(i+1), true)
		s = cloneStore(want)
	}
	checkNoAuto(t, s, record())
}

// keyRanges have none, one or both bounds; some have an invalid bound, also one that is not set.
func keyRanges() []impl.KeyRange {
	bounds := []impl.Key{
		numberKey(-maxNumber), numberKey(-3), numberKey(1), numberKey(7), numberKey(45), numberKey(160), numberKey(maxNumber),
		textKey(""), textKey("a"), textKey("b"), pairKey(-maxNumber, ""), pairKey(7, ""), pairKey(7, "a"), pairKey(maxNumber, "zzzzzzzzzzzz"),
		{}, numberKey(maxNumber + 1), textKey("A"),
	}
	ranges := []impl.KeyRange{{}}
	for _, low := range bounds {
		ranges = append(ranges, impl.KeyRange{HasLow: true, Low: low}, impl.KeyRange{HasHigh: true, High: low}, impl.KeyRange{Low: low, High: low})
		for _, high := range bounds {
			ranges = append(ranges, impl.KeyRange{HasLow: true, HasHigh: true, Low: low, High: high}, impl.KeyRange{HasLow: true, Low: low, High: high}, impl.KeyRange{HasHigh: true, Low: low, High: high})
		}
	}
	return ranges
}

// wantInRange uses IsKey, which the tests of chapter 4 check, and the order of this file.
func wantInRange(k impl.Key, r impl.KeyRange) bool {
	if !impl.IsKey(k) || r.HasLow && !impl.IsKey(r.Low) || r.HasHigh && !impl.IsKey(r.High) {
		return false
	}
	return !(r.HasLow && orderOfKeys(k, r.Low) < 0) && !(r.HasHigh && orderOfKeys(k, r.High) > 0)
}

// wantParts are the items in the range and those that are not, as they stand in the store.
func wantParts(s impl.Store, r impl.KeyRange) ([]impl.Item, []impl.Item) {
	in, out := []impl.Item{}, []impl.Item{}
	for _, x := range s.Items {
		if wantInRange(x.Key, r) {
			in = append(in, x)
		} else {
			out = append(out, x)
		}
	}
	return in, out
}

func checkItemsIn(t *testing.T, s impl.Store, r impl.KeyRange, want []impl.Item) {
	t.Helper()
	if got := impl.ItemsIn(s, r); !slices.EqualFunc(got, want, sameItem) {
		t.Errorf("ItemsIn(%v, %v) = %v, want %v", s, r, got, want)
	}
}

func checkDelete(t *testing.T, s impl.Store, r impl.KeyRange, want impl.Store, n int) {
	t.Helper()
	if got, count := impl.DeleteItems(s, r); !sameStore(got, want) || count != n {
		t.Errorf("DeleteItems(%v, %v) = %v, %d, want %v, %d", s, r, got, count, want, n)
	}
}

func TestDeleteItemsAndItemsIn(t *testing.T) {
	none, all, some := 0, 0, 0
	for _, s := range validStores() {
		for _, r := range keyRanges() {
			in, out := wantParts(s, r)
			checkItemsIn(t, s, r, in)
			checkDelete(t, s, r, impl.Store{Name: s.Name, Items: out, Auto: s.Auto}, len(in))
			switch {
			case len(in) == 0:
				none++
			case len(out) == 0:
				all++
			default:
				some++
			}
		}
	}
	if none < 100 || all < 100 || some < 100 {
		t.Errorf("the ranges have no items %d times, all %d times and some %d times", none, all, some)
	}
}

func TestDeleteItemsAndItemsInExamples(t *testing.T) {
	a, b, c, d := item(numberKey(1), field("a", 1)), item(numberKey(7), field("b", 2)), item(textKey("x"), field("c", 3)), item(pairKey(1, ""))
	s := store(9, a, b, c, d)
	cases := []struct {
		r       impl.KeyRange
		in, out []impl.Item
	}{
		{impl.KeyRange{}, []impl.Item{a, b, c, d}, nil},
		{impl.KeyRange{HasLow: true, Low: numberKey(1)}, []impl.Item{a, b, c, d}, nil},
		{impl.KeyRange{HasLow: true, Low: numberKey(2)}, []impl.Item{b, c, d}, []impl.Item{a}},
		{impl.KeyRange{HasLow: true, Low: textKey("y")}, []impl.Item{d}, []impl.Item{a, b, c}},
		{impl.KeyRange{HasLow: true, Low: pairKey(1, "a")}, nil, []impl.Item{a, b, c, d}},
		{impl.KeyRange{HasHigh: true, High: numberKey(0)}, nil, []impl.Item{a, b, c, d}},
		{impl.KeyRange{HasHigh: true, High: numberKey(7)}, []impl.Item{a, b}, []impl.Item{c, d}},
		{impl.KeyRange{HasHigh: true, High: pairKey(1, "")}, []impl.Item{a, b, c, d}, nil},
		{impl.KeyRange{HasLow: true, HasHigh: true, Low: numberKey(2), High: textKey("x")}, []impl.Item{b, c}, []impl.Item{a, d}},
		{impl.KeyRange{HasLow: true, HasHigh: true, Low: numberKey(7), High: numberKey(7)}, []impl.Item{b}, []impl.Item{a, c, d}},
		{impl.KeyRange{HasLow: true, HasHigh: true, Low: textKey("x"), High: numberKey(7)}, nil, []impl.Item{a, b, c, d}},
		{impl.KeyRange{HasLow: true}, nil, []impl.Item{a, b, c, d}},
		{impl.KeyRange{HasHigh: true, High: textKey("A")}, nil, []impl.Item{a, b, c, d}},
	}
	for _, c := range cases {
		checkItemsIn(t, s, c.r, c.in)
		checkDelete(t, s, c.r, store(9, c.out...), len(c.in))
	}
}

func TestDeleteItemsAndItemsInOfInvalidStores(t *testing.T) {
	for _, s := range invalidStores() {
		for _, r := range keyRanges() {
			checkDelete(t, s, r, s, 0)
			in, _ := wantParts(s, r)
			checkItemsIn(t, s, r, in)
		}
	}
	// The items stay as they stand, and those without a valid key are in no range.
	s := storeOfKeys(-1, numberKey(3), numberKey(9), impl.Key{Kind: 9}, numberKey(1), numberKey(3), textKey("A"))
	checkItemsIn(t, s, impl.KeyRange{HasHigh: true, High: numberKey(3)}, []impl.Item{s.Items[0], s.Items[3], s.Items[4]})
	checkItemsIn(t, s, impl.KeyRange{}, []impl.Item{s.Items[0], s.Items[1], s.Items[3], s.Items[4]})
	checkDelete(t, s, impl.KeyRange{}, s, 0)
}

func checkSize(t *testing.T, s impl.Store, want int) {
	t.Helper()
	if got := impl.SizeStore(s); got != want {
		t.Errorf("SizeStore(%v) = %d, want %d", s, got, want)
	}
}

func TestSizeStoreExamples(t *testing.T) {
	checkSize(t, impl.Store{}, 0)
	checkSize(t, store(maxAuto), 0)
	checkSize(t, store(0, item(numberKey(0))), 7+1)
	checkSize(t, store(0, item(numberKey(-maxNumber), field("a", 1))), 7+4)
	checkSize(t, store(0, item(textKey(""))), 1+1)
	checkSize(t, store(0, item(textKey("x"))), 2+1)
	checkSize(t, store(0, item(textKey("zzzzzzzzzzzz"), field("abcdefgh", 128))), 13+12)
	checkSize(t, store(0, item(pairKey(3, ""), field("a", 127))), 7+4)
	checkSize(t, store(0, item(pairKey(3, "abc"), field("a", 0), field("b", maxField))), 10+1+3+7)
	checkSize(t, store(7, item(numberKey(1), field("a", 1)), item(numberKey(7), field("a", 1)), item(textKey("x"))), 11+11+3)
}

// wantSize counts the bytes of valid keys and records.
func wantSize(s impl.Store) int {
	size := 0
	for _, x := range s.Items {
		if impl.IsKey(x.Key) {
			size += 1 + len(x.Key.Text)
			if x.Key.Kind != impl.KeyText {
				size += 6
			}
		}
		if impl.IsRecord(x.Record) {
			size += len(wantRecordEncoding(x.Record.Fields...))
		}
	}
	return size
}

func TestSizeStore(t *testing.T) {
	for _, s := range append(validStores(), invalidStores()...) {
		checkSize(t, s, wantSize(s))
	}
	// Of an item that is not valid, the valid part counts.
	checkSize(t, store(0, item(impl.Key{}, field("a", 1))), 4)
	checkSize(t, store(0, item(numberKey(1), field("a", -1))), 7)
	checkSize(t, store(-1, item(textKey("b")), item(textKey("a")), item(textKey("b"))), 9)
	for _, r := range validRecords() {
		checkSize(t, store(0, impl.Item{Key: textKey("b"), Record: r}), 2+len(wantRecordEncoding(r.Fields...)))
	}
}

func TestEqualStores(t *testing.T) {
	stores := append(validStores(), invalidStores()...)
	base := storeOfKeys(7, numberKey(1), textKey("x"), pairKey(1, "x"))
	stores = append(stores, base, withName(base, "note"), withName(base, "notesa"), withAuto(base, 8), withAuto(base, -7))
	for at := range base.Items {
		stores = append(stores, withoutItemAt(base, at), withItemAt(base, at, item(numberKey(1))))
		for _, r := range validRecords() {
			stores = append(stores, withRecordAt(base, at, r))
		}
		for _, k := range []impl.Key{numberKey(1), numberKey(2), textKey("x"), textKey("y"), pairKey(1, "x"), pairKey(1, "y"), pairKey(2, "x"), {}, {N: 1}, {Text: "x"}, {Kind: 9}} {
			changed := cloneStore(base)
			changed.Items[at].Key = k
			stores = append(stores, changed)
		}
	}
	texts := []string{}
	for _, s := range stores {
		texts = append(texts, fmt.Sprintf("%#v", cloneStore(s)))
	}
	for i, a := range stores {
		if !impl.EqualStores(a, a) || !impl.EqualStores(a, cloneStore(a)) {
			t.Errorf("EqualStores(%v) of itself = false", a)
		}
		for j, b := range stores {
			if got, want := impl.EqualStores(a, b), texts[i] == texts[j]; got != want {
				t.Errorf("EqualStores(%v, %v) = %t", a, b, got)
			}
		}
	}
}

func TestEqualStoresOfEmptyLists(t *testing.T) {
	if empty := (impl.Store{Items: []impl.Item{}}); !impl.EqualStores(impl.Store{}, empty) || !impl.EqualStores(empty, impl.Store{}) {
		t.Error("EqualStores of no items and of an empty list = false")
	}
	a, b := store(1, impl.Item{Key: numberKey(1)}), store(1, item(numberKey(1)))
	b.Items[0].Record.Fields = []impl.Field{}
	if !impl.EqualStores(a, b) || !impl.EqualStores(b, a) {
		t.Error("EqualStores of no fields and of an empty list = false")
	}
	// The spare capacity does not belong to a store.
	whole := storeOfCount(4)
	if part := store(500, whole.Items[:2]...); !impl.EqualStores(part, storeOfCount(2)) || impl.EqualStores(part, whole) {
		t.Error("EqualStores of a part of a longer list")
	}
}

// storeModel keeps what a store must have in a map, so that it cannot share a mistake in the order of the items.
type storeModel struct {
	records map[impl.Key]impl.Record
	auto    int
}

func (m storeModel) store() impl.Store {
	s := store(m.auto)
	for k, r := range m.records {
		s.Items = append(s.Items, impl.Item{Key: k, Record: cloneRecord(r)})
	}
	slices.SortFunc(s.Items, func(a impl.Item, b impl.Item) int {
		return orderOfKeys(a.Key, b.Key)
	})
	return s
}

func (m *storeModel) put(k impl.Key, r impl.Record) bool {
	_, exists := m.records[k]
	if !exists && len(m.records) == maxItems || !impl.IsKey(k) || !impl.IsRecord(r) {
		return false
	}
	if !exists {
		m.auto = wantAuto(m.auto, k)
	}
	m.records[k] = r
	return true
}

// storeSteps is a run of steps that a seed chooses.
type storeSteps struct {
	t     *testing.T
	seed  int
	model storeModel
	s     impl.Store
	done  map[string]int
}

func (x *storeSteps) pick(limit int) int {
	x.seed = (x.seed*1103515245 + 12345) % 2147483648
	return x.seed / 65536 % limit
}

func (x *storeSteps) pickKey() impl.Key {
	numbers := []int{-maxNumber, -5, 0, 1, 2, 3, 4, 5, 6, 7, 8, 20, 30, x.model.auto, x.model.auto + 1, x.model.auto + 2, maxAuto - 40, maxAuto - 1, maxAuto, maxAuto + 1, maxNumber}
	n := numbers[x.pick(len(numbers)-x.pick(6))]
	text := []string{"", "a", "aa", "b", "z0"}[x.pick(5)]
	if x.pick(40) == 0 {
		return someInvalidKeys()[x.pick(len(someInvalidKeys()))]
	}
	return []impl.Key{numberKey(n), numberKey(n), textKey(text), pairKey(n, text)}[x.pick(4)]
}

func (x *storeSteps) pickRecord() impl.Record {
	if x.pick(40) == 0 {
		return someInvalidRecords()[x.pick(len(someInvalidRecords()))]
	}
	r := recordOfFirst(x.pick(maxFields + 1))
	for i := range r.Fields {
		r.Fields[i].N = x.pick(1000)
	}
	return r
}

// accept takes over the result of a step, which must be what the model has after it.
func (x *storeSteps) accept(what string, got impl.Store, ok bool, fine bool) {
	x.t.Helper()
	checkStore(x.t, fmt.Sprintf("%s of %v", what, x.s), got, ok, x.model.store(), fine)
	x.done[fmt.Sprint(what, fine)]++
	x.s = got
}

func (x *storeSteps) step() {
	k, r := x.pickKey(), x.pickRecord()
	_, exists := x.model.records[k]
	switch x.pick(8) {
	case 0, 1, 2:
		got, ok := impl.PutItem(x.s, k, r)
		x.accept("PutItem", got, ok, x.model.put(k, r))
		if ok {
			at := slices.IndexFunc(x.model.store().Items, func(y impl.Item) bool { return y.Key == k })
			checkFind(x.t, got, k, at)
		}
	case 3, 4:
		got, ok := impl.AddItem(x.s, k, r)
		x.accept("AddItem", got, ok, !exists && x.model.put(k, r))
	case 5, 6:
		next := numberKey(x.model.auto + 1)
		_, taken := x.model.records[next]
		fine := x.model.auto < maxAuto && !taken && x.model.put(next, r)
		got, given, ok := impl.AutoItem(x.s, r)
		x.accept("AutoItem", got, ok, fine)
		if fine && given != next || !fine && given != (impl.Key{}) {
			x.t.Errorf("AutoItem gives the key %v after %d", given, next.N-1)
		}
	case 7:
		x.delete(impl.KeyRange{HasLow: x.pick(8) > 0, HasHigh: x.pick(8) > 0, Low: k, High: x.pickKey()})
	}
}

func (x *storeSteps) delete(r impl.KeyRange) {
	count := len(x.model.records)
	for k := range x.model.records {
		if wantInRange(k, r) {
			delete(x.model.records, k)
		}
	}
	got, n := impl.DeleteItems(x.s, r)
	x.accept("DeleteItems", got, true, true)
	if n != count-len(x.model.records) {
		x.t.Errorf("DeleteItems(%v) removes %d items, want %d", r, n, count-len(x.model.records))
	}
}

func TestStoresAsMaps(t *testing.T) {
	done := map[string]int{}
	for seed := range 150 {
		x := storeSteps{t: t, seed: seed, model: storeModel{records: map[impl.Key]impl.Record{}}, s: store(0), done: done}
		for range 150 {
			x.step()
		}
	}
	for _, what := range []string{"PutItemtrue", "PutItemfalse", "AddItemtrue", "AddItemfalse", "AutoItemtrue", "AutoItemfalse", "DeleteItemstrue"} {
		if done[what] < 300 {
			t.Errorf("%s comes %d times, too seldom", what, done[what])
		}
	}
}

// guardedStore is a store argument in known memory, that of its items' records included.
type guardedStore struct {
	store   impl.Store
	backing []impl.Item
	saved   []impl.Item
	records []guarded[impl.Field]
}

func guardStore(s impl.Store) guardedStore {
	edges := slices.Repeat([]impl.Item{item(textKey("edge"), field("edge", 201))}, guardWidth)
	g := guardedStore{}
	for _, x := range slices.Concat(edges, s.Items, edges) {
		fields := guardRecord(x.Record)
		g.records = append(g.records, fields)
		g.backing = append(g.backing, impl.Item{Key: x.Key, Record: record(fields.part...)})
	}
	g.saved = slices.Clone(g.backing)
	g.store = impl.Store{Name: s.Name, Items: g.backing[guardWidth : guardWidth+len(s.Items)], Auto: s.Auto}
	return g
}

// sameMemory is more than sameItem: the fields must be the same ones.
func sameMemory(a impl.Item, b impl.Item) bool {
	x, y := a.Record.Fields, b.Record.Fields
	return a.Key == b.Key && unsafe.SliceData(x) == unsafe.SliceData(y) && len(x) == len(y) && cap(x) == cap(y)
}

func (g guardedStore) check(t *testing.T, what string) {
	t.Helper()
	if !slices.EqualFunc(g.backing, g.saved, sameMemory) {
		t.Errorf("%s: the memory of an argument is %v, was %v", what, g.backing, g.saved)
	}
	for _, fields := range g.records {
		fields.check(t, what)
	}
}

func scribbleItems(items []impl.Item) {
	all := items[:cap(items)]
	for i := range all {
		scribbleRecord(all[i].Record)
		all[i] = item(textKey("changed"), field("changed", 85))
	}
}

// checkApart reports records of one result that share memory.
func checkApart(t *testing.T, what string, items []impl.Item) {
	t.Helper()
	const size = unsafe.Sizeof(impl.Field{})
	for i, a := range items {
		start := uintptr(unsafe.Pointer(unsafe.SliceData(a.Record.Fields)))
		for _, b := range items[i+1:] {
			other := uintptr(unsafe.Pointer(unsafe.SliceData(b.Record.Fields)))
			if start < other+uintptr(cap(b.Record.Fields))*size && other < start+uintptr(cap(a.Record.Fields))*size {
				t.Errorf("%s: two records of the result share memory", what)
			}
		}
	}
}

// checkStoreResult calls a function of a store and a record twice and changes the first result: neither an argument nor the second result may change with it.
func checkStoreResult(t *testing.T, what string, s impl.Store, r impl.Record, call func(s impl.Store, r impl.Record) []impl.Item) {
	t.Helper()
	arg, fields := guardStore(s), guardRecord(r)
	check := func(when string) {
		t.Helper()
		arg.check(t, what+when)
		fields.check(t, what+when)
	}
	first := call(arg.store, record(fields.part...))
	check("")
	second := call(arg.store, record(fields.part...))
	check(", again")
	checkApart(t, what, second)
	want := cloneItems(second)
	if !slices.EqualFunc(first, second, sameItem) {
		t.Errorf("%s: %v, then %v", what, first, second)
	}
	scribbleItems(first)
	check(", its result changed")
	if !slices.EqualFunc(second, want, sameItem) {
		t.Errorf("%s: a result changes with another one", what)
	}
	scribbleItems(arg.store.Items)
	scribbleRecord(record(fields.part...))
	if !slices.EqualFunc(second, want, sameItem) {
		t.Errorf("%s: a result changes with an argument", what)
	}
}

func TestStoreResultsAreFresh(t *testing.T) {
	for _, s := range append(validStores(), invalidStores()...) {
		for _, r := range []impl.Record{record(), record(field("a", 1), field("b", 2)), record(field("b", 1), field("a", 2))} {
			for _, k := range []impl.Key{numberKey(1), numberKey(7), numberKey(15), numberKey(maxAuto + 2), textKey("a"), pairKey(7, "b"), {}} {
				checkStoreResult(t, fmt.Sprintf("PutItem(%v, %v, %v)", s, k, r), s, r, func(s impl.Store, r impl.Record) []impl.Item {
					put, _ := impl.PutItem(s, k, r)
					return put.Items
				})
				checkStoreResult(t, fmt.Sprintf("AddItem(%v, %v, %v)", s, k, r), s, r, func(s impl.Store, r impl.Record) []impl.Item {
					added, _ := impl.AddItem(s, k, r)
					return added.Items
				})
			}
			checkStoreResult(t, fmt.Sprintf("AutoItem(%v, %v)", s, r), s, r, func(s impl.Store, r impl.Record) []impl.Item {
				added, _, _ := impl.AutoItem(s, r)
				return added.Items
			})
		}
		for _, r := range keyRanges()[:40] {
			checkStoreResult(t, fmt.Sprintf("DeleteItems(%v, %v)", s, r), s, record(), func(s impl.Store, _ impl.Record) []impl.Item {
				kept, _ := impl.DeleteItems(s, r)
				return kept.Items
			})
			checkStoreResult(t, fmt.Sprintf("ItemsIn(%v, %v)", s, r), s, record(), func(s impl.Store, _ impl.Record) []impl.Item {
				return impl.ItemsIn(s, r)
			})
		}
	}
}

// TestPutItemOfAStoredRecord puts a record of the store itself under another key.
func TestPutItemOfAStoredRecord(t *testing.T) {
	arg := guardStore(storeOfKeys(7, numberKey(1), numberKey(2), numberKey(3)))
	for _, k := range []impl.Key{numberKey(0), numberKey(1), numberKey(2), numberKey(3), numberKey(4), textKey("")} {
		got, ok := impl.PutItem(arg.store, k, arg.store.Items[2].Record)
		if at := impl.FindItem(got, k); !ok || at < 0 || !sameRecord(got.Items[at].Record, recordOfFirst(2)) {
			t.Errorf("PutItem of a stored record under %v = %v, %t", k, got, ok)
		}
		checkApart(t, "PutItem of a stored record", got.Items)
		scribbleItems(got.Items)
		arg.check(t, "PutItem of a stored record")
	}
}

func TestReadingStoresChangesNothing(t *testing.T) {
	stores := append(validStores(), invalidStores()...)
	for i, s := range stores {
		arg, against := guardStore(s), guardStore(stores[len(stores)-1-i])
		impl.IsStore(arg.store)
		impl.SizeStore(arg.store)
		impl.EqualStores(arg.store, against.store)
		impl.EqualStores(arg.store, arg.store)
		for _, k := range append(someInvalidKeys(), mixedKeys...) {
			impl.FindItem(arg.store, k)
		}
		arg.check(t, "IsStore, SizeStore, EqualStores or FindItem")
		against.check(t, "EqualStores")
	}
}
