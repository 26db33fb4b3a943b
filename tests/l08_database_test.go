package tests

import (
	"cmp"
	"fmt"
	"maps"
	"math"
	"math/rand/v2"
	"slices"
	"strings"
	"testing"
	"unsafe"

	"loop.example/g00583/impl"
)

// Promise 8: an upgrade happens as a whole or not at all (chapter 8).

const (
	maxStores    = 4
	maxIndexes   = 4
	maxDbVersion = 1000
)

func TestDatabaseConstants(t *testing.T) {
	got := []int{impl.MaxStores, impl.MaxIndexes, impl.MaxDbVersion, impl.StepStore, impl.StepDrop, impl.StepIndex, impl.StepNoIndex}
	if want := []int{maxStores, maxIndexes, maxDbVersion, 1, 2, 3, 4}; !slices.Equal(got, want) {
		t.Errorf("the constants of databases are %v, want %v", got, want)
	}
}

func database(version int, unique []impl.IndexDef, stores ...impl.Store) impl.Database {
	return impl.Database{Name: "app", Version: version, Stores: stores, Unique: unique}
}

func indexDef(store string, field string) impl.IndexDef {
	return impl.IndexDef{Store: store, Field: field}
}

// indexes takes a store and a field for each index, with a space between them.
func indexes(texts ...string) []impl.IndexDef {
	defs := []impl.IndexDef{}
	for _, text := range texts {
		store, field, _ := strings.Cut(text, " ")
		defs = append(defs, indexDef(store, field))
	}
	return defs
}

// emptyStores are named after the letters.
func emptyStores(letters string) []impl.Store {
	stores := []impl.Store{}
	for _, letter := range letters {
		stores = append(stores, impl.Store{Name: string(letter)})
	}
	return stores
}

// The stores b and d have items: of b, some have a, some have n, two have the same c, and none has z; of d, all have n, and all have the same a.
func storeB() impl.Store {
	return withName(store(3, item(numberKey(1), field("a", 1), field("n", 5)), item(numberKey(3), field("a", 2), field("c", 7)), item(textKey("x"), field("c", 7), field("n", 6))), "b")
}

func storeD() impl.Store {
	return withName(store(0, item(numberKey(-4), field("a", 1), field("n", 3)), item(pairKey(1, ""), field("a", 1), field("n", 1)), item(pairKey(1, "x"), field("a", 1), field("n", 2))), "d")
}

func storeF() impl.Store {
	return withName(store(9), "f")
}

// openDatabase has room for one more store and one more index.
func openDatabase() impl.Database {
	return database(7, indexes("d n", "b a", "b n"), storeB(), storeD(), storeF())
}

func fullDatabase() impl.Database {
	return database(7, indexes("f z", "b a", "d n", "b n"), storeB(), storeD(), storeF(), withName(storeOfCount(maxItems), "h"))
}

func cloneDatabase(d impl.Database) impl.Database {
	clone := impl.Database{Name: d.Name, Version: d.Version, Unique: slices.Clone(d.Unique)}
	for _, s := range d.Stores {
		clone.Stores = append(clone.Stores, cloneStore(s))
	}
	return clone
}

// sameDatabase compares databases without the functions of the package.
func sameDatabase(a impl.Database, b impl.Database) bool {
	return a.Name == b.Name && a.Version == b.Version && slices.EqualFunc(a.Stores, b.Stores, sameStore) && slices.Equal(a.Unique, b.Unique)
}

func withDbName(d impl.Database, name string) impl.Database {
	with := cloneDatabase(d)
	with.Name = name
	return with
}

func withVersion(d impl.Database, version int) impl.Database {
	with := cloneDatabase(d)
	with.Version = version
	return with
}

func withStores(d impl.Database, stores ...impl.Store) impl.Database {
	with := cloneDatabase(d)
	with.Stores = stores
	return with
}

func withStoreAt(d impl.Database, at int, s impl.Store) impl.Database {
	with := cloneDatabase(d)
	with.Stores[at] = s
	return with
}

func withUnique(d impl.Database, texts ...string) impl.Database {
	with := cloneDatabase(d)
	with.Unique = indexes(texts...)
	return with
}

func validDatabases() []impl.Database {
	open, full := openDatabase(), fullDatabase()
	databases := []impl.Database{
		{Name: "a"}, {Name: "zzzzzzzz", Version: maxDbVersion, Stores: []impl.Store{}, Unique: []impl.IndexDef{}}, {Name: "abcdefgh", Version: 1},
		open, withUnique(open), withUnique(open, "b a"), withUnique(open, "b n", "b a"), withUnique(open, "b zzzzzzzz", "d b"), withUnique(open, "f a", "f n", "f c", "f z"),
		full, withUnique(full), withVersion(full, 0), withVersion(full, maxDbVersion), withUnique(full, "b n", "d n", "b a", "f z"), withUnique(full, "h n", "d n", "b n", "f n"),
		database(3, indexes("a x"), withName(store(0), "a")), database(3, nil, withName(store(maxAuto), "a"), withName(store(0), "ab"), withName(store(0), "abcdefgh"), withName(store(0), "b")),
		database(maxDbVersion-1, indexes("notes n"), storeOfCount(maxItems)), database(0, indexes("notes z"), storeOfKeys(0, mixedKeys...)),
	}
	for count := range maxStores + 1 {
		databases = append(databases, database(count, nil, emptyStores("abcd"[:count])...))
	}
	return databases
}

var badVersions = []int{-1, -2, -maxDbVersion, math.MinInt, math.MinInt + 1, maxDbVersion + 1, maxDbVersion + 2, 1 << 31, 1 << 32, math.MaxInt - 1, math.MaxInt}

// invalidDatabases differ from a valid one in one thing each.
func invalidDatabases() []impl.Database {
	open, full := openDatabase(), fullDatabase()
	b, d, f, h := full.Stores[0], full.Stores[1], full.Stores[2], full.Stores[3]
	databases := []impl.Database{
		{}, {Version: 1}, {Stores: emptyStores("ab")},
		withStores(full, b, d, f, h, withName(store(0), "i")), withStores(full, b, d, withName(store(0), "e"), f, h), database(0, nil, emptyStores("abcdefghijklmnopqrstuvwxyz")...),
		withStores(open, d, b, f), withStores(open, b, f, d), withStores(open, f, d, b), withStores(open, d, f, b), withStores(full, b, d, h, f), database(0, nil, emptyStores("ba")...), database(0, nil, emptyStores("abca")...),
		withStores(open, b, b, d), withStores(open, b, d, d), withStores(open, b, d, b), withStores(full, b, d, f, f), database(0, nil, emptyStores("aa")...), database(0, nil, emptyStores("aaaa")...),
		database(0, nil, withName(store(0), "ab"), withName(store(0), "a")), database(0, nil, withName(store(0), "b"), withName(store(0), "aaaaaaaa")),
		withUnique(full, "f z", "b a", "d n", "b n", "h n"), withUnique(full, "f a", "f b", "f c", "f d", "f e", "f f", "f g"),
		withUnique(open, "b a", "b a"), withUnique(open, "d n", "b a", "d n"), withUnique(open, "b a", "b n", "d n", "b n"), withUnique(open, "f z", "f z", "f z", "f z"),
		withUnique(open, "e a"), withUnique(open, "b a", "h n"), withUnique(open, "h n", "b a"), withUnique(open, " a"), withUnique(open, "bb a"), withUnique(open, "B a"), database(0, indexes("b a")), database(0, indexes("c a"), emptyStores("ab")...),
		withUnique(open, "b c"), withUnique(open, "d a"), withUnique(open, "b a", "d a"), withUnique(open, "b c", "b a"), withUnique(open, "d n", "b n", "b c"), withUnique(full, "b a", "d n", "b n", "d a"),
	}
	for _, name := range []string{"", "abcdefghi", "A", "a1", "a b", "é", "\x00"} {
		databases = append(databases, withDbName(open, name), impl.Database{Name: name}, withUnique(open, "f "+name), withUnique(open, "b a", "b "+name), database(1, nil, impl.Store{Name: name}))
	}
	for _, version := range badVersions {
		databases = append(databases, withVersion(open, version), impl.Database{Name: "app", Version: version})
	}
	for at, s := range full.Stores {
		for _, bad := range someInvalidStores() {
			databases = append(databases, withStoreAt(full, at, withName(bad, s.Name)))
		}
	}
	return databases
}

// someInvalidStores are invalid under every name.
func someInvalidStores() []impl.Store {
	few := store(7, item(numberKey(1)), item(numberKey(7), field("q", 1)))
	return []impl.Store{
		withAuto(few, -1), withAuto(few, maxAuto+1), storeOfCount(maxItems + 1), storeOfKeys(0, numberKey(7), numberKey(1)), storeOfKeys(0, numberKey(1), numberKey(1)),
		store(7, item(impl.Key{})), store(7, item(numberKey(1)), item(textKey("A"))), withRecordAt(few, 0, record(field("q", -1))), withRecordAt(few, 1, record(field("q", 1), field("q", 1))),
	}
}

func checkIsDatabase(t *testing.T, d impl.Database, want bool) {
	t.Helper()
	if got := impl.IsDatabase(d); got != want {
		t.Errorf("IsDatabase(%v) = %t", d, got)
	}
}

func TestIsDatabase(t *testing.T) {
	for _, d := range validDatabases() {
		checkIsDatabase(t, d, true)
	}
	for _, d := range invalidDatabases() {
		checkIsDatabase(t, d, false)
	}
}

func TestIsDatabaseOfEachName(t *testing.T) {
	for _, name := range []string{"a", "z", "app", "abcdefgh", "zzzzzzzz"} {
		checkIsDatabase(t, withDbName(openDatabase(), name), true)
		checkIsDatabase(t, withUnique(openDatabase(), "f "+name), true)
		checkIsDatabase(t, database(0, []impl.IndexDef{indexDef(name, "a")}, impl.Store{Name: name}), true)
	}
	for _, name := range badNames() {
		checkIsDatabase(t, withDbName(openDatabase(), name), false)
		checkIsDatabase(t, impl.Database{Name: name}, false)
		checkIsDatabase(t, database(0, nil, impl.Store{Name: name}), false)
		// A store with this name is not there, or not valid.
		checkIsDatabase(t, database(0, []impl.IndexDef{indexDef(name, "a")}, storeF()), false)
		checkIsDatabase(t, database(0, []impl.IndexDef{indexDef("f", name)}, storeF()), false)
		checkIsDatabase(t, database(0, []impl.IndexDef{indexDef("f", "a"), indexDef("f", name)}, storeF()), false)
	}
}

func TestIsDatabaseOfEachVersion(t *testing.T) {
	for _, d := range []impl.Database{{Name: "a"}, openDatabase(), fullDatabase()} {
		for _, version := range []int{0, 1, 2, 7, 999, 1000} {
			checkIsDatabase(t, withVersion(d, version), true)
		}
		for _, version := range badVersions {
			checkIsDatabase(t, withVersion(d, version), false)
		}
	}
}

func TestIsDatabaseOfEachCount(t *testing.T) {
	const letters = "abcdefghijkl"
	for count := range len(letters) + 1 {
		checkIsDatabase(t, database(0, nil, emptyStores(letters[:count])...), count <= 4)
		texts := []string{}
		for _, letter := range letters[:count] {
			texts = append(texts, "f "+string(letter))
		}
		checkIsDatabase(t, withUnique(openDatabase(), texts...), count <= 4)
	}
}

// TestIsDatabaseOfEachOrder tries all names at all places.
func TestIsDatabaseOfEachOrder(t *testing.T) {
	const letters = "abcd"
	for i := range letters {
		for j := range letters {
			for k := range letters {
				names := string([]byte{letters[i], letters[j], letters[k]})
				checkIsDatabase(t, database(0, nil, emptyStores(names)...), i < j && j < k)
				checkIsDatabase(t, database(0, nil, emptyStores(names[:2])...), i < j)
				// The order of the indexes is that in which they were made, so all orders will do.
				fields := indexes("f "+names[:1], "f "+names[1:2], "f "+names[2:])
				checkIsDatabase(t, database(0, fields, storeF()), i != j && j != k && i != k)
			}
		}
	}
}

func TestIsDatabaseOfEachPlaceOfAnIndex(t *testing.T) {
	fine := []string{"b a", "d n", "b n"}
	// Items break the index, there is no such store, the field is no name, or the index is there.
	bad := []string{"b c", "d a", "g a", "b ?", "b a", "d n", "b n"}
	for at := range len(fine) + 1 {
		checkIsDatabase(t, withUnique(openDatabase(), slices.Insert(slices.Clone(fine), at, "f z")...), true)
		for _, text := range bad {
			checkIsDatabase(t, withUnique(openDatabase(), slices.Insert(slices.Clone(fine), at, text)...), false)
		}
	}
}

// TestIsDatabaseOfUniqueNumbers changes one number of a store with an index.
func TestIsDatabaseOfUniqueNumbers(t *testing.T) {
	for count := range maxItems + 1 {
		d := database(0, indexes("notes n"), storeOfCount(count))
		checkIsDatabase(t, d, true)
		for at := range count {
			for n := range count + 1 {
				changed := withStoreAt(d, 0, withRecordAt(d.Stores[0], at, record(field("n", n))))
				checkIsDatabase(t, changed, n == at || n == count)
				checkIsDatabase(t, withUnique(changed, "notes m"), true)
			}
			// An item without the field is like no other one.
			changed := withStoreAt(d, 0, withRecordAt(d.Stores[0], at, record(field("m", 0))))
			checkIsDatabase(t, withUnique(changed, "notes n", "notes m"), true)
		}
	}
	// Equal numbers in two stores, or in two fields, break no index.
	other := storeB()
	checkIsDatabase(t, database(0, indexes("b a", "c a", "c n", "b n"), other, withName(other, "c")), true)
	checkIsDatabase(t, database(0, indexes("b a", "b n"), withName(store(0, item(numberKey(1), field("a", 4), field("n", 4)), item(numberKey(2), field("a", 5), field("n", 5))), "b")), true)
}

func checkFindStore(t *testing.T, d impl.Database, name string, want int) {
	t.Helper()
	if got := impl.FindStore(d, name); got != want {
		t.Errorf("FindStore(%v, %q) = %d, want %d", d, name, got, want)
	}
}

func TestFindStore(t *testing.T) {
	for count := range maxStores + 1 {
		d := database(0, nil, fullDatabase().Stores[:count]...)
		for at, name := range []string{"b", "d", "f", "h"} {
			if at >= count {
				at = -1
			}
			checkFindStore(t, d, name, at)
		}
		for _, name := range append(badNames(), "a", "c", "e", "g", "i", "bb", "bd", "hh", "app", "notes", "zzzzzzzz") {
			checkFindStore(t, d, name, -1)
		}
	}
	long := database(0, nil, withName(store(0), "a"), withName(store(0), "ab"), withName(store(0), "abcdefgh"), withName(store(0), "b"))
	for name, at := range map[string]int{"a": 0, "ab": 1, "abcdefgh": 2, "b": 3, "abc": -1, "abcdefg": -1, "ba": -1} {
		checkFindStore(t, long, name, at)
	}
}

func TestFindStoreOfInvalidDatabases(t *testing.T) {
	checkFindStore(t, impl.Database{}, "", -1)
	checkFindStore(t, impl.Database{}, "a", -1)
	// Of two stores with one name, the first one is found, in whatever order they stand.
	d := impl.Database{Version: -1, Stores: emptyStores("dbcbaaz")}
	for name, at := range map[string]int{"d": 0, "b": 1, "c": 2, "a": 4, "z": 6, "e": -1, "": -1} {
		checkFindStore(t, d, name, at)
	}
	d = database(0, nil, withName(store(-1), "f"), impl.Store{Name: "A"}, impl.Store{}, impl.Store{Name: "abcdefghi"}, impl.Store{Name: "b\x00"})
	for name, at := range map[string]int{"f": 0, "A": 1, "": 2, "abcdefghi": 3, "b\x00": 4, "b": -1, "a": -1, "F": -1} {
		checkFindStore(t, d, name, at)
	}
	letters := "abcdefghijklmnopqrstuvwxyz"
	for at, letter := range letters {
		checkFindStore(t, database(0, nil, emptyStores(letters)...), string(letter), at)
	}
}

func createStep(store string) impl.Upgrade {
	return impl.Upgrade{Kind: impl.StepStore, Store: store}
}

func dropStep(store string) impl.Upgrade {
	return impl.Upgrade{Kind: impl.StepDrop, Store: store}
}

func indexStep(store string, field string) impl.Upgrade {
	return impl.Upgrade{Kind: impl.StepIndex, Store: store, Field: field}
}

func noIndexStep(store string, field string) impl.Upgrade {
	return impl.Upgrade{Kind: impl.StepNoIndex, Store: store, Field: field}
}

func checkStep(t *testing.T, d impl.Database, u impl.Upgrade, want impl.Database, fine bool) {
	t.Helper()
	if got, ok := impl.ApplyUpgrade(d, u); !sameDatabase(got, want) || ok != fine {
		t.Errorf("ApplyUpgrade(%v, %+v) = %v, %t, want %v, %t", d, u, got, ok, want, fine)
	}
}

func checkNoStep(t *testing.T, d impl.Database, u impl.Upgrade) {
	t.Helper()
	checkStep(t, d, u, d, false)
}

func TestStepStore(t *testing.T) {
	d := openDatabase()
	b, f := d.Stores[0], d.Stores[2]
	for name, at := range map[string]int{"a": 0, "aa": 0, "bb": 1, "c": 1, "czzzzzzz": 1, "da": 2, "e": 2, "fa": 3, "g": 3, "zzzzzzzz": 3} {
		checkStep(t, d, createStep(name), withStores(d, slices.Insert(slices.Clone(d.Stores), at, impl.Store{Name: name})...), true)
	}
	checkStep(t, impl.Database{Name: "a"}, createStep("a"), impl.Database{Name: "a", Stores: emptyStores("a")}, true)
	checkStep(t, database(5, indexes("b a"), b), createStep("f"), database(5, indexes("b a"), b, impl.Store{Name: "f"}), true)
	// The step does not look at its Field.
	for _, name := range []string{"a", "f", "A", ""} {
		checkStep(t, database(5, nil, f), impl.Upgrade{Kind: 1, Store: "c", Field: name}, database(5, nil, impl.Store{Name: "c"}, f), true)
	}
}

func TestStepStoreRejects(t *testing.T) {
	open, full := openDatabase(), fullDatabase()
	for _, s := range full.Stores {
		checkNoStep(t, full, createStep(s.Name))
		checkNoStep(t, database(5, nil, s), createStep(s.Name))
		checkNoStep(t, database(5, nil, impl.Store{Name: s.Name}), createStep(s.Name))
	}
	for _, s := range open.Stores {
		checkNoStep(t, open, createStep(s.Name))
	}
	for _, name := range []string{"a", "c", "e", "g", "i", "zzzzzzzz"} {
		checkNoStep(t, full, createStep(name))
	}
	for _, name := range badNames() {
		checkNoStep(t, open, createStep(name))
		checkNoStep(t, impl.Database{Name: "app"}, createStep(name))
	}
}

func TestStepStoreFillsADatabase(t *testing.T) {
	for _, letters := range []string{"abcd", "dcba", "bdac", "cadb"} {
		d := impl.Database{Name: "app", Version: 3}
		for i := range letters {
			in := []byte(letters[:i+1])
			slices.Sort(in)
			checkStep(t, d, createStep(letters[i:i+1]), database(3, nil, emptyStores(string(in))...), true)
			d = database(3, nil, emptyStores(string(in))...)
		}
		checkNoStep(t, d, createStep("e"))
		checkNoStep(t, d, createStep("aa"))
	}
}

func TestStepDrop(t *testing.T) {
	full := fullDatabase()
	b, d, f, h := full.Stores[0], full.Stores[1], full.Stores[2], full.Stores[3]
	// The store h has no index, d has one, and b has several.
	checkStep(t, full, dropStep("h"), withStores(full, b, d, f), true)
	checkStep(t, full, dropStep("f"), withUnique(withStores(full, b, d, h), "b a", "d n", "b n"), true)
	checkStep(t, full, dropStep("d"), withUnique(withStores(full, b, f, h), "f z", "b a", "b n"), true)
	checkStep(t, full, dropStep("b"), withUnique(withStores(full, d, f, h), "f z", "d n"), true)
	cases := []struct{ unique, without []string }{
		{nil, nil}, {[]string{"b a"}, nil}, {[]string{"d n"}, []string{"d n"}}, {[]string{"b a", "b n", "b z", "b q"}, nil},
		{[]string{"b a", "b n", "d n", "d b"}, []string{"d n", "d b"}}, {[]string{"d n", "b a", "b n", "d b"}, []string{"d n", "d b"}}, {[]string{"d b", "d n", "b a", "b n"}, []string{"d b", "d n"}},
		{[]string{"b a", "h n", "b n", "d n"}, []string{"h n", "d n"}}, {[]string{"h n", "d n", "f b", "b a"}, []string{"h n", "d n", "f b"}}, {[]string{"b b", "f b", "d b", "h b"}, []string{"f b", "d b", "h b"}},
	}
	for _, c := range cases {
		checkStep(t, withUnique(full, c.unique...), dropStep("b"), withUnique(withStores(full, d, f, h), c.without...), true)
	}
	checkStep(t, database(5, nil, b), dropStep("b"), database(5, nil), true)
	checkStep(t, database(5, indexes("b a", "b n"), b), dropStep("b"), database(5, nil), true)
	// Of names that begin alike, only the whole one is meant.
	alike := database(5, indexes("ab a", "a a", "abc a", "ab b"), withName(b, "a"), withName(b, "ab"), withName(b, "abc"))
	checkStep(t, alike, dropStep("ab"), database(5, indexes("a a", "abc a"), withName(b, "a"), withName(b, "abc")), true)
	for _, name := range []string{"a", "n", "A", ""} {
		checkStep(t, database(5, indexes("b a", "b n"), b, f), impl.Upgrade{Kind: 2, Store: "b", Field: name}, database(5, nil, f), true)
	}
}

func TestStepDropRejects(t *testing.T) {
	for _, name := range append(badNames(), "a", "c", "e", "g", "i", "bb", "app", "notes") {
		checkNoStep(t, openDatabase(), dropStep(name))
		checkNoStep(t, impl.Database{Name: "app"}, dropStep(name))
	}
	checkNoStep(t, openDatabase(), dropStep("h"))
	checkNoStep(t, database(5, nil, storeB()), dropStep("d"))
}

func TestStepIndex(t *testing.T) {
	d := withUnique(openDatabase())
	// No item of the store has the field, some have it, and all have it.
	for _, text := range []string{"b z", "d z", "f a", "f zzzzzzzz", "b a", "b n", "d n"} {
		store, field, _ := strings.Cut(text, " ")
		checkStep(t, d, indexStep(store, field), withUnique(d, text), true)
		checkStep(t, withUnique(d, "b q", "f q", "d q"), indexStep(store, field), withUnique(d, "b q", "f q", "d q", text), true)
	}
	// A new index comes behind the others, whatever its names.
	checkStep(t, withUnique(d, "f z", "d n"), indexStep("b", "a"), withUnique(d, "f z", "d n", "b a"), true)
	checkStep(t, withUnique(d, "b a", "d n"), indexStep("b", "n"), withUnique(d, "b a", "d n", "b n"), true)
	checkStep(t, withUnique(d, "b n"), indexStep("d", "n"), withUnique(d, "b n", "d n"), true)
	full := database(1, nil, storeOfCount(maxItems))
	checkStep(t, full, indexStep("notes", "n"), withUnique(full, "notes n"), true)
	checkStep(t, full, indexStep("notes", "m"), withUnique(full, "notes m"), true)
}

func TestStepIndexRejects(t *testing.T) {
	open, full := openDatabase(), fullDatabase()
	for _, text := range []string{
		// Two items have the same number, the index exists, or the store does not.
		"b c", "d a", "d n", "b a", "b n", "a a", "e n", "h n", "bb a", "app a", "B a", " a",
	} {
		store, field, _ := strings.Cut(text, " ")
		checkNoStep(t, open, indexStep(store, field))
	}
	for _, name := range badNames() {
		checkNoStep(t, open, indexStep("f", name))
		checkNoStep(t, open, indexStep("b", name))
		checkNoStep(t, open, indexStep(name, "a"))
	}
	for _, text := range []string{"f a", "h n", "b z", "d z", "f z", "b a"} {
		store, field, _ := strings.Cut(text, " ")
		checkNoStep(t, full, indexStep(store, field))
	}
	checkNoStep(t, impl.Database{Name: "app"}, indexStep("b", "a"))
	// One number that occurs twice is enough, at whatever places of the store.
	d := database(1, nil, storeOfCount(maxItems))
	for i := range maxItems {
		for j := range i {
			twice := withStoreAt(d, 0, withRecordAt(d.Stores[0], i, record(field("n", j))))
			checkNoStep(t, twice, indexStep("notes", "n"))
		}
	}
}

func TestStepIndexFillsADatabase(t *testing.T) {
	d := withUnique(openDatabase())
	texts := []string{"f z", "b a", "b n", "d n"}
	for i, text := range texts {
		store, field, _ := strings.Cut(text, " ")
		checkStep(t, withUnique(d, texts[:i]...), indexStep(store, field), withUnique(d, texts[:i+1]...), true)
	}
	checkNoStep(t, withUnique(d, texts...), indexStep("f", "y"))
}

func TestStepNoIndex(t *testing.T) {
	d := fullDatabase()
	texts := []string{"f z", "b a", "d n", "b n"}
	for at, text := range texts {
		store, field, _ := strings.Cut(text, " ")
		checkStep(t, d, noIndexStep(store, field), withUnique(d, slices.Delete(slices.Clone(texts), at, at+1)...), true)
		checkStep(t, withUnique(d, text), noIndexStep(store, field), withUnique(d), true)
		checkNoStep(t, withUnique(d, slices.Delete(slices.Clone(texts), at, at+1)...), noIndexStep(store, field))
		checkNoStep(t, withUnique(d), noIndexStep(store, field))
	}
	// The store and the field must both be those of the index.
	for _, text := range []string{"b z", "f a", "f n", "h z", "d a", "d z", "a a", "a b", "z f", " ", " a", "b ", "B a", "b A", "bb a", "b aa", "i n"} {
		store, field, _ := strings.Cut(text, " ")
		checkNoStep(t, d, noIndexStep(store, field))
	}
	for _, name := range badNames() {
		checkNoStep(t, d, noIndexStep("b", name))
		checkNoStep(t, d, noIndexStep(name, "a"))
	}
	checkNoStep(t, impl.Database{Name: "app"}, noIndexStep("", ""))
}

var badKinds = []int{0, -1, -2, -4, 5, 6, 7, 255, 256, 257, 1 << 32, 1<<32 + 1, math.MinInt, math.MaxInt}

func TestStepOfUnknownKinds(t *testing.T) {
	for _, d := range validDatabases() {
		for _, kind := range badKinds {
			for _, text := range []string{"g a", "b a", "b n", "f y", "h n", " "} {
				store, field, _ := strings.Cut(text, " ")
				checkNoStep(t, d, impl.Upgrade{Kind: kind, Store: store, Field: field})
			}
		}
		checkNoStep(t, d, impl.Upgrade{})
	}
}

// someSteps have all kinds, with the names of stores and fields that the databases of these tests have, and with others.
func someSteps() []impl.Upgrade {
	steps := []impl.Upgrade{{}, {Kind: 5, Store: "b", Field: "a"}, {Kind: -1, Store: "g"}}
	for _, name := range []string{"a", "b", "d", "e", "f", "h", "notes", "zzzzzzzz", "", "A"} {
		steps = append(steps, createStep(name), dropStep(name))
		for _, field := range []string{"a", "c", "n", "z", "", "A"} {
			steps = append(steps, indexStep(name, field), noIndexStep(name, field))
		}
	}
	return steps
}

func TestStepsOnInvalidDatabases(t *testing.T) {
	for _, d := range invalidDatabases() {
		for _, u := range someSteps() {
			checkNoStep(t, d, u)
		}
	}
}

// TestStepMendsNothing takes steps that would make an invalid database valid.
func TestStepMendsNothing(t *testing.T) {
	b, d, f := storeB(), storeD(), storeF()
	checkNoStep(t, database(1, nil, emptyStores("abcde")...), dropStep("e"))
	checkNoStep(t, database(1, nil, d, b), dropStep("b"))
	checkNoStep(t, database(1, nil, b, b), dropStep("b"))
	checkNoStep(t, database(1, nil, b, withAuto(d, -1)), dropStep("d"))
	checkNoStep(t, database(1, nil, impl.Store{}), dropStep(""))
	checkNoStep(t, database(1, indexes("d a", "b a"), b, d), dropStep("d"))
	checkNoStep(t, database(1, indexes("b a", "e a"), b, d), createStep("e"))
	checkNoStep(t, database(1, indexes("b a", "b c"), b), noIndexStep("b", "c"))
	checkNoStep(t, database(1, indexes("b a", "b a"), b), noIndexStep("b", "a"))
	checkNoStep(t, database(1, indexes("b a", "e a"), b), noIndexStep("e", "a"))
	checkNoStep(t, database(1, indexes("f A"), f), noIndexStep("f", "A"))
	checkNoStep(t, database(1, indexes("f a", "f b", "f c", "f d", "f e"), f), noIndexStep("f", "c"))
	checkNoStep(t, database(1, indexes("f a", "f b", "f c", "f d", "f e"), f), dropStep("f"))
}

// wantDatabase follows the words of IsDatabase, with IsName and IsStore, which the tests of the earlier chapters check.
func wantDatabase(d impl.Database) bool {
	if !impl.IsName(d.Name) || d.Version < 0 || d.Version > 1000 || len(d.Stores) > 4 || len(d.Unique) > 4 {
		return false
	}
	names, stores := []string{}, map[string]impl.Store{}
	for _, s := range d.Stores {
		if !impl.IsStore(s) {
			return false
		}
		names = append(names, s.Name)
		stores[s.Name] = s
	}
	seen := map[impl.IndexDef]bool{}
	for _, x := range d.Unique {
		s, exists := stores[x.Store]
		if seen[x] || !exists || !impl.IsName(x.Field) || hasNumberTwice(s, x.Field) {
			return false
		}
		seen[x] = true
	}
	return slices.Equal(names, slices.Sorted(maps.Keys(stores)))
}

func hasNumberTwice(s impl.Store, name string) bool {
	seen := map[int]bool{}
	for _, x := range s.Items {
		if n, exists := wantNumber(x.Record, name); exists {
			if seen[n] {
				return true
			}
			seen[n] = true
		}
	}
	return false
}

// wantStep tests each reason for a failure apart, also those that another one includes.
func wantStep(d impl.Database, u impl.Upgrade) (impl.Database, bool) {
	next, x, fine := cloneDatabase(d), indexDef(u.Store, u.Field), wantDatabase(d)
	isStore := func(s impl.Store) bool { return s.Name == u.Store }
	switch u.Kind {
	case 1:
		fine = fine && !slices.ContainsFunc(d.Stores, isStore)
		next.Stores = append(next.Stores, impl.Store{Name: u.Store})
		slices.SortStableFunc(next.Stores, func(a impl.Store, b impl.Store) int { return cmp.Compare(a.Name, b.Name) })
	case 2:
		fine = fine && slices.ContainsFunc(d.Stores, isStore)
		next.Stores = slices.DeleteFunc(next.Stores, isStore)
		next.Unique = slices.DeleteFunc(next.Unique, func(y impl.IndexDef) bool { return y.Store == u.Store })
	case 3:
		fine = fine && !slices.Contains(d.Unique, x)
		next.Unique = append(next.Unique, x)
	case 4:
		fine = fine && slices.Contains(d.Unique, x)
		next.Unique = slices.DeleteFunc(next.Unique, func(y impl.IndexDef) bool { return y == x })
	default:
		fine = false
	}
	if !fine || !wantDatabase(next) {
		return d, false
	}
	return next, true
}

func TestStepsOnManyDatabases(t *testing.T) {
	done := map[string]int{}
	for _, d := range slices.Concat(validDatabases(), invalidDatabases()) {
		checkIsDatabase(t, d, wantDatabase(d))
		for _, u := range someSteps() {
			want, fine := wantStep(d, u)
			checkStep(t, d, u, want, fine)
			done[fmt.Sprint(u.Kind, fine)]++
		}
	}
	for _, what := range []string{"1 true", "1 false", "2 true", "2 false", "3 true", "3 false", "4 true", "4 false"} {
		if done[what] < 20 {
			t.Errorf("the steps of kind %s come %d times, too seldom", what, done[what])
		}
	}
}

func checkUpgrade(t *testing.T, d impl.Database, version int, steps []impl.Upgrade, want impl.Database, fine bool) {
	t.Helper()
	if got, ok := impl.UpgradeTo(d, version, steps); !sameDatabase(got, want) || ok != fine {
		t.Errorf("UpgradeTo(%v, %d, %+v) = %v, %t, want %v, %t", d, version, steps, got, ok, want, fine)
	}
}

func checkNoUpgrade(t *testing.T, d impl.Database, version int, steps ...impl.Upgrade) {
	t.Helper()
	checkUpgrade(t, d, version, steps, d, false)
}

func TestUpgradeToExamples(t *testing.T) {
	d := openDatabase()
	b, dd, f := d.Stores[0], d.Stores[1], d.Stores[2]
	cases := []struct {
		steps []impl.Upgrade
		want  impl.Database
	}{
		{nil, d}, {[]impl.Upgrade{}, d},
		{[]impl.Upgrade{createStep("e")}, withStores(d, b, dd, impl.Store{Name: "e"}, f)},
		{[]impl.Upgrade{dropStep("b")}, withUnique(withStores(d, dd, f), "d n")},
		{[]impl.Upgrade{indexStep("f", "z")}, withUnique(d, "d n", "b a", "b n", "f z")},
		{[]impl.Upgrade{noIndexStep("b", "a")}, withUnique(d, "d n", "b n")},
		{[]impl.Upgrade{createStep("e"), indexStep("e", "a")}, withUnique(withStores(d, b, dd, impl.Store{Name: "e"}, f), "d n", "b a", "b n", "e a")},
		{[]impl.Upgrade{dropStep("b"), createStep("g"), createStep("a")}, withUnique(withStores(d, impl.Store{Name: "a"}, dd, f, impl.Store{Name: "g"}), "d n")},
		{[]impl.Upgrade{dropStep("f"), dropStep("d"), dropStep("b")}, withUnique(withStores(d))},
		{[]impl.Upgrade{noIndexStep("d", "n"), indexStep("f", "n"), noIndexStep("b", "n"), indexStep("d", "n")}, withUnique(d, "b a", "f n", "d n")},
		// These undo each other, but for the items of a store, and the place of an index.
		{[]impl.Upgrade{createStep("e"), dropStep("e")}, d}, {[]impl.Upgrade{indexStep("f", "z"), noIndexStep("f", "z")}, d},
		{[]impl.Upgrade{createStep("e"), indexStep("e", "a"), dropStep("e")}, d}, {[]impl.Upgrade{dropStep("f"), createStep("f")}, withStores(d, b, dd, impl.Store{Name: "f"})},
		{[]impl.Upgrade{dropStep("b"), createStep("b")}, withUnique(withStores(d, impl.Store{Name: "b"}, dd, f), "d n")},
		{[]impl.Upgrade{noIndexStep("d", "n"), indexStep("d", "n")}, withUnique(d, "b a", "b n", "d n")}, {[]impl.Upgrade{noIndexStep("b", "n"), indexStep("b", "n")}, d},
		// An index that items break can be made when they are dropped.
		{[]impl.Upgrade{dropStep("d"), createStep("d"), indexStep("d", "a")}, withUnique(withStores(d, b, impl.Store{Name: "d"}, f), "b a", "b n", "d a")},
	}
	for _, c := range cases {
		for _, version := range []int{8, 9, 500, 999, 1000} {
			checkUpgrade(t, d, version, c.steps, withVersion(c.want, version), true)
		}
		for _, version := range append(badVersions, 0, 1, 6, 7) {
			checkNoUpgrade(t, d, version, c.steps...)
		}
	}
}

func TestUpgradeToOfEachVersion(t *testing.T) {
	for _, d := range validDatabases() {
		for _, from := range []int{0, 1, 7, 500, 998, 999, 1000} {
			old := withVersion(d, from)
			for _, version := range append(badVersions, 0, 1, 2, from-1, from, from+1, from+2, 998, 999, 1000) {
				if version > from && version <= 1000 {
					checkUpgrade(t, old, version, nil, withVersion(d, version), true)
				} else {
					checkNoUpgrade(t, old, version)
				}
			}
		}
	}
}

// TestUpgradeToStopsAtEachStep puts a step that fails at each place among others that do not.
func TestUpgradeToStopsAtEachStep(t *testing.T) {
	d := openDatabase()
	fine := []impl.Upgrade{dropStep("b"), createStep("a"), noIndexStep("d", "n"), createStep("g"), indexStep("g", "q"), dropStep("f")}
	want := withUnique(withStores(d, impl.Store{Name: "a"}, d.Stores[1], impl.Store{Name: "g"}), "g q")
	checkUpgrade(t, d, 8, fine, withVersion(want, 8), true)
	fails := []impl.Upgrade{{}, {Kind: 5, Store: "z"}, createStep(""), createStep("d"), createStep("A"), dropStep("e"), dropStep(""), indexStep("d", "a"), indexStep("e", "a"), indexStep("d", "A"), noIndexStep("d", "a"), noIndexStep("e", "n")}
	for at := range len(fine) + 1 {
		for _, u := range fails {
			steps := slices.Insert(slices.Clone(fine), at, u)
			checkNoUpgrade(t, d, 8, steps...)
			checkNoUpgrade(t, d, 1000, steps[:at+1]...)
		}
	}
	for _, u := range fails {
		checkNoUpgrade(t, d, 8, u)
		checkNoUpgrade(t, d, 8, u, u)
	}
}

// TestUpgradeToMayNotPassThroughAnInvalidDatabase has steps of which only the last database would be valid.
func TestUpgradeToMayNotPassThroughAnInvalidDatabase(t *testing.T) {
	open, full := openDatabase(), fullDatabase()
	checkNoUpgrade(t, full, 8, createStep("e"), dropStep("b"))
	checkUpgrade(t, full, 8, []impl.Upgrade{dropStep("h"), createStep("e")}, withVersion(withStores(full, full.Stores[0], full.Stores[1], impl.Store{Name: "e"}, full.Stores[2]), 8), true)
	checkNoUpgrade(t, full, 8, indexStep("f", "y"), noIndexStep("f", "z"))
	checkUpgrade(t, full, 8, []impl.Upgrade{noIndexStep("f", "z"), indexStep("f", "y")}, withVersion(withUnique(full, "b a", "d n", "b n", "f y"), 8), true)
	checkNoUpgrade(t, open, 8, indexStep("d", "a"), dropStep("d"))
	checkNoUpgrade(t, open, 8, indexStep("b", "c"), noIndexStep("b", "c"))
	checkNoUpgrade(t, open, 8, indexStep("e", "a"), createStep("e"))
	checkNoUpgrade(t, open, 8, createStep("A"), dropStep("A"))
	checkNoUpgrade(t, open, 8, createStep("b"), dropStep("b"))
}

func TestUpgradeToOnInvalidDatabases(t *testing.T) {
	for _, d := range invalidDatabases() {
		for _, version := range append(badVersions, 0, 1, 7, 8, 999, 1000) {
			checkNoUpgrade(t, d, version)
			checkNoUpgrade(t, d, version, createStep("e"))
			checkNoUpgrade(t, d, version, dropStep("b"))
			checkNoUpgrade(t, d, version, createStep("e"), dropStep("e"))
		}
	}
	// The new version does not mend the old one.
	checkNoUpgrade(t, impl.Database{Name: "app", Version: -1}, 0)
	checkNoUpgrade(t, impl.Database{Name: "app", Version: -1}, 5)
	checkNoUpgrade(t, impl.Database{Name: "app", Version: math.MaxInt}, math.MinInt)
	checkNoUpgrade(t, impl.Database{Name: "app", Version: math.MinInt}, 1000)
	checkNoUpgrade(t, database(1, nil, emptyStores("abcde")...), 2, dropStep("e"))
	checkNoUpgrade(t, database(1, indexes("b c"), storeB()), 2, noIndexStep("b", "c"))
}

func wantUpgrade(d impl.Database, version int, steps []impl.Upgrade) (impl.Database, bool) {
	next, fine := d, wantDatabase(d) && version > d.Version && version <= 1000
	for _, u := range steps {
		if fine {
			next, fine = wantStep(next, u)
		}
	}
	if !fine {
		return d, false
	}
	return withVersion(next, version), true
}

// TestUpgradeToOfAllShortLists tries all lists of up to three steps.
func TestUpgradeToOfAllShortLists(t *testing.T) {
	choices := []impl.Upgrade{
		{}, createStep("b"), createStep("e"), createStep("g"), dropStep("b"), dropStep("e"), dropStep("f"), indexStep("b", "a"), indexStep("b", "c"), indexStep("e", "a"), indexStep("f", "z"),
		noIndexStep("b", "a"), noIndexStep("e", "a"), noIndexStep("f", "z"),
	}
	whole, none := 0, 0
	check := func(d impl.Database, steps ...impl.Upgrade) {
		want, fine := wantUpgrade(d, 8, steps)
		checkUpgrade(t, d, 8, steps, want, fine)
		if fine {
			whole++
		} else {
			none++
		}
	}
	for _, d := range []impl.Database{openDatabase(), fullDatabase(), {Name: "app"}, database(8, nil, storeB()), database(1, indexes("b c"), storeB())} {
		check(d)
		for _, first := range choices {
			check(d, first)
			for _, second := range choices {
				check(d, first, second)
				for _, third := range choices {
					check(d, first, second, third)
				}
			}
		}
	}
	if whole < 300 || none < 1000 {
		t.Errorf("an upgrade happens %d times, and does not %d times", whole, none)
	}
}

// randomDatabase is valid; its stores have few numbers, so that some of its fields break an index.
func randomDatabase(r *rand.Rand) impl.Database {
	d := database(r.IntN(5), nil)
	for _, letter := range "abcdef" {
		if len(d.Stores) < maxStores && r.IntN(3) == 0 {
			d.Stores = append(d.Stores, withName(randomStore(r, 5, true), string(letter)))
		}
	}
	for range r.IntN(8) {
		if next, fine := wantStep(d, randomIndexStep(r)); fine {
			d = next
		}
	}
	return d
}

func randomName(r *rand.Rand) string {
	return string("abcdef"[r.IntN(6)])
}

func randomIndexStep(r *rand.Rand) impl.Upgrade {
	return indexStep(randomName(r), string("abnz"[r.IntN(4)]))
}

func randomStep(r *rand.Rand) impl.Upgrade {
	u := randomIndexStep(r)
	u.Kind = 1 + r.IntN(4)
	return u
}

// TestUpgradeToOfLongLists takes steps of which most can be performed.
func TestUpgradeToOfLongLists(t *testing.T) {
	r := rand.New(rand.NewPCG(8, 1))
	whole, none := 0, 0
	for range 6000 {
		d := randomDatabase(r)
		steps, at := []impl.Upgrade{}, d
		for len(steps) < 12 {
			u := randomStep(r)
			if next, fine := wantStep(at, u); fine || r.IntN(120) == 0 {
				steps, at = append(steps, u), next
			}
		}
		version := d.Version + r.IntN(8)
		want, fine := wantUpgrade(d, version, steps)
		checkUpgrade(t, d, version, steps, want, fine)
		if fine {
			whole++
		} else {
			none++
		}
	}
	if whole < 1000 || none < 1000 {
		t.Errorf("an upgrade happens %d times, and does not %d times", whole, none)
	}
}

// TestUpgradeToOfManySteps needs no limit for the number of steps.
func TestUpgradeToOfManySteps(t *testing.T) {
	d := openDatabase()
	steps := slices.Repeat([]impl.Upgrade{createStep("e"), indexStep("e", "a"), dropStep("e")}, 400)
	checkUpgrade(t, d, 8, steps, withVersion(d, 8), true)
	checkNoUpgrade(t, d, 8, append(steps, dropStep("e"))...)
}

func checkSizeDatabase(t *testing.T, d impl.Database, want int) {
	t.Helper()
	if got := impl.SizeDatabase(d); got != want {
		t.Errorf("SizeDatabase(%v) = %d, want %d", d, got, want)
	}
}

func TestSizeDatabase(t *testing.T) {
	checkSizeDatabase(t, impl.Database{}, 0)
	checkSizeDatabase(t, database(5, indexes("a b"), emptyStores("abcd")...), 0)
	one := withName(store(7, item(numberKey(1), field("a", 1)), item(textKey("x"))), "a")
	checkSizeDatabase(t, database(5, nil, one), 7+4+2+1)
	checkSizeDatabase(t, database(5, indexes("a a"), one, withName(one, "b"), withName(store(0, item(pairKey(3, "abc"))), "c")), 14+14+11)
	checkSizeDatabase(t, openDatabase(), (14+14+9)+(14+14+15))
	for _, d := range slices.Concat(validDatabases(), invalidDatabases()) {
		want := 0
		for _, s := range d.Stores {
			want += wantSize(s)
		}
		checkSizeDatabase(t, d, want)
	}
	// Stores that are not valid, or too many, count as well.
	checkSizeDatabase(t, impl.Database{Version: -1, Stores: slices.Repeat([]impl.Store{one}, 30)}, 30*14)
	checkSizeDatabase(t, impl.Database{Stores: []impl.Store{one, withAuto(withName(one, "A"), -1), {}, store(0, item(impl.Key{}, field("a", 1)))}}, 14+14+4)
}

func TestEqualDatabases(t *testing.T) {
	open := openDatabase()
	databases := append(slices.Concat(validDatabases(), invalidDatabases()), withDbName(open, "apq"), withDbName(open, "appa"), withDbName(open, ""), withVersion(open, 8), withVersion(open, -7))
	databases = append(databases, withUnique(open, "b a", "d n", "b n"), withUnique(open, "d n", "b n", "b a"), withUnique(open, "d n", "b a"), withUnique(open, "d n", "b a", "b n", "b n"), withUnique(open, "d n", "b b", "b n"), withUnique(open, "d n", "c a", "b n"), withUnique(open, "n d", "a b", "n b"))
	for at, s := range open.Stores {
		databases = append(databases, withStoreAt(open, at, withName(s, "c")), withStoreAt(open, at, withAuto(s, 77)), withStoreAt(open, at, withItemAt(s, 0, item(numberKey(-9)))), withStores(open, slices.Delete(slices.Clone(open.Stores), at, at+1)...), withStores(open, slices.Insert(slices.Clone(open.Stores), at, s)...))
		for i := range s.Items {
			databases = append(databases, withStoreAt(open, at, withoutItemAt(s, i)), withStoreAt(open, at, withRecordAt(s, i, record(field("a", 1)))))
		}
	}
	texts := []string{}
	for _, d := range databases {
		texts = append(texts, textOf(d))
	}
	for i, a := range databases {
		if !impl.EqualDatabases(a, a) || !impl.EqualDatabases(a, cloneDatabase(a)) {
			t.Errorf("EqualDatabases(%v) of itself = false", a)
		}
		for j, b := range databases {
			if got, want := impl.EqualDatabases(a, b), texts[i] == texts[j]; got != want {
				t.Errorf("EqualDatabases(%v, %v) = %t", a, b, got)
			}
		}
	}
}

// textOf is the same for no elements and an empty list.
func textOf(d impl.Database) string {
	text := fmt.Sprintf("%q %d %q", d.Name, d.Version, d.Unique)
	for _, s := range d.Stores {
		text += fmt.Sprintf(" %#v", cloneStore(s))
	}
	return text
}

func TestEqualDatabasesOfEmptyLists(t *testing.T) {
	if empty := (impl.Database{Stores: []impl.Store{}, Unique: []impl.IndexDef{}}); !impl.EqualDatabases(impl.Database{}, empty) || !impl.EqualDatabases(empty, impl.Database{}) {
		t.Error("EqualDatabases of no stores and of an empty list = false")
	}
	a, b := database(1, nil, impl.Store{Name: "a"}), database(1, nil, impl.Store{Name: "a", Items: []impl.Item{}})
	if !impl.EqualDatabases(a, b) || !impl.EqualDatabases(b, a) {
		t.Error("EqualDatabases of no items and of an empty list = false")
	}
	// The spare capacity does not belong to a database.
	whole := fullDatabase()
	part := database(whole.Version, whole.Unique[:2], whole.Stores[:3]...)
	if !impl.EqualDatabases(part, cloneDatabase(part)) || impl.EqualDatabases(part, whole) || impl.EqualDatabases(whole, part) {
		t.Error("EqualDatabases of a part of longer lists")
	}
}

// guardedDatabase is a database argument in known memory, that of its stores included.
type guardedDatabase struct {
	database impl.Database
	backing  []impl.Store
	saved    []impl.Store
	stores   []guardedStore
	unique   guarded[impl.IndexDef]
}

func guardDatabase(d impl.Database) guardedDatabase {
	edges := slices.Repeat([]impl.Store{store(201, item(textKey("edge"), field("edge", 201)))}, guardWidth)
	g := guardedDatabase{unique: guardBetween(indexDef("edge", "edge"), d.Unique)}
	g.backing = slices.Clone(edges)
	for _, s := range d.Stores {
		items := guardStore(s)
		g.stores = append(g.stores, items)
		g.backing = append(g.backing, items.store)
	}
	g.backing = slices.Concat(g.backing, edges)
	g.saved = slices.Clone(g.backing)
	g.database = impl.Database{Name: d.Name, Version: d.Version, Stores: g.backing[guardWidth : guardWidth+len(d.Stores)], Unique: g.unique.part}
	return g
}

// sameStoreMemory is more than sameStore: the items must be the same ones.
func sameStoreMemory(a impl.Store, b impl.Store) bool {
	return a.Name == b.Name && a.Auto == b.Auto && unsafe.SliceData(a.Items) == unsafe.SliceData(b.Items) && len(a.Items) == len(b.Items) && cap(a.Items) == cap(b.Items)
}

func (g guardedDatabase) check(t *testing.T, what string) {
	t.Helper()
	if !slices.EqualFunc(g.backing, g.saved, sameStoreMemory) {
		t.Errorf("%s: the memory of an argument is %v, was %v", what, g.backing, g.saved)
	}
	for _, items := range g.stores {
		items.check(t, what)
	}
	g.unique.check(t, what)
}

// extent is the memory of one slice, its spare capacity included.
type extent struct{ start, end uintptr }

func extentOf[T any](list []T) extent {
	start := uintptr(unsafe.Pointer(unsafe.SliceData(list)))
	return extent{start: start, end: start + uintptr(cap(list))*unsafe.Sizeof(*new(T))}
}

// extents is the memory of the whole argument.
func (g guardedDatabase) extents() []extent {
	all := []extent{extentOf(g.backing), extentOf(g.unique.backing)}
	for _, items := range g.stores {
		all = append(all, extentOf(items.backing))
		for _, fields := range items.records {
			all = append(all, extentOf(fields.backing))
		}
	}
	return all
}

// extentsOf is the memory of all slices that a database reaches, also through spare capacity.
func extentsOf(d impl.Database) []extent {
	extents := []extent{extentOf(d.Stores), extentOf(d.Unique)}
	for _, s := range d.Stores[:cap(d.Stores)] {
		extents = append(extents, extentOf(s.Items))
		for _, x := range s.Items[:cap(s.Items)] {
			extents = append(extents, extentOf(x.Record.Fields))
		}
	}
	return slices.DeleteFunc(extents, func(x extent) bool { return x.start == x.end })
}

// checkMemoryApart reports two slices of the databases that share memory.
func checkMemoryApart(t *testing.T, what string, databases ...impl.Database) {
	t.Helper()
	extents := []extent{}
	for _, d := range databases {
		extents = append(extents, extentsOf(d)...)
	}
	slices.SortFunc(extents, func(a extent, b extent) int { return cmp.Compare(a.start, b.start) })
	for i := range extents[:max(len(extents), 1)-1] {
		if extents[i].end > extents[i+1].start {
			t.Errorf("%s: two lists share memory", what)
		}
	}
}

// checkDatabaseResult calls a function of a database twice: neither result may share memory with the argument or the other result, nor within itself.
func checkDatabaseResult(t *testing.T, what string, d impl.Database, call func(d impl.Database) (impl.Database, bool)) {
	t.Helper()
	arg := guardDatabase(d)
	first, ok := call(arg.database)
	arg.check(t, what)
	second, also := call(arg.database)
	arg.check(t, what+", again")
	if !sameDatabase(first, second) || ok != also {
		t.Errorf("%s: %v, %t, then %v, %t", what, first, ok, second, also)
	}
	checkMemoryApart(t, what, first, second)
	checkApartFrom(t, what, first, arg)
	scribbleDatabase(first)
	arg.check(t, what+", its result changed")
}

// checkApartFrom holds a result against the memory of an argument.
func checkApartFrom(t *testing.T, what string, result impl.Database, arg guardedDatabase) {
	t.Helper()
	theirs := arg.extents()
	for _, x := range extentsOf(result) {
		for _, y := range theirs {
			if x.start < y.end && y.start < x.end {
				t.Errorf("%s: the result shares memory with an argument", what)
			}
		}
	}
}

func scribbleDatabase(d impl.Database) {
	stores := d.Stores[:cap(d.Stores)]
	for i := range stores {
		scribbleItems(stores[i].Items)
		stores[i] = withName(store(85), "changed")
	}
	unique := d.Unique[:cap(d.Unique)]
	for i := range unique {
		unique[i] = indexDef("changed", "changed")
	}
}

func TestDatabaseResultsAreFresh(t *testing.T) {
	for _, d := range slices.Concat(validDatabases(), invalidDatabases()) {
		for _, u := range []impl.Upgrade{createStep("e"), createStep("a"), createStep("z"), dropStep("b"), dropStep("h"), dropStep("notes"), indexStep("b", "z"), indexStep("f", "y"), noIndexStep("b", "a"), noIndexStep("d", "n"), {}} {
			checkDatabaseResult(t, fmt.Sprintf("ApplyUpgrade(%v, %+v)", d, u), d, func(d impl.Database) (impl.Database, bool) {
				return impl.ApplyUpgrade(d, u)
			})
		}
		for _, steps := range [][]impl.Upgrade{nil, {createStep("e")}, {dropStep("b"), createStep("g"), indexStep("g", "a")}, {noIndexStep("b", "a"), indexStep("b", "a")}, {dropStep("f"), dropStep("f")}} {
			for _, version := range []int{0, 8, 1000, 1001} {
				checkSteps(t, d, version, steps)
			}
		}
	}
}

func checkSteps(t *testing.T, d impl.Database, version int, steps []impl.Upgrade) {
	t.Helper()
	what := fmt.Sprintf("UpgradeTo(%v, %d, %+v)", d, version, steps)
	list := guardBetween(createStep("edge"), steps)
	checkDatabaseResult(t, what, d, func(d impl.Database) (impl.Database, bool) {
		return impl.UpgradeTo(d, version, list.part)
	})
	list.check(t, what)
}

func TestReadingDatabasesChangesNothing(t *testing.T) {
	databases := slices.Concat(validDatabases(), invalidDatabases())
	for i, d := range databases {
		arg, other := guardDatabase(d), guardDatabase(databases[(i+1)%len(databases)])
		impl.IsDatabase(arg.database)
		impl.SizeDatabase(arg.database)
		for _, name := range []string{"b", "f", "h", "e", ""} {
			impl.FindStore(arg.database, name)
		}
		impl.EqualDatabases(arg.database, other.database)
		impl.EqualDatabases(arg.database, arg.database)
		arg.check(t, "a function that reads a database")
		other.check(t, "EqualDatabases")
	}
}
