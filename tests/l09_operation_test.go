package tests

import (
	"cmp"
	"encoding/binary"
	"fmt"
	"maps"
	"math"
	"math/rand/v2"
	"slices"
	"testing"
	"unsafe"

	"loop.example/g00583/impl"
)

// Promise 9: a list of operations never breaks a unique index (chapter 9).

const maxOps = 6

func TestOperationConstants(t *testing.T) {
	got := []int{impl.MaxOps, impl.OpPut, impl.OpAdd, impl.OpDelete, impl.OpGet, impl.OpClear, impl.OpInc}
	if want := []int{maxOps, 1, 2, 3, 4, 5, 6}; !slices.Equal(got, want) {
		t.Errorf("the constants of operations are %v, want %v", got, want)
	}
}

var opKinds = []int{1, 2, 3, 4, 5, 6}

var badOpKinds = []int{0, -1, -2, -4, -6, 7, 8, 9, 16, 255, 256, 257, 261, 1 << 32, 1<<32 + 1, 1<<32 + 6, math.MinInt, math.MinInt + 1, math.MaxInt - 1, math.MaxInt}

func put(store string, k impl.Key, fields ...impl.Field) impl.Op {
	return impl.Op{Kind: impl.OpPut, Store: store, Key: k, Record: record(fields...)}
}

func add(store string, k impl.Key, fields ...impl.Field) impl.Op {
	return impl.Op{Kind: impl.OpAdd, Store: store, Key: k, Record: record(fields...)}
}

func remove(store string, k impl.Key) impl.Op {
	return impl.Op{Kind: impl.OpDelete, Store: store, Key: k}
}

func get(store string, k impl.Key) impl.Op {
	return impl.Op{Kind: impl.OpGet, Store: store, Key: k}
}

func empty(store string) impl.Op {
	return impl.Op{Kind: impl.OpClear, Store: store}
}

func inc(store string, k impl.Key, name string) impl.Op {
	return impl.Op{Kind: impl.OpInc, Store: store, Key: k, Field: name}
}

// opOf is valid for each of the six kinds; its store, its key and its fields are those of the store b.
func opOf(kind int) impl.Op {
	o := impl.Op{Kind: kind, Store: "b", Key: numberKey(3), Record: record(field("q", 1))}
	if kind == impl.OpInc {
		o.Field = "c"
	}
	return o
}

func withKey(o impl.Op, k impl.Key) impl.Op {
	o.Key = k
	return o
}

func withRecord(o impl.Op, r impl.Record) impl.Op {
	o.Record = r
	return o
}

func withOpStore(o impl.Op, name string) impl.Op {
	o.Store = name
	return o
}

func withOpField(o impl.Op, name string) impl.Op {
	o.Field = name
	return o
}

// wantOp follows the words of IsOp, with IsName, IsKey and IsRecord, which the tests of the earlier chapters check.
func wantOp(o impl.Op) bool {
	if o.Kind < 1 || o.Kind > 6 || !impl.IsName(o.Store) || !impl.IsRecord(o.Record) {
		return false
	}
	if o.Kind != 5 && !impl.IsKey(o.Key) {
		return false
	}
	if o.Kind == 6 {
		return impl.IsName(o.Field)
	}
	return o.Field == ""
}

func checkIsOp(t *testing.T, o impl.Op, want bool) {
	t.Helper()
	if got := impl.IsOp(o); got != want {
		t.Errorf("IsOp(%+v) = %t", o, got)
	}
}

func TestIsOpOfEachKind(t *testing.T) {
	for _, kind := range opKinds {
		checkIsOp(t, opOf(kind), true)
	}
	for _, kind := range badOpKinds {
		checkIsOp(t, opOf(kind), false)
		checkIsOp(t, withOpField(opOf(kind), "c"), false)
		checkIsOp(t, withKey(opOf(kind), impl.Key{}), false)
	}
	checkIsOp(t, impl.Op{}, false)
	checkIsOp(t, impl.Op{Kind: impl.OpClear, Store: "a"}, true)
	checkIsOp(t, impl.Op{Kind: impl.OpGet, Store: "a"}, false)
}

func TestIsOpOfEachStore(t *testing.T) {
	for _, kind := range opKinds {
		for _, name := range []string{"a", "z", "notes", "abcdefgh", "zzzzzzzz"} {
			checkIsOp(t, withOpStore(opOf(kind), name), true)
		}
		for _, name := range badNames() {
			checkIsOp(t, withOpStore(opOf(kind), name), false)
		}
	}
}

// TestIsOpOfEachKey also has the keys of OpClear, which may be anything.
func TestIsOpOfEachKey(t *testing.T) {
	for _, kind := range opKinds {
		for _, k := range keysInOrder() {
			checkIsOp(t, withKey(opOf(kind), k), true)
		}
		for _, k := range invalidKeys() {
			checkIsOp(t, withKey(opOf(kind), k), kind == 5)
		}
	}
}

func TestIsOpOfEachRecord(t *testing.T) {
	for _, kind := range opKinds {
		for _, r := range validRecords() {
			checkIsOp(t, withRecord(opOf(kind), r), true)
		}
		for _, r := range invalidRecords() {
			checkIsOp(t, withRecord(opOf(kind), r), false)
		}
		checkIsOp(t, withRecord(opOf(kind), impl.Record{}), true)
		checkIsOp(t, withRecord(opOf(kind), impl.Record{Fields: []impl.Field{}}), true)
	}
}

func TestIsOpOfEachField(t *testing.T) {
	for _, kind := range opKinds {
		for _, name := range []string{"a", "q", "z", "notes", "abcdefgh", "zzzzzzzz"} {
			checkIsOp(t, withOpField(opOf(kind), name), kind == 6)
		}
		for _, name := range badNames() {
			checkIsOp(t, withOpField(opOf(kind), name), kind != 6 && name == "")
		}
	}
}

// mixedOps have valid and invalid parts, in all combinations.
func mixedOps() []impl.Op {
	ops := []impl.Op{}
	for _, kind := range []int{-1, 0, 1, 2, 3, 4, 5, 6, 7} {
		for _, name := range []string{"b", "f", "e", "", "A"} {
			for _, k := range []impl.Key{numberKey(1), textKey("x"), pairKey(1, ""), {}, numberKey(maxNumber + 1)} {
				for _, r := range []impl.Record{{}, record(field("c", 7), field("n", 2)), record(field("c", -1))} {
					for _, fieldName := range []string{"", "n", "A"} {
						ops = append(ops, impl.Op{Kind: kind, Store: name, Key: k, Record: r, Field: fieldName})
					}
				}
			}
		}
	}
	return ops
}

func TestIsOpOfMixedParts(t *testing.T) {
	valid := 0
	for _, o := range mixedOps() {
		checkIsOp(t, o, wantOp(o))
		if wantOp(o) {
			valid++
		}
	}
	if valid < 100 {
		t.Errorf("only %d operations are valid", valid)
	}
}

func checkIsWrite(t *testing.T, o impl.Op, want bool) {
	t.Helper()
	if got := impl.IsWrite(o); got != want {
		t.Errorf("IsWrite(%+v) = %t", o, got)
	}
}

// TestIsWrite needs nothing but the kind.
func TestIsWrite(t *testing.T) {
	for kind, want := range map[int]bool{1: true, 2: true, 3: true, 4: false, 5: true, 6: true} {
		checkIsWrite(t, impl.Op{Kind: kind}, want)
		checkIsWrite(t, opOf(kind), want)
		checkIsWrite(t, withOpStore(opOf(kind), "A"), want)
		checkIsWrite(t, withKey(opOf(kind), impl.Key{}), want)
		checkIsWrite(t, withRecord(opOf(kind), record(field("a", -1))), want)
		checkIsWrite(t, withOpField(opOf(kind), "A"), want)
	}
	for _, kind := range badOpKinds {
		checkIsWrite(t, impl.Op{Kind: kind}, false)
		checkIsWrite(t, opOf(kind), false)
	}
	for _, o := range mixedOps() {
		checkIsWrite(t, o, slices.Contains([]int{1, 2, 3, 5, 6}, o.Kind))
	}
}

func checkRun(t *testing.T, d impl.Database, o impl.Op, want impl.Database, n int) {
	t.Helper()
	if got, number, ok := impl.RunOp(d, o); !sameDatabase(got, want) || number != n || !ok {
		t.Errorf("RunOp(%v, %+v) = %v, %d, %t, want %v, %d, true", d, o, got, number, ok, want, n)
	}
}

func checkNoRun(t *testing.T, d impl.Database, o impl.Op) {
	t.Helper()
	if got, number, ok := impl.RunOp(d, o); !sameDatabase(got, d) || number != 0 || ok {
		t.Errorf("RunOp(%v, %+v) = %v, %d, %t, want no change, 0, false", d, o, got, number, ok)
	}
}

// withB has other items in the store b of openDatabase, and withF in its store f.
func withB(auto int, items ...impl.Item) impl.Database {
	return withStoreAt(openDatabase(), 0, withName(store(auto, items...), "b"))
}

func withF(auto int, items ...impl.Item) impl.Database {
	return withStoreAt(openDatabase(), 2, withName(store(auto, items...), "f"))
}

func TestPutAndAddOfNewKeys(t *testing.T) {
	d := openDatabase()
	b := d.Stores[0].Items
	for _, kind := range []int{impl.OpPut, impl.OpAdd} {
		run := func(name string, k impl.Key, want impl.Database, fields ...impl.Field) {
			t.Helper()
			checkRun(t, d, impl.Op{Kind: kind, Store: name, Key: k, Record: record(fields...)}, want, 1)
		}
		run("b", numberKey(0), withB(3, item(numberKey(0), field("q", 4)), b[0], b[1], b[2]), field("q", 4))
		run("b", numberKey(2), withB(3, b[0], item(numberKey(2)), b[1], b[2]))
		run("b", numberKey(10), withB(10, b[0], b[1], item(numberKey(10), field("a", 3), field("n", 7)), b[2]), field("a", 3), field("n", 7))
		run("b", numberKey(maxAuto+1), withB(3, b[0], b[1], item(numberKey(maxAuto+1), field("a", 0)), b[2]), field("a", 0))
		run("b", textKey("1"), withB(3, b[0], b[1], item(textKey("1"), field("c", 7)), b[2]), field("c", 7))
		run("b", pairKey(10, "x"), withB(3, b[0], b[1], b[2], item(pairKey(10, "x"), field("n", maxField))), field("n", maxField))
		run("f", numberKey(9), withF(9, item(numberKey(9), field("a", 1))), field("a", 1))
		run("f", numberKey(12), withF(12, item(numberKey(12), field("a", 1))), field("a", 1))
		run("f", textKey(""), withF(9, item(textKey(""))))
	}
}

func TestPutAndAddOfExistingKeys(t *testing.T) {
	d := openDatabase()
	b := d.Stores[0].Items
	checkRun(t, d, put("b", numberKey(1), field("a", 9)), withB(3, item(numberKey(1), field("a", 9)), b[1], b[2]), 1)
	checkRun(t, d, put("b", numberKey(3)), withB(3, b[0], item(numberKey(3)), b[2]), 1)
	checkRun(t, d, put("b", textKey("x"), field("a", 0), field("n", 0)), withB(3, b[0], b[1], item(textKey("x"), field("a", 0), field("n", 0))), 1)
	for at, s := range d.Stores {
		for i, x := range s.Items {
			// An item does not break an index with the number that it has itself.
			checkRun(t, d, put(s.Name, x.Key, x.Record.Fields...), d, 1)
			checkRun(t, d, put(s.Name, x.Key, field("q", 5)), withStoreAt(d, at, withRecordAt(s, i, record(field("q", 5)))), 1)
			checkNoRun(t, d, add(s.Name, x.Key, x.Record.Fields...))
			checkNoRun(t, d, add(s.Name, x.Key, field("q", 5)))
			checkNoRun(t, d, add(s.Name, x.Key))
		}
	}
}

// TestPutAndAddThatBreakAnIndex has the indexes a and n of b, and n of d.
func TestPutAndAddThatBreakAnIndex(t *testing.T) {
	d := openDatabase()
	for _, o := range []impl.Op{
		put("b", numberKey(2), field("a", 1)), put("b", numberKey(2), field("a", 2)), put("b", numberKey(2), field("n", 5)), put("b", numberKey(2), field("n", 6)), put("b", textKey("a"), field("a", 9), field("n", 5)),
		put("b", pairKey(0, ""), field("a", 2), field("n", 9)), put("d", numberKey(1), field("n", 1)), put("d", numberKey(1), field("n", 2)), put("d", textKey(""), field("a", 5), field("n", 3)),
	} {
		checkNoRun(t, d, o)
		o.Kind = impl.OpAdd
		checkNoRun(t, d, o)
	}
	for _, o := range []impl.Op{
		put("b", numberKey(1), field("a", 2)), put("b", numberKey(3), field("a", 1), field("c", 7)), put("b", numberKey(1), field("n", 6)), put("b", numberKey(3), field("n", 5)), put("b", textKey("x"), field("a", 1)),
		put("d", numberKey(-4), field("n", 1)), put("d", numberKey(-4), field("n", 2)), put("d", pairKey(1, "x"), field("n", 1)),
	} {
		checkNoRun(t, d, o)
	}
	// These have a number that is in another field or in another store, or in a field without an index.
	for _, o := range []impl.Op{
		put("b", numberKey(2), field("a", 5)), put("b", numberKey(2), field("n", 1)), put("b", numberKey(2), field("c", 7)), put("b", numberKey(2), field("a", 3), field("n", 3)), put("d", numberKey(2), field("a", 1)),
		put("d", numberKey(2), field("n", 5)), put("f", numberKey(2), field("a", 1), field("n", 5)),
	} {
		want, n, fine := wantRun(d, o)
		if !fine {
			t.Fatalf("%+v is to break no index", o)
		}
		checkRun(t, d, o, want, n)
		o.Kind = impl.OpAdd
		checkRun(t, d, o, want, n)
	}
}

func TestOpDelete(t *testing.T) {
	d := openDatabase()
	for at, s := range d.Stores {
		for i, x := range s.Items {
			checkRun(t, d, remove(s.Name, x.Key), withStoreAt(d, at, withoutItemAt(s, i)), 1)
			// The record of the operation does not matter, if it is valid.
			checkRun(t, d, withRecord(remove(s.Name, x.Key), record(field("a", 1))), withStoreAt(d, at, withoutItemAt(s, i)), 1)
			checkNoRun(t, d, withRecord(remove(s.Name, x.Key), record(field("a", -1))))
		}
		for _, k := range []impl.Key{numberKey(0), numberKey(2), numberKey(-5), numberKey(4), textKey(""), textKey("xx"), textKey("1"), pairKey(1, "xx"), pairKey(1, "w"), pairKey(3, ""), pairKey(-4, "")} {
			checkRun(t, d, remove(s.Name, k), d, 0)
		}
	}
	full := fullDatabase()
	for i, x := range full.Stores[3].Items {
		checkRun(t, full, remove("h", x.Key), withStoreAt(full, 3, withoutItemAt(full.Stores[3], i)), 1)
	}
	// The Auto of the store stays, also without its item.
	checkRun(t, withF(12, item(numberKey(12))), remove("f", numberKey(12)), withF(12), 1)
}

func TestOpGet(t *testing.T) {
	s := store(0)
	for count := range maxFields + 1 {
		s.Items = append(s.Items, impl.Item{Key: numberKey(count), Record: recordOfFirst(count)})
	}
	d := database(3, nil, withName(store(0), "e"), s)
	for count := range maxFields + 1 {
		checkRun(t, d, get("notes", numberKey(count)), d, count)
		checkRun(t, d, withRecord(get("notes", numberKey(count)), record(field("zz", 5))), d, count)
		checkRun(t, d, get("e", numberKey(count)), d, -1)
	}
	for _, k := range []impl.Key{numberKey(-1), numberKey(7), numberKey(maxNumber), textKey(""), textKey("1"), pairKey(1, ""), pairKey(0, "")} {
		checkRun(t, d, get("notes", k), d, -1)
		checkNoRun(t, d, get("note", k))
	}
	for _, whole := range validDatabases() {
		for _, s := range whole.Stores {
			for _, x := range s.Items {
				checkRun(t, whole, get(s.Name, x.Key), whole, len(x.Record.Fields))
			}
		}
	}
}

func TestOpClear(t *testing.T) {
	for _, d := range validDatabases() {
		for at, s := range d.Stores {
			want := withStoreAt(d, at, impl.Store{Name: s.Name, Auto: s.Auto})
			checkRun(t, d, empty(s.Name), want, len(s.Items))
			// An empty store is emptied as well.
			checkRun(t, want, empty(s.Name), want, 0)
			for _, k := range append(someInvalidKeys(), numberKey(1), numberKey(-7), textKey("x"), pairKey(1, "x")) {
				checkRun(t, d, withKey(empty(s.Name), k), want, len(s.Items))
				checkRun(t, want, withKey(empty(s.Name), k), want, 0)
			}
			checkRun(t, d, withRecord(empty(s.Name), record(field("a", 1))), want, len(s.Items))
			checkNoRun(t, d, withRecord(empty(s.Name), record(field("A", 1))))
			checkNoRun(t, d, withOpField(empty(s.Name), "a"))
		}
	}
	for count := range maxItems + 1 {
		d := database(1, indexes("notes n"), storeOfCount(count))
		checkRun(t, d, empty("notes"), withStoreAt(d, 0, store(500)), count)
	}
	checkRun(t, openDatabase(), empty("f"), openDatabase(), 0)
	checkRun(t, openDatabase(), empty("b"), withB(3), 3)
}

func TestOpInc(t *testing.T) {
	d := openDatabase()
	b := d.Stores[0].Items
	checkRun(t, d, inc("b", numberKey(3), "a"), withB(3, b[0], item(numberKey(3), field("a", 3), field("c", 7)), b[2]), 3)
	checkRun(t, d, inc("b", numberKey(3), "c"), withB(3, b[0], item(numberKey(3), field("a", 2), field("c", 8)), b[2]), 8)
	checkRun(t, d, inc("b", textKey("x"), "n"), withB(3, b[0], b[1], item(textKey("x"), field("c", 7), field("n", 7))), 7)
	// A new field comes in order.
	checkRun(t, d, inc("b", numberKey(1), "b"), withB(3, item(numberKey(1), field("a", 1), field("b", 1), field("n", 5)), b[1], b[2]), 1)
	checkRun(t, d, inc("b", numberKey(1), "zzzzzzzz"), withB(3, item(numberKey(1), field("a", 1), field("n", 5), field("zzzzzzzz", 1)), b[1], b[2]), 1)
	checkRun(t, d, inc("b", numberKey(3), "n"), withB(3, b[0], item(numberKey(3), field("a", 2), field("c", 7), field("n", 1)), b[2]), 1)
	// A key without an item gets one, as OpPut would put it.
	checkRun(t, d, inc("b", numberKey(2), "q"), withB(3, b[0], item(numberKey(2), field("q", 1)), b[1], b[2]), 1)
	checkRun(t, d, inc("b", numberKey(4), "n"), withB(4, b[0], b[1], item(numberKey(4), field("n", 1)), b[2]), 1)
	checkRun(t, d, inc("f", numberKey(12), "a"), withF(12, item(numberKey(12), field("a", 1))), 1)
	checkRun(t, d, inc("f", numberKey(7), "a"), withF(9, item(numberKey(7), field("a", 1))), 1)
	checkRun(t, d, inc("f", pairKey(12, ""), "a"), withF(9, item(pairKey(12, ""), field("a", 1))), 1)
	checkRun(t, withF(0, item(numberKey(12))), inc("f", numberKey(12), "a"), withF(0, item(numberKey(12), field("a", 1))), 1)
	// The record of the operation does not matter, if it is valid.
	checkRun(t, d, withRecord(inc("f", numberKey(7), "a"), record(field("a", 60), field("b", 1))), withF(9, item(numberKey(7), field("a", 1))), 1)
	checkNoRun(t, d, withRecord(inc("f", numberKey(7), "a"), record(field("a", -1))))
	// The new number breaks an index.
	checkNoRun(t, d, inc("b", numberKey(1), "a"))
	checkNoRun(t, d, inc("b", numberKey(1), "n"))
	checkNoRun(t, d, inc("b", textKey("x"), "a"))
	checkNoRun(t, d, inc("b", numberKey(2), "a"))
	checkNoRun(t, d, inc("d", pairKey(1, ""), "n"))
	checkNoRun(t, d, inc("d", textKey("new"), "n"))
}

func TestOpIncAtTheLimits(t *testing.T) {
	one := func(fields ...impl.Field) impl.Database {
		return withF(9, item(numberKey(1), fields...))
	}
	for _, n := range []int{0, 1, 126, 127, 128, maxField - 2, maxField - 1} {
		checkRun(t, one(field("a", n)), inc("f", numberKey(1), "a"), one(field("a", n+1)), n+1)
		checkRun(t, one(field("a", 4), field("m", n)), inc("f", numberKey(1), "m"), one(field("a", 4), field("m", n+1)), n+1)
	}
	checkNoRun(t, one(field("a", maxField)), inc("f", numberKey(1), "a"))
	checkNoRun(t, one(field("a", 4), field("m", maxField)), inc("f", numberKey(1), "m"))
	for count := range maxFields + 1 {
		r := recordOfFirst(count)
		d := one(r.Fields...)
		for i, f := range r.Fields {
			more := cloneRecord(r)
			more.Fields[i].N++
			checkRun(t, d, inc("f", numberKey(1), f.Name), one(more.Fields...), f.N+1)
		}
		if count < maxFields {
			checkRun(t, d, inc("f", numberKey(1), "zz"), one(append(r.Fields, field("zz", 1))...), 1)
		} else {
			checkNoRun(t, d, inc("f", numberKey(1), "zz"))
			checkNoRun(t, d, inc("f", numberKey(1), "aa"))
		}
	}
}

func TestRunOpOnAFullStore(t *testing.T) {
	d := fullDatabase()
	h := d.Stores[3]
	for _, k := range []impl.Key{numberKey(5), numberKey(15), numberKey(1000), textKey("x"), pairKey(10, "")} {
		checkNoRun(t, d, put("h", k))
		checkNoRun(t, d, add("h", k))
		checkNoRun(t, d, inc("h", k, "a"))
		checkRun(t, d, remove("h", k), d, 0)
		checkRun(t, d, get("h", k), d, -1)
	}
	for i, x := range h.Items {
		checkRun(t, d, put("h", x.Key, field("n", 900)), withStoreAt(d, 3, withRecordAt(h, i, record(field("n", 900)))), 1)
		checkNoRun(t, d, add("h", x.Key, field("n", 900)))
		checkRun(t, d, inc("h", x.Key, "n"), withStoreAt(d, 3, withRecordAt(h, i, record(field("n", i+1)))), i+1)
	}
}

func TestRunOpWithoutTheStore(t *testing.T) {
	for _, kind := range opKinds {
		for _, name := range append(badNames(), "a", "c", "e", "h", "bb", "app", "zzzzzzzz") {
			checkNoRun(t, openDatabase(), withOpStore(opOf(kind), name))
		}
		checkNoRun(t, impl.Database{Name: "app"}, opOf(kind))
		checkNoRun(t, impl.Database{Name: "b"}, opOf(kind))
		checkNoRun(t, database(1, nil, storeD(), storeF()), opOf(kind))
	}
}

func TestRunOpOfInvalidOperations(t *testing.T) {
	d := openDatabase()
	for _, kind := range opKinds {
		want, n, fine := wantRun(d, opOf(kind))
		if fine != (kind != 2) {
			t.Fatalf("%+v is to be possible, but for OpAdd", opOf(kind))
		}
		if fine {
			checkRun(t, d, opOf(kind), want, n)
		}
		for _, k := range invalidKeys() {
			if kind == 5 {
				checkRun(t, d, withKey(opOf(kind), k), want, n)
			} else {
				checkNoRun(t, d, withKey(opOf(kind), k))
			}
		}
		for _, r := range invalidRecords() {
			checkNoRun(t, d, withRecord(opOf(kind), r))
		}
		for _, name := range badNames() {
			if kind == 6 || name != "" {
				checkNoRun(t, d, withOpField(opOf(kind), name))
			}
		}
		if kind != 6 {
			checkNoRun(t, d, withOpField(opOf(kind), "a"))
		}
	}
	for _, kind := range badOpKinds {
		checkNoRun(t, d, opOf(kind))
		checkNoRun(t, d, withOpField(opOf(kind), "a"))
	}
	checkNoRun(t, d, impl.Op{})
}

// someOps are all valid, for databases with the stores b, d, f or notes.
func someOps() []impl.Op {
	ops := []impl.Op{}
	for _, name := range []string{"b", "d", "f", "h", "e", "notes"} {
		ops = append(ops, empty(name))
		for _, k := range []impl.Key{numberKey(1), numberKey(4), textKey("x"), pairKey(1, "")} {
			ops = append(ops, remove(name, k), get(name, k), put(name, k), add(name, k))
			for n := range 4 {
				ops = append(ops, put(name, k, field("a", n), field("n", n+3)), add(name, k, field("n", n)))
			}
			for _, fieldName := range []string{"a", "c", "n"} {
				ops = append(ops, inc(name, k, fieldName))
			}
		}
	}
	return ops
}

func TestRunOpOnInvalidDatabases(t *testing.T) {
	for _, d := range invalidDatabases() {
		for _, o := range someOps() {
			checkNoRun(t, d, o)
		}
	}
}

// TestRunOpMendsNothing has operations that would make an invalid database valid.
func TestRunOpMendsNothing(t *testing.T) {
	broken := withUnique(openDatabase(), "b c")
	checkNoRun(t, broken, remove("b", numberKey(3)))
	checkNoRun(t, broken, inc("b", numberKey(3), "c"))
	checkNoRun(t, broken, put("b", numberKey(3), field("c", 1)))
	checkNoRun(t, broken, empty("b"))
	checkNoRun(t, broken, get("b", numberKey(3)))
	over := withStoreAt(openDatabase(), 2, withName(storeOfCount(maxItems+1), "f"))
	checkNoRun(t, over, remove("f", numberKey(10)))
	checkNoRun(t, over, empty("f"))
	bad := withF(9, item(numberKey(1), field("a", -1)))
	checkNoRun(t, bad, put("f", numberKey(1)))
	checkNoRun(t, bad, inc("f", numberKey(1), "a"))
	checkNoRun(t, withF(-1), put("f", numberKey(1)))
	checkNoRun(t, withF(9, item(impl.Key{})), empty("f"))
	checkNoRun(t, withVersion(openDatabase(), -1), get("b", numberKey(1)))
}

// modelOf is for valid stores.
func modelOf(s impl.Store) storeModel {
	m := storeModel{records: map[impl.Key]impl.Record{}, auto: s.Auto}
	for _, x := range s.Items {
		m.records[x.Key] = x.Record
	}
	return m
}

// run performs a valid operation and returns its number, and whether it is possible.
func (m *storeModel) run(o impl.Op) (int, bool) {
	r, exists := m.records[o.Key]
	switch o.Kind {
	case 1:
		return 1, m.put(o.Key, o.Record)
	case 2:
		return 1, !exists && m.put(o.Key, o.Record)
	case 3:
		count := len(m.records)
		delete(m.records, o.Key)
		return count - len(m.records), true
	case 4:
		if !exists {
			return -1, true
		}
		return len(r.Fields), true
	case 5:
		count := len(m.records)
		clear(m.records)
		return count, true
	}
	fields := map[string]int{}
	for _, f := range r.Fields {
		fields[f.Name] = f.N
	}
	fields[o.Field]++
	more := impl.Record{}
	for _, name := range slices.Sorted(maps.Keys(fields)) {
		more.Fields = append(more.Fields, field(name, fields[name]))
	}
	return fields[o.Field], m.put(o.Key, more)
}

// wantRun follows the words of RunOp, with the items of the store in a map.
func wantRun(d impl.Database, o impl.Op) (impl.Database, int, bool) {
	at := slices.IndexFunc(d.Stores, func(s impl.Store) bool { return s.Name == o.Store })
	if !wantDatabase(d) || !wantOp(o) || at < 0 {
		return d, 0, false
	}
	m := modelOf(d.Stores[at])
	n, fine := m.run(o)
	next := withStoreAt(d, at, withName(m.store(), o.Store))
	if !fine || !wantDatabase(next) {
		return d, 0, false
	}
	return next, n, true
}

func TestRunOpOnManyDatabases(t *testing.T) {
	done := map[string]int{}
	for _, d := range slices.Concat(validDatabases(), invalidDatabases()[:60]) {
		for _, o := range slices.Concat(someOps(), mixedOps()) {
			want, n, fine := wantRun(d, o)
			done[fmt.Sprint(o.Kind, fine)]++
			if fine {
				checkRun(t, d, o, want, n)
			} else {
				checkNoRun(t, d, o)
			}
		}
	}
	for _, kind := range opKinds {
		for _, what := range []string{fmt.Sprint(kind, true), fmt.Sprint(kind, false)} {
			if done[what] < 20 {
				t.Errorf("the operations of kind %s come %d times, too seldom", what, done[what])
			}
		}
	}
}

// checkRunOps also holds the promise itself against the result: a valid database stays one.
func checkRunOps(t *testing.T, d impl.Database, l []impl.Op, want impl.Database, numbers ...int) {
	t.Helper()
	got, n, ok := impl.RunOps(d, l)
	if !sameDatabase(got, want) || !slices.Equal(n, numbers) || !ok {
		t.Errorf("RunOps(%v, %+v) = %v, %v, %t, want %v, %v, true", d, l, got, n, ok, want, numbers)
	}
	if !wantDatabase(got) {
		t.Errorf("RunOps(%v, %+v) = %v, which is no valid database", d, l, got)
	}
}

func checkNoRunOps(t *testing.T, d impl.Database, l ...impl.Op) {
	t.Helper()
	if got, n, ok := impl.RunOps(d, l); !sameDatabase(got, d) || len(n) != 0 || ok {
		t.Errorf("RunOps(%v, %+v) = %v, %v, %t, want no change, no numbers, false", d, l, got, n, ok)
	}
}

func TestRunOpsOfNone(t *testing.T) {
	for _, d := range validDatabases() {
		checkRunOps(t, d, nil, d)
		checkRunOps(t, d, []impl.Op{}, d)
	}
	for _, d := range invalidDatabases() {
		checkNoRunOps(t, d)
	}
}

func TestRunOpsExamples(t *testing.T) {
	d := openDatabase()
	b, dd := d.Stores[0].Items, d.Stores[1].Items
	checkRunOps(t, d, []impl.Op{put("f", numberKey(12), field("a", 1))}, withF(12, item(numberKey(12), field("a", 1))), 1)
	checkRunOps(t, d, []impl.Op{empty("f")}, d, 0)
	checkRunOps(t, d, []impl.Op{empty("f"), empty("f"), empty("b"), empty("b")}, withB(3), 0, 0, 3, 0)
	checkRunOps(t, d, []impl.Op{get("b", numberKey(1)), get("b", numberKey(2)), get("f", numberKey(1))}, d, 2, -1, -1)
	// Each operation sees what those before it did.
	checkRunOps(t, d, []impl.Op{inc("f", textKey("k"), "a"), inc("f", textKey("k"), "a"), get("f", textKey("k")), inc("f", textKey("k"), "b"), get("f", textKey("k")), inc("f", textKey("k"), "a")},
		withF(9, item(textKey("k"), field("a", 3), field("b", 1))), 1, 2, 1, 1, 2, 3)
	checkRunOps(t, d, []impl.Op{add("f", numberKey(20)), put("f", numberKey(20), field("q", 5)), inc("f", numberKey(20), "q"), remove("f", numberKey(20)), remove("f", numberKey(20)), add("f", numberKey(8))},
		withF(20, item(numberKey(8))), 1, 1, 6, 1, 0, 1)
	several := withB(4, b[0], b[1], item(numberKey(4), field("a", 7)), b[2])
	several.Stores[1].Items = dd[1:]
	several.Stores[2].Items = []impl.Item{item(numberKey(1), field("a", 7))}
	checkRunOps(t, d, []impl.Op{put("f", numberKey(1), field("a", 7)), put("b", numberKey(4), field("a", 7)), remove("d", numberKey(-4))}, several, 1, 1, 1)
}

// TestRunOpsThatUndoEachOther leaves only what an operation keeps: the Auto of a store.
func TestRunOpsThatUndoEachOther(t *testing.T) {
	d := openDatabase()
	b := d.Stores[0].Items
	checkRunOps(t, d, []impl.Op{put("b", textKey("k"), field("a", 9)), remove("b", textKey("k"))}, d, 1, 1)
	checkRunOps(t, d, []impl.Op{put("f", numberKey(9)), empty("f")}, d, 1, 1)
	checkRunOps(t, d, []impl.Op{put("f", numberKey(10)), empty("f")}, withF(10), 1, 1)
	checkRunOps(t, d, []impl.Op{inc("f", textKey("k"), "a"), remove("f", textKey("k"))}, d, 1, 1)
	checkRunOps(t, d, []impl.Op{put("b", numberKey(1), field("z", 1)), put("b", numberKey(1), b[0].Record.Fields...)}, d, 1, 1)
	checkRunOps(t, d, []impl.Op{remove("b", numberKey(3)), add("b", numberKey(3), b[1].Record.Fields...)}, d, 1, 1)
	checkRunOps(t, d, []impl.Op{empty("b"), add("b", textKey("x"), b[2].Record.Fields...), add("b", numberKey(3), b[1].Record.Fields...), add("b", numberKey(1), b[0].Record.Fields...)}, d, 3, 1, 1, 1)
	full := fullDatabase()
	checkRunOps(t, full, []impl.Op{remove("h", numberKey(40)), add("h", numberKey(40), field("n", 3))}, full, 1, 1)
	checkNoRunOps(t, full, add("h", numberKey(45)), remove("h", numberKey(40)))
}

// TestRunOpsMayNotBreakAnIndexOnTheWay has lists of which only the last database would be valid, and the same operations in an order that is possible.
func TestRunOpsMayNotBreakAnIndexOnTheWay(t *testing.T) {
	d := openDatabase()
	b := d.Stores[0].Items
	cases := []struct {
		bad, good []impl.Op
		want      impl.Database
	}{
		{[]impl.Op{put("b", numberKey(2), field("a", 1)), remove("b", numberKey(1))}, []impl.Op{remove("b", numberKey(1)), put("b", numberKey(2), field("a", 1))}, withB(3, item(numberKey(2), field("a", 1)), b[1], b[2])},
		{[]impl.Op{add("b", numberKey(2), field("n", 6)), remove("b", textKey("x"))}, []impl.Op{remove("b", textKey("x")), add("b", numberKey(2), field("n", 6))}, withB(3, b[0], item(numberKey(2), field("n", 6)), b[1])},
		{[]impl.Op{inc("b", numberKey(1), "n"), inc("b", textKey("x"), "n")}, []impl.Op{inc("b", textKey("x"), "n"), inc("b", numberKey(1), "n")}, withB(3, item(numberKey(1), field("a", 1), field("n", 6)), b[1], item(textKey("x"), field("c", 7), field("n", 7)))},
		{[]impl.Op{inc("b", numberKey(2), "a"), put("b", numberKey(1))}, []impl.Op{put("b", numberKey(1)), inc("b", numberKey(2), "a")}, withB(3, item(numberKey(1)), item(numberKey(2), field("a", 1)), b[1], b[2])},
		{[]impl.Op{put("b", numberKey(2), field("a", 1)), empty("b")}, []impl.Op{empty("b"), put("b", numberKey(2), field("a", 1))}, withB(3, item(numberKey(2), field("a", 1)))},
	}
	for _, c := range cases {
		checkNoRunOps(t, d, c.bad...)
		checkNoRunOps(t, d, slices.Concat([]impl.Op{get("b", numberKey(1))}, c.bad, []impl.Op{empty("f"), empty("b")})...)
		got, _, ok := impl.RunOps(d, c.good)
		if !ok || !sameDatabase(got, c.want) {
			t.Errorf("RunOps(%v, %+v) = %v, %t, want %v, true", d, c.good, got, ok, c.want)
		}
		// Without the indexes both orders are possible.
		if _, _, ok := impl.RunOps(withUnique(d), c.bad); !ok {
			t.Errorf("RunOps(%v, %+v) = false", withUnique(d), c.bad)
		}
	}
	// Two items cannot exchange their numbers directly, only by way of a third number.
	checkNoRunOps(t, d, put("b", numberKey(1), field("a", 2)), put("b", numberKey(3), field("a", 1)))
	checkRunOps(t, d, []impl.Op{put("b", numberKey(1), field("a", 9)), put("b", numberKey(3), field("a", 1)), put("b", numberKey(1), field("a", 2))},
		withB(3, item(numberKey(1), field("a", 2)), item(numberKey(3), field("a", 1)), b[2]), 1, 1, 1)
}

func TestRunOpsOfEachCount(t *testing.T) {
	d := openDatabase()
	want, numbers := d, []int{}
	ops := []impl.Op{}
	for count := 1; count <= 2*maxOps+2; count++ {
		k := pairKey(count, "new")
		ops = append(ops, put("f", k))
		if count <= 6 {
			want, numbers = withStoreAt(want, 2, withItemAt(want.Stores[2], count-1, item(k))), append(numbers, 1)
			checkRunOps(t, d, ops, want, numbers...)
		} else {
			checkNoRunOps(t, d, ops...)
		}
		for _, o := range []impl.Op{get("b", numberKey(1)), get("b", numberKey(2)), empty("f")} {
			if many := slices.Repeat([]impl.Op{o}, count); count > 6 {
				checkNoRunOps(t, d, many...)
			} else {
				_, n, _ := wantRun(d, o)
				checkRunOps(t, d, many, d, slices.Repeat([]int{n}, count)...)
			}
		}
	}
	checkNoRunOps(t, d, slices.Repeat([]impl.Op{get("b", numberKey(1))}, 3000)...)
	checkNoRunOps(t, d, slices.Repeat([]impl.Op{{}}, 7)...)
}

// TestRunOpsStopsAtEachOperation puts an operation that fails at each place among others that do not.
func TestRunOpsStopsAtEachOperation(t *testing.T) {
	d := openDatabase()
	fine := []impl.Op{put("b", numberKey(50), field("a", 50)), get("b", numberKey(50)), remove("d", numberKey(-4)), inc("f", numberKey(1), "a"), empty("b")}
	if _, n, ok := impl.RunOps(d, fine); !ok || !slices.Equal(n, []int{1, 1, 1, 1, 4}) {
		t.Fatalf("RunOps(%v, %+v) = %v, %t", d, fine, n, ok)
	}
	fails := []impl.Op{
		{}, {Kind: 7, Store: "b", Key: numberKey(1)}, get("e", numberKey(1)), get("b", impl.Key{}), put("d", numberKey(7), field("n", 2)), put("d", numberKey(7), field("n", -1)), add("d", pairKey(1, "")), inc("d", pairKey(1, "x"), ""),
		empty(""), empty("e"), withOpField(empty("f"), "a"), inc("d", textKey("x"), "n"), withOpField(get("b", numberKey(1)), "a"), withRecord(remove("b", numberKey(1)), record(field("b", 1), field("a", 1))),
	}
	for at := range len(fine) + 1 {
		for _, o := range fails {
			l := slices.Insert(slices.Clone(fine), at, o)
			checkNoRunOps(t, d, l...)
			checkNoRunOps(t, d, l[:at+1]...)
			checkNoRunOps(t, d, l[at:]...)
		}
	}
	for _, o := range fails {
		checkNoRunOps(t, d, o)
		checkNoRunOps(t, d, o, o)
		checkNoRunOps(t, d, slices.Repeat([]impl.Op{o}, maxOps)...)
	}
}

func TestRunOpsOnInvalidDatabases(t *testing.T) {
	for _, d := range invalidDatabases() {
		for _, o := range someOps() {
			checkNoRunOps(t, d, o)
		}
		checkNoRunOps(t, d, get("b", numberKey(1)), empty("b"), empty("d"), empty("f"))
		checkNoRunOps(t, d, slices.Repeat([]impl.Op{empty("b")}, 7)...)
	}
}

func wantRunOps(d impl.Database, l []impl.Op) (impl.Database, []int, bool) {
	if !wantDatabase(d) || len(l) > 6 {
		return d, nil, false
	}
	next, numbers := d, []int{}
	for _, o := range l {
		after, n, fine := wantRun(next, o)
		if !fine {
			return d, nil, false
		}
		next, numbers = after, append(numbers, n)
	}
	return next, numbers, true
}

// checkList compares with the second implementation, and reports whether the list is possible.
func checkList(t *testing.T, d impl.Database, l ...impl.Op) bool {
	t.Helper()
	want, numbers, fine := wantRunOps(d, l)
	if fine {
		checkRunOps(t, d, l, want, numbers...)
	} else {
		checkNoRunOps(t, d, l...)
	}
	return fine
}

// TestRunOpsOfAllShortLists tries all lists of up to three operations.
func TestRunOpsOfAllShortLists(t *testing.T) {
	choices := []impl.Op{
		{}, put("b", numberKey(1), field("a", 2)), put("b", numberKey(4), field("a", 1)), put("f", numberKey(10), field("a", 1)), add("b", numberKey(3), field("a", 3)), add("b", textKey("k"), field("n", 6)),
		remove("b", numberKey(1)), remove("b", numberKey(3)), remove("f", numberKey(10)), get("b", numberKey(3)), empty("b"), empty("f"), inc("b", numberKey(1), "a"), inc("b", numberKey(4), "n"), inc("f", numberKey(10), "a"), inc("b", textKey("x"), "n"),
	}
	whole, none := 0, 0
	for _, d := range []impl.Database{openDatabase(), withUnique(openDatabase()), withUnique(openDatabase(), "b n"), withB(3), database(1, indexes("b c"), storeB())} {
		for _, first := range choices {
			checkList(t, d, first)
			for _, second := range choices {
				checkList(t, d, first, second)
				for _, third := range choices {
					if checkList(t, d, first, second, third) {
						whole++
					} else {
						none++
					}
				}
			}
		}
	}
	if whole < 1000 || none < 1000 {
		t.Errorf("a list is possible %d times, and is not %d times", whole, none)
	}
}

// indexedDatabase has small stores, and as many indexes as it finds.
func indexedDatabase(r *rand.Rand) impl.Database {
	d := database(r.IntN(5), nil)
	for _, letter := range "bdf" {
		s := withName(store(0), string(letter))
		for n := range r.IntN(4) {
			s.Items = append(s.Items, impl.Item{Key: numberKey(n), Record: randomNumbers(r)})
		}
		d.Stores = append(d.Stores, s)
	}
	for range 20 {
		if next, fine := wantStep(d, randomIndexStep(r)); fine {
			d = next
		}
	}
	return d
}

func randomNumbers(r *rand.Rand) impl.Record {
	numbers := record()
	for _, name := range []string{"a", "b", "n"} {
		if r.IntN(2) == 0 {
			numbers.Fields = append(numbers.Fields, field(name, r.IntN(5)))
		}
	}
	return numbers
}

// randomOp takes few keys and numbers, so that operations meet one another.
func randomOp(r *rand.Rand, d impl.Database) impl.Op {
	o := impl.Op{Kind: 1 + r.IntN(6), Store: randomName(r), Key: mixedKeys[r.IntN(len(mixedKeys))], Record: randomNumbers(r)}
	if len(d.Stores) > 0 && r.IntN(20) > 0 {
		o.Store = d.Stores[r.IntN(len(d.Stores))].Name
	}
	if r.IntN(4) > 0 {
		o.Key = numberKey(r.IntN(5))
	}
	if o.Kind == 6 {
		o.Field = string("abnz"[r.IntN(4)])
	}
	// Clearing a store is rare, so that there is something left to break an index.
	if o.Kind == 5 && r.IntN(3) > 0 {
		o.Kind = 1
	}
	return o
}

func TestRunOpsOfRandomLists(t *testing.T) {
	r := rand.New(rand.NewPCG(9, 1))
	done := map[string]int{}
	for range 8000 {
		d := indexedDatabase(r)
		l, at, length := []impl.Op{}, d, r.IntN(maxOps+2)
		for len(l) < length {
			o := randomOp(r, d)
			next, _, fine := wantRun(at, o)
			_, _, loose := wantRun(withUnique(at), o)
			if fine || loose || r.IntN(12) == 0 {
				l, at = append(l, o), next
			}
		}
		fine := checkList(t, d, l...)
		_, _, loose := wantRunOps(withUnique(d), l)
		done[fmt.Sprint(fine, loose)]++
	}
	// The second word of each says whether the list is possible without the indexes.
	for _, what := range []string{"true true", "false true", "false false"} {
		if done[what] < 500 {
			t.Errorf("%s comes %d times, too seldom", what, done[what])
		}
	}
}

// TestListsOneAfterTheOther goes on from each result: however long, no index is ever broken.
func TestListsOneAfterTheOther(t *testing.T) {
	r := rand.New(rand.NewPCG(9, 2))
	whole, none := 0, 0
	for range 60 {
		d := indexedDatabase(r)
		for range 60 {
			l := []impl.Op{}
			for range 1 + r.IntN(maxOps) {
				l = append(l, randomOp(r, d))
			}
			if checkList(t, d, l...) {
				whole++
			} else {
				none++
			}
			d, _, _ = impl.RunOps(d, l)
			checkIsDatabase(t, d, true)
		}
	}
	if whole < 300 || none < 300 {
		t.Errorf("a list is possible %d times, and is not %d times", whole, none)
	}
}

func checkScope(t *testing.T, l []impl.Op, want ...string) {
	t.Helper()
	if got := impl.ScopeOf(l); !slices.Equal(got, want) {
		t.Errorf("ScopeOf(%+v) = %q, want %q", l, got, want)
	}
}

func TestScopeOf(t *testing.T) {
	checkScope(t, nil)
	checkScope(t, []impl.Op{})
	for _, kind := range append(badOpKinds, opKinds...) {
		checkScope(t, []impl.Op{opOf(kind)}, "b")
		checkScope(t, []impl.Op{opOf(kind), withOpStore(opOf(kind), "a"), opOf(kind)}, "a", "b")
		checkScope(t, []impl.Op{{Kind: kind, Store: "z", Field: "a"}, {Kind: kind, Store: "f", Key: impl.Key{Kind: 9}}}, "f", "z")
	}
	checkScope(t, []impl.Op{{}}, "")
	checkScope(t, []impl.Op{empty("a"), {}, empty("")}, "", "a")
	cases := []struct{ names, want []string }{
		{[]string{"a", "a"}, []string{"a"}}, {[]string{"b", "a"}, []string{"a", "b"}}, {[]string{"c", "a", "b", "a", "c"}, []string{"a", "b", "c"}}, {[]string{"b", "ab", "a", "abc", "aa"}, []string{"a", "aa", "ab", "abc", "b"}},
		{[]string{"tags", "notes", "tags", "notes", "tags", "notes", "tags"}, []string{"notes", "tags"}}, {[]string{"e", "d", "c", "b", "a", "f", "g", "h"}, []string{"a", "b", "c", "d", "e", "f", "g", "h"}},
		// These are no names; the order is that of their bytes.
		{[]string{"a", "B", "1", "", "é", "zz", "\xff", "a\x00"}, []string{"", "1", "B", "a", "a\x00", "zz", "é", "\xff"}}, {[]string{"A", "A"}, []string{"A"}}, {[]string{"abcdefghijkl", "abcdefghi", "abcdefghijkl"}, []string{"abcdefghi", "abcdefghijkl"}},
	}
	for _, c := range cases {
		l := []impl.Op{}
		for i, name := range c.names {
			l = append(l, withOpStore(opOf(i%8), name))
		}
		checkScope(t, l, c.want...)
	}
}

func TestScopeOfRandomLists(t *testing.T) {
	r := rand.New(rand.NewPCG(9, 3))
	names := append(badNames()[:20], "a", "b", "c", "notes", "tags")
	for range 3000 {
		l, want := []impl.Op{}, map[string]bool{}
		for range r.IntN(10) {
			o := withOpStore(opOf(r.IntN(8)), names[r.IntN(len(names))])
			l, want[o.Store] = append(l, o), true
		}
		checkScope(t, l, slices.Sorted(maps.Keys(want))...)
	}
}

// wantOpParts are the four byte strings behind the kind of an encoded operation, valid or not.
func wantOpParts(o impl.Op) [][]byte {
	key := []byte{}
	if impl.IsKey(o.Key) {
		key = wantEncoding(o.Key)
	}
	return [][]byte{[]byte(o.Store), key, wantRecordEncoding(o.Record.Fields...), []byte(o.Field)}
}

func appendParts(b []byte, kind int, parts ...[]byte) []byte {
	b = binary.AppendUvarint(b, uint64(kind))
	for _, part := range parts {
		b = append(binary.AppendUvarint(b, uint64(len(part))), part...)
	}
	return b
}

// wantOpsEncoding is the encoding of a list of operations, valid or not.
func wantOpsEncoding(l ...impl.Op) []byte {
	encoded := binary.AppendUvarint(nil, uint64(len(l)))
	for _, o := range l {
		encoded = appendParts(encoded, o.Kind, wantOpParts(o)...)
	}
	return encoded
}

func sameOp(a impl.Op, b impl.Op) bool {
	return a.Kind == b.Kind && a.Store == b.Store && a.Key == b.Key && sameRecord(a.Record, b.Record) && a.Field == b.Field
}

func checkEncodeOps(t *testing.T, l []impl.Op, want []byte) {
	t.Helper()
	if got := impl.EncodeOps(l); !slices.Equal(got, want) {
		t.Errorf("EncodeOps(%+v) = %v, want %v", l, got, want)
	}
}

func checkDecoded(t *testing.T, b []byte, want []impl.Op) {
	t.Helper()
	if got, ok := impl.DecodeOps(b); !slices.EqualFunc(got, want, sameOp) || !ok {
		t.Errorf("DecodeOps(%v) = %+v, %t, want %+v, true", b, got, ok, want)
	}
}

func checkNotDecoded(t *testing.T, b []byte) {
	t.Helper()
	if got, ok := impl.DecodeOps(b); len(got) != 0 || ok {
		t.Errorf("DecodeOps(%v) = %+v, %t, want none, false", b, got, ok)
	}
}

func TestEncodeOpsExamples(t *testing.T) {
	cases := []struct {
		l    []impl.Op
		want []byte
	}{
		{nil, []byte{0}},
		{[]impl.Op{}, []byte{0}},
		{[]impl.Op{empty("ab")}, []byte{1, 5, 2, 97, 98, 0, 1, 0, 0}},
		{[]impl.Op{withKey(empty("a"), textKey(""))}, []byte{1, 5, 1, 97, 1, 2, 1, 0, 0}},
		{[]impl.Op{get("a", textKey("z9"))}, []byte{1, 4, 1, 97, 3, 2, 122, 57, 1, 0, 0}},
		{[]impl.Op{remove("a", numberKey(5))}, []byte{1, 3, 1, 97, 7, 1, 0, 232, 212, 165, 16, 5, 1, 0, 0}},
		{[]impl.Op{put("a", textKey("x"), field("a", 1), field("b", 300))}, []byte{1, 1, 1, 97, 2, 2, 120, 8, 2, 1, 97, 1, 1, 98, 172, 2, 0}},
		{[]impl.Op{inc("a", textKey("x"), "bc")}, []byte{1, 6, 1, 97, 2, 2, 120, 1, 0, 2, 98, 99}},
		{[]impl.Op{add("b", textKey("")), empty("a")}, []byte{2, 2, 1, 98, 1, 2, 1, 0, 0, 5, 1, 97, 0, 1, 0, 0}},
	}
	for _, c := range cases {
		checkEncodeOps(t, c.l, c.want)
		checkDecoded(t, c.want, c.l)
	}
}

// opLists are valid, and there is no OpClear in them with an invalid key other than the zero Key.
func opLists() [][]impl.Op {
	lists := [][]impl.Op{nil}
	long := impl.Op{Store: "zzzzzzzz", Key: pairKey(maxNumber, "zzzzzzzzzzzz"), Record: record(field("aaaaaaaa", maxField), field("bbbbbbbb", maxField), field("cccccccc", maxField), field("dddddddd", maxField), field("eeeeeeee", maxField), field("ffffffff", maxField))}
	mixed := []impl.Op{}
	for _, kind := range opKinds {
		o := opOf(kind)
		mixed = append(mixed, withOpStore(o, string("dbacef"[kind-1])))
		lists = append(lists, []impl.Op{o}, []impl.Op{o, o}, slices.Repeat([]impl.Op{o}, maxOps))
		long.Kind, long.Field = kind, ""
		if kind == 6 {
			long.Field = "zzzzzzzz"
		}
		lists = append(lists, []impl.Op{long}, slices.Repeat([]impl.Op{long}, maxOps), []impl.Op{withRecord(o, impl.Record{})})
		for _, k := range mixedKeys {
			lists = append(lists, []impl.Op{withKey(o, k)})
		}
		for _, r := range validRecords() {
			lists = append(lists, []impl.Op{withRecord(o, r), get("f", textKey(""))})
		}
	}
	for count := range len(mixed) + 1 {
		lists = append(lists, mixed[:count], mixed[len(mixed)-count:])
	}
	reverse := slices.Clone(mixed)
	slices.Reverse(reverse)
	return append(lists, reverse, []impl.Op{empty("a")}, []impl.Op{empty("a"), withKey(empty("a"), numberKey(1)), empty("a")}, slices.Repeat([]impl.Op{empty("a")}, maxOps))
}

func TestOpsAreEncodedThereAndBack(t *testing.T) {
	for _, l := range opLists() {
		checkEncodeOps(t, l, wantOpsEncoding(l...))
		checkDecoded(t, impl.EncodeOps(l), l)
	}
}

// TestClearingWithoutAKey has keys of OpClear that are not encoded, so that they do not come back.
func TestClearingWithoutAKey(t *testing.T) {
	for _, k := range invalidKeys() {
		bare, odd := empty("ab"), withKey(empty("ab"), k)
		checkEncodeOps(t, []impl.Op{odd}, []byte{1, 5, 2, 97, 98, 0, 1, 0, 0})
		checkDecoded(t, impl.EncodeOps([]impl.Op{odd}), []impl.Op{bare})
		l := []impl.Op{put("b", numberKey(1), field("a", 1)), odd, inc("b", textKey("x"), "a"), odd}
		checkEncodeOps(t, l, wantOpsEncoding(l[0], bare, l[2], bare))
		checkDecoded(t, impl.EncodeOps(l), []impl.Op{l[0], bare, l[2], bare})
	}
	for _, k := range keysInOrder() {
		l := []impl.Op{withKey(empty("ab"), k)}
		checkEncodeOps(t, l, wantOpsEncoding(l...))
		checkDecoded(t, impl.EncodeOps(l), l)
	}
}

// invalidOps differ from a valid operation in one thing each.
func invalidOps() []impl.Op {
	ops := []impl.Op{{}}
	for _, kind := range badOpKinds {
		ops = append(ops, opOf(kind), withOpField(opOf(kind), "c"), withKey(opOf(kind), impl.Key{}))
	}
	for _, kind := range opKinds {
		o := opOf(kind)
		for _, name := range badNames()[:40] {
			ops = append(ops, withOpStore(o, name))
			if kind == 6 || name != "" {
				ops = append(ops, withOpField(o, name))
			}
		}
		if kind != 6 {
			ops = append(ops, withOpField(o, "c"))
		}
		if kind != 5 {
			for _, k := range someInvalidKeys() {
				ops = append(ops, withKey(o, k))
			}
		}
		for _, r := range invalidRecords()[:60] {
			ops = append(ops, withRecord(o, r))
		}
	}
	return ops
}

func TestEncodeOpsRejects(t *testing.T) {
	fine := []impl.Op{put("b", numberKey(1), field("a", 1)), empty("f"), inc("b", textKey("x"), "a"), get("b", numberKey(1)), remove("b", numberKey(1))}
	for _, o := range invalidOps() {
		checkIsOp(t, o, false)
		checkEncodeOps(t, []impl.Op{o}, nil)
		checkEncodeOps(t, []impl.Op{o, o}, nil)
		for at := range len(fine) + 1 {
			checkEncodeOps(t, slices.Insert(slices.Clone(fine), at, o), nil)
		}
	}
	for _, kind := range opKinds {
		for count := range 3 * maxOps {
			l := slices.Repeat([]impl.Op{opOf(kind)}, count)
			if count <= 6 {
				checkEncodeOps(t, l, wantOpsEncoding(l...))
				checkDecoded(t, wantOpsEncoding(l...), l)
			} else {
				checkEncodeOps(t, l, nil)
				checkNotDecoded(t, wantOpsEncoding(l...))
			}
		}
	}
	checkEncodeOps(t, make([]impl.Op, 7), nil)
	checkEncodeOps(t, slices.Repeat([]impl.Op{empty("a")}, 300), nil)
	checkNotDecoded(t, wantOpsEncoding(slices.Repeat([]impl.Op{empty("a")}, 300)...))
}

func cutBytes(b []byte) ([]byte, []byte, bool) {
	length, rest, ok := cutVarint(b)
	if !ok || length > len(rest) {
		return nil, nil, false
	}
	return rest[:length], rest[length:], true
}

// wantCutOp takes a valid operation off the front of b.
func wantCutOp(b []byte) (impl.Op, []byte, bool) {
	kind, rest, ok := cutVarint(b)
	if !ok {
		return impl.Op{}, nil, false
	}
	parts := [][]byte{}
	for range 4 {
		part, behind, ok := cutBytes(rest)
		if !ok {
			return impl.Op{}, nil, false
		}
		parts, rest = append(parts, part), behind
	}
	k, isKey := wantDecoded(parts[1])
	r, isRecord := wantDecodedRecord(parts[2])
	o := impl.Op{Kind: kind, Store: string(parts[0]), Key: k, Record: r, Field: string(parts[3])}
	if !isKey && len(parts[1]) > 0 || !isRecord || !wantOp(o) {
		return impl.Op{}, nil, false
	}
	return o, rest, true
}

func wantDecodedOps(b []byte) ([]impl.Op, bool) {
	count, rest, ok := cutVarint(b)
	if !ok || count > 6 {
		return nil, false
	}
	l := []impl.Op{}
	for range count {
		o, behind, ok := wantCutOp(rest)
		if !ok {
			return nil, false
		}
		l, rest = append(l, o), behind
	}
	if len(rest) > 0 {
		return nil, false
	}
	return l, true
}

func checkDecodeOps(t *testing.T, b []byte) {
	t.Helper()
	want, fine := wantDecodedOps(b)
	if !fine {
		checkNotDecoded(t, b)
		return
	}
	checkDecoded(t, b, want)
	checkEncodeOps(t, want, b)
}

func TestDecodeOpsRejects(t *testing.T) {
	cases := [][]byte{
		nil, {}, {128}, {255}, {0, 0}, {0, 128}, {1}, {2}, {6}, {7}, {128, 1}, {128, 0}, {129, 0}, {127},
		// fewer operations than announced, and more
		{2, 5, 1, 97, 0, 1, 0, 0}, {0, 5, 1, 97, 0, 1, 0, 0}, {1, 5, 1, 97, 0, 1, 0, 0, 5, 1, 97, 0, 1, 0, 0}, {6, 5, 1, 97, 0, 1, 0, 0},
		// a kind that is none, and no name, key, record or field
		{1, 0, 1, 97, 0, 1, 0, 0}, {1, 7, 1, 97, 0, 1, 0, 0}, {1, 128, 1, 1, 97, 0, 1, 0, 0}, {1, 5, 0, 0, 1, 0, 0}, {1, 5, 1, 65, 0, 1, 0, 0}, {1, 5, 1, 97, 1, 9, 1, 0, 0}, {1, 5, 1, 97, 1, 1, 1, 0, 0}, {1, 5, 1, 97, 1, 0, 1, 0, 0},
		{1, 5, 1, 97, 0, 0, 0}, {1, 5, 1, 97, 0, 1, 1, 0}, {1, 5, 1, 97, 0, 2, 0, 0, 0}, {1, 5, 1, 97, 0, 1, 0, 1, 97}, {1, 4, 1, 97, 0, 1, 0, 0}, {1, 6, 1, 97, 1, 2, 1, 0, 0}, {1, 6, 1, 97, 0, 1, 0, 1, 97},
		// varints that are not minimal
		{129, 0, 5, 1, 97, 0, 1, 0, 0}, {1, 133, 0, 1, 97, 0, 1, 0, 0}, {1, 5, 129, 0, 97, 0, 1, 0, 0}, {1, 5, 1, 97, 128, 0, 1, 0, 0}, {1, 5, 1, 97, 0, 129, 0, 0, 0}, {1, 5, 1, 97, 0, 2, 128, 0, 0}, {1, 5, 1, 97, 0, 1, 0, 128, 0},
		// lengths beyond the end
		{1, 5, 9, 97, 0, 1, 0, 0}, {1, 5, 1, 97, 9, 1, 0, 0}, {1, 5, 1, 97, 0, 9, 0, 0}, {1, 5, 1, 97, 0, 1, 0, 1}, append([]byte{1, 5}, binary.AppendUvarint(nil, maxValue)...), append([]byte{1, 5}, binary.AppendUvarint(nil, math.MaxUint64)...),
		binary.AppendUvarint(nil, maxValue), append(binary.AppendUvarint(nil, maxValue), 5, 1, 97, 0, 1, 0, 0), binary.AppendUvarint(nil, math.MaxUint64),
	}
	for _, b := range cases {
		checkNotDecoded(t, b)
	}
	for _, o := range invalidOps() {
		checkNotDecoded(t, wantOpsEncoding(o))
		checkNotDecoded(t, wantOpsEncoding(o, empty("a")))
		checkNotDecoded(t, wantOpsEncoding(empty("a"), o))
		checkNotDecoded(t, wantOpsEncoding(get("b", numberKey(1)), o, empty("a")))
	}
}

// TestDecodeOpsOfOddParts has byte strings that encode no key or no record, which no list has.
func TestDecodeOpsOfOddParts(t *testing.T) {
	oddKeys := [][]byte{{0}, {1}, {2, 65}, {3}, {4}, {1, 0, 0, 0, 0, 0}, {1, 255, 255, 255, 255, 255, 255}, {1, 1, 209, 169, 74, 32, 1}, {1, 0, 232, 212, 165, 16, 5, 97}, append([]byte{2}, "aaaaaaaaaaaaa"...)}
	oddRecords := [][]byte{{}, {1}, {7}, {0, 0}, {1, 1, 97}, {1, 0, 1}, {1, 1, 65, 1}, wantRecordEncoding(field("b", 1), field("a", 1)), wantRecordEncoding(field("a", maxField+1)), {128, 0}}
	for _, kind := range opKinds {
		parts := wantOpParts(opOf(kind))
		checkDecoded(t, appendParts([]byte{1}, kind, parts...), []impl.Op{opOf(kind)})
		for _, key := range oddKeys {
			checkNotDecoded(t, appendParts([]byte{1}, kind, parts[0], key, parts[2], parts[3]))
		}
		for _, odd := range oddRecords {
			checkNotDecoded(t, appendParts([]byte{1}, kind, parts[0], parts[1], odd, parts[3]))
			checkNotDecoded(t, appendParts([]byte{1}, kind, parts[0], nil, odd, parts[3]))
		}
		// Without a key there is only OpClear.
		bare := appendParts([]byte{1}, kind, parts[0], nil, parts[2], parts[3])
		if kind == 5 {
			checkDecoded(t, bare, []impl.Op{withKey(opOf(kind), impl.Key{})})
		} else {
			checkNotDecoded(t, bare)
		}
	}
}

func TestDecodeOpsOfCutEncodings(t *testing.T) {
	for _, l := range opLists() {
		encoded := wantOpsEncoding(l...)
		for length := range encoded {
			checkNotDecoded(t, encoded[:length])
		}
		for _, behind := range [][]byte{{0}, {1}, {5}, {128}, {255}, {0, 0}, encoded, {5, 1, 97, 0, 1, 0, 0}} {
			checkNotDecoded(t, slices.Concat(encoded, behind))
		}
	}
}

func TestDecodeOpsOfChangedEncodings(t *testing.T) {
	lists := [][]impl.Op{
		nil, {empty("ab")}, {withKey(empty("a"), pairKey(3, "x")), empty("b")}, {put("b", numberKey(1), field("a", 300), field("b", 2))}, {add("b", textKey("xyz"))}, {inc("abcdefgh", textKey(""), "abcdefgh")},
		{get("b", pairKey(-1, "")), remove("f", numberKey(maxNumber)), inc("b", textKey("x"), "a")}, slices.Repeat([]impl.Op{empty("a")}, maxOps),
	}
	for _, l := range lists {
		encoded := wantOpsEncoding(l...)
		checkDecodeOps(t, encoded)
		for i, old := range encoded {
			for c := range 256 {
				checkDecodeOps(t, slices.Replace(slices.Clone(encoded), i, i+1, byte(c)))
				checkDecodeOps(t, slices.Insert(slices.Clone(encoded), i, byte(c)))
			}
			checkDecodeOps(t, encoded[i:])
			checkDecodeOps(t, slices.Delete(slices.Clone(encoded), i, i+1))
			// Where there is a varint, it is no longer minimal.
			checkDecodeOps(t, slices.Replace(slices.Clone(encoded), i, i+1, old|128, 0))
			checkDecodeOps(t, slices.Replace(slices.Clone(encoded), i, i+1, old|128, 128, 0))
		}
	}
}

func TestDecodeOpsOfAllShortInputs(t *testing.T) {
	const longest = 8
	inputs, decoded := [][]byte{{}}, 0
	for i := 0; i < len(inputs); i++ {
		b := inputs[i]
		checkDecodeOps(t, b)
		if _, ok := wantDecodedOps(b); ok {
			decoded++
		}
		if len(b) == longest {
			continue
		}
		for _, c := range []byte{0, 1, 2, 5, 97} {
			inputs = append(inputs, append(slices.Clone(b), c))
		}
	}
	// The empty list and the clearing of a store are the only ones that are so short.
	if decoded != 2 {
		t.Errorf("%d inputs are lists of operations, want 2", decoded)
	}
}

// textOfOps is the same for no elements and an empty list.
func textOfOps(l []impl.Op) string {
	text := ""
	for _, o := range l {
		text += fmt.Sprintf("%d %q %#v %q %#v\n", o.Kind, o.Store, o.Key, o.Field, append([]impl.Field{}, o.Record.Fields...))
	}
	return text
}

func TestEqualOps(t *testing.T) {
	base := []impl.Op{put("b", numberKey(1), field("a", 1), field("b", 2)), inc("f", pairKey(1, "x"), "a"), empty("b")}
	lists := append(opLists()[:30], base, base[:2], base[1:], append(slices.Clone(base), base[2]), append(slices.Clone(base), impl.Op{}), []impl.Op{base[1], base[0], base[2]}, []impl.Op{base[2], base[1], base[0]}, make([]impl.Op, 1), make([]impl.Op, 2), make([]impl.Op, 9))
	for at, o := range base {
		changed := []impl.Op{withOpStore(o, "c"), withOpStore(o, ""), withOpField(o, "b"), withOpField(o, "B"), withOpField(o, ""), {}}
		for _, kind := range []int{0, 1, 2, 5, 6, 7, -1} {
			other := o
			other.Kind = kind
			changed = append(changed, other)
		}
		for _, k := range []impl.Key{{}, numberKey(1), numberKey(2), textKey("x"), pairKey(1, "x"), pairKey(1, "y"), pairKey(2, "x"), {Kind: 9}, {N: 1}, {Text: "x"}} {
			changed = append(changed, withKey(o, k))
		}
		for _, r := range []impl.Record{record(), record(field("a", 1)), record(field("a", 1), field("b", 3)), record(field("a", 1), field("c", 2)), record(field("b", 2), field("a", 1)), record(field("a", -1))} {
			changed = append(changed, withRecord(o, r))
		}
		for _, other := range changed {
			l := slices.Clone(base)
			l[at] = other
			lists = append(lists, l)
		}
	}
	texts := []string{}
	for _, l := range lists {
		texts = append(texts, textOfOps(l))
	}
	for i, a := range lists {
		for j, b := range lists {
			if got, want := impl.EqualOps(a, b), texts[i] == texts[j]; got != want {
				t.Errorf("EqualOps(%+v, %+v) = %t", a, b, got)
			}
		}
	}
}

func TestEqualOpsOfEmptyLists(t *testing.T) {
	if !impl.EqualOps(nil, nil) || !impl.EqualOps(nil, []impl.Op{}) || !impl.EqualOps([]impl.Op{}, nil) {
		t.Error("EqualOps of no operations and of an empty list = false")
	}
	a, b := []impl.Op{{Kind: 1}}, []impl.Op{{Kind: 1, Record: impl.Record{Fields: []impl.Field{}}}}
	if !impl.EqualOps(a, b) || !impl.EqualOps(b, a) {
		t.Error("EqualOps of no fields and of an empty list = false")
	}
	// The spare capacity does not belong to a list.
	whole := slices.Repeat([]impl.Op{empty("a")}, 4)
	if !impl.EqualOps(whole[:2], slices.Repeat([]impl.Op{empty("a")}, 2)) || impl.EqualOps(whole[:2], whole) || impl.EqualOps(whole, whole[:2]) {
		t.Error("EqualOps of a part of a longer list")
	}
}

// guardedOps is a list argument in known memory, that of its records included.
type guardedOps struct {
	list    []impl.Op
	backing []impl.Op
	saved   []impl.Op
	records []guarded[impl.Field]
}

func guardOps(l []impl.Op) guardedOps {
	edges := slices.Repeat([]impl.Op{inc("edge", textKey("edge"), "edge")}, guardWidth)
	g := guardedOps{}
	for _, o := range slices.Concat(edges, l, edges) {
		fields := guardRecord(o.Record)
		g.records = append(g.records, fields)
		g.backing = append(g.backing, withRecord(o, record(fields.part...)))
	}
	g.saved = slices.Clone(g.backing)
	g.list = g.backing[guardWidth : guardWidth+len(l)]
	return g
}

// sameOpMemory is more than sameOp: the fields must be the same ones.
func sameOpMemory(a impl.Op, b impl.Op) bool {
	x, y := a.Record.Fields, b.Record.Fields
	return a.Kind == b.Kind && a.Store == b.Store && a.Key == b.Key && a.Field == b.Field && unsafe.SliceData(x) == unsafe.SliceData(y) && len(x) == len(y) && cap(x) == cap(y)
}

func (g guardedOps) check(t *testing.T, what string) {
	t.Helper()
	if !slices.EqualFunc(g.backing, g.saved, sameOpMemory) {
		t.Errorf("%s: the memory of an argument is %v, was %v", what, g.backing, g.saved)
	}
	for _, fields := range g.records {
		fields.check(t, what)
	}
}

// extents is the memory of the whole argument.
func (g guardedOps) extents() []extent {
	all := []extent{extentOf(g.backing)}
	for _, fields := range g.records {
		all = append(all, extentOf(fields.backing))
	}
	return all
}

// opExtents is the memory of all slices that a list of operations reaches, also through spare capacity.
func opExtents(l []impl.Op) []extent {
	extents := []extent{extentOf(l)}
	for _, o := range l[:cap(l)] {
		extents = append(extents, extentOf(o.Record.Fields))
	}
	return slices.DeleteFunc(extents, func(x extent) bool { return x.start == x.end })
}

func checkExtentsApart(t *testing.T, what string, extents ...extent) {
	t.Helper()
	slices.SortFunc(extents, func(a extent, b extent) int { return cmp.Compare(a.start, b.start) })
	for i := range extents[:max(len(extents), 1)-1] {
		if extents[i].end > extents[i+1].start {
			t.Errorf("%s: two lists share memory", what)
		}
	}
}

// checkRunResult calls RunOps, or RunOp with the only operation of the list, twice: no result may share memory with an argument or another result, nor within itself.
func checkRunResult(t *testing.T, what string, d impl.Database, l []impl.Op, call func(d impl.Database, l []impl.Op) (impl.Database, []int, bool)) {
	t.Helper()
	ops, kept := guardOps(l), []impl.Database{}
	numbers := [][]int{}
	checkDatabaseResult(t, what, d, func(d impl.Database) (impl.Database, bool) {
		got, n, ok := call(d, ops.list)
		kept, numbers = append(kept, got), append(numbers, n)
		return got, ok
	})
	ops.check(t, what)
	if !slices.Equal(numbers[0], numbers[1]) {
		t.Errorf("%s: the numbers are %v, then %v", what, numbers[0], numbers[1])
	}
	extents := ops.extents()
	for i := range kept {
		extents = append(extents, extentsOf(kept[i])...)
		if cap(numbers[i]) > 0 {
			extents = append(extents, extentOf(numbers[i]))
		}
	}
	checkExtentsApart(t, what, extents...)
}

func runOne(d impl.Database, l []impl.Op) (impl.Database, []int, bool) {
	got, n, ok := impl.RunOp(d, l[0])
	return got, []int{n}, ok
}

func TestRunResultsAreFresh(t *testing.T) {
	ops := []impl.Op{
		put("b", numberKey(1), field("a", 9), field("z", 1)), put("b", numberKey(2), field("a", 8)), put("b", numberKey(2), field("a", 1)), add("b", numberKey(1)), add("b", textKey("k"), field("z", 1)), add("f", numberKey(30), field("a", 1), field("b", 2)),
		remove("b", numberKey(1)), remove("b", numberKey(2)), get("b", numberKey(1)), get("b", numberKey(2)), empty("b"), empty("f"), inc("b", numberKey(1), "a"), inc("b", numberKey(3), "c"), inc("b", numberKey(7), "q"), inc("notes", numberKey(10), "n"),
		withRecord(get("b", numberKey(1)), record(field("q", 1))), withRecord(inc("b", numberKey(7), "q"), record(field("q", 1))), {}, put("b", numberKey(1), field("b", 1), field("a", 1)),
	}
	for _, d := range slices.Concat(validDatabases(), invalidDatabases()[:40]) {
		for _, o := range ops {
			checkRunResult(t, fmt.Sprintf("RunOp(%v, %+v)", d, o), d, []impl.Op{o}, runOne)
			checkRunResult(t, fmt.Sprintf("RunOps(%v, %+v)", d, o), d, []impl.Op{o}, impl.RunOps)
		}
		for _, l := range [][]impl.Op{nil, {empty("b"), empty("b")}, {ops[0], ops[13], ops[8]}, {ops[0], ops[0]}, {ops[4], ops[6], ops[5], ops[11]}, {ops[8], {}}, {ops[5], ops[5]}, slices.Repeat([]impl.Op{ops[0]}, maxOps), slices.Repeat([]impl.Op{ops[8]}, maxOps+1)} {
			checkRunResult(t, fmt.Sprintf("RunOps(%v, %+v)", d, l), d, l, impl.RunOps)
		}
	}
}

// TestRunOpsOfOneRecord puts a record of the database itself under several keys.
func TestRunOpsOfOneRecord(t *testing.T) {
	arg := guardDatabase(withF(9, item(numberKey(1), field("a", 1), field("b", 2))))
	shared := arg.database.Stores[2].Items[0].Record
	l := []impl.Op{put("f", numberKey(1)), put("f", numberKey(2)), add("f", textKey("x")), inc("f", numberKey(2), "b"), put("f", numberKey(1)), get("f", textKey("x"))}
	for i := range l {
		l[i].Record = shared
	}
	got, n, ok := impl.RunOps(arg.database, l)
	want := withF(9, item(numberKey(1), field("a", 1), field("b", 2)), item(numberKey(2), field("a", 1), field("b", 3)), item(textKey("x"), field("a", 1), field("b", 2)))
	if !sameDatabase(got, want) || !slices.Equal(n, []int{1, 1, 1, 3, 1, 2}) || !ok {
		t.Errorf("RunOps of one record = %v, %v, %t, want %v", got, n, ok, want)
	}
	checkMemoryApart(t, "RunOps of one record", got)
	checkApartFrom(t, "RunOps of one record", got, arg)
	scribbleDatabase(got)
	arg.check(t, "RunOps of one record")
}

func TestOpCodingIsFresh(t *testing.T) {
	for _, l := range slices.Concat(opLists(), [][]impl.Op{{{}}, make([]impl.Op, 7), {empty("a"), withRecord(empty("a"), record(field("b", 1), field("a", 1)))}}) {
		arg := guardOps(l)
		first, second := impl.EncodeOps(arg.list), impl.EncodeOps(arg.list)
		want := slices.Clone(second)
		scribble(first)
		arg.check(t, "EncodeOps")
		if !slices.Equal(second, want) {
			t.Errorf("EncodeOps(%+v): a result changes with another one", l)
		}

		encoded := guard(wantOpsEncoding(l...))
		got, ok := impl.DecodeOps(encoded.part)
		again, also := impl.DecodeOps(encoded.part)
		encoded.check(t, "DecodeOps")
		if !slices.EqualFunc(got, again, sameOp) || ok != also {
			t.Errorf("DecodeOps(%v) = %+v, %t, then %+v, %t", encoded.part, got, ok, again, also)
		}
		checkExtentsApart(t, "DecodeOps", slices.Concat(opExtents(got), opExtents(again))...)
		text := textOfOps(again)
		scribble(encoded.backing)
		if textOfOps(again) != text {
			t.Errorf("DecodeOps: the result %s changes with the argument", text)
		}
	}
}

func TestScopesAreFresh(t *testing.T) {
	for _, l := range [][]impl.Op{nil, {empty("a")}, {empty("b"), empty("a"), empty("b")}, {{}, empty("c"), {}}} {
		arg := guardOps(l)
		first, second := impl.ScopeOf(arg.list), impl.ScopeOf(arg.list)
		want := slices.Clone(second)
		all := first[:cap(first)]
		for i := range all {
			all[i] = "changed"
		}
		arg.check(t, "ScopeOf")
		if !slices.Equal(second, want) {
			t.Errorf("ScopeOf(%+v): a result changes with another one", l)
		}
	}
}

func TestReadingOpsChangesNothing(t *testing.T) {
	lists := slices.Concat(opLists(), [][]impl.Op{invalidOps()})
	for i, l := range lists {
		arg, other := guardOps(l), guardOps(lists[(i+1)%len(lists)])
		for _, o := range arg.list {
			impl.IsOp(o)
			impl.IsWrite(o)
		}
		impl.EqualOps(arg.list, other.list)
		impl.EqualOps(arg.list, arg.list)
		arg.check(t, "IsOp, IsWrite or EqualOps")
		other.check(t, "EqualOps")
	}
}
