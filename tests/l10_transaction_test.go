package tests

import (
	"fmt"
	"math"
	"math/rand/v2"
	"slices"
	"testing"
	"unsafe"

	"loop.example/g00583/impl"
)

// Promise 10: overlapping transactions have the effect of a serial order (chapter 10).

const (
	maxTxs     = 6
	maxChoices = 60
)

func TestTransactionConstants(t *testing.T) {
	got := []int{impl.MaxTxs, impl.TxWaiting, impl.TxRunning, impl.TxDone, impl.TxAborted}
	if want := []int{maxTxs, 0, 1, 2, 3}; !slices.Equal(got, want) {
		t.Errorf("the constants of transactions are %v, want %v", got, want)
	}
}

// txStates have values in all four states and in none of them.
var txStates = []int{0, 1, 2, 3, 4, 5, -1, -2, -3, 255, 256, 257, 1 << 32, 1<<32 + 1, math.MinInt, math.MinInt + 1, math.MaxInt}

var badPlaces = []int{-1, -2, -6, math.MinInt, math.MinInt + 1, math.MaxInt - 1, math.MaxInt}

func txQueue(txs ...impl.Tx) impl.TxQueue {
	return impl.TxQueue{Txs: txs}
}

func tx(id int, ops ...impl.Op) impl.Tx {
	return impl.Tx{Id: id, Ops: ops}
}

// queueOf has a new transaction for each list.
func queueOf(lists ...[]impl.Op) impl.TxQueue {
	q := txQueue()
	for i, l := range lists {
		q.Txs = append(q.Txs, tx(i+1, l...))
	}
	return q
}

func cloneOps(l []impl.Op) []impl.Op {
	clone := []impl.Op{}
	for _, o := range l {
		clone = append(clone, withRecord(o, cloneRecord(o.Record)))
	}
	return clone
}

func cloneTx(x impl.Tx) impl.Tx {
	clone := impl.Tx{Id: x.Id, Ops: cloneOps(x.Ops), At: x.At, State: x.State}
	for _, s := range x.Backup {
		clone.Backup = append(clone.Backup, cloneStore(s))
	}
	return clone
}

func cloneQueue(q impl.TxQueue) impl.TxQueue {
	clone := txQueue()
	for _, x := range q.Txs {
		clone.Txs = append(clone.Txs, cloneTx(x))
	}
	return clone
}

func sameTx(a impl.Tx, b impl.Tx) bool {
	return a.Id == b.Id && slices.EqualFunc(a.Ops, b.Ops, sameOp) && a.At == b.At && a.State == b.State && slices.EqualFunc(a.Backup, b.Backup, sameStore)
}

// sameQueue compares queues without the functions of the package.
func sameQueue(a impl.TxQueue, b impl.TxQueue) bool {
	return slices.EqualFunc(a.Txs, b.Txs, sameTx)
}

func withState(x impl.Tx, state int) impl.Tx {
	with := cloneTx(x)
	with.State = state
	return with
}

func withAt(x impl.Tx, at int) impl.Tx {
	with := cloneTx(x)
	with.At = at
	return with
}

func withBackup(x impl.Tx, stores ...impl.Store) impl.Tx {
	with := cloneTx(x)
	with.Backup = stores
	return with
}

// running is a transaction that was started when the stores were like these, and has performed some operations.
func running(x impl.Tx, at int, stores ...impl.Store) impl.Tx {
	return withBackup(withAt(withState(x, 1), at), stores...)
}

// ended has no backup.
func ended(x impl.Tx, at int, state int) impl.Tx {
	return withBackup(withAt(withState(x, state), at))
}

func withTx(q impl.TxQueue, i int, x impl.Tx) impl.TxQueue {
	with := cloneQueue(q)
	with.Txs[i] = x
	return with
}

func checkNewTx(t *testing.T, q impl.TxQueue, ops []impl.Op, id int) {
	t.Helper()
	want := cloneQueue(q)
	want.Txs = append(want.Txs, impl.Tx{Id: id, Ops: ops})
	if got, n, ok := impl.NewTx(q, ops); !sameQueue(got, want) || n != id || !ok {
		t.Errorf("NewTx(%v, %+v) = %v, %d, %t, want %v, %d, true", q, ops, got, n, ok, want, id)
	}
}

func checkNoNewTx(t *testing.T, q impl.TxQueue, ops []impl.Op) {
	t.Helper()
	if got, n, ok := impl.NewTx(q, ops); !sameQueue(got, q) || n != 0 || ok {
		t.Errorf("NewTx(%v, %+v) = %v, %d, %t, want no change, 0, false", q, ops, got, n, ok)
	}
}

func TestNewTxOnAnEmptyQueue(t *testing.T) {
	for _, q := range []impl.TxQueue{{}, {Txs: []impl.Tx{}}} {
		checkNewTx(t, q, nil, 1)
		checkNewTx(t, q, []impl.Op{}, 1)
		for _, l := range opLists() {
			checkNewTx(t, q, l, 1)
		}
		for _, k := range someInvalidKeys() {
			checkNewTx(t, q, []impl.Op{withKey(empty("b"), k)}, 1)
		}
	}
}

// TestNewTxBehindEachId has queues whose Ids are not those of their places.
func TestNewTxBehindEachId(t *testing.T) {
	l := []impl.Op{inc("b", numberKey(1), "c"), empty("f")}
	for _, last := range []int{-1, 0, 1, 2, 5, 6, 7, 60, 999999, 1 << 32, math.MaxInt - 1, -2, -7, -1 << 40, math.MinInt, math.MinInt + 1} {
		checkNewTx(t, txQueue(tx(last)), l, last+1)
		checkNewTx(t, txQueue(tx(last, l...)), nil, last+1)
		checkNewTx(t, txQueue(tx(1), tx(last)), l, last+1)
		checkNewTx(t, txQueue(tx(50), tx(last)), l, last+1)
		checkNewTx(t, txQueue(tx(last), tx(50)), l, 51)
		checkNewTx(t, txQueue(tx(9), tx(2), tx(7), tx(last), tx(last)), l, last+1)
	}
}

// TestNewTxBehindEachTransaction has transactions that have begun or ended, and invalid ones, which stay as they are.
func TestNewTxBehindEachTransaction(t *testing.T) {
	l := []impl.Op{put("b", numberKey(1), field("a", 1))}
	for _, state := range txStates {
		for _, at := range []int{0, 1, 2, -1, math.MinInt, math.MaxInt} {
			x := running(tx(4, l[0], impl.Op{}, impl.Op{Kind: 9, Store: "A"}), at, storeB(), store(-1), storeF())
			checkNewTx(t, txQueue(withState(x, state)), l, 5)
			checkNewTx(t, txQueue(tx(3), withState(x, state)), l, 5)
			checkNewTx(t, txQueue(withState(x, state), tx(11, slices.Repeat(l, maxOps+3)...)), nil, 12)
		}
	}
}

func TestNewTxOnQueuesOfEachLength(t *testing.T) {
	q, l := txQueue(), []impl.Op{get("b", numberKey(1)), empty("f")}
	for count := range 3 * maxTxs {
		if count < 6 {
			checkNewTx(t, q, l, count+1)
			checkNewTx(t, q, nil, count+1)
			checkNoNewTx(t, q, []impl.Op{{}})
		} else {
			checkNoNewTx(t, q, l)
			checkNoNewTx(t, q, nil)
			checkNoNewTx(t, q, []impl.Op{{}})
		}
		q.Txs = append(q.Txs, tx(count+1, l...))
	}
	// A transaction that has ended keeps its place.
	for _, state := range txStates {
		checkNoNewTx(t, txQueue(slices.Repeat([]impl.Tx{ended(tx(1, l...), 2, state)}, 6)...), l)
		checkNewTx(t, txQueue(slices.Repeat([]impl.Tx{ended(tx(1, l...), 2, state)}, 5)...), l, 2)
	}
	checkNoNewTx(t, txQueue(make([]impl.Tx, 200)...), l)
}

func TestNewTxOfEachCountOfOperations(t *testing.T) {
	for _, q := range []impl.TxQueue{{}, queueOf(nil, nil)} {
		for count := range 3 * maxOps {
			for _, kind := range opKinds {
				l := slices.Repeat([]impl.Op{opOf(kind)}, count)
				if count <= 6 {
					checkNewTx(t, q, l, len(q.Txs)+1)
				} else {
					checkNoNewTx(t, q, l)
				}
			}
		}
		checkNoNewTx(t, q, make([]impl.Op, 7))
		checkNoNewTx(t, q, slices.Repeat([]impl.Op{empty("a")}, 300))
	}
}

// TestNewTxOfInvalidOperations puts them first, in the middle and last.
func TestNewTxOfInvalidOperations(t *testing.T) {
	fine := []impl.Op{put("b", numberKey(1), field("a", 1)), empty("f"), inc("b", textKey("x"), "a"), get("b", numberKey(1)), remove("b", numberKey(1))}
	for _, q := range []impl.TxQueue{{}, queueOf(fine, nil)} {
		checkNewTx(t, q, fine, len(q.Txs)+1)
		for _, o := range invalidOps() {
			checkNoNewTx(t, q, []impl.Op{o})
			checkNoNewTx(t, q, []impl.Op{o, o})
			for at := range len(fine) + 1 {
				checkNoNewTx(t, q, slices.Insert(slices.Clone(fine), at, o))
			}
		}
	}
}

// wantConflict knows for each store whether the lists use it, and whether they write it.
func wantConflict(a []impl.Op, b []impl.Op) bool {
	type use struct{ any, write bool }
	usesOf := func(l []impl.Op) map[string]use {
		uses := map[string]use{}
		for _, o := range l {
			uses[o.Store] = use{any: true, write: uses[o.Store].write || slices.Contains([]int{1, 2, 3, 5, 6}, o.Kind)}
		}
		return uses
	}
	mine, yours := usesOf(a), usesOf(b)
	for name, x := range mine {
		if y := yours[name]; y.any && (x.write || y.write) {
			return true
		}
	}
	return false
}

func checkConflicts(t *testing.T, a []impl.Op, b []impl.Op, want bool) {
	t.Helper()
	for range 2 {
		if got := impl.Conflicts(a, b); got != want {
			t.Errorf("Conflicts(%+v, %+v) = %t", a, b, got)
		}
		a, b = b, a
	}
}

func TestConflictsOfOneOperationEach(t *testing.T) {
	writes := map[int]bool{1: true, 2: true, 3: true, 4: false, 5: true, 6: true}
	for _, kind := range append(badOpKinds, opKinds...) {
		for _, other := range append(badOpKinds, opKinds...) {
			a, b := opOf(kind), opOf(other)
			checkConflicts(t, []impl.Op{a}, []impl.Op{b}, writes[kind] || writes[other])
			checkConflicts(t, []impl.Op{a}, []impl.Op{withKey(b, textKey("other"))}, writes[kind] || writes[other])
			checkConflicts(t, []impl.Op{a}, []impl.Op{{Kind: other, Store: "b"}}, writes[kind] || writes[other])
			for _, name := range []string{"a", "c", "", "B", "bb", "b "} {
				checkConflicts(t, []impl.Op{a}, []impl.Op{withOpStore(b, name)}, false)
			}
			// Also where the name of the store is none.
			for _, name := range badNames()[:20] {
				checkConflicts(t, []impl.Op{withOpStore(a, name)}, []impl.Op{withOpStore(b, name)}, writes[kind] || writes[other])
			}
		}
	}
}

func TestConflictsOfEmptyLists(t *testing.T) {
	checkConflicts(t, nil, nil, false)
	checkConflicts(t, []impl.Op{}, nil, false)
	for _, l := range append(opLists(), invalidOps()) {
		checkConflicts(t, l, nil, false)
		checkConflicts(t, l, []impl.Op{}, false)
		checkConflicts(t, l, l, wantConflict(l, l))
	}
}

// TestConflictsAtEachPlace has lists with one pair of operations that conflict, and without it.
func TestConflictsAtEachPlace(t *testing.T) {
	k := numberKey(1)
	mine := []impl.Op{get("b", k), put("d", k), get("f", k), empty("g")}
	yours := []impl.Op{get("b", textKey("")), get("f", textKey("")), get("f", k), inc("h", k, "a"), get("i", k)}
	checkConflicts(t, mine, yours, false)
	// Within one list there is no conflict.
	checkConflicts(t, append(mine, get("d", k)), yours, false)
	checkConflicts(t, mine, append(yours, empty("i")), false)
	for i := range len(mine) + 1 {
		for j := range len(yours) + 1 {
			for _, o := range []impl.Op{put("z", k), add("z", k), remove("z", k), empty("z"), inc("z", k, "a")} {
				a, b := slices.Insert(slices.Clone(mine), i, o), slices.Insert(slices.Clone(yours), j, get("z", textKey("other")))
				checkConflicts(t, a, b, true)
				checkConflicts(t, a, yours, false)
				checkConflicts(t, mine, b, false)
				checkConflicts(t, slices.Insert(slices.Clone(mine), i, get("z", k)), b, false)
				checkConflicts(t, slices.Insert(slices.Clone(mine), i, get("z", k)), slices.Insert(slices.Clone(yours), j, o), true)
				checkConflicts(t, a, slices.Insert(slices.Clone(yours), j, o), true)
			}
			checkConflicts(t, slices.Insert(slices.Clone(mine), i, impl.Op{Kind: 7, Store: "b"}), slices.Insert(slices.Clone(yours), j, impl.Op{Store: "d"}), true)
			checkConflicts(t, slices.Insert(slices.Clone(mine), i, impl.Op{Kind: 7, Store: "b"}), slices.Insert(slices.Clone(yours), j, impl.Op{Store: "f"}), false)
		}
	}
}

func TestConflictsOfRandomLists(t *testing.T) {
	r := rand.New(rand.NewPCG(10, 1))
	count := map[bool]int{}
	for range 5000 {
		lists := [2][]impl.Op{}
		for i := range lists {
			for range r.IntN(5) {
				lists[i] = append(lists[i], withOpStore(opOf([]int{0, 4, 4, 4, 1, 5, 6, 7}[r.IntN(8)]), randomName(r)))
			}
		}
		want := wantConflict(lists[0], lists[1])
		checkConflicts(t, lists[0], lists[1], want)
		count[want]++
	}
	if count[true] < 1000 || count[false] < 1000 {
		t.Errorf("the conflicts come %v times", count)
	}
}

func wantCanStart(q impl.TxQueue, i int) bool {
	if i < 0 || i >= len(q.Txs) || q.Txs[i].State != 0 {
		return false
	}
	for _, earlier := range q.Txs[:i] {
		if slices.Contains([]int{0, 1}, earlier.State) && wantConflict(earlier.Ops, q.Txs[i].Ops) {
			return false
		}
	}
	return true
}

func checkCanStart(t *testing.T, q impl.TxQueue, i int, want bool) {
	t.Helper()
	if got := impl.CanStart(q, i); got != want {
		t.Errorf("CanStart(%v, %d) = %t", q, i, got)
	}
}

func TestCanStartAtEachIndex(t *testing.T) {
	for count := range maxTxs + 3 {
		q := txQueue(slices.Repeat([]impl.Tx{tx(1, get("b", numberKey(1)))}, count)...)
		for i := -3; i < count+4; i++ {
			checkCanStart(t, q, i, i >= 0 && i < count)
		}
		for _, i := range append(badPlaces, 1<<32, 1<<32+1) {
			checkCanStart(t, q, i, false)
		}
	}
	checkCanStart(t, impl.TxQueue{}, 0, false)
	// The spare capacity does not belong to the queue.
	whole := queueOf(nil, nil, nil)
	checkCanStart(t, txQueue(whole.Txs[:2]...), 2, false)
}

func TestCanStartInEachState(t *testing.T) {
	for _, state := range txStates {
		for _, at := range []int{0, 1, -1, 7} {
			x := running(tx(1, put("b", numberKey(1))), at, storeB())
			checkCanStart(t, txQueue(withState(x, state)), 0, state == 0)
			checkCanStart(t, txQueue(tx(1), withState(x, state)), 1, state == 0)
			checkCanStart(t, txQueue(tx(1, empty("b")), withState(x, state)), 1, false)
		}
	}
}

// TestCanStartBehindEachState has an earlier transaction in each state, which conflicts or does not.
func TestCanStartBehindEachState(t *testing.T) {
	k := numberKey(1)
	cases := []struct {
		first, second []impl.Op
		conflict      bool
	}{
		{[]impl.Op{put("b", k)}, []impl.Op{get("b", k)}, true}, {[]impl.Op{get("b", k)}, []impl.Op{empty("b")}, true}, {[]impl.Op{inc("b", k, "a")}, []impl.Op{remove("b", textKey("x"))}, true},
		{[]impl.Op{get("b", k)}, []impl.Op{get("b", k)}, false}, {[]impl.Op{put("b", k)}, []impl.Op{put("d", k)}, false}, {nil, []impl.Op{put("d", k)}, false}, {[]impl.Op{put("b", k)}, nil, false}, {nil, nil, false},
		{[]impl.Op{get("b", k), get("d", k), get("f", k)}, []impl.Op{get("f", k), get("d", k), get("b", k)}, false}, {[]impl.Op{get("b", k), get("d", k), put("f", k)}, []impl.Op{get("f", k), get("d", k), get("b", k)}, true},
	}
	for _, c := range cases {
		for _, state := range txStates {
			free := !c.conflict || state != 0 && state != 1
			earlier := ended(tx(1, c.first...), 0, state)
			checkCanStart(t, txQueue(earlier, tx(2, c.second...)), 1, free)
			checkCanStart(t, txQueue(tx(0), earlier, tx(2, c.second...)), 2, free)
			checkCanStart(t, txQueue(earlier, tx(0), tx(2, c.second...)), 2, free)
			checkCanStart(t, txQueue(earlier, ended(tx(0, c.first...), 1, 2), tx(2, c.second...)), 2, free)
			// Later transactions do not matter, whatever their Ids are.
			checkCanStart(t, txQueue(tx(2, c.second...), earlier), 0, true)
			checkCanStart(t, txQueue(ended(tx(1, c.first...), 0, 3), tx(9, c.second...), earlier, earlier), 1, true)
			// The place among the operations does not matter.
			checkCanStart(t, txQueue(withAt(earlier, 99), tx(2, c.second...)), 1, free)
		}
	}
}

func TestCanStartOfThreeTransactions(t *testing.T) {
	k := numberKey(1)
	lists := [][]impl.Op{nil, {get("b", k)}, {put("b", k)}, {get("b", k), put("d", k)}, {empty("d")}, {{Kind: 7, Store: "b"}}}
	for _, first := range txStates[:6] {
		for _, second := range txStates[:6] {
			for _, a := range lists {
				for _, b := range lists {
					for _, c := range lists {
						q := queueOf(a, b, c)
						q.Txs[0].State, q.Txs[1].State = first, second
						for i := range q.Txs {
							checkCanStart(t, q, i, wantCanStart(q, i))
						}
					}
				}
			}
		}
	}
}

func checkStart(t *testing.T, d impl.Database, q impl.TxQueue, i int, want impl.TxQueue) {
	t.Helper()
	if got, ok := impl.StartTx(d, q, i); !sameQueue(got, want) || !ok {
		t.Errorf("StartTx(%v, %v, %d) = %v, %t, want %v, true", d, q, i, got, ok, want)
	}
}

func checkNoStart(t *testing.T, d impl.Database, q impl.TxQueue, i int) {
	t.Helper()
	if got, ok := impl.StartTx(d, q, i); !sameQueue(got, q) || ok {
		t.Errorf("StartTx(%v, %v, %d) = %v, %t, want no change, false", d, q, i, got, ok)
	}
}

func TestStartTxOfEachScope(t *testing.T) {
	d, k := openDatabase(), numberKey(1)
	cases := []struct {
		ops    []impl.Op
		backup []impl.Store
	}{
		{nil, nil}, {[]impl.Op{}, nil},
		{[]impl.Op{put("b", k)}, []impl.Store{storeB()}}, {[]impl.Op{empty("d")}, []impl.Store{storeD()}}, {[]impl.Op{inc("f", k, "a")}, []impl.Store{storeF()}},
		// A store that is only read is of the scope, too.
		{[]impl.Op{get("b", k)}, []impl.Store{storeB()}}, {[]impl.Op{get("b", k), get("b", textKey("x"))}, []impl.Store{storeB()}},
		// The scope is in ascending order and has each store once.
		{[]impl.Op{put("f", k), get("d", k), remove("b", k)}, []impl.Store{storeB(), storeD(), storeF()}}, {[]impl.Op{put("f", k), put("b", k), put("f", k), put("b", k)}, []impl.Store{storeB(), storeF()}},
		// These stores do not exist.
		{[]impl.Op{put("a", k)}, nil}, {[]impl.Op{get("e", k), put("c", k), empty("")}, nil}, {[]impl.Op{put("e", k), put("d", k), put("z", k), put("bb", k)}, []impl.Store{storeD()}}, {[]impl.Op{put("notes", k), put("f", k), put("a", k), put("b", k)}, []impl.Store{storeB(), storeF()}},
		// Operations that are none have a scope as well.
		{[]impl.Op{{Kind: 7, Store: "d"}, {Store: "f"}}, []impl.Store{storeD(), storeF()}}, {slices.Repeat([]impl.Op{empty("b")}, 3*maxOps), []impl.Store{storeB()}},
	}
	for _, c := range cases {
		x := tx(3, c.ops...)
		want := running(x, 0, c.backup...)
		checkStart(t, d, txQueue(x), 0, txQueue(want))
		checkStart(t, d, txQueue(x, x, x), 0, txQueue(want, x, x))
		done := ended(tx(1, c.ops...), 1, 2)
		checkStart(t, d, txQueue(done, x, tx(4)), 1, txQueue(done, want, tx(4)))
		checkStart(t, d, txQueue(tx(4), done, x), 2, txQueue(tx(4), done, want))
		// The other fields stay, and an old backup does not.
		for _, at := range []int{1, 2, -1, math.MinInt, math.MaxInt} {
			checkStart(t, d, txQueue(withBackup(withAt(x, at), storeD(), store(7))), 0, txQueue(running(x, at, c.backup...)))
		}
		checkStart(t, impl.Database{}, txQueue(x), 0, txQueue(running(x, 0)))
	}
}

func TestStartTxThatCannotStart(t *testing.T) {
	d := openDatabase()
	l := []impl.Op{put("b", numberKey(1))}
	for _, state := range txStates {
		x := running(tx(5, l...), 0, storeF())
		x.State = state
		if state != 0 {
			checkNoStart(t, d, txQueue(x), 0)
			checkNoStart(t, d, txQueue(tx(1), x), 1)
		}
		if state == 0 || state == 1 {
			checkNoStart(t, d, txQueue(x, tx(6, l...)), 1)
			checkNoStart(t, d, txQueue(x, tx(6, l...), tx(7, l...)), 2)
		} else {
			checkStart(t, d, txQueue(x, tx(6, l...)), 1, txQueue(x, running(tx(6, l...), 0, storeB())))
		}
	}
	q := queueOf(l, nil, nil)
	for _, i := range append(badPlaces, 3, 4) {
		checkNoStart(t, d, q, i)
		checkNoStart(t, d, impl.TxQueue{}, i)
		checkNoStart(t, impl.Database{}, q, i)
	}
	checkNoStart(t, d, impl.TxQueue{}, 0)
}

// wantStart follows the words of StartTx. Of several stores with one name, which only an invalid database has, the first one counts, as for FindStore.
func wantStart(d impl.Database, q impl.TxQueue, i int) (impl.TxQueue, bool) {
	if !wantCanStart(q, i) {
		return q, false
	}
	names := []string{}
	for _, o := range q.Txs[i].Ops {
		if !slices.Contains(names, o.Store) {
			names = append(names, o.Store)
		}
	}
	slices.Sort(names)
	backup := []impl.Store{}
	for _, name := range names {
		if at := slices.IndexFunc(d.Stores, func(s impl.Store) bool { return s.Name == name }); at >= 0 {
			backup = append(backup, d.Stores[at])
		}
	}
	return withTx(q, i, running(q.Txs[i], q.Txs[i].At, backup...)), true
}

// TestStartTxOnManyDatabases has invalid ones, too: starting only reads the stores.
func TestStartTxOnManyDatabases(t *testing.T) {
	k := numberKey(1)
	q := queueOf([]impl.Op{put("f", k), get("b", k)}, []impl.Op{get("b", k), get("h", k)}, []impl.Op{empty("d")}, []impl.Op{inc("notes", k, "n"), empty("a"), get("e", k)}, nil, []impl.Op{get("d", k)})
	for _, d := range slices.Concat(validDatabases(), invalidDatabases()) {
		for i := -1; i <= len(q.Txs); i++ {
			want, fine := wantStart(d, q, i)
			if fine {
				checkStart(t, d, q, i, want)
			} else {
				checkNoStart(t, d, q, i)
			}
		}
	}
}

func checkTxStep(t *testing.T, d impl.Database, q impl.TxQueue, i int, want impl.Database, next impl.TxQueue) {
	t.Helper()
	if got, after, ok := impl.StepTx(d, q, i); !sameDatabase(got, want) || !sameQueue(after, next) || !ok {
		t.Errorf("StepTx(%v, %v, %d) = %v, %v, %t, want %v, %v, true", d, q, i, got, after, ok, want, next)
	}
}

func checkNoTxStep(t *testing.T, d impl.Database, q impl.TxQueue, i int) {
	t.Helper()
	if got, after, ok := impl.StepTx(d, q, i); !sameDatabase(got, d) || !sameQueue(after, q) || ok {
		t.Errorf("StepTx(%v, %v, %d) = %v, %v, %t, want no change, false", d, q, i, got, after, ok)
	}
}

func TestStepTxAtEachOperation(t *testing.T) {
	d := openDatabase()
	b := d.Stores[0].Items
	x := tx(8, put("b", numberKey(2), field("a", 3)), get("f", numberKey(1)), inc("b", numberKey(3), "c"), remove("b", numberKey(1)))
	q := txQueue(tx(7, empty("d")), running(x, 0, storeB(), storeF()), tx(9, empty("b")))
	after := []impl.Database{
		withB(3, b[0], item(numberKey(2), field("a", 3)), b[1], b[2]),
		withB(3, b[0], item(numberKey(2), field("a", 3)), b[1], b[2]),
		withB(3, b[0], item(numberKey(2), field("a", 3)), item(numberKey(3), field("a", 2), field("c", 8)), b[2]),
		withB(3, item(numberKey(2), field("a", 3)), item(numberKey(3), field("a", 2), field("c", 8)), b[2]),
	}
	for at, want := range after {
		next := withTx(q, 1, withAt(q.Txs[1], at+1))
		if at == 3 {
			next = withTx(q, 1, ended(x, 4, 2))
		}
		checkTxStep(t, d, q, 1, want, next)
		d, q = want, next
	}
	checkNoTxStep(t, d, q, 1)
}

// TestStepTxOfOneOperation starts, performs the operation and is done with one step.
func TestStepTxOfOneOperation(t *testing.T) {
	d := openDatabase()
	for _, o := range []impl.Op{put("f", numberKey(1)), add("b", textKey("k"), field("z", 1)), remove("b", numberKey(1)), remove("b", numberKey(2)), get("b", numberKey(1)), get("b", numberKey(2)), empty("d"), empty("f"), inc("b", numberKey(3), "c")} {
		want, _, fine := wantRun(d, o)
		if !fine {
			t.Fatalf("%+v is to be possible", o)
		}
		x := tx(1, o)
		checkTxStep(t, d, txQueue(running(x, 0, storeB(), storeD(), storeF())), 0, want, txQueue(ended(x, 1, 2)))
		checkTxStep(t, d, txQueue(running(x, 0)), 0, want, txQueue(ended(x, 1, 2)))
	}
}

func TestStepTxWithoutOperations(t *testing.T) {
	for _, d := range slices.Concat(validDatabases(), invalidDatabases()[:20]) {
		for _, at := range []int{0, 1, 2, 6, -1, -2, math.MinInt, math.MaxInt} {
			for _, l := range [][]impl.Op{nil, {}} {
				x := running(tx(3, l...), at)
				checkTxStep(t, d, txQueue(x), 0, d, txQueue(ended(x, at, 2)))
				checkTxStep(t, d, txQueue(tx(2), withBackup(x, storeB()), x), 1, d, txQueue(tx(2), ended(x, at, 2), x))
			}
		}
	}
}

// TestStepTxBehindTheOperations has an At that is no index of the operations: it stays, and nothing is performed or restored.
func TestStepTxBehindTheOperations(t *testing.T) {
	l := []impl.Op{put("f", numberKey(1)), {}, empty("b")}
	for _, d := range slices.Concat(validDatabases(), invalidDatabases()[:20]) {
		for count := range len(l) + 1 {
			for _, at := range append(badPlaces, count, count+1, count+2, 6, 7, 1<<32) {
				if at >= 0 && at < count {
					continue
				}
				x := running(tx(3, l[:count]...), at, withName(store(1), "b"), withName(store(1), "d"), withName(store(1), "f"))
				checkTxStep(t, d, txQueue(x, x), 1, d, txQueue(x, ended(x, at, 2)))
			}
		}
	}
}

func TestStepTxInEachState(t *testing.T) {
	d := openDatabase()
	x := running(tx(3, empty("b"), empty("d")), 0, storeB(), storeD())
	for _, state := range txStates {
		for _, at := range []int{0, 1, 2, -1} {
			q := txQueue(x, withAt(withState(x, state), at), x)
			if state != 1 {
				checkNoTxStep(t, d, q, 1)
				checkNoTxStep(t, impl.Database{}, q, 1)
			}
		}
	}
	checkTxStep(t, d, txQueue(x, x), 0, withB(3), txQueue(withAt(x, 1), x))
	checkTxStep(t, d, txQueue(x, x), 1, withB(3), txQueue(x, withAt(x, 1)))
}

func TestStepTxAtEachIndex(t *testing.T) {
	d := openDatabase()
	q := txQueue()
	for range maxTxs + 2 {
		for _, i := range append(badPlaces, len(q.Txs), len(q.Txs)+1, 1<<32) {
			checkNoTxStep(t, d, q, i)
		}
		q.Txs = append(q.Txs, running(tx(3, empty("b"), empty("d")), 0, storeB(), storeD()))
		for i := range q.Txs {
			checkTxStep(t, d, q, i, withB(3), withTx(q, i, withAt(q.Txs[i], 1)))
		}
	}
	whole := txQueue(q.Txs[:2]...)
	checkNoTxStep(t, d, whole, 2)
}

// failingOps cannot be performed with openDatabase.
func failingOps() []impl.Op {
	return []impl.Op{
		{}, {Kind: 7, Store: "b", Key: numberKey(1)}, get("e", numberKey(1)), get("b", impl.Key{}), put("d", numberKey(7), field("n", 2)), put("d", numberKey(7), field("n", -1)), add("d", pairKey(1, "")), inc("d", pairKey(1, "x"), ""),
		empty(""), empty("e"), withOpField(empty("f"), "a"), inc("d", textKey("x"), "n"), withRecord(remove("b", numberKey(1)), record(field("b", 1), field("a", 1))),
	}
}

// TestStepTxThatFails puts an operation that fails at each place.
func TestStepTxThatFails(t *testing.T) {
	d := openDatabase()
	fine := []impl.Op{put("f", numberKey(20)), empty("d"), inc("b", numberKey(1), "c")}
	// These are other stores than those of the database, so that restoring them shows.
	oldB, oldD, oldF := withName(store(7, item(numberKey(2), field("a", 5))), "b"), withName(store(8), "d"), withName(store(30, item(textKey("old"))), "f")
	for _, o := range failingOps() {
		for at := range len(fine) + 1 {
			x := tx(4, slices.Insert(slices.Clone(fine), at, o)...)
			q := txQueue(tx(3), running(x, at, oldB, oldD, oldF), tx(5))
			aborted := withTx(q, 1, ended(x, at+1, 3))
			checkTxStep(t, d, q, 1, withStores(d, oldB, oldD, oldF), aborted)
			checkTxStep(t, d, withTx(q, 1, running(x, at, oldD)), 1, withStores(d, storeB(), oldD, storeF()), aborted)
			checkTxStep(t, d, withTx(q, 1, running(x, at, oldF, oldB)), 1, withStores(d, oldB, storeD(), oldF), aborted)
			checkTxStep(t, d, withTx(q, 1, running(x, at)), 1, d, aborted)
		}
	}
}

// TestStepTxRestoresByName has stores that are no longer there, or that stand elsewhere now.
func TestStepTxRestoresByName(t *testing.T) {
	x := tx(1, impl.Op{})
	oldB, oldD, oldG := withName(store(7, item(numberKey(2), field("a", 5))), "b"), withName(store(8), "d"), withName(store(9), "g")
	check := func(d impl.Database, want impl.Database, backup ...impl.Store) {
		t.Helper()
		checkTxStep(t, d, txQueue(running(x, 0, backup...)), 0, want, txQueue(ended(x, 1, 3)))
	}
	d := openDatabase()
	check(d, d, oldG)
	check(d, withStores(d, oldB, storeD(), storeF()), oldB, oldG)
	check(d, withStores(d, oldB, storeD(), storeF()), oldG, oldB)
	check(database(1, nil), database(1, nil), oldB, oldD, oldG)
	check(impl.Database{}, impl.Database{}, oldB)
	check(database(1, nil, storeF()), database(1, nil, storeF()), oldB, oldD)
	check(database(1, nil, storeD(), storeF()), database(1, nil, oldD, storeF()), oldB, oldD)
	check(database(1, nil, withName(store(1), "a"), storeB(), withName(store(1), "c"), storeD()), database(1, nil, withName(store(1), "a"), oldB, withName(store(1), "c"), oldD), oldB, oldD)
	// In an invalid database the order may be another one.
	check(database(1, nil, storeF(), storeD(), storeB()), database(1, nil, storeF(), oldD, oldB), oldB, oldD)
	// A name is the whole name.
	check(database(1, nil, withName(store(1), "bb"), withName(store(1), "gg")), database(1, nil, withName(store(1), "bb"), withName(store(1), "gg")), oldB, oldG)
	check(d, withStores(d, storeB(), oldD, storeF()), withName(oldD, "D"), oldD, withName(oldD, ""))
	// What is restored is not tested.
	broken := withName(store(-1, item(impl.Key{}), item(impl.Key{})), "d")
	check(d, withStores(d, storeB(), broken, storeF()), broken)
}

// TestStepTxUndoesItsOperationsOnly has two transactions that overlap, of which one fails.
func TestStepTxUndoesItsOperationsOnly(t *testing.T) {
	d := openDatabase()
	q := queueOf([]impl.Op{put("b", numberKey(2)), empty("f"), put("f", numberKey(1)), add("b", numberKey(1))}, []impl.Op{empty("d"), inc("d", numberKey(5), "n"), get("d", numberKey(5))}, []impl.Op{get("b", numberKey(2))})
	q, _ = impl.StartTx(d, q, 0)
	q, _ = impl.StartTx(d, q, 1)
	checkNoStart(t, d, q, 2)
	at := d
	for _, i := range []int{0, 1, 0, 1, 0} {
		at, q, _ = impl.StepTx(at, q, i)
	}
	// The second one wrote after the first one had been started, and goes on.
	want := withStoreAt(d, 1, withName(store(5, item(numberKey(5), field("n", 1))), "d"))
	q2 := cloneQueue(q)
	q2.Txs[0] = ended(q.Txs[0], 4, 3)
	checkTxStep(t, at, q, 0, want, q2)
	at, q, _ = impl.StepTx(at, q, 0)
	checkTxStep(t, at, q, 1, want, withTx(q, 1, ended(q.Txs[1], 3, 2)))
	// The third one has nothing more to wait for, and sees nothing of the first one.
	checkStart(t, at, q, 2, withTx(q, 2, running(q.Txs[2], 0, storeB())))
}

// wantTxStep follows the words of StepTx.
func wantTxStep(d impl.Database, q impl.TxQueue, i int) (impl.Database, impl.TxQueue, bool) {
	if i < 0 || i >= len(q.Txs) || q.Txs[i].State != 1 {
		return d, q, false
	}
	x := q.Txs[i]
	if x.At < 0 || x.At >= len(x.Ops) {
		return d, withTx(q, i, ended(x, x.At, 2)), true
	}
	next, _, fine := wantRun(d, x.Ops[x.At])
	if !fine {
		return wantRestored(d, x.Backup), withTx(q, i, ended(x, x.At+1, 3)), true
	}
	if x.At+1 == len(x.Ops) {
		return next, withTx(q, i, ended(x, x.At+1, 2)), true
	}
	return next, withTx(q, i, withAt(x, x.At+1)), true
}

func wantRestored(d impl.Database, backup []impl.Store) impl.Database {
	restored := cloneDatabase(d)
	for _, s := range backup {
		if at := slices.IndexFunc(d.Stores, func(old impl.Store) bool { return old.Name == s.Name }); at >= 0 {
			restored.Stores[at] = cloneStore(s)
		}
	}
	return restored
}

// TestStepTxOnInvalidDatabases restores the backup, as each operation fails.
func TestStepTxOnInvalidDatabases(t *testing.T) {
	l := []impl.Op{get("b", numberKey(1)), empty("f"), inc("b", numberKey(3), "c")}
	for _, d := range invalidDatabases() {
		for at := range l {
			for _, backup := range [][]impl.Store{nil, {storeB()}, {storeB(), storeD(), storeF()}, {withName(store(1), "f")}} {
				x := running(tx(1, l...), at, backup...)
				checkTxStep(t, d, txQueue(x), 0, wantRestored(d, backup), txQueue(ended(x, at+1, 3)))
			}
		}
		checkNoTxStep(t, d, queueOf(l), 0)
	}
	// Here the backup mends the database.
	broken := withF(-1)
	x := running(tx(1, empty("f")), 0, storeF())
	checkTxStep(t, broken, txQueue(x), 0, openDatabase(), txQueue(ended(x, 1, 3)))
}

func checkTxStepLike(t *testing.T, d impl.Database, q impl.TxQueue, i int) {
	t.Helper()
	want, next, fine := wantTxStep(d, q, i)
	if fine {
		checkTxStep(t, d, q, i, want, next)
	} else {
		checkNoTxStep(t, d, q, i)
	}
}

func checkSchedule(t *testing.T, d impl.Database, q impl.TxQueue, choices []int, want impl.Database, next impl.TxQueue) {
	t.Helper()
	if got, after := impl.RunSchedule(d, q, choices); !sameDatabase(got, want) || !sameQueue(after, next) {
		t.Errorf("RunSchedule(%v, %v, %v) = %v, %v, want %v, %v", d, q, choices, got, after, want, next)
	}
}

func checkSerial(t *testing.T, d impl.Database, q impl.TxQueue, want impl.Database) {
	t.Helper()
	if got := impl.SerialRun(d, q); !sameDatabase(got, want) {
		t.Errorf("SerialRun(%v, %v) = %v, want %v", d, q, got, want)
	}
}

// wantSchedule follows the words of RunSchedule.
func wantSchedule(d impl.Database, q impl.TxQueue, choices []int) (impl.Database, impl.TxQueue) {
	if !wantDatabase(d) {
		return d, q
	}
	for number, c := range choices {
		if number == 60 {
			break
		}
		for j := range q.Txs {
			i := (max(c, 0)%len(q.Txs) + j) % len(q.Txs)
			if wantCanStart(q, i) {
				q, _ = wantStart(d, q, i)
				break
			}
			if q.Txs[i].State == 1 {
				d, q, _ = wantTxStep(d, q, i)
				break
			}
		}
	}
	for i := range q.Txs {
		q, _ = wantStart(d, q, i)
		for range 8 {
			d, q, _ = wantTxStep(d, q, i)
		}
	}
	return d, q
}

func checkScheduleLike(t *testing.T, d impl.Database, q impl.TxQueue, choices []int) {
	t.Helper()
	want, next := wantSchedule(d, q, choices)
	checkSchedule(t, d, q, choices, want, next)
}

// wantSerial follows the words of SerialRun. It says which transactions are possible, too.
func wantSerial(d impl.Database, q impl.TxQueue) (impl.Database, []bool) {
	possible := []bool{}
	for _, x := range q.Txs {
		next, _, fine := wantRunOps(d, x.Ops)
		d, possible = next, append(possible, fine)
	}
	return d, possible
}

// checkSerialEffect holds the promise itself: new transactions leave the database that they would leave one after the other, and those are done that would be possible then.
func checkSerialEffect(t *testing.T, d impl.Database, q impl.TxQueue, got impl.Database, after impl.TxQueue, what any) {
	t.Helper()
	want, possible := wantSerial(d, q)
	checkSerial(t, d, q, want)
	if !sameDatabase(got, want) {
		t.Errorf("%v: the transactions %v make %v of %v, one after the other %v", what, q, got, d, want)
	}
	if len(after.Txs) != len(q.Txs) {
		t.Fatalf("%v: %d transactions, want %d", what, len(after.Txs), len(q.Txs))
	}
	for i, fine := range possible {
		state := 3
		if fine {
			state = 2
		}
		x := after.Txs[i]
		if x.State != state || len(x.Backup) != 0 || x.Id != q.Txs[i].Id || !slices.EqualFunc(x.Ops, q.Txs[i].Ops, sameOp) {
			t.Errorf("%v: the transaction %v of %v has become %v, want state %d", what, q.Txs[i], q, x, state)
		}
	}
}

// mixedQueues are new transactions of openDatabase, some of which conflict or fail.
func mixedQueues() []impl.TxQueue {
	one, three, x := numberKey(1), numberKey(3), textKey("x")
	counter := func(times int) []impl.Op { return slices.Repeat([]impl.Op{inc("f", textKey("sum"), "n")}, times) }
	return []impl.TxQueue{
		{}, queueOf(nil), queueOf(nil, nil, nil), queueOf([]impl.Op{empty("b")}), queueOf([]impl.Op{{Kind: 4, Store: "e", Key: one}}),
		queueOf(counter(2), counter(1), counter(3)), queueOf(counter(1), []impl.Op{get("f", textKey("sum")), put("d", textKey("seen"))}, counter(2)),
		// The first of these fails at its end, so that the second one is possible only behind it.
		queueOf([]impl.Op{put("b", numberKey(4), field("a", 9)), inc("b", one, "a")}, []impl.Op{add("b", numberKey(4), field("a", 9))}),
		queueOf([]impl.Op{empty("b"), get("e", one)}, []impl.Op{inc("b", three, "c"), inc("d", numberKey(6), "a")}, []impl.Op{empty("d")}),
		// Here the second one fails because of the first one, and the third one because of both.
		queueOf([]impl.Op{add("b", numberKey(4), field("a", 9))}, []impl.Op{empty("f"), add("b", numberKey(5), field("a", 9))}, []impl.Op{add("b", numberKey(4))}),
		// These have different stores.
		queueOf([]impl.Op{remove("b", one), put("b", three)}, []impl.Op{empty("d"), put("d", one)}, []impl.Op{put("f", one), remove("f", one)}),
		// Only the second one writes.
		queueOf([]impl.Op{get("b", one), get("d", x)}, []impl.Op{put("b", one), put("d", x)}, []impl.Op{get("d", x), get("b", one)}),
		queueOf([]impl.Op{put("b", one, field("a", 2))}, nil, []impl.Op{put("b", three, field("a", 1))}, []impl.Op{put("b", one, field("a", 5))}),
		queueOf(counter(6), []impl.Op{empty("f")}, counter(6), []impl.Op{empty("b")}, []impl.Op{inc("b", one, "a")}, []impl.Op{get("b", one), get("f", textKey("sum"))}),
		queueOf([]impl.Op{put("b", one), empty("d"), {Kind: 4, Store: "z", Key: one}}, []impl.Op{put("f", one), get("f", one)}, []impl.Op{remove("d", pairKey(1, ""))}, []impl.Op{inc("b", x, "n"), inc("b", x, "n")}),
	}
}

// allChoices are all lists of this length with choices below count.
func allChoices(count int, length int) [][]int {
	lists := [][]int{{}}
	for range length {
		longer := [][]int{}
		for _, l := range lists {
			for c := range count {
				longer = append(longer, append(slices.Clone(l), c))
			}
		}
		lists = longer
	}
	return lists
}

// TestAllShortSchedules tries all choices for queues of up to four transactions.
func TestAllShortSchedules(t *testing.T) {
	lengths := map[int]int{0: 3, 1: 5, 2: 7, 3: 6, 4: 5, 6: 3}
	for _, d := range []impl.Database{openDatabase(), withUnique(openDatabase())} {
		for _, q := range mixedQueues() {
			for _, choices := range allChoices(max(len(q.Txs), 1), lengths[len(q.Txs)]) {
				got, after := impl.RunSchedule(d, q, choices)
				checkSerialEffect(t, d, q, got, after, choices)
				want, next := wantSchedule(d, q, choices)
				if !sameDatabase(got, want) || !sameQueue(after, next) {
					t.Errorf("RunSchedule(%v, %v, %v) = %v, %v, want %v, %v", d, q, choices, got, after, want, next)
				}
			}
		}
	}
}

// randomQueue has new transactions. Many of them read only, or use one store only, so that they overlap; and many of them fail.
func randomQueue(r *rand.Rand, d impl.Database) impl.TxQueue {
	q, at := txQueue(), d
	for range r.IntN(maxTxs + 1) {
		l, way, name := []impl.Op{}, r.IntN(4), randomName(r)
		for range r.IntN(maxOps + 1) {
			o := randomOp(r, d)
			if way == 0 {
				o = get(o.Store, o.Key)
			} else if way > 1 {
				o.Store = name
			}
			next, _, fine := wantRun(at, o)
			if fine || wantOp(o) && r.IntN(3) > 0 {
				l, at = append(l, o), next
			}
		}
		q.Txs = append(q.Txs, tx(len(q.Txs)+1, l...))
	}
	return q
}

func randomChoices(r *rand.Rand) []int {
	choices := []int{}
	for range r.IntN(70) {
		choices = append(choices, []int{r.IntN(6), r.IntN(6), r.IntN(1000), -r.IntN(9), int(r.Uint64())}[r.IntN(5)])
	}
	return choices
}

func TestRandomSchedules(t *testing.T) {
	r := rand.New(rand.NewPCG(10, 2))
	states := map[int]int{}
	for range 6000 {
		d := indexedDatabase(r)
		q, choices := randomQueue(r, d), randomChoices(r)
		got, after := impl.RunSchedule(d, q, choices)
		checkSerialEffect(t, d, q, got, after, choices)
		want, next := wantSchedule(d, q, choices)
		checkSchedule(t, d, q, choices, want, next)
		for _, x := range next.Txs {
			states[x.State]++
		}
	}
	if states[2] < 3000 || states[3] < 3000 || len(states) != 2 {
		t.Errorf("the transactions end %v times in these states", states)
	}
}

// makeMoves starts transactions and makes their steps in a random order, until nothing more is possible.
func makeMoves(t *testing.T, r *rand.Rand, d impl.Database, q impl.TxQueue, overlaps map[int]int) (impl.Database, impl.TxQueue) {
	t.Helper()
	for {
		moves := []int{}
		for i, x := range q.Txs {
			if x.State == 1 || wantCanStart(q, i) {
				moves = append(moves, i)
			}
		}
		if len(moves) == 0 {
			return d, q
		}
		i := moves[r.IntN(len(moves))]
		if q.Txs[i].State == 1 {
			checkTxStepLike(t, d, q, i)
			d, q, _ = impl.StepTx(d, q, i)
		} else {
			want, _ := wantStart(d, q, i)
			checkStart(t, d, q, i, want)
			q, _ = impl.StartTx(d, q, i)
		}
		overlaps[countRunning(t, q)]++
		checkIsDatabase(t, d, true)
	}
}

// countRunning also checks that no two of those that run conflict.
func countRunning(t *testing.T, q impl.TxQueue) int {
	t.Helper()
	ops := [][]impl.Op{}
	for _, x := range q.Txs {
		if x.State != 1 {
			continue
		}
		for _, other := range ops {
			if wantConflict(x.Ops, other) {
				t.Errorf("two transactions of %v run and conflict", q)
			}
		}
		ops = append(ops, x.Ops)
	}
	return len(ops)
}

// TestMovesInAnyOrder starts and steps transactions one by one, without RunSchedule.
func TestMovesInAnyOrder(t *testing.T) {
	r := rand.New(rand.NewPCG(10, 3))
	overlaps := map[int]int{}
	for range 3000 {
		d := indexedDatabase(r)
		q := randomQueue(r, d)
		got, after := makeMoves(t, r, d, q, overlaps)
		checkSerialEffect(t, d, q, got, after, "moves in a random order")
	}
	for _, q := range mixedQueues() {
		for range 60 {
			got, after := makeMoves(t, r, openDatabase(), q, overlaps)
			checkSerialEffect(t, openDatabase(), q, got, after, "moves in a random order")
		}
	}
	for count := 1; count <= 3; count++ {
		if overlaps[count] < 1000 {
			t.Errorf("%d transactions run at once %d times, too seldom", count, overlaps[count])
		}
	}
}

// TestSchedulesOfNewTxs builds the queue with the functions of the package alone.
func TestSchedulesOfNewTxs(t *testing.T) {
	r := rand.New(rand.NewPCG(10, 4))
	for range 1000 {
		d := indexedDatabase(r)
		lists := randomQueue(r, d)
		q := impl.TxQueue{}
		for i, x := range lists.Txs {
			next, id, ok := impl.NewTx(q, x.Ops)
			if id != i+1 || !ok {
				t.Fatalf("NewTx(%v, %+v) = %v, %d, %t", q, x.Ops, next, id, ok)
			}
			q = next
		}
		choices := randomChoices(r)
		got, after := impl.RunSchedule(d, q, choices)
		checkSerialEffect(t, d, lists, got, after, choices)
		if serial := impl.SerialRun(d, q); !impl.EqualDatabases(got, serial) {
			t.Errorf("RunSchedule(%v, %v, %v) = %v, but SerialRun %v", d, q, choices, got, serial)
		}
		// Those that have ended change nothing any more.
		checkSchedule(t, got, after, choices, got, after)
	}
}

// TestNoIncrementIsLost has transactions that read and write the same number.
func TestNoIncrementIsLost(t *testing.T) {
	r := rand.New(rand.NewPCG(10, 5))
	l := slices.Repeat([]impl.Op{inc("f", textKey("sum"), "n")}, maxOps)
	q := queueOf(l, l, l, l, l, l)
	for range 300 {
		got, _ := impl.RunSchedule(openDatabase(), q, randomChoices(r))
		if want := withF(9, item(textKey("sum"), field("n", 36))); !sameDatabase(got, want) {
			t.Errorf("36 increments make %v, want %v", got, want)
		}
	}
}

func TestRunScheduleExample(t *testing.T) {
	d := openDatabase()
	b := d.Stores[0].Items
	first, second, third := tx(1, put("b", numberKey(2), field("a", 3)), remove("b", numberKey(1))), tx(2, put("f", numberKey(20)), put("d", numberKey(7), field("n", 2))), tx(3, get("b", numberKey(1)), inc("b", textKey("x"), "n"))
	q := txQueue(first, second, third)
	want := withB(3, item(numberKey(2), field("a", 3)), b[1], item(textKey("x"), field("c", 7), field("n", 7)))
	after := txQueue(ended(first, 2, 2), ended(second, 2, 3), ended(third, 2, 2))
	for _, choices := range [][]int{nil, {}, {0}, {2}, {0, 1, 0, 1, 0, 1, 2, 2, 2}, {2, 2, 2, 2, 2, 2, 2, 2, 2}, {1, 1, 1}, {-1, math.MinInt, -7}, {math.MaxInt, math.MaxInt - 1, 1 << 40}, slices.Repeat([]int{1}, 500)} {
		checkSchedule(t, d, q, choices, want, after)
	}
	checkSerial(t, d, q, want)
	// Without the index, the second one does not fail.
	loose := withUnique(d)
	want = withUnique(want)
	want.Stores[1] = withItemAt(withAuto(storeD(), 7), 1, item(numberKey(7), field("n", 2)))
	want.Stores[2] = withName(store(20, item(numberKey(20))), "f")
	checkSchedule(t, loose, q, []int{1, 0, 1, 0, 1, 0}, want, txQueue(ended(first, 2, 2), ended(second, 2, 2), ended(third, 2, 2)))
	checkSerial(t, loose, q, want)
}

// long has more operations than a schedule performs, so that At tells how many there were.
func long(id int) impl.Tx {
	return running(tx(id, slices.Repeat([]impl.Op{get("b", numberKey(1))}, 200)...), 0, storeB())
}

// checkAts gives the At of each transaction after a schedule.
func checkAts(t *testing.T, q impl.TxQueue, choices []int, want ...int) {
	t.Helper()
	d := openDatabase()
	after := cloneQueue(q)
	for i, at := range want {
		after.Txs[i].At = at
	}
	checkSchedule(t, d, q, choices, d, after)
}

func TestScheduleOfEachChoice(t *testing.T) {
	q := txQueue(long(1), long(2), long(3))
	checkAts(t, q, nil, 8, 8, 8)
	checkAts(t, q, []int{}, 8, 8, 8)
	for _, c := range []int{0, 3, 6, 300, -1, -2, -3, -4, -300, math.MinInt, math.MinInt + 1, math.MinInt + 2, math.MaxInt - 1} {
		checkAts(t, q, []int{c}, 9, 8, 8)
		checkAts(t, q, []int{c, c, c}, 11, 8, 8)
	}
	for _, c := range []int{1, 4, 7, 301, math.MaxInt} {
		checkAts(t, q, []int{c}, 8, 9, 8)
	}
	for _, c := range []int{2, 5, 8, 302, math.MaxInt - 2} {
		checkAts(t, q, []int{c}, 8, 8, 9)
	}
	checkAts(t, q, []int{0, 1, 2, 2, 5, 4, 2, -9}, 10, 10, 12)
	checkAts(t, txQueue(long(1)), []int{0, 1, 2, 3, -1, math.MaxInt}, 14)
	// More transactions than a queue of NewTx has.
	many := txQueue(slices.Repeat([]impl.Tx{long(1)}, 8)...)
	checkAts(t, many, []int{7, 7, 15, 8, 6}, 9, 8, 8, 8, 8, 8, 9, 11)
}

func TestScheduleOfManyChoices(t *testing.T) {
	q := txQueue(long(1), long(2))
	for _, count := range []int{1, 2, 8, 58, 59, 60, 61, 62, 63, 64, 100, 120, 1000} {
		checkAts(t, q, slices.Repeat([]int{0}, count), 8+min(count, maxChoices), 8)
		checkAts(t, q, slices.Repeat([]int{1}, count), 8, 8+min(count, maxChoices))
	}
	checkAts(t, q, append(slices.Repeat([]int{0}, 59), 1, 1, 1), 67, 9)
	checkAts(t, q, append(slices.Repeat([]int{0}, 60), 1, 1, 1), 68, 8)
}

// TestSchedulePassesOver has transactions that cannot make a step, so that the next one makes it.
func TestSchedulePassesOver(t *testing.T) {
	for _, state := range []int{2, 3, 4, -1, math.MinInt, math.MaxInt} {
		still := ended(tx(4, empty("b"), empty("b")), 1, state)
		checkAts(t, txQueue(still, long(1), long(2)), []int{0}, 1, 9, 8)
		checkAts(t, txQueue(still, long(1), long(2)), []int{2, 2, 0, 1}, 1, 10, 10)
		checkAts(t, txQueue(long(1), still, long(2)), []int{1, 1, 0}, 9, 1, 10)
		checkAts(t, txQueue(long(1), long(2), still), []int{2, 2, 1}, 10, 9, 1)
		checkAts(t, txQueue(long(1), still, still), []int{1, 2, 0, 5, 4}, 13, 1, 1)
		checkAts(t, txQueue(still, still), []int{1, 0, 1}, 1, 1)
		// One that waits for another one is passed over, too, and stays as it is.
		waits := tx(5, empty("b"))
		checkAts(t, txQueue(long(1), waits, long(2)), []int{1, 1, 4}, 8, 0, 11)
		checkAts(t, txQueue(still, long(2), waits, waits), []int{2, 3, 0, 1}, 1, 12, 0, 0)
	}
}

// TestScheduleOfOneThatStarts needs a choice for the start.
func TestScheduleOfOneThatStarts(t *testing.T) {
	d := openDatabase()
	x := withBackup(withState(long(1), 0))
	for _, c := range []struct{ count, at int }{{0, 8}, {1, 8}, {2, 9}, {3, 10}, {60, 67}, {61, 67}} {
		checkSchedule(t, d, txQueue(x), make([]int, c.count), d, txQueue(withAt(long(1), c.at)))
		checkSchedule(t, d, txQueue(x, long(2)), make([]int, c.count), d, txQueue(withAt(long(1), c.at), withAt(long(2), 8)))
	}
	// In whatever order they are chosen, each keeps its place.
	checkSchedule(t, d, txQueue(x, x), []int{1, 0, 1, 1, 1, 0}, d, txQueue(withAt(long(1), 9), withAt(long(1), 11)))
}

// TestScheduleEndsTransactions has transactions of about as many operations as the end of a schedule performs.
func TestScheduleEndsTransactions(t *testing.T) {
	d := openDatabase()
	for count := range 12 {
		x := tx(1, slices.Repeat([]impl.Op{inc("f", textKey("k"), "n")}, count)...)
		performed := min(count, 8)
		want, after := d, running(x, performed, storeF())
		if count > 0 {
			want = withF(9, item(textKey("k"), field("n", performed)))
		}
		if count == 0 {
			after = ended(x, 0, 2)
		} else if count <= 8 {
			after = ended(x, performed, 2)
		}
		checkSchedule(t, d, txQueue(x), nil, want, txQueue(after))
		checkSchedule(t, d, txQueue(running(x, 0, storeF())), nil, want, txQueue(after))
		// One that goes on running holds back those that conflict with it, and no others.
		reads, other := tx(2, get("f", textKey("k"))), tx(3, get("b", numberKey(1)))
		if count <= 8 {
			checkSchedule(t, d, txQueue(x, reads, other), nil, want, txQueue(after, ended(reads, 1, 2), ended(other, 1, 2)))
		} else {
			checkSchedule(t, d, txQueue(x, reads, other), nil, want, txQueue(after, reads, ended(other, 1, 2)))
		}
	}
}

// TestScheduleOfTransactionsThatHaveBegun also has some that have ended, which stay as they are.
func TestScheduleOfTransactionsThatHaveBegun(t *testing.T) {
	d := openDatabase()
	l := []impl.Op{put("f", numberKey(10)), put("f", numberKey(11)), put("f", numberKey(12))}
	for _, state := range []int{2, 3, 4, -1} {
		for at := range 5 {
			x := running(tx(1, l...), at, storeF(), storeB())
			x.State = state
			checkSchedule(t, d, txQueue(x, x), []int{0, 1, 2}, d, txQueue(x, x))
			checkSchedule(t, d, txQueue(x, tx(2, l[0])), []int{0, 0}, withF(10, item(numberKey(10))), txQueue(x, ended(tx(2, l[0]), 1, 2)))
		}
	}
	checkSchedule(t, d, txQueue(running(tx(1, l...), 1, storeF())), []int{0}, withF(12, item(numberKey(11)), item(numberKey(12))), txQueue(ended(tx(1, l...), 3, 2)))
	checkSchedule(t, d, txQueue(running(tx(1, l...), 3, storeF())), []int{0}, d, txQueue(ended(tx(1, l...), 3, 2)))
	checkSchedule(t, d, txQueue(running(tx(1, l...), -5, storeF())), nil, d, txQueue(ended(tx(1, l...), -5, 2)))
	// One that waits goes on where it is.
	checkSchedule(t, d, txQueue(withAt(tx(1, l...), 2)), []int{0, 0, 0}, withF(12, item(numberKey(12))), txQueue(ended(tx(1, l...), 3, 2)))
	// One that runs and fails restores the stores as they were when it started.
	fails := running(tx(1, append(slices.Clone(l), get("e", numberKey(1)))...), 1, withName(store(4, item(textKey("old"))), "f"))
	checkSchedule(t, d, txQueue(fails, tx(2, l[0])), nil, withF(10, item(numberKey(10)), item(textKey("old"))), txQueue(ended(fails, 4, 3), ended(tx(2, l[0]), 1, 2)))
}

func TestScheduleOfAnEmptyQueue(t *testing.T) {
	for _, d := range slices.Concat(validDatabases(), invalidDatabases()) {
		for _, choices := range [][]int{nil, {0}, {1, 2, 3}, {-1, math.MinInt, math.MaxInt}, make([]int, 100)} {
			checkSchedule(t, d, impl.TxQueue{}, choices, d, impl.TxQueue{})
			checkSchedule(t, d, impl.TxQueue{Txs: []impl.Tx{}}, choices, d, impl.TxQueue{})
		}
		checkSerial(t, d, impl.TxQueue{}, d)
		checkSerial(t, d, impl.TxQueue{Txs: []impl.Tx{}}, d)
	}
}

func TestScheduleOnInvalidDatabases(t *testing.T) {
	queues := mixedQueues()
	// These would go on, end or restore their stores.
	queues = append(queues, txQueue(long(1), tx(2, empty("f")), running(tx(3), 0, storeB()), running(tx(4, impl.Op{}), 0, storeB(), storeF()), running(tx(5, empty("b")), 7)))
	for _, d := range invalidDatabases() {
		for _, q := range queues {
			for _, choices := range [][]int{nil, {0, 1, 2}, {-1, 7}, make([]int, 61)} {
				checkSchedule(t, d, q, choices, d, q)
			}
			checkSerial(t, d, q, d)
		}
	}
}

// oddQueue has transactions in all states and of any length, also with operations that are none.
func oddQueue(r *rand.Rand, d impl.Database) impl.TxQueue {
	q := txQueue()
	for range r.IntN(9) {
		x := tx(r.IntN(9) - 3)
		for range r.IntN(12) {
			o := randomOp(r, d)
			if r.IntN(20) == 0 {
				o.Kind = r.IntN(9) - 1
			}
			x.Ops = append(x.Ops, o)
		}
		x.State, x.At = []int{0, 0, 1, 1, 1, 2, 3, 4, -1}[r.IntN(9)], []int{0, 0, 0, 1, 2, 3, -1, 9, 12}[r.IntN(9)]
		for _, s := range append(d.Stores, withName(store(0), "z")) {
			if r.IntN(2) == 0 {
				x.Backup = append(x.Backup, withAuto(s, s.Auto+r.IntN(3)))
			}
		}
		q.Txs = append(q.Txs, x)
	}
	return q
}

func TestStepsOfOddQueues(t *testing.T) {
	r := rand.New(rand.NewPCG(10, 6))
	invalid := invalidDatabases()
	for n := range 4000 {
		d := indexedDatabase(r)
		if n%8 == 0 {
			d = invalid[r.IntN(len(invalid))]
		}
		q := oddQueue(r, d)
		for i := -1; i <= len(q.Txs); i++ {
			checkCanStart(t, q, i, wantCanStart(q, i))
			if want, fine := wantStart(d, q, i); fine {
				checkStart(t, d, q, i, want)
			} else {
				checkNoStart(t, d, q, i)
			}
			checkTxStepLike(t, d, q, i)
		}
		checkScheduleLike(t, d, q, randomChoices(r))
		want, _ := wantSerial(d, q)
		checkSerial(t, d, q, want)
	}
}

func TestSerialRun(t *testing.T) {
	d := openDatabase()
	b := d.Stores[0].Items
	l := []impl.Op{put("b", numberKey(2), field("a", 3)), remove("b", numberKey(1))}
	once := withB(3, item(numberKey(2), field("a", 3)), b[1], b[2])
	checkSerial(t, d, queueOf(nil), d)
	checkSerial(t, d, queueOf(nil, nil, nil), d)
	checkSerial(t, d, queueOf(l), once)
	checkSerial(t, d, queueOf(nil, l, nil), once)
	checkSerial(t, d, queueOf(l, l), once)
	checkSerial(t, d, queueOf([]impl.Op{empty("b")}, l), withB(3, item(numberKey(2), field("a", 3))))
	checkSerial(t, d, queueOf(l, []impl.Op{empty("b")}), withB(3))
	checkSerial(t, d, queueOf([]impl.Op{inc("f", textKey("k"), "a")}, []impl.Op{inc("f", textKey("k"), "a"), inc("f", textKey("k"), "b")}, []impl.Op{inc("f", textKey("k"), "b")}), withF(9, item(textKey("k"), field("a", 2), field("b", 2))))
	// One that fails changes nothing, wherever it stands and whichever of its operations fails.
	for _, o := range failingOps() {
		for at := range len(l) + 1 {
			fails := slices.Insert(slices.Clone(l), at, o)
			checkSerial(t, d, queueOf(fails), d)
			checkSerial(t, d, queueOf(fails, fails), d)
			checkSerial(t, d, queueOf(fails, l), once)
			checkSerial(t, d, queueOf(l, fails), once)
			checkSerial(t, d, queueOf(fails, l, fails, nil), once)
		}
	}
	// More than MaxOps operations fail as a whole, and there may be more than MaxTxs transactions.
	incs := slices.Repeat([]impl.Op{inc("f", textKey("k"), "n")}, maxOps+1)
	checkSerial(t, d, queueOf(incs), d)
	checkSerial(t, d, queueOf(incs, incs[:6], incs), withF(9, item(textKey("k"), field("n", 6))))
	checkSerial(t, d, queueOf(slices.Repeat([][]impl.Op{incs[:1]}, 20)...), withF(9, item(textKey("k"), field("n", 20))))
}

// TestSerialRunOfEachState performs all operations, whatever a transaction has done before.
func TestSerialRunOfEachState(t *testing.T) {
	d := openDatabase()
	for _, state := range txStates {
		for _, at := range []int{0, 1, 2, -1, math.MaxInt} {
			x := withState(running(tx(1, inc("f", textKey("k"), "n"), inc("f", textKey("k"), "n")), at, storeF()), state)
			checkSerial(t, d, txQueue(x), withF(9, item(textKey("k"), field("n", 2))))
			checkSerial(t, d, txQueue(x, x), withF(9, item(textKey("k"), field("n", 4))))
		}
	}
}

// textOfQueue is the same for no elements and an empty list.
func textOfQueue(q impl.TxQueue) string {
	text := ""
	for _, x := range q.Txs {
		text += fmt.Sprintf("%d %d %d\n%s%s", x.Id, x.At, x.State, textOfOps(x.Ops), textOf(impl.Database{Stores: x.Backup}))
	}
	return text
}

func TestEqualQueues(t *testing.T) {
	x := running(tx(4, put("b", numberKey(1), field("a", 1), field("b", 2)), inc("f", pairKey(1, "x"), "a"), empty("b")), 1, storeB(), storeF())
	y, z := ended(x, 3, 2), tx(5, get("d", textKey("x")))
	base := txQueue(x, y, z)
	queues := append(mixedQueues(), base, txQueue(x), txQueue(y), txQueue(z), txQueue(x, y), txQueue(y, z), txQueue(x, z), txQueue(y, x, z), txQueue(z, y, x), txQueue(x, z, y), txQueue(x, y, z, z), txQueue(x, y, z, impl.Tx{}), txQueue(make([]impl.Tx, 1)...), txQueue(make([]impl.Tx, 3)...))
	for i := range base.Txs {
		change := func(change func(x *impl.Tx)) {
			q := cloneQueue(base)
			change(&q.Txs[i])
			queues = append(queues, q)
		}
		for _, n := range []int{0, 1, 2, 3, 4, 5, 6, -1, math.MinInt, math.MaxInt} {
			change(func(x *impl.Tx) { x.Id = n })
			change(func(x *impl.Tx) { x.At = n })
			change(func(x *impl.Tx) { x.State = n })
		}
		for at, o := range base.Txs[i].Ops {
			for _, other := range []impl.Op{{}, withOpStore(o, "c"), withKey(o, numberKey(9)), withRecord(o, record(field("z", 1))), withOpField(o, "z"), opOf(1)} {
				change(func(x *impl.Tx) { x.Ops[at] = other })
			}
			change(func(x *impl.Tx) { x.Ops = slices.Delete(x.Ops, at, at+1) })
			change(func(x *impl.Tx) { x.Ops = slices.Insert(x.Ops, at, impl.Op{}) })
		}
		change(func(x *impl.Tx) { x.Ops = append(x.Ops, impl.Op{}) })
		for at, s := range base.Txs[i].Backup {
			for _, other := range []impl.Store{{}, withName(s, "c"), withAuto(s, 77), withItemAt(s, 0, item(numberKey(-9))), {Name: s.Name, Auto: s.Auto}, storeD()} {
				change(func(x *impl.Tx) { x.Backup[at] = other })
			}
			change(func(x *impl.Tx) { x.Backup = slices.Delete(x.Backup, at, at+1) })
		}
		change(func(x *impl.Tx) { x.Backup = append(x.Backup, impl.Store{}) })
		change(func(x *impl.Tx) { slices.Reverse(x.Backup) })
		change(func(x *impl.Tx) { slices.Reverse(x.Ops) })
	}
	texts := []string{}
	for _, q := range queues {
		texts = append(texts, textOfQueue(q))
	}
	for i, a := range queues {
		for j, b := range queues {
			if got, want := impl.EqualQueues(a, b), texts[i] == texts[j]; got != want {
				t.Errorf("EqualQueues(%v, %v) = %t", a, b, got)
			}
		}
	}
}

func TestEqualQueuesOfEmptyLists(t *testing.T) {
	queues := []impl.TxQueue{{}, {Txs: []impl.Tx{}}}
	filled := []impl.TxQueue{txQueue(impl.Tx{Ops: []impl.Op{{}}, Backup: []impl.Store{{}}}), txQueue(impl.Tx{Ops: []impl.Op{withRecord(impl.Op{}, record())}, Backup: []impl.Store{{Items: []impl.Item{}}}})}
	bare := []impl.TxQueue{txQueue(impl.Tx{}), txQueue(impl.Tx{Ops: []impl.Op{}, Backup: []impl.Store{}})}
	for i, group := range [][]impl.TxQueue{queues, filled, bare} {
		for j, other := range [][]impl.TxQueue{queues, filled, bare} {
			for _, a := range group {
				for _, b := range other {
					if got := impl.EqualQueues(a, b); got != (i == j) {
						t.Errorf("EqualQueues(%v, %v) = %t", a, b, got)
					}
				}
			}
		}
	}
	// The spare capacity does not belong to a queue.
	whole := slices.Repeat([]impl.Tx{tx(1)}, 4)
	if !impl.EqualQueues(txQueue(whole[:2]...), txQueue(tx(1), tx(1))) || impl.EqualQueues(txQueue(whole[:2]...), txQueue(whole...)) {
		t.Error("EqualQueues of a part of a longer queue")
	}
}

// guardedQueue is a queue argument in known memory, that of its transactions included.
type guardedQueue struct {
	queue   impl.TxQueue
	backing []impl.Tx
	saved   []impl.Tx
	ops     []guardedOps
	backups []guardedDatabase
}

func guardQueue(q impl.TxQueue) guardedQueue {
	edges := slices.Repeat([]impl.Tx{running(tx(201, inc("edge", textKey("edge"), "edge")), 201, storeB())}, guardWidth)
	g := guardedQueue{backing: slices.Clone(edges)}
	for _, x := range q.Txs {
		ops, backup := guardOps(x.Ops), guardDatabase(impl.Database{Stores: x.Backup})
		g.ops, g.backups = append(g.ops, ops), append(g.backups, backup)
		g.backing = append(g.backing, impl.Tx{Id: x.Id, Ops: ops.list, At: x.At, State: x.State, Backup: backup.database.Stores})
	}
	g.backing = slices.Concat(g.backing, edges)
	g.saved = slices.Clone(g.backing)
	g.queue = impl.TxQueue{Txs: g.backing[guardWidth : guardWidth+len(q.Txs)]}
	return g
}

// sameTxMemory is more than sameTx: the operations and the stores must be the same ones.
func sameTxMemory(a impl.Tx, b impl.Tx) bool {
	return a.Id == b.Id && a.At == b.At && a.State == b.State && sameSlice(a.Ops, b.Ops) && sameSlice(a.Backup, b.Backup)
}

func sameSlice[T any](a []T, b []T) bool {
	return unsafe.SliceData(a) == unsafe.SliceData(b) && len(a) == len(b) && cap(a) == cap(b)
}

func (g guardedQueue) check(t *testing.T, what string) {
	t.Helper()
	if !slices.EqualFunc(g.backing, g.saved, sameTxMemory) {
		t.Errorf("%s: the memory of an argument is %v, was %v", what, g.backing, g.saved)
	}
	for i := range g.ops {
		g.ops[i].check(t, what)
		g.backups[i].check(t, what)
	}
}

// extents is the memory of the whole argument.
func (g guardedQueue) extents() []extent {
	all := []extent{extentOf(g.backing)}
	for i := range g.ops {
		all = append(all, g.ops[i].extents()...)
		all = append(all, g.backups[i].extents()...)
	}
	return all
}

// queueExtents is the memory of all slices that a queue reaches, also through spare capacity.
func queueExtents(q impl.TxQueue) []extent {
	extents := []extent{extentOf(q.Txs)}
	for _, x := range q.Txs[:cap(q.Txs)] {
		extents = append(extents, opExtents(x.Ops)...)
		extents = append(extents, extentsOf(impl.Database{Stores: x.Backup})...)
	}
	return slices.DeleteFunc(extents, func(x extent) bool { return x.start == x.end })
}

func scribbleQueue(q impl.TxQueue) {
	all := q.Txs[:cap(q.Txs)]
	for i := range all {
		ops := all[i].Ops[:cap(all[i].Ops)]
		for j := range ops {
			scribbleRecord(ops[j].Record)
			ops[j] = empty("changed")
		}
		scribbleDatabase(impl.Database{Stores: all[i].Backup})
		all[i] = running(tx(85, empty("changed")), 85, store(85))
	}
}

// txResult is what a function of chapter 10 returns; what it does not return is left empty.
type txResult struct {
	database impl.Database
	queue    impl.TxQueue
	ok       bool
}

func (x txResult) extents() []extent {
	return append(extentsOf(x.database), queueExtents(x.queue)...)
}

// checkTxResult calls a function twice: no result may share memory with an argument or another result, nor within itself, and no argument may change.
func checkTxResult(t *testing.T, what string, d impl.Database, q impl.TxQueue, l []impl.Op, call func(d impl.Database, q impl.TxQueue, l []impl.Op) txResult) {
	t.Helper()
	database, queue, ops := guardDatabase(d), guardQueue(q), guardOps(l)
	check := func(when string) {
		t.Helper()
		database.check(t, what+when)
		queue.check(t, what+when)
		ops.check(t, what+when)
	}
	first := call(database.database, queue.queue, ops.list)
	check("")
	second := call(database.database, queue.queue, ops.list)
	check(", again")
	if !sameDatabase(first.database, second.database) || !sameQueue(first.queue, second.queue) || first.ok != second.ok {
		t.Errorf("%s: %v, then %v", what, first, second)
	}
	checkExtentsApart(t, what, slices.Concat(database.extents(), queue.extents(), ops.extents(), first.extents(), second.extents())...)
	scribbleDatabase(first.database)
	scribbleQueue(first.queue)
	check(", its result changed")
}

// fullQueue has transactions in all states that can start, go on, end and abort.
func fullQueue() impl.TxQueue {
	k := numberKey(1)
	return txQueue(
		running(tx(1, put("b", k, field("a", 9), field("z", 1)), inc("b", numberKey(2), "q")), 0, storeB()),
		tx(2, put("f", numberKey(30), field("a", 1)), get("f", k), withRecord(remove("f", k), record(field("q", 1)))),
		running(tx(3, empty("d"), impl.Op{}), 1, storeD(), withName(storeB(), "f"), storeF()),
		ended(tx(4, empty("b"), put("h", k, field("n", 3))), 2, 2),
		withBackup(tx(5, get("h", k)), storeB(), storeD()),
		running(tx(6, put("h", numberKey(10), field("n", 77))), 1, withName(storeB(), "h")),
	)
}

func TestTxResultsAreFresh(t *testing.T) {
	full := fullQueue()
	// Of these, two start at the same time and are still running at the end of a schedule, with backups of the same store.
	reads := slices.Repeat([]impl.Op{get("b", numberKey(1))}, 20)
	queues := []impl.TxQueue{{}, full, txQueue(full.Txs[:3]...), txQueue(full.Txs[1:]...), txQueue(full.Txs[1], full.Txs[1]), queueOf(full.Txs[0].Ops, full.Txs[0].Ops, nil, full.Txs[2].Ops), queueOf(reads, reads)}
	for n, d := range slices.Concat(validDatabases()[3:], invalidDatabases()[5:10]) {
		for m, q := range queues {
			for i := -1; i <= len(q.Txs); i++ {
				checkTxResult(t, fmt.Sprintf("StartTx, case %d %d, at %d", n, m, i), d, q, nil, func(d impl.Database, q impl.TxQueue, _ []impl.Op) txResult {
					after, ok := impl.StartTx(d, q, i)
					return txResult{queue: after, ok: ok}
				})
				checkTxResult(t, fmt.Sprintf("StepTx, case %d %d, at %d", n, m, i), d, q, nil, func(d impl.Database, q impl.TxQueue, _ []impl.Op) txResult {
					got, after, ok := impl.StepTx(d, q, i)
					return txResult{got, after, ok}
				})
			}
			choices := guard([]int{1, 0, 2, -1, 99, math.MaxInt, 3, 2, 2})
			checkTxResult(t, fmt.Sprintf("RunSchedule, case %d %d", n, m), d, q, nil, func(d impl.Database, q impl.TxQueue, _ []impl.Op) txResult {
				got, after := impl.RunSchedule(d, q, choices.part)
				return txResult{database: got, queue: after}
			})
			choices.check(t, "RunSchedule")
			checkTxResult(t, fmt.Sprintf("SerialRun, case %d %d", n, m), d, q, nil, func(d impl.Database, q impl.TxQueue, _ []impl.Op) txResult {
				return txResult{database: impl.SerialRun(d, q)}
			})
		}
	}
}

func TestNewTxsAreFresh(t *testing.T) {
	for _, q := range []impl.TxQueue{{}, fullQueue(), txQueue(fullQueue().Txs[:5]...), txQueue(fullQueue().Txs[2:]...)} {
		for _, l := range slices.Concat(opLists(), [][]impl.Op{{{}}, make([]impl.Op, 7), invalidOps()}) {
			checkTxResult(t, "NewTx", impl.Database{}, q, l, func(_ impl.Database, q impl.TxQueue, l []impl.Op) txResult {
				after, _, ok := impl.NewTx(q, l)
				return txResult{queue: after, ok: ok}
			})
		}
	}
}

// TestSharedArguments has arguments that share memory with one another, which the results must not do.
func TestSharedArguments(t *testing.T) {
	arg := guardDatabase(openDatabase())
	d := arg.database
	l := []impl.Op{put("b", numberKey(7)), impl.Op{}}
	l[0].Record = d.Stores[0].Items[1].Record
	ops := guardOps(l)
	x := impl.Tx{Id: 1, Ops: ops.list, State: 1, Backup: d.Stores}
	q := txQueue(x, x, x)
	what := "a queue of one transaction"
	for _, at := range []int{0, 1, 2} {
		q.Txs[0].At, q.Txs[1].At = at, at
		got, after, _ := impl.StepTx(d, q, 1)
		longer, _, _ := impl.NewTx(q, ops.list)
		started, _ := impl.StartTx(d, txQueue(impl.Tx{Ops: ops.list}, x), 0)
		ran, ended := impl.RunSchedule(d, q, []int{1, 2, 0})
		checkExtentsApart(t, what, slices.Concat(arg.extents(), ops.extents(), extentsOf(got), queueExtents(after), queueExtents(longer), queueExtents(started), extentsOf(ran), queueExtents(ended))...)
	}
	arg.check(t, what)
	ops.check(t, what)
}

func TestReadingQueuesChangesNothing(t *testing.T) {
	queues := append(mixedQueues(), fullQueue(), txQueue(long(1), long(2)))
	for i, q := range queues {
		arg, other := guardQueue(q), guardQueue(queues[(i+1)%len(queues)])
		for at := -1; at <= len(q.Txs); at++ {
			impl.CanStart(arg.queue, at)
		}
		for _, x := range arg.queue.Txs {
			for _, y := range other.queue.Txs {
				impl.Conflicts(x.Ops, y.Ops)
			}
		}
		impl.EqualQueues(arg.queue, other.queue)
		impl.EqualQueues(arg.queue, arg.queue)
		arg.check(t, "a function that reads a queue")
		other.check(t, "a function that reads a queue")
	}
}
