package tests

import (
	"fmt"
	"math"
	"math/rand/v2"
	"slices"
	"strings"
	"testing"

	"loop.example/g00583/impl"
)

// Promise 12: after a crash exactly the whole transactions are there (chapter 12).

// dataOf is what the entries of these transactions hold.
func dataOf(lists ...[]impl.Op) [][]byte {
	list := [][]byte{}
	for _, l := range lists {
		list = append(list, wantOpsEncoding(l...))
	}
	return list
}

// diskOf has an entry for each list, whether it is possible or not.
func diskOf(base impl.Database, lists ...[]impl.Op) impl.Disk {
	return diskOfData(base, dataOf(lists...)...)
}

func diskOfData(base impl.Database, list ...[]byte) impl.Disk {
	return impl.Disk{Base: base, Log: logOf(list...), Count: len(list)}
}

func withLog(k impl.Disk, parts ...[]byte) impl.Disk {
	k.Log = slices.Concat(parts...)
	return k
}

func withCount(k impl.Disk, count int) impl.Disk {
	k.Count = count
	return k
}

func withBase(k impl.Disk, d impl.Database) impl.Disk {
	k.Base = d
	return k
}

// sameDisk compares disks without the functions of the package.
func sameDisk(a impl.Disk, b impl.Disk) bool {
	return sameDatabase(a.Base, b.Base) && slices.Equal(a.Log, b.Log) && a.Count == b.Count
}

// wantOpen recovers in the document's words, without the functions of the package that do so.
func wantOpen(k impl.Disk) (impl.Database, int) {
	list, _ := wantRead(k.Log)
	d := k.Base
	for n, data := range list {
		l, fine := wantDecodedOps(data)
		if !fine {
			return d, n
		}
		d, _, _ = wantRunOps(d, l)
	}
	return d, len(list)
}

func checkOpen(t *testing.T, what string, k impl.Disk, want impl.Database, count int) {
	t.Helper()
	if got, n := impl.OpenDisk(k); !sameDatabase(got, want) || n != count {
		t.Errorf("%s: OpenDisk(%v) = %v, %d, want %v, %d", what, k, got, n, want, count)
	}
}

func checkOpenLike(t *testing.T, what string, k impl.Disk) {
	t.Helper()
	want, count := wantOpen(k)
	checkOpen(t, what, k, want, count)
}

// oddCounts are not the number of entries of any disk of these tests.
var oddCounts = []int{-1, -2, -3, -100, math.MinInt, math.MinInt + 1, 900, 901, 1 << 31, 1 << 32, maxValue, maxValue + 1, math.MaxInt - 1, math.MaxInt}

// checkOpenAnyCount also holds that Count does not matter.
func checkOpenAnyCount(t *testing.T, what string, k impl.Disk, want impl.Database, count int) {
	t.Helper()
	checkOpen(t, what, k, want, count)
	for _, other := range slices.Concat(oddCounts, []int{0, 1, 2, count - 1, count + 1, count + 2}) {
		checkOpen(t, fmt.Sprintf("%s, with Count %d", what, other), withCount(k, other), want, count)
	}
}

// transaction is a list of operations with the database behind it.
type transaction struct {
	ops   []impl.Op
	after impl.Database
}

// transactions are possible one after the other, from openDatabase on.
func transactions() []transaction {
	d := openDatabase()
	k, x, y := numberKey(20), textKey("k"), textKey("y")
	f20 := withStoreAt(d, 2, withName(store(20, item(k, field("a", 1))), "f"))
	both := withStoreAt(d, 2, withName(store(20, item(k, field("a", 2)), item(x, field("n", 1))), "f"))
	dropped := withStoreAt(both, 1, withName(store(5, item(numberKey(5), field("n", 3))), "d"))
	moved := withStoreAt(dropped, 0, withName(store(3, item(numberKey(2), field("a", 1), field("n", 5)), item(numberKey(3), field("a", 2), field("c", 7)), item(x, field("a", 4)), item(textKey("x"), field("c", 7), field("n", 6)), item(y, field("a", 3))), "b"))
	cleared := withStoreAt(moved, 2, withName(store(20), "f"))
	counted := withStoreAt(cleared, 2, withName(store(20, item(pairKey(-7, "z"), field("visits", 6))), "f"))
	return []transaction{
		{[]impl.Op{put("f", k, field("a", 1))}, f20},
		{[]impl.Op{inc("f", k, "a"), inc("f", x, "n")}, both},
		{nil, both},
		{[]impl.Op{get("f", k), get("b", numberKey(99))}, both},
		{[]impl.Op{empty("d"), put("d", numberKey(5), field("n", 3)), remove("f", numberKey(77))}, dropped},
		{[]impl.Op{remove("b", numberKey(1)), put("b", numberKey(2), field("a", 1), field("n", 5)), add("b", y, field("a", 3)), add("b", x, field("a", 4))}, moved},
		{[]impl.Op{withKey(empty("f"), numberKey(3))}, cleared},
		{slices.Repeat([]impl.Op{inc("f", pairKey(-7, "z"), "visits")}, 6), counted},
	}
}

// impossibleLists are of valid operations, but cannot be performed with any database that the transactions leave.
func impossibleLists() [][]impl.Op {
	d7, lost := numberKey(7), put("b", numberKey(55), field("a", 55))
	return [][]impl.Op{
		{get("e", numberKey(1))}, {empty("e")}, {put("notes", numberKey(1))},
		{put("d", d7, field("n", 3)), put("d", numberKey(8), field("n", 3))}, {lost, put("b", textKey("k"), field("a", 2))}, {add("b", numberKey(3))}, {lost, empty("d"), add("b", textKey("x"))},
		{put("f", d7, field("z", maxField)), inc("f", d7, "z")}, {get("e", d7), lost}, {lost, get("e", d7), empty("f")}, {lost, empty("f"), empty("d"), remove("b", numberKey(3)), inc("f", d7, "z"), add("f", d7)},
		{put("f", d7, recordOfFirst(maxFields).Fields...), inc("f", d7, "zzz")},
	}
}

// noLists are data that DecodeOps does not accept.
func noLists() [][]byte {
	valid := wantOpsEncoding(put("f", numberKey(20), field("a", 1)), empty("b"))
	return [][]byte{
		{}, {7}, {1}, {0, 0}, {128, 0}, {255}, {7, 8}, bytesOf(150), slices.Repeat([]byte{0}, 3000),
		append(slices.Clone(valid), 0), valid[:len(valid)-1], valid[1:], slices.Concat(valid, valid), logOf(valid),
		wantOpsEncoding(impl.Op{}), wantOpsEncoding(empty("f"), get("f", impl.Key{})), wantOpsEncoding(withOpField(empty("f"), "a")), wantOpsEncoding(slices.Repeat([]impl.Op{empty("f")}, 7)...),
	}
}

func TestOpenDiskOfAnEmptyLog(t *testing.T) {
	for _, d := range slices.Concat(validDatabases(), invalidDatabases()) {
		checkOpenAnyCount(t, "no log", impl.Disk{Base: d}, d, 0)
		checkOpenAnyCount(t, "an empty log", impl.Disk{Base: d, Log: []byte{}}, d, 0)
	}
	checkOpen(t, "no disk", impl.Disk{}, impl.Database{}, 0)
}

func TestOpenDiskOfEachEntry(t *testing.T) {
	lists, after := [][]impl.Op{}, openDatabase()
	for _, x := range transactions() {
		checkOpenAnyCount(t, "one entry", diskOf(after, x.ops), x.after, 1)
		lists, after = append(lists, x.ops), x.after
		checkOpenAnyCount(t, fmt.Sprintf("%d entries", len(lists)), diskOf(openDatabase(), lists...), after, len(lists))
	}
	for _, l := range opLists() {
		for _, d := range []impl.Database{openDatabase(), fullDatabase(), database(1, nil, emptyStores("ab")...)} {
			checkOpenLike(t, "a list of operations", diskOf(d, l))
			checkOpenLike(t, "two lists of operations", diskOf(d, l, []impl.Op{empty("b")}, l))
		}
	}
}

// A log that is longer than AppendLog allows is read all the same.
func TestOpenDiskOfManyEntries(t *testing.T) {
	one := []impl.Op{inc("f", textKey("k"), "n")}
	for _, count := range []int{2, 3, 50, 127, 128, 129, 300} {
		want := withF(9, item(textKey("k"), field("n", count)))
		checkOpen(t, "many entries", diskOf(openDatabase(), slices.Repeat([][]impl.Op{one}, count)...), want, count)
		checkOpen(t, "many empty entries", diskOf(openDatabase(), make([][]impl.Op, count)...), openDatabase(), count)
	}
}

// TestOpenDiskGoesOnBehindAFailure puts a list that fails at each place: it changes nothing, and is counted.
func TestOpenDiskGoesOnBehindAFailure(t *testing.T) {
	possible, last := [][]impl.Op{}, impl.Database{}
	for _, x := range transactions() {
		possible, last = append(possible, x.ops), x.after
	}
	for _, l := range impossibleLists() {
		checkOpenAnyCount(t, "a failure alone", diskOf(openDatabase(), l), openDatabase(), 1)
		for at := range len(possible) + 1 {
			lists := slices.Insert(slices.Clone(possible), at, l)
			checkOpen(t, fmt.Sprintf("%+v at %d", l, at), diskOf(openDatabase(), lists...), last, len(lists))
			checkOpen(t, fmt.Sprintf("%+v at %d as the last", l, at), diskOf(openDatabase(), lists[:at+1]...), append([]transaction{{nil, openDatabase()}}, transactions()...)[at].after, at+1)
		}
		checkOpen(t, "failures alone", diskOf(openDatabase(), slices.Repeat([][]impl.Op{l}, 5)...), openDatabase(), 5)
	}
}

// TestOpenDiskRunsOnWhatIsReached has operations for which Base and the database behind the earlier entries differ.
func TestOpenDiskRunsOnWhatIsReached(t *testing.T) {
	d, b := openDatabase(), openDatabase().Stores[0].Items
	four := numberKey(4)
	free, taken := []impl.Op{remove("b", numberKey(1))}, []impl.Op{put("b", numberKey(1), field("a", 9))}
	fourth := []impl.Op{put("b", four, field("a", 1))}
	checkOpen(t, "fails on Base", diskOf(d, fourth), d, 1)
	checkOpen(t, "fails on Base, but not behind an entry", diskOf(d, free, fourth), withB(4, b[1], item(four, field("a", 1)), b[2]), 2)
	checkOpen(t, "fails on Base, and behind an entry that comes too late", diskOf(d, fourth, free), withB(3, b[1], b[2]), 2)
	checkOpen(t, "fails twice, and not the third time", diskOf(d, fourth, fourth, taken, fourth), withB(4, item(numberKey(1), field("a", 9)), b[1], item(four, field("a", 1)), b[2]), 4)
	added := []impl.Op{add("f", four)}
	checkOpen(t, "fails behind itself only", diskOf(d, added, added, append(added, empty("b"))), withF(9, item(four)), 3)
	checkOpen(t, "fails in the end", diskOf(d, added, []impl.Op{empty("b"), add("f", four)}), withF(9, item(four)), 2)
}

// TestOpenDiskEndsAtNoList puts data that DecodeOps does not accept at each place: they end the recovery, and are not counted.
func TestOpenDiskEndsAtNoList(t *testing.T) {
	possible := [][]impl.Op{}
	for _, x := range transactions() {
		possible = append(possible, x.ops)
	}
	reached := append([]transaction{{nil, openDatabase()}}, transactions()...)
	for _, data := range noLists() {
		if _, fine := wantDecodedOps(data); fine {
			t.Fatalf("%v is a list of operations", data)
		}
		for at := range len(possible) + 1 {
			list := slices.Insert(dataOf(possible...), at, data)
			what := fmt.Sprintf("%v at %d", data, at)
			checkOpenAnyCount(t, what, diskOfData(openDatabase(), list...), reached[at].after, at)
			checkOpen(t, what+", as the last", diskOfData(openDatabase(), list[:at+1]...), reached[at].after, at)
			checkOpen(t, what+", twice", diskOfData(openDatabase(), slices.Insert(slices.Clone(list), at, data)...), reached[at].after, at)
		}
		failing := impossibleLists()[0]
		checkOpen(t, "behind a failure", diskOfData(openDatabase(), wantOpsEncoding(failing...), data, wantOpsEncoding(possible[0]...)), openDatabase(), 1)
	}
}

func TestOpenDiskWithAWrongChecksum(t *testing.T) {
	lists := [][]impl.Op{}
	for _, x := range transactions() {
		lists = append(lists, x.ops)
	}
	reached := append([]transaction{{nil, openDatabase()}}, transactions()...)
	entries := entriesOf(dataOf(lists...)...)
	for at, l := range lists {
		before, behind := slices.Concat(entries[:at]...), slices.Concat(entries[at+1:]...)
		data := wantOpsEncoding(l...)
		for _, sum := range []int{0, 1, wantSum(at, data) + 1, wantSum(at, data) ^ 1<<30, wantSum(at, data) + modulus, wantSum(at+1, data), wantSum(at-1, data), wantHash(nil), maxValue} {
			k := withLog(diskOf(openDatabase(), lists...), before, entryWithSum(data, sum), behind)
			checkOpenAnyCount(t, fmt.Sprintf("a wrong checksum at %d", at), k, reached[at].after, at)
		}
	}
}

// TestOpenDiskOnAnInvalidBase: no operations are possible, but the entries are counted.
func TestOpenDiskOnAnInvalidBase(t *testing.T) {
	lists := [][]impl.Op{nil, {empty("b")}, {get("b", numberKey(1))}, {empty("e")}, {remove("b", numberKey(3))}}
	data := dataOf(lists...)
	for _, d := range invalidDatabases() {
		for count := range len(lists) + 1 {
			checkOpenAnyCount(t, "an invalid Base", diskOf(d, lists[:count]...), d, count)
		}
		checkOpen(t, "an invalid Base, and no list", diskOfData(d, data[0], data[1], []byte{7}, data[2]), d, 2)
		checkOpen(t, "an invalid Base, and a cut log", withLog(diskOf(d, lists...), logOf(data[:3]...), []byte{1, 5}), d, 3)
	}
}

// histories are lists of transactions for openDatabase.
func histories() [][][]impl.Op {
	lists := [][]impl.Op{}
	for _, x := range transactions() {
		lists = append(lists, x.ops)
	}
	mixed := [][]impl.Op{}
	for i, l := range lists {
		mixed = append(mixed, l, impossibleLists()[i])
	}
	return [][][]impl.Op{{}, {nil}, lists[:1], lists[:2], lists, mixed, make([][]impl.Op, 9), {opLists()[5], lists[0], nil, lists[1]}, slices.Repeat([][]impl.Op{{inc("f", textKey("k"), "n")}}, 7)}
}

// databasesOf are those before the first transaction, and behind each one.
func databasesOf(d impl.Database, lists [][]impl.Op) []impl.Database {
	databases := []impl.Database{d}
	for _, l := range lists {
		d, _, _ = wantRunOps(d, l)
		databases = append(databases, d)
	}
	return databases
}

// diskGarbage is what may stand behind a cut. No entry among it holds a list of operations.
func diskGarbage() [][]byte {
	return append(logGarbage(), wantEntry(0, []byte{7})[:4], wantOpsEncoding(empty("f")), []byte{9, 9, 9}, []byte{3}, []byte{4, 0}, []byte{5}, []byte{6}, []byte{7})
}

// commonPrefix is the number of first bytes that a and b share.
func commonPrefix(a []byte, b []byte) int {
	n := 0
	for n < min(len(a), len(b)) && a[n] == b[n] {
		n++
	}
	return n
}

// TestOpenDiskAfterEachCrash holds the promise itself: the database is that of exactly the transactions of which all bytes are left.
func TestOpenDiskAfterEachCrash(t *testing.T) {
	garbage := diskGarbage()
	for _, lists := range histories() {
		k := diskOf(openDatabase(), lists...)
		entries, databases := entriesOf(dataOf(lists...)...), databasesOf(openDatabase(), lists)
		for cut := 0; cut <= len(k.Log); cut++ {
			count, _ := wholeWithin(entries, cut)
			checkOpen(t, "a cut log", withLog(k, k.Log[:cut]), databases[count], count)
			part := k
			part.Log = k.Log[:cut:cut]
			checkOpen(t, "a cut log with nothing behind it", part, databases[count], count)
			for _, g := range garbage {
				crashed := impl.CrashDisk(k, cut, g)
				// The garbage may be what was cut off.
				left, _ := wholeWithin(entries, commonPrefix(crashed.Log, k.Log))
				checkOpen(t, "a crash", crashed, databases[left], left)
			}
			checkOpen(t, "a crash without effect", impl.CrashDisk(k, cut, k.Log[cut:]), databases[len(lists)], len(lists))
		}
	}
}

// TestOpenDiskOfWholeGarbage has garbage that nobody can tell from a transaction.
func TestOpenDiskOfWholeGarbage(t *testing.T) {
	lists := [][]impl.Op{{put("f", numberKey(1))}, {inc("f", numberKey(1), "a")}}
	k := diskOf(openDatabase(), lists...)
	more := wantOpsEncoding(inc("f", numberKey(1), "a"))
	once, twice := withF(9, item(numberKey(1), field("a", 1))), withF(9, item(numberKey(1), field("a", 2)))
	checkOpen(t, "garbage with the next number", impl.CrashDisk(k, len(k.Log), wantEntry(2, more)), twice, 3)
	for _, number := range []int{0, 1, 3, 4, -1} {
		checkOpen(t, "garbage with another number", impl.CrashDisk(k, len(k.Log), wantEntry(number, more)), once, 2)
	}
	checkOpen(t, "garbage behind a half entry", impl.CrashDisk(k, len(k.Log)-1, wantEntry(1, more)), withF(9, item(numberKey(1))), 1)
	checkOpen(t, "garbage that cannot be performed", impl.CrashDisk(k, len(k.Log), wantEntry(2, wantOpsEncoding(empty("e")))), once, 3)
}

func TestOpenDiskWithChangedBytes(t *testing.T) {
	for _, lists := range histories() {
		k := diskOf(openDatabase(), lists...)
		entries, databases := entriesOf(dataOf(lists...)...), databasesOf(openDatabase(), lists)
		for i := range k.Log {
			count, _ := wholeWithin(entries, i)
			for _, mask := range []byte{1, 4, 64, 128, 255} {
				changed := withLog(k, k.Log)
				changed.Log[i] ^= mask
				checkOpen(t, fmt.Sprintf("a log changed at %d", i), changed, databases[count], count)
			}
		}
	}
}

func checkCommit(t *testing.T, what string, k impl.Disk, ops ...impl.Op) {
	t.Helper()
	want := withCount(withLog(k, k.Log, wantEntry(k.Count, wantOpsEncoding(ops...))), k.Count+1)
	if got, ok := impl.CommitDisk(k, ops); !sameDisk(got, want) || !ok {
		t.Errorf("%s: CommitDisk(%v, %+v) = %v, %t, want %v, true", what, k, ops, got, ok, want)
	}
}

func checkNoCommit(t *testing.T, what string, k impl.Disk, ops ...impl.Op) {
	t.Helper()
	if got, ok := impl.CommitDisk(k, ops); !sameDisk(got, k) || ok {
		t.Errorf("%s: CommitDisk(%v, %+v) = %v, %t, want no change, false", what, k, ops, got, ok)
	}
}

// checkCommitLike compares with the second implementation, and reports whether the commit is possible.
func checkCommitLike(t *testing.T, what string, k impl.Disk, ops ...impl.Op) bool {
	t.Helper()
	d, count := wantOpen(k)
	_, _, fine := wantRunOps(d, ops)
	if !fine || count != k.Count || len(k.Log)+len(wantEntry(k.Count, wantOpsEncoding(ops...))) > maxLogBytes {
		checkNoCommit(t, what, k, ops...)
		return false
	}
	checkCommit(t, what, k, ops...)
	return true
}

func TestCommitDiskExample(t *testing.T) {
	k := impl.Disk{Base: openDatabase()}
	k, ok := impl.CommitDisk(k, []impl.Op{empty("ab")})
	if ok || !sameDisk(k, impl.Disk{Base: openDatabase()}) {
		t.Errorf("CommitDisk for a store that is not there = %v, %t", k, ok)
	}
	k, ok = impl.CommitDisk(k, []impl.Op{empty("b")})
	data := []byte{1, 5, 1, 98, 0, 1, 0, 0}
	sum := impl.AppendUvarint(nil, impl.CheckSum(0, data))
	if want := slices.Concat([]byte{8}, data, sum); !ok || k.Count != 1 || !slices.Equal(k.Log, want) || !sameDatabase(k.Base, openDatabase()) {
		t.Errorf("CommitDisk = %v, %t, want the log %v", k, ok, want)
	}
	checkOpen(t, "an example", k, withB(3), 1)
}

// TestCommitDiskOneAfterTheOther keeps Base as it was, and recovers what was committed.
func TestCommitDiskOneAfterTheOther(t *testing.T) {
	k := impl.Disk{Base: openDatabase()}
	for i, x := range transactions() {
		for _, l := range impossibleLists() {
			checkNoCommit(t, "an impossible list", k, l...)
		}
		checkCommit(t, "a possible list", k, x.ops...)
		next, ok := impl.CommitDisk(k, x.ops)
		if !ok {
			t.Fatalf("CommitDisk(%v, %+v) failed", k, x.ops)
		}
		k = next
		checkOpen(t, "committed", k, x.after, i+1)
	}
}

// TestCommitDiskThatFails puts an operation that fails first, in the middle and last.
func TestCommitDiskThatFails(t *testing.T) {
	// These leave the stores b and d so that the operations that fail do so behind them, too.
	fine := []impl.Op{put("f", numberKey(20)), empty("f"), inc("b", numberKey(1), "c"), get("b", numberKey(3))}
	reads := []impl.Op{get("b", numberKey(1)), get("f", numberKey(1)), get("f", textKey("x"))}
	for _, k := range []impl.Disk{{Base: openDatabase()}, diskOf(openDatabase(), nil, []impl.Op{get("b", numberKey(1))}, impossibleLists()[0])} {
		checkCommit(t, "all possible", k, fine...)
		checkCommit(t, "reads", k, reads...)
		checkCommit(t, "a read", k, reads[2])
		for _, o := range failingOps() {
			for at := range len(fine) + 1 {
				checkNoCommit(t, fmt.Sprintf("%+v at %d", o, at), k, slices.Insert(slices.Clone(fine), at, o)...)
			}
			for at := range len(reads) + 1 {
				checkNoCommit(t, fmt.Sprintf("%+v at %d among reads", o, at), k, slices.Insert(slices.Clone(reads), at, o)...)
			}
		}
	}
}

func TestCommitDiskOfEachCountOfOperations(t *testing.T) {
	for _, k := range []impl.Disk{{Base: openDatabase()}, diskOf(openDatabase(), []impl.Op{empty("f")}), {Base: impl.Database{Name: "a"}}, diskOf(database(0, nil), nil, nil)} {
		checkCommit(t, "no operations", k)
		if got, ok := impl.CommitDisk(k, nil); !ok || !slices.Equal(got.Log[len(k.Log):], wantEntry(k.Count, []byte{0})) {
			t.Errorf("CommitDisk(%v, nil) = %v, %t", k, got, ok)
		}
	}
	k := diskOf(openDatabase(), []impl.Op{empty("f")})
	for _, o := range []impl.Op{inc("f", textKey("k"), "n"), get("b", numberKey(1)), put("f", numberKey(1)), empty("b"), remove("b", numberKey(1))} {
		for count := range 3 * maxOps {
			if l := slices.Repeat([]impl.Op{o}, count); count <= 6 {
				checkCommit(t, fmt.Sprintf("%d operations", count), k, l...)
			} else {
				checkNoCommit(t, fmt.Sprintf("%d operations", count), k, l...)
			}
		}
	}
	checkNoCommit(t, "many operations", k, slices.Repeat([]impl.Op{get("b", numberKey(1))}, 300)...)
	checkNoCommit(t, "many invalid operations", k, make([]impl.Op, 300)...)
}

func TestCommitDiskOfInvalidOperations(t *testing.T) {
	fine := []impl.Op{put("b", numberKey(1), field("a", 1)), empty("f"), inc("b", textKey("x"), "c"), get("b", numberKey(1)), remove("b", numberKey(1))}
	for _, k := range []impl.Disk{{Base: openDatabase()}, diskOf(openDatabase(), []impl.Op{empty("f")}, nil)} {
		checkCommit(t, "valid operations", k, fine...)
		for _, o := range invalidOps() {
			checkNoCommit(t, "an invalid operation", k, o)
			for _, at := range []int{0, 2, len(fine)} {
				checkNoCommit(t, "an invalid operation among others", k, slices.Insert(slices.Clone(fine), at, o)...)
			}
		}
	}
}

// TestCommitDiskOfClearingUnderAnyKey has keys that are not encoded, and need not be.
func TestCommitDiskOfClearingUnderAnyKey(t *testing.T) {
	k := diskOf(openDatabase(), nil)
	for _, x := range slices.Concat(someInvalidKeys(), mixedKeys) {
		checkCommit(t, "clearing", k, withKey(empty("b"), x))
		next, _ := impl.CommitDisk(k, []impl.Op{withKey(empty("b"), x)})
		checkOpen(t, "clearing", next, withB(3), 2)
	}
}

func TestCommitDiskOnAnInvalidBase(t *testing.T) {
	for _, d := range invalidDatabases() {
		for _, k := range []impl.Disk{{Base: d}, diskOf(d, nil, []impl.Op{empty("b")})} {
			checkNoCommit(t, "an invalid Base", k)
			checkNoCommit(t, "an invalid Base", k, empty("b"))
			checkNoCommit(t, "an invalid Base", k, get("f", numberKey(1)))
		}
	}
}

// sizedList is a possible list whose entry with this number has as many bytes, if there is one.
func sizedList(number int, size int) ([]impl.Op, bool) {
	for length := range 2 * maxKeyText {
		// The letter changes the checksum, which has not always as many bytes.
		for _, letter := range keyAlphabet {
			text := strings.Repeat(string(letter), length)
			l := []impl.Op{get("b", textKey(text[:min(length, maxKeyText)]))}
			if length > maxKeyText {
				l = append(l, get("b", textKey(text[maxKeyText:])))
			}
			if len(wantEntry(number, wantOpsEncoding(l...))) == size {
				return l, true
			}
		}
	}
	return nil, false
}

// nearlyFull is a disk whose log has room for one more entry or two, of sizes that sizedList has.
func nearlyFull(t *testing.T) impl.Disk {
	t.Helper()
	k, l := impl.Disk{Base: openDatabase()}, []impl.Op{inc("f", textKey("kkkkkkkk"), "nnnn")}
	for len(k.Log)+45 < maxLogBytes {
		next, ok := impl.CommitDisk(k, l)
		if !ok {
			t.Fatalf("CommitDisk to a log of %d bytes failed", len(k.Log))
		}
		k = next
	}
	checkOpen(t, "a nearly full log", k, withF(9, item(textKey("kkkkkkkk"), field("nnnn", k.Count))), k.Count)
	return k
}

func TestCommitDiskUntilTheLogIsFull(t *testing.T) {
	k := nearlyFull(t)
	room := maxLogBytes - len(k.Log)
	for _, size := range []int{room - 2, room - 1, room, room + 1, room + 2} {
		l, found := sizedList(k.Count, size)
		if !found {
			t.Fatalf("no list makes an entry of %d bytes", size)
		}
		if size > room {
			checkNoCommit(t, "no room", k, l...)
			continue
		}
		checkCommit(t, "just enough room", k, l...)
		full, _ := impl.CommitDisk(k, l)
		if len(full.Log) != maxLogBytes-room+size {
			t.Errorf("CommitDisk leaves a log of %d bytes", len(full.Log))
		}
		// Now there is no room for any entry.
		checkNoCommit(t, "a full log", full)
		checkNoCommit(t, "a full log", full, empty("b"))
		checkNoCommit(t, "a full log", full, l...)
		d, _ := impl.OpenDisk(full)
		again := impl.Checkpoint(full)
		checkCommit(t, "an emptied log", again, l...)
		checkOpen(t, "an emptied log", again, d, 0)
	}
}

// TestCommitDiskBehindLongGarbage fills the log with bytes that are not read.
func TestCommitDiskBehindLongGarbage(t *testing.T) {
	start := diskOf(openDatabase(), []impl.Op{empty("f")}, nil)
	for _, l := range [][]impl.Op{nil, {empty("b")}, {get("f", numberKey(1)), inc("f", numberKey(1), "a")}} {
		entry := len(wantEntry(2, wantOpsEncoding(l...)))
		for size := maxLogBytes - entry - 3; size <= maxLogBytes+3; size++ {
			k := withLog(start, start.Log, slices.Repeat([]byte{255}, size-len(start.Log)))
			if size+entry <= maxLogBytes {
				checkCommit(t, "garbage and room", k, l...)
			} else {
				checkNoCommit(t, "garbage and no room", k, l...)
			}
		}
		checkNoCommit(t, "much garbage", withLog(start, start.Log, slices.Repeat([]byte{255}, 2*maxLogBytes)), l...)
	}
}

// A log that was made by hand may have more bytes than AppendLog allows.
func TestCommitDiskToATooLongLog(t *testing.T) {
	for _, count := range []int{300, 400} {
		k := diskOf(openDatabase(), slices.Repeat([][]impl.Op{{inc("f", textKey("k"), "n")}}, count)...)
		if len(k.Log) <= maxLogBytes {
			t.Fatalf("the log has %d bytes only", len(k.Log))
		}
		checkNoCommit(t, "a too long log", k)
		checkNoCommit(t, "a too long log", k, empty("b"))
	}
}

func TestCommitDiskWithAnotherCount(t *testing.T) {
	ops := [][]impl.Op{nil, {empty("b")}, {get("b", numberKey(1))}, {inc("f", numberKey(1), "a")}}
	for _, lists := range histories() {
		k := diskOf(openDatabase(), lists...)
		for _, l := range ops {
			checkCommit(t, "the right Count", k, l...)
			for _, count := range slices.Concat(oddCounts, []int{0, 1, 2, 3, len(lists) - 2, len(lists) - 1, len(lists) + 1, len(lists) + 2, len(lists) + 256, len(lists) + modulus, len(lists) - modulus, -len(lists), ^len(lists)}) {
				if count != len(lists) {
					checkNoCommit(t, fmt.Sprintf("Count %d for %d entries", count, len(lists)), withCount(k, count), l...)
				}
			}
		}
	}
}

// TestCommitDiskToACrashedDisk needs the Count of what is left. Then the entry stands behind the garbage, where it is not read.
func TestCommitDiskToACrashedDisk(t *testing.T) {
	for _, lists := range histories() {
		k := diskOf(openDatabase(), lists...)
		entries, databases := entriesOf(dataOf(lists...)...), databasesOf(openDatabase(), lists)
		for cut := 0; cut < len(k.Log); cut++ {
			count, size := wholeWithin(entries, cut)
			for _, g := range [][]byte{nil, {255, 255}, {9}} {
				crashed := impl.CrashDisk(k, cut, g)
				checkNoCommit(t, "not restarted", crashed, empty("b"))
				checkNoCommit(t, "not restarted", crashed)
				checkCommit(t, "the Count of what is left", withCount(crashed, count), empty("b"))
				if size < len(crashed.Log) {
					lost, _ := impl.CommitDisk(withCount(crashed, count), []impl.Op{empty("b")})
					want, n := wantOpen(lost)
					if n != count || !sameDatabase(want, databases[count]) {
						t.Fatalf("a commit to %v is read", crashed)
					}
					checkOpen(t, "behind garbage", lost, databases[count], count)
				}
			}
		}
	}
}

// TestCommitDiskBehindNoList has entries that are read, but hold no list: Count must be the number of those that OpenDisk reads.
func TestCommitDiskBehindNoList(t *testing.T) {
	one := wantOpsEncoding(inc("f", textKey("k"), "n"))
	for _, data := range noLists() {
		for at := range 4 {
			list := slices.Insert([][]byte{one, one, one}, at, data)
			k := diskOfData(openDatabase(), list...)
			for count := -1; count <= 6; count++ {
				if len(k.Log) < 1000 && count == at {
					checkCommit(t, "the Count of OpenDisk", withCount(k, count), empty("b"))
				} else if count != at {
					checkNoCommit(t, "another Count", withCount(k, count), empty("b"))
				}
			}
		}
	}
}

// TestCommitDiskLooksAtWhatIsRecovered has operations for which Base and the recovered database differ.
func TestCommitDiskLooksAtWhatIsRecovered(t *testing.T) {
	d, four := openDatabase(), numberKey(4)
	fourth := []impl.Op{put("b", four, field("a", 1))}
	base, freed := diskOf(d), diskOf(d, []impl.Op{remove("b", numberKey(1))})
	checkNoCommit(t, "not possible on Base", base, fourth...)
	checkCommit(t, "possible on what is recovered", freed, fourth...)
	added := []impl.Op{add("f", four)}
	checkCommit(t, "possible on Base", base, added...)
	checkNoCommit(t, "not possible on what is recovered", diskOf(d, added), added...)
	checkNoCommit(t, "not possible on what is recovered", diskOf(d, nil, added), get("b", four), added[0])
	checkNoCommit(t, "possible on what a failure would leave", diskOf(d, []impl.Op{remove("b", numberKey(1)), empty("e")}), fourth...)
	checkCommit(t, "not possible on what a failure would leave", diskOf(d, []impl.Op{added[0], empty("e")}), added...)
	// What stands behind the entries that are read does not count, either.
	crashed := withCount(withLog(freed, freed.Log[:len(freed.Log)-1]), 0)
	checkNoCommit(t, "possible on what is lost", crashed, fourth...)
	checkCommit(t, "possible on what is left", crashed, added...)
	last := wantOpsEncoding(fourth...)
	checkNoCommit(t, "possible on what stands behind no list", withCount(diskOfData(d, []byte{7}, wantOpsEncoding(remove("b", numberKey(1)))), 0), fourth...)
	checkNoCommit(t, "not possible on what is recovered", diskOfData(d, wantOpsEncoding(remove("b", numberKey(1))), last), put("b", numberKey(5), field("a", 1)))
}

func TestCommitDiskOnManyDisks(t *testing.T) {
	done := map[bool]int{}
	ops := someOps()
	for _, d := range slices.Concat(validDatabases(), invalidDatabases()[:20]) {
		for i, o := range ops {
			k := diskOf(d, ops[(i*7+1)%len(ops):][:1], ops[(i*5+3)%len(ops):][:1])
			done[checkCommitLike(t, "two entries", k, o)]++
			checkCommitLike(t, "two entries", k, o, ops[(i+11)%len(ops)])
			checkCommitLike(t, "a Count", withCount(k, i%4), o)
		}
	}
	if done[true] < 500 || done[false] < 500 {
		t.Errorf("a commit is possible %d times, and is not %d times", done[true], done[false])
	}
}

func checkCrash(t *testing.T, k impl.Disk, bytes int, garbage []byte, want ...byte) {
	t.Helper()
	if got := impl.CrashDisk(k, bytes, garbage); !sameDisk(got, withLog(k, want)) {
		t.Errorf("CrashDisk(%v, %d, %v) = %v, want the log %v", k, bytes, garbage, got, want)
	}
}

func TestCrashDisk(t *testing.T) {
	k := impl.Disk{Base: openDatabase(), Log: []byte{1, 2, 3}, Count: 5}
	checkCrash(t, k, 0, nil)
	checkCrash(t, k, 0, []byte{9}, 9)
	checkCrash(t, k, 2, nil, 1, 2)
	checkCrash(t, k, 2, []byte{9, 8}, 1, 2, 9, 8)
	checkCrash(t, k, 3, nil, 1, 2, 3)
	checkCrash(t, k, 3, []byte{9}, 1, 2, 3, 9)
	checkCrash(t, k, 4, []byte{9}, 1, 2, 3, 9)
	checkCrash(t, k, -1, nil)
	checkCrash(t, k, -1, []byte{9}, 9)
}

// TestCrashDiskOfEachDisk needs neither a log nor a valid database, and Count stays as it was.
func TestCrashDiskOfEachDisk(t *testing.T) {
	for _, k := range someDisks() {
		for _, garbage := range [][]byte{nil, {}, {0}, {255, 128}, bytesOf(200), wantEntry(k.Count, []byte{0})} {
			for _, bytes := range slices.Concat(oddCounts, []int{0, 1, 2, len(k.Log) / 2, len(k.Log) - 1, len(k.Log), len(k.Log) + 1, -len(k.Log)}) {
				checkCrash(t, k, bytes, garbage, slices.Concat(k.Log[:min(max(bytes, 0), len(k.Log))], garbage)...)
			}
		}
	}
}

// someDisks are whole, crashed and garbled disks.
func someDisks() []impl.Disk {
	disks := []impl.Disk{{}, {Count: 3}, {Log: []byte{1, 2}}, {Base: openDatabase()}, {Base: openDatabase(), Log: []byte{}, Count: -1}, {Base: fullDatabase(), Log: bytesOf(4001), Count: math.MinInt}}
	for i, lists := range histories() {
		k := diskOf(openDatabase(), lists...)
		disks = append(disks, k, withCount(k, i-3), withLog(k, k.Log, []byte{7, 7}), withLog(k, k.Log[:len(k.Log)/2]), withLog(k, k.Log[:len(k.Log)/3], []byte{255}), withBase(k, fullDatabase()))
	}
	for i, d := range invalidDatabases() {
		if i%10 == 0 {
			disks = append(disks, diskOf(d, []impl.Op{empty("b")}, nil), withCount(impl.Disk{Base: d, Log: bytesOf(i)}, i))
		}
	}
	one := wantOpsEncoding(inc("f", textKey("k"), "n"))
	for _, data := range noLists() {
		disks = append(disks, diskOfData(openDatabase(), data), diskOfData(openDatabase(), one, data), diskOfData(openDatabase(), one, data, one), withCount(diskOfData(openDatabase(), one, data, one), 1))
	}
	return disks
}

func checkRestart(t *testing.T, what string, k impl.Disk, size int, count int) {
	t.Helper()
	want := withCount(withLog(k, k.Log[:size]), count)
	if got := impl.RestartDisk(k); !sameDisk(got, want) {
		t.Errorf("%s: RestartDisk(%v) = %v, want %v", what, k, got, want)
	}
}

func TestRestartDisk(t *testing.T) {
	for _, lists := range histories() {
		k := diskOf(openDatabase(), lists...)
		entries := entriesOf(dataOf(lists...)...)
		for _, count := range append(oddCounts, 0, len(lists), len(lists)+1) {
			checkRestart(t, "a whole log", withCount(k, count), len(k.Log), len(lists))
		}
		for cut := 0; cut <= len(k.Log); cut++ {
			count, size := wholeWithin(entries, cut)
			checkRestart(t, "a cut log", withLog(k, k.Log[:cut]), size, count)
			checkRestart(t, "a cut log with another Count", withCount(withLog(k, k.Log[:cut], []byte{255, 255}), cut), size, count)
		}
		for i := range k.Log {
			count, size := wholeWithin(entries, i)
			garbled := withLog(k, k.Log)
			garbled.Log[i] ^= 85
			checkRestart(t, "a garbled log", garbled, size, count)
		}
	}
	for _, k := range someDisks() {
		list, size := wantRead(k.Log)
		checkRestart(t, "a disk", k, size, len(list))
	}
}

// TestRestartDiskKeepsEntriesThatAreNoLists takes the entries of ReadLog, not those of OpenDisk.
func TestRestartDiskKeepsEntriesThatAreNoLists(t *testing.T) {
	one := wantOpsEncoding(inc("f", textKey("k"), "n"))
	for _, data := range noLists() {
		for at := range 4 {
			k := diskOfData(openDatabase(), slices.Insert([][]byte{one, one, one}, at, data)...)
			checkRestart(t, "no list", withCount(k, at), len(k.Log), 4)
			checkRestart(t, "no list, before garbage", withLog(k, k.Log, []byte{255}), len(k.Log), 4)
			restarted := impl.RestartDisk(withLog(k, k.Log, []byte{255}))
			d := openDatabase()
			if at > 0 {
				d = withF(9, item(textKey("k"), field("n", at)))
			}
			checkOpen(t, "no list, restarted", restarted, d, at)
			// Its Count is not the number of entries that OpenDisk reads.
			checkNoCommit(t, "no list, restarted", restarted, empty("b"))
			checkCommit(t, "no list, and a checkpoint", impl.Checkpoint(restarted), empty("b"))
		}
	}
}

// TestCommitDiskAfterARestart works on exactly what was left, wherever the log was cut.
func TestCommitDiskAfterARestart(t *testing.T) {
	more := []impl.Op{inc("f", textKey("new"), "n")}
	for _, lists := range histories() {
		k := diskOf(openDatabase(), lists...)
		databases := databasesOf(openDatabase(), lists)
		entries := entriesOf(dataOf(lists...)...)
		garbage := [][]byte{{255}, {9, 9}, {2, 7, 8}, bytesOf(300), {0}}
		for cut := 0; cut <= len(k.Log); cut++ {
			for _, g := range [][]byte{nil, garbage[cut%len(garbage)]} {
				crashed := impl.CrashDisk(k, cut, g)
				left, _ := wholeWithin(entries, commonPrefix(crashed.Log, k.Log))
				restarted := impl.RestartDisk(crashed)
				checkOpen(t, "restarted", restarted, databases[left], left)
				checkCommit(t, "restarted", restarted, more...)
				checkNoCommit(t, "restarted, with a failure", restarted, more[0], empty("e"))
				next, _ := impl.CommitDisk(restarted, more)
				want, _, _ := wantRunOps(databases[left], more)
				checkOpen(t, "restarted and committed", next, want, left+1)
				if again := impl.RestartDisk(restarted); !sameDisk(again, restarted) {
					t.Errorf("RestartDisk(%v) = %v, want no change", restarted, again)
				}
			}
		}
	}
}

func TestCheckpoint(t *testing.T) {
	check := func(k impl.Disk, want impl.Database) {
		t.Helper()
		got := impl.Checkpoint(k)
		if !sameDisk(got, impl.Disk{Base: want}) {
			t.Errorf("Checkpoint(%v) = %v, want the Base %v, no log, 0", k, got, want)
		}
		checkOpen(t, "a checkpoint", got, want, 0)
	}
	for _, d := range slices.Concat(validDatabases(), invalidDatabases()) {
		check(impl.Disk{Base: d}, d)
		check(impl.Disk{Base: d, Log: []byte{7, 8}, Count: 5}, d)
	}
	lists := [][]impl.Op{}
	for _, x := range transactions() {
		lists = append(lists, x.ops)
		k := diskOf(openDatabase(), lists...)
		check(k, x.after)
		check(withCount(k, -3), x.after)
		check(withLog(k, k.Log, []byte{255}), x.after)
		check(withLog(k, k.Log, wantEntry(len(lists), []byte{7})), x.after)
	}
	for _, k := range someDisks() {
		want, _ := wantOpen(k)
		check(k, want)
	}
}

// TestCheckpointsBetweenCommits changes nothing of what is recovered.
func TestCheckpointsBetweenCommits(t *testing.T) {
	all := transactions()
	for every := 1; every <= len(all); every++ {
		k := impl.Disk{Base: openDatabase()}
		for i, x := range all {
			if i%every == 0 {
				k = impl.Checkpoint(k)
			}
			checkCommit(t, "behind a checkpoint", k, x.ops...)
			k, _ = impl.CommitDisk(k, x.ops)
			checkOpen(t, "behind a checkpoint", k, x.after, i%every+1)
		}
	}
}

func checkSizeDisk(t *testing.T, k impl.Disk, want int) {
	t.Helper()
	if got := impl.SizeDisk(k); got != want {
		t.Errorf("SizeDisk(%v) = %d, want %d", k, got, want)
	}
}

func TestSizeDisk(t *testing.T) {
	checkSizeDisk(t, impl.Disk{}, 0)
	checkSizeDisk(t, impl.Disk{Count: 7}, 0)
	checkSizeDisk(t, impl.Disk{Log: []byte{}}, 0)
	checkSizeDisk(t, impl.Disk{Log: []byte{7, 8, 9}}, 3)
	// Only the bytes of the log count, not those behind it.
	checkSizeDisk(t, impl.Disk{Log: bytesOf(4000)[:3], Count: -1}, 3)
	size := (14 + 14 + 9) + (14 + 14 + 15)
	checkSizeDisk(t, impl.Disk{Base: openDatabase()}, size)
	checkSizeDisk(t, impl.Disk{Base: openDatabase(), Log: bytesOf(5000), Count: 3}, size+5000)
	// The size is that of Base, not of what is recovered.
	k := diskOf(openDatabase(), []impl.Op{empty("b"), empty("d")})
	checkSizeDisk(t, k, size+len(k.Log))
	checkSizeDisk(t, impl.Checkpoint(k), 0)
	for _, k := range someDisks() {
		want := len(k.Log)
		for _, s := range k.Base.Stores {
			want += wantSize(s)
		}
		checkSizeDisk(t, k, want)
	}
}

func textOfDisk(k impl.Disk) string {
	return fmt.Sprintf("%s / %v / %d", textOf(k.Base), append([]byte{}, k.Log...), k.Count)
}

func TestEqualDisks(t *testing.T) {
	open := openDatabase()
	k := diskOf(open, []impl.Op{empty("b")}, nil)
	disks := []impl.Disk{
		{}, {Count: 1}, {Count: -1}, {Log: []byte{0}}, {Log: []byte{1}}, {Log: []byte{0, 0}}, {Base: open}, {Base: open, Count: 2}, {Log: k.Log}, {Log: k.Log, Count: 2}, {Base: open, Log: k.Log}, k,
		withBase(k, fullDatabase()), withBase(k, withDbName(open, "apq")), withBase(k, withDbName(open, "")), withBase(k, withVersion(open, 8)), withBase(k, withVersion(open, -7)), withBase(k, withStores(open, open.Stores[:2]...)), withBase(k, withStores(open)), withBase(k, withStores(open, open.Stores[1], open.Stores[0], open.Stores[2])),
		withBase(k, withUnique(open)), withBase(k, withUnique(open, "d n", "b a")), withBase(k, withUnique(open, "d n", "b n", "b a")), withBase(k, withUnique(open, "d n", "b a", "b c")), withBase(k, withUnique(open, "d n", "b a", "f n")),
		withLog(k, k.Log, []byte{0}), withLog(k, k.Log[:len(k.Log)-1]), withLog(k, k.Log[1:]), withLog(k, k.Log, k.Log), withLog(k, make([]byte, len(k.Log))),
	}
	for at, s := range open.Stores {
		disks = append(disks, withBase(k, withStoreAt(open, at, withName(s, "c"))), withBase(k, withStoreAt(open, at, withAuto(s, 77))), withBase(k, withStoreAt(open, at, withItemAt(s, 0, item(numberKey(-9))))))
		for i := range s.Items {
			disks = append(disks, withBase(k, withStoreAt(open, at, withoutItemAt(s, i))), withBase(k, withStoreAt(open, at, withRecordAt(s, i, record(field("a", 1))))), withBase(k, withStoreAt(open, at, withRecordAt(s, i, record()))))
		}
	}
	for i := range k.Log {
		for _, mask := range []byte{1, 128, 255} {
			changed := withLog(k, k.Log)
			changed.Log[i] ^= mask
			disks = append(disks, changed)
		}
	}
	for _, count := range append(oddCounts, 0, 1, 3, 258, 1<<32+2) {
		disks = append(disks, withCount(k, count))
	}
	texts := []string{}
	for _, x := range disks {
		texts = append(texts, textOfDisk(x))
	}
	for i, a := range disks {
		if clone := withLog(withBase(a, cloneDatabase(a.Base)), a.Log); !impl.EqualDisks(a, a) || !impl.EqualDisks(a, clone) {
			t.Errorf("EqualDisks(%v) of itself = false", a)
		}
		for j, b := range disks {
			if got, want := impl.EqualDisks(a, b), texts[i] == texts[j]; got != want {
				t.Errorf("EqualDisks(%v, %v) = %t", a, b, got)
			}
		}
	}
}

func TestEqualDisksOfEmptyLists(t *testing.T) {
	a, b := impl.Disk{}, impl.Disk{Base: impl.Database{Stores: []impl.Store{}, Unique: []impl.IndexDef{}}, Log: []byte{}}
	if !impl.EqualDisks(a, b) || !impl.EqualDisks(b, a) {
		t.Error("EqualDisks of no elements and of empty lists = false")
	}
	// The spare capacity does not belong to a log.
	whole := impl.Disk{Log: []byte{1, 2, 1, 2}}
	part := impl.Disk{Log: whole.Log[:2]}
	if !impl.EqualDisks(part, impl.Disk{Log: whole.Log[2:]}) || impl.EqualDisks(part, whole) || impl.EqualDisks(whole, part) {
		t.Error("EqualDisks of a part of a longer log")
	}
}

// randomList is short, so that it is often possible.
func randomList(r *rand.Rand, d impl.Database) []impl.Op {
	l := []impl.Op{}
	for range r.IntN(4) {
		l = append(l, randomOp(r, d))
	}
	return l
}

// TestDisksOverManyCrashes keeps the database behind each commit in a list, too.
func TestDisksOverManyCrashes(t *testing.T) {
	r := rand.New(rand.NewPCG(12, 1))
	done := map[string]int{}
	for range 60 {
		k := impl.Disk{Base: indexedDatabase(r)}
		lists, databases := [][]impl.Op{}, []impl.Database{k.Base}
		for range 40 {
			switch what := r.IntN(10); what {
			case 0:
				k = impl.Checkpoint(k)
				lists, databases = nil, databases[len(databases)-1:]
				done["checkpoint"]++
			case 1, 2:
				entries := entriesOf(dataOf(lists...)...)
				crashed := impl.CrashDisk(k, len(k.Log)-r.IntN(min(len(k.Log), 120)+1), randomBytes(r, 12))
				left, _ := wholeWithin(entries, commonPrefix(crashed.Log, k.Log))
				checkOpen(t, "a crash", crashed, databases[left], left)
				if left < len(lists) {
					checkNoCommit(t, "a crash", crashed)
					done["loss"]++
				}
				k, lists, databases = impl.RestartDisk(crashed), lists[:left], databases[:left+1]
			default:
				l := randomList(r, databases[len(databases)-1])
				done[fmt.Sprint("commit ", checkCommitLike(t, "a random list", k, l...))]++
				next, ok := impl.CommitDisk(k, l)
				if k = next; ok {
					d, _, _ := wantRunOps(databases[len(databases)-1], l)
					lists, databases = append(slices.Clone(lists), l), append(slices.Clone(databases), d)
				}
			}
			checkOpen(t, "a disk", k, databases[len(lists)], len(lists))
			if k.Count != len(lists) {
				t.Fatalf("Count is %d behind %d commits", k.Count, len(lists))
			}
		}
	}
	for _, what := range []string{"checkpoint", "loss", "commit true", "commit false"} {
		if done[what] < 100 {
			t.Errorf("%s comes %d times, too seldom", what, done[what])
		}
	}
}

// TestOpenRandomDisks has entries for which all is possible: lists that fail, data that are no lists, wrong numbers and cuts.
func TestOpenRandomDisks(t *testing.T) {
	r := rand.New(rand.NewPCG(12, 2))
	seen := map[int]int{}
	for range 3000 {
		d := indexedDatabase(r)
		log, number := []byte{}, 0
		for range r.IntN(8) {
			data := wantOpsEncoding(randomList(r, d)...)
			switch r.IntN(20) {
			case 0:
				data = randomBytes(r, 6)
			case 1:
				data[r.IntN(len(data))]++
			case 2:
				number += r.IntN(2)
			}
			entry := wantEntry(number, data)
			if r.IntN(20) == 0 {
				entry = entry[:r.IntN(len(entry))]
			}
			log, number = append(log, entry...), number+1
		}
		k := impl.Disk{Base: d, Log: log, Count: r.IntN(8)}
		want, count := wantOpen(k)
		checkOpen(t, "a random disk", k, want, count)
		checkCommitLike(t, "a random disk", k, randomList(r, d)...)
		list, size := wantRead(log)
		checkRestart(t, "a random disk", k, size, len(list))
		seen[count]++
	}
	for count := range 6 {
		if seen[count] < 100 {
			t.Errorf("only %d of the random disks have %d entries", seen[count], count)
		}
	}
}

// guardedDisk is a disk argument in known memory.
type guardedDisk struct {
	disk     impl.Disk
	database guardedDatabase
	log      guarded[byte]
}

func guardDisk(k impl.Disk) guardedDisk {
	g := guardedDisk{database: guardDatabase(k.Base), log: guard(k.Log)}
	g.disk = impl.Disk{Base: g.database.database, Log: g.log.part, Count: k.Count}
	return g
}

func (g guardedDisk) check(t *testing.T, what string) {
	t.Helper()
	g.database.check(t, what)
	g.log.check(t, what)
}

// extents is the memory of the whole argument.
func (g guardedDisk) extents() []extent {
	return append(g.database.extents(), extentOf(g.log.backing))
}

// diskExtents is the memory of all slices that a disk reaches, also through spare capacity.
func diskExtents(k impl.Disk) []extent {
	return slices.DeleteFunc(append(extentsOf(k.Base), extentOf(k.Log)), func(x extent) bool { return x.start == x.end })
}

// checkDiskResult calls a function twice: no result may share memory with an argument or another result, nor within itself, and no argument may change.
func checkDiskResult(t *testing.T, what string, k impl.Disk, l []impl.Op, garbage []byte, call func(k impl.Disk, l []impl.Op, garbage []byte) impl.Disk) {
	t.Helper()
	disk, ops, behind := guardDisk(k), guardOps(l), guard(garbage)
	check := func(when string) {
		t.Helper()
		disk.check(t, what+when)
		ops.check(t, what+when)
		behind.check(t, what+when)
	}
	first := call(disk.disk, ops.list, behind.part)
	check("")
	second := call(disk.disk, ops.list, behind.part)
	check(", again")
	if !sameDisk(first, second) {
		t.Errorf("%s: %v, then %v", what, first, second)
	}
	checkExtentsApart(t, what, slices.Concat(disk.extents(), ops.extents(), []extent{extentOf(behind.backing)}, diskExtents(first), diskExtents(second))...)
	text := textOfDisk(second)
	scribbleDatabase(first.Base)
	scribble(first.Log)
	check(", its result changed")
	if textOfDisk(second) != text {
		t.Errorf("%s: a result changes with another one", what)
	}
}

func TestDiskResultsAreFresh(t *testing.T) {
	lists := [][]impl.Op{nil, {empty("b")}, {empty("e")}, {put("f", numberKey(30), field("a", 1)), withRecord(get("f", numberKey(1)), record(field("q", 1)))}, {put("b", numberKey(1), field("a", 9), field("z", 1)), impl.Op{}}, slices.Repeat([]impl.Op{inc("f", textKey("k"), "n")}, 6), make([]impl.Op, 7)}
	for i, k := range append(someDisks(), nearlyFull(t)) {
		what := func(name string) string { return fmt.Sprintf("%s of disk %d", name, i) }
		checkDiskResult(t, what("OpenDisk"), k, nil, nil, func(k impl.Disk, _ []impl.Op, _ []byte) impl.Disk {
			d, count := impl.OpenDisk(k)
			return impl.Disk{Base: d, Count: count}
		})
		for _, l := range lists {
			checkDiskResult(t, what("CommitDisk"), k, l, nil, func(k impl.Disk, l []impl.Op, _ []byte) impl.Disk {
				next, _ := impl.CommitDisk(k, l)
				return next
			})
		}
		for _, garbage := range [][]byte{nil, bytesOf(20)} {
			for _, bytes := range []int{0, 1, len(k.Log), len(k.Log) + 1} {
				checkDiskResult(t, what("CrashDisk"), k, nil, garbage, func(k impl.Disk, _ []impl.Op, garbage []byte) impl.Disk { return impl.CrashDisk(k, bytes, garbage) })
			}
		}
		checkDiskResult(t, what("RestartDisk"), k, nil, nil, func(k impl.Disk, _ []impl.Op, _ []byte) impl.Disk { return impl.RestartDisk(k) })
		checkDiskResult(t, what("Checkpoint"), k, nil, nil, func(k impl.Disk, _ []impl.Op, _ []byte) impl.Disk { return impl.Checkpoint(k) })
		checkDiskResult(t, what("SizeDisk and EqualDisks"), k, nil, nil, func(k impl.Disk, _ []impl.Op, _ []byte) impl.Disk {
			impl.EqualDisks(k, diskOf(openDatabase(), nil))
			impl.EqualDisks(k, k)
			return impl.Disk{Count: impl.SizeDisk(k)}
		})
	}
}

// TestDisksOfSharedArguments has operations and garbage that share memory with the disk.
func TestDisksOfSharedArguments(t *testing.T) {
	lists := [][]impl.Op{{put("f", numberKey(20), field("a", 1))}, {inc("f", numberKey(20), "a")}}
	arg := guardDisk(diskOf(openDatabase(), lists...))
	k := arg.disk
	l := []impl.Op{put("f", textKey("k")), put("f", textKey("l"))}
	l[0].Record, l[1].Record = k.Base.Stores[0].Items[1].Record, k.Base.Stores[0].Items[1].Record
	ops := guardOps(l)
	// The records of these operations are those of the disk itself.
	copy(ops.backing[guardWidth:], l)
	copy(ops.saved[guardWidth:], l)
	size := len(k.Log)
	for cut := range size {
		crashed := impl.CrashDisk(k, cut, k.Log[cut/2:])
		if want := withLog(k, k.Log[:cut], k.Log[cut/2:]); !sameDisk(crashed, want) {
			t.Errorf("CrashDisk with a part of the log = %v, want %v", crashed, want)
		}
		part := impl.Disk{Base: k.Base, Log: k.Log[:cut], Count: k.Count}
		checkExtentsApart(t, "shared arguments", slices.Concat(arg.extents(), diskExtents(crashed), diskExtents(impl.RestartDisk(part)), diskExtents(impl.Checkpoint(part)))...)
		scribble(crashed.Log)
		scribbleDatabase(crashed.Base)
		arg.check(t, "shared arguments")
	}
	checkCommit(t, "records of the disk", k, l...)
	next, _ := impl.CommitDisk(k, ops.list)
	d, _ := impl.OpenDisk(next)
	checkExtentsApart(t, "records of the disk", slices.Concat(arg.extents(), diskExtents(next), extentsOf(d))...)
	scribble(next.Log)
	scribbleDatabase(next.Base)
	scribbleDatabase(d)
	arg.check(t, "records of the disk")
	ops.check(t, "records of the disk")
}
