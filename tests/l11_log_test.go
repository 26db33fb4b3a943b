package tests

import (
	"bytes"
	"encoding/binary"
	"fmt"
	"math"
	"math/rand/v2"
	"slices"
	"testing"

	"loop.example/g00583/impl"
)

// Promise 11: a log is read up to the first entry that is not whole (chapter 11).

const maxLogBytes = 4000

func TestLogConstant(t *testing.T) {
	if impl.MaxLogBytes != maxLogBytes {
		t.Errorf("MaxLogBytes = %d, want %d", impl.MaxLogBytes, maxLogBytes)
	}
}

// wantSum computes a checksum without the functions of the package.
func wantSum(number int, data []byte) int {
	values := []int{101, number, len(data)}
	for _, c := range data {
		values = append(values, int(c))
	}
	return wantHash(values)
}

// entryWithSum is an entry with any checksum.
func entryWithSum(data []byte, sum int) []byte {
	entry := binary.AppendUvarint(nil, uint64(len(data)))
	entry = append(entry, data...)
	return binary.AppendUvarint(entry, uint64(sum))
}

func wantEntry(number int, data []byte) []byte {
	return entryWithSum(data, wantSum(number, data))
}

// entriesOf are the entries of the log with these data.
func entriesOf(list ...[]byte) [][]byte {
	entries := [][]byte{}
	for number, data := range list {
		entries = append(entries, wantEntry(number, data))
	}
	return entries
}

func logOf(list ...[]byte) []byte {
	return slices.Concat(entriesOf(list...)...)
}

// wantRead reads a log in the document's words, without the functions of the package.
func wantRead(log []byte) ([][]byte, int) {
	list, size := [][]byte{}, 0
	for {
		length, start, ok := wantVarint(log, size)
		if !ok || length > maxLogBytes || length > len(log)-start {
			return list, size
		}
		data := log[start : start+length]
		sum, next, ok := wantVarint(log, start+length)
		if !ok || sum != wantSum(len(list), data) {
			return list, size
		}
		list, size = append(list, data), next
	}
}

func sameData(a [][]byte, b [][]byte) bool {
	return slices.EqualFunc(a, b, slices.Equal[[]byte])
}

// checkLog holds all three readers of a log against what is to be read.
func checkLog(t *testing.T, what string, log []byte, want [][]byte, size int) {
	t.Helper()
	if list, n := impl.ReadLog(log); !sameData(list, want) || n != size {
		t.Errorf("%s: ReadLog(%v) = %v, %d, want %v, %d", what, log, list, n, want, size)
	}
	if repaired := impl.RepairLog(log); !slices.Equal(repaired, log[:size]) {
		t.Errorf("%s: RepairLog(%v) = %v, want the first %d bytes", what, log, repaired, size)
	}
	if n := impl.CountLog(log); n != len(want) {
		t.Errorf("%s: CountLog(%v) = %d, want %d", what, log, n, len(want))
	}
}

// checkWhole is for the logs of which the first entries are read.
func checkWhole(t *testing.T, what string, log []byte, entries ...[]byte) {
	t.Helper()
	checkLog(t, what, log, entries, len(logOf(entries...)))
}

// bytesOf are bytes of any length that differ from those of other lengths.
func bytesOf(length int) []byte {
	b := make([]byte, length)
	for i := range b {
		b[i] = byte(i*7 + length)
	}
	return b
}

// shortSums are data whose checksums for their numbers take fewer bytes than most.
var shortSums = []struct {
	number int
	data   []byte
	sum    int
}{
	{0, []byte{252, 61, 154, 50}, 0},
	{0, []byte{252, 61, 154, 51}, 1},
	{0, []byte{215, 153, 128, 0}, 62},
	{2, []byte{20, 220, 110, 41}, 127},
	{2, []byte{20, 220, 110, 42}, 128},
	{0, []byte{1, 35, 25, 0}, 128},
	{0, []byte{130, 196, 101, 54}, 16383},
	{0, []byte{130, 196, 101, 55}, 16384},
	{1, []byte{12, 0}, 645658},
	{0, []byte{118, 104, 18, 22}, 2097151},
	{0, []byte{118, 104, 18, 23}, 2097152},
	{0, []byte{}, 187877572},
	{2, []byte{57, 128, 136, 26}, 0},
}

// logLists are the data of whole logs.
func logLists() [][][]byte {
	mixed := [][]byte{}
	for i := range 20 {
		mixed = append(mixed, bytesOf(i*i%13))
	}
	return [][][]byte{
		{},
		{{}},
		{{7, 8}},
		{{7, 8}, {}},
		{{}, {}, {}},
		{{0}, {0, 0}, {0, 0, 0}},
		{{255}, {128, 0}, {1}, {128}},
		{{252, 61, 154, 50}, {12, 0}, {57, 128, 136, 26}, {5}},
		{bytesOf(127), bytesOf(128), bytesOf(129)},
		{bytesOf(300), {9}, bytesOf(200), {}},
		{{1, 2, 3}, allBytes(), {4}},
		{{7, 8}, wantEntry(1, []byte{7, 8}), wantEntry(0, []byte{}), logOf([]byte{1}, []byte{2})},
		mixed,
	}
}

func TestCheckSum(t *testing.T) {
	cases := []struct {
		number int
		data   []byte
		want   int
	}{
		{0, nil, 187877572},
		{0, []byte{}, 187877572},
		{1, nil, 188877575},
		{-1, nil, 186877569},
		{modulus, nil, 187877572},
		{665, nil, 852879567},
		{0, []byte{0}, 1234807643},
		{0, []byte{7}, 1234807650},
		{0, []byte{0, 0}, 1086567508},
		{0, []byte{7, 8}, 1093567537},
		{1, []byte{7, 8}, 2143129298},
		{5, []byte{255}, 1922877727},
		{math.MaxInt, []byte{1, 2, 3}, 1811644492},
		{math.MinInt, []byte{1, 2, 3}, 1292911218},
	}
	for _, c := range cases {
		if got := impl.CheckSum(c.number, c.data); got != c.want {
			t.Errorf("CheckSum(%d, %v) = %d, want %d", c.number, c.data, got, c.want)
		}
	}
	for _, c := range shortSums {
		if got := impl.CheckSum(c.number, c.data); got != c.sum {
			t.Errorf("CheckSum(%d, %v) = %d, want %d", c.number, c.data, got, c.sum)
		}
	}
}

func TestCheckSumIsTheHashOfItsList(t *testing.T) {
	for _, number := range oddInts {
		for _, data := range append(byteLists(), bytesOf(4001)) {
			got := impl.CheckSum(number, data)
			if want := wantSum(number, data); got != want {
				t.Errorf("CheckSum(%d, %v) = %d, want %d", number, data, got, want)
			}
			if want := impl.Hash(slices.Concat([]int{101, number}, impl.BytesToInts(data))); got != want {
				t.Errorf("CheckSum(%d, %v) = %d, but the hash of its list is %d", number, data, got, want)
			}
		}
	}
}

func TestCheckSumDependsOnEachByte(t *testing.T) {
	for _, number := range []int{0, 1, 77, -1, maxValue} {
		for _, data := range [][]byte{{0}, {7, 8}, {0, 0, 0}, bytesOf(130)} {
			before := impl.CheckSum(number, data)
			for i := range data {
				for _, change := range []byte{1, 2, 127, 128, 255} {
					changed := slices.Clone(data)
					changed[i] += change
					if impl.CheckSum(number, changed) == before {
						t.Errorf("CheckSum(%d, %v) is the same for %v", number, data, changed)
					}
				}
				if impl.CheckSum(number, slices.Delete(slices.Clone(data), i, i+1)) == before {
					t.Errorf("CheckSum(%d, %v) is the same without index %d", number, data, i)
				}
			}
		}
	}
}

func TestCheckSumDependsOnTheNumber(t *testing.T) {
	for _, data := range [][]byte{nil, {0}, {7, 8}, bytesOf(130)} {
		for a := range 100 {
			for b := -100; b < a; b++ {
				if impl.CheckSum(a, data) == impl.CheckSum(b, data) {
					t.Errorf("CheckSum(%d, %v) is CheckSum(%d, %v)", a, data, b, data)
				}
			}
		}
	}
}

func checkAppendLog(t *testing.T, log []byte, number int, data []byte) {
	t.Helper()
	want := slices.Concat(log, wantEntry(number, data))
	if got, ok := impl.AppendLog(log, number, data); !slices.Equal(got, want) || !ok {
		t.Errorf("AppendLog(%v, %d, %v) = %v, %t, want %v, true", log, number, data, got, ok, want)
	}
}

func checkNoAppendLog(t *testing.T, log []byte, number int, data []byte) {
	t.Helper()
	if got, ok := impl.AppendLog(log, number, data); !slices.Equal(got, log) || ok {
		t.Errorf("AppendLog of %d bytes with number %d to %v = %v, %t, want no change, false", len(data), number, log, got, ok)
	}
}

func TestAppendLog(t *testing.T) {
	two := []byte{2, 7, 8, 177, 136, 186, 137, 4}
	cases := []struct {
		log    []byte
		number int
		data   []byte
		want   []byte
	}{
		{nil, 0, []byte{7, 8}, two},
		{[]byte{}, 0, []byte{7, 8}, two},
		{two, 1, nil, slices.Concat(two, []byte{0, 135, 150, 136, 90})},
		{two, 1, []byte{}, slices.Concat(two, []byte{0, 135, 150, 136, 90})},
		{[]byte{9}, 1, nil, []byte{9, 0, 135, 150, 136, 90}},
		{nil, 0, []byte{252, 61, 154, 50}, []byte{4, 252, 61, 154, 50, 0}},
		{nil, 2, []byte{20, 220, 110, 42}, []byte{4, 20, 220, 110, 42, 128, 1}},
	}
	for _, c := range cases {
		if got, ok := impl.AppendLog(c.log, c.number, c.data); !slices.Equal(got, c.want) || !ok {
			t.Errorf("AppendLog(%v, %d, %v) = %v, %t, want %v, true", c.log, c.number, c.data, got, ok, c.want)
		}
	}
}

// The log is not read when an entry is appended: the number need not be that of its entries.
func TestAppendLogOntoAnyLog(t *testing.T) {
	logs := [][]byte{nil, {}, {0}, {128}, {255, 255}, logOf([]byte{7, 8}), logOf([]byte{1}, nil, []byte{2})[:8], bytesOf(300)}
	for _, list := range logLists() {
		logs = append(logs, logOf(list...))
	}
	for _, log := range logs {
		for _, number := range oddInts {
			for _, data := range byteLists() {
				if number < 0 {
					checkNoAppendLog(t, log, number, data)
				} else {
					checkAppendLog(t, log, number, data)
				}
			}
		}
	}
}

func TestAppendLogIsReadAgain(t *testing.T) {
	for _, list := range logLists() {
		log := []byte{}
		for number, data := range list {
			longer, ok := impl.AppendLog(log, number, data)
			if !ok {
				t.Fatalf("AppendLog(%v, %d, %v) failed", log, number, data)
			}
			log = longer
			checkWhole(t, "appended", log, list[:number+1]...)
		}
	}
}

func TestAppendLogIsReadWithItsNumberOnly(t *testing.T) {
	for count := range 5 {
		before := slices.Repeat([][]byte{{3, 1}}, count)
		for number := range 8 {
			log, ok := impl.AppendLog(logOf(before...), number, []byte{7, 8})
			if !ok {
				t.Fatalf("AppendLog with the number %d failed", number)
			}
			if number == count {
				checkWhole(t, "the right number", log, append(slices.Clone(before), []byte{7, 8})...)
			} else {
				checkWhole(t, "a wrong number", log, before...)
			}
		}
	}
}

// checkLimit appends to logs that leave just enough room, and a byte less.
func checkLimit(t *testing.T, number int, data []byte) {
	t.Helper()
	room := maxLogBytes - len(wantEntry(number, data))
	for length := max(room-3, 0); length <= room; length++ {
		checkAppendLog(t, bytesOf(length), number, data)
	}
	for _, length := range []int{room + 1, room + 2, room + 6, maxLogBytes - 1, maxLogBytes, maxLogBytes + 1, maxLogBytes + 500, 2*maxLogBytes + 1} {
		if length > room && length >= 0 {
			checkNoAppendLog(t, bytesOf(length), number, data)
			checkNoAppendLog(t, bytesOf(length), -1, data)
		}
	}
}

func TestAppendLogLimit(t *testing.T) {
	for _, c := range shortSums {
		checkLimit(t, c.number, c.data)
	}
	for _, length := range []int{0, 1, 2, 126, 127, 128, 129, 300, 1999, 3900} {
		for number := range 3 {
			checkLimit(t, number, bytesOf(length))
		}
	}
	for length := 3980; length <= 4010; length++ {
		checkLimit(t, 0, bytesOf(length))
		checkLimit(t, 665, bytesOf(length))
	}
	for _, length := range []int{5000, 16383, 16384, 100000} {
		checkNoAppendLog(t, nil, 0, bytesOf(length))
		checkNoAppendLog(t, []byte{1}, 3, bytesOf(length))
		checkNoAppendLog(t, bytesOf(length), 3, nil)
		checkNoAppendLog(t, bytesOf(length), -3, nil)
	}
}

func TestAppendLogUntilItIsFull(t *testing.T) {
	for _, data := range [][]byte{{}, {7, 8}, bytesOf(61), bytesOf(200), bytesOf(1000)} {
		log, list, ok := []byte{}, [][]byte{}, true
		for ok {
			var longer []byte
			longer, ok = impl.AppendLog(log, len(list), data)
			full := len(log)+len(wantEntry(len(list), data)) > maxLogBytes
			if ok == full {
				t.Fatalf("AppendLog of entry %d with %d bytes to a log of %d bytes: %t", len(list), len(data), len(log), ok)
			}
			if ok {
				list = append(list, data)
			}
			log = longer
		}
		checkWhole(t, "a full log", log, list...)
	}
}

func TestAppendLogRejectsNegativeNumbers(t *testing.T) {
	for _, log := range [][]byte{nil, {}, {5}, logOf([]byte{7, 8}, nil), bytesOf(4000), bytesOf(4001)} {
		for _, number := range []int{-1, -2, -100, -modulus, -maxValue, math.MinInt + 1, math.MinInt} {
			for _, data := range [][]byte{nil, {}, {7, 8}, bytesOf(200), bytesOf(5000)} {
				checkNoAppendLog(t, log, number, data)
			}
		}
	}
}

func TestReadLog(t *testing.T) {
	checkLog(t, "no log", nil, nil, 0)
	checkLog(t, "an empty log", []byte{}, nil, 0)
	two := []byte{2, 7, 8, 177, 136, 186, 137, 4, 0, 135, 150, 136, 90}
	checkLog(t, "two entries", two, [][]byte{{7, 8}, {}}, 13)
	checkLog(t, "one entry", two[:8], [][]byte{{7, 8}}, 8)
	checkLog(t, "the second entry alone", two[8:], nil, 0)
	checkLog(t, "a checksum of one byte", []byte{4, 252, 61, 154, 50, 0, 0}, [][]byte{{252, 61, 154, 50}}, 6)
	for _, list := range logLists() {
		checkWhole(t, "a whole log", logOf(list...), list...)
	}
}

func TestReadLogOfShortChecksums(t *testing.T) {
	for _, c := range shortSums {
		list := append(slices.Repeat([][]byte{{9}}, c.number), c.data, []byte{7, 8})
		checkWhole(t, "a short checksum", logOf(list...), list...)
		before := logOf(list[:c.number]...)
		for _, wrong := range []int{c.sum + 1, c.sum ^ 128, c.sum + modulus, c.sum + 1<<31, c.sum + 1<<32} {
			log := slices.Concat(before, entryWithSum(c.data, wrong), wantEntry(c.number+1, []byte{7, 8}))
			checkWhole(t, "a wrong checksum", log, list[:c.number]...)
		}
		// The last group of a checksum that is not minimal is zero.
		padded := slices.Concat(before, entryWithSum(c.data, c.sum), []byte{0}, wantEntry(c.number+1, []byte{7, 8}))
		padded[len(before)+len(entryWithSum(c.data, c.sum))-1] |= 128
		checkWhole(t, "a checksum that is not minimal", padded, list[:c.number]...)
	}
}

// A log is longer than AppendLog allows only if it was made by hand; it is read all the same.
func TestReadLogOfManyEntries(t *testing.T) {
	for _, count := range []int{100, 127, 128, 129, 255, 256, 257, 1000, 1500} {
		list := [][]byte{}
		for i := range count {
			list = append(list, bytesOf(i%5))
		}
		checkWhole(t, "many entries", logOf(list...), list...)
		checkWhole(t, "many entries, the last one cut", logOf(list...)[:len(logOf(list...))-1], list[:count-1]...)
	}
	for _, length := range []int{1000, 3999, 4000} {
		list := slices.Repeat([][]byte{bytesOf(length)}, 20)
		checkWhole(t, "long entries", logOf(list...), list...)
	}
}

func TestReadLogOfLongData(t *testing.T) {
	for _, length := range []int{3990, 3993, 3994, 3999, 4000, 4001, 4002, 4096, 5000, 16383, 16384, 20000} {
		for _, before := range [][][]byte{{}, {{7, 8}}, {{}, {1}, bytesOf(4000)}} {
			list := append(slices.Clone(before), bytesOf(length))
			ends := append(slices.Clone(list), []byte{5})
			if length <= maxLogBytes {
				checkWhole(t, "long data", logOf(list...), list...)
				checkWhole(t, "long data, not the last one", logOf(ends...), ends...)
			} else {
				checkWhole(t, "too long data", logOf(list...), before...)
				checkWhole(t, "too long data, not the last one", logOf(ends...), before...)
			}
		}
	}
}

// wholeWithin is the number of entries that end within so many bytes, and where the last one of them ends.
func wholeWithin(entries [][]byte, room int) (int, int) {
	count, size := 0, 0
	for _, entry := range entries {
		if size+len(entry) > room {
			break
		}
		count, size = count+1, size+len(entry)
	}
	return count, size
}

func TestReadLogCutAtEveryPlace(t *testing.T) {
	for _, list := range append(logLists(), [][]byte{bytesOf(16), bytesOf(3000)}) {
		log, entries := logOf(list...), entriesOf(list...)
		for cut := 0; cut <= len(log); cut++ {
			count, size := wholeWithin(entries, cut)
			// The rest of the log is there in the spare capacity, but does not belong to it.
			checkLog(t, "a cut log", log[:cut], list[:count], size)
			checkLog(t, "a cut log without spare capacity", slices.Clip(log[:cut]), list[:count], size)
		}
	}
}

func TestReadLogCutWithinALength(t *testing.T) {
	for _, length := range []int{128, 300, 3000, 4000} {
		for _, before := range [][][]byte{{}, {{7, 8}}, {{}, bytesOf(200)}} {
			log := logOf(before...)
			entry := wantEntry(len(before), bytesOf(length))
			checkWhole(t, "half a length", slices.Concat(log, entry[:1]), before...)
			checkWhole(t, "a length alone", slices.Concat(log, entry[:2]), before...)
			checkWhole(t, "half a length with a whole entry behind it", slices.Concat(log, entry[:1], wantEntry(len(before), nil)), before...)
			checkWhole(t, "half a length with its rest", slices.Concat(log, entry[:1], entry[1:]), append(slices.Clone(before), bytesOf(length))...)
			for _, last := range []byte{0, 1, 127, 128, 255} {
				checkWhole(t, "half a length with one byte more", slices.Concat(log, entry[:1], []byte{last}), before...)
			}
		}
	}
}

// logGarbage is what may stand behind a cut; the entries among it are whole for one number each.
func logGarbage() [][]byte {
	list := [][]byte{
		nil, {0}, {1}, {2}, {127}, {128}, {255}, {0, 0}, {128, 0}, {1, 0, 0}, {2, 7, 8}, {0, 135, 150, 136, 90},
		make([]byte, 50), slices.Repeat([]byte{128}, 20), slices.Repeat([]byte{255}, 50), bytesOf(300),
		slices.Concat(wantEntry(0, nil), wantEntry(1, nil), wantEntry(2, nil)),
		logOf(bytesOf(150), []byte{7, 8}),
	}
	for number := range 5 {
		list = append(list, wantEntry(number, []byte{7, 8}), wantEntry(number, nil))
	}
	return list
}

// beginsWith reports whether the list has at least these data, in this order.
func beginsWith(list [][]byte, first [][]byte) bool {
	return len(list) >= len(first) && sameData(list[:len(first)], first)
}

func TestReadLogBeforeGarbage(t *testing.T) {
	garbage := logGarbage()
	for _, list := range logLists() {
		log, entries := logOf(list...), entriesOf(list...)
		for cut := 0; cut <= len(log); cut++ {
			count, _ := wholeWithin(entries, cut)
			for _, g := range garbage {
				crashed := impl.CrashLog(log, cut, g)
				got, _ := impl.ReadLog(crashed)
				if !beginsWith(got, list[:count]) {
					t.Errorf("ReadLog(%v) = %v, want %v first", crashed, got, list[:count])
				}
				want, size := wantRead(crashed)
				checkLog(t, "a log with garbage", crashed, want, size)
			}
			checkWhole(t, "a log with the rest that was cut off", impl.CrashLog(log, cut, log[cut:]), list...)
		}
	}
}

// What stands behind an entry that is not whole is not read, even if it is a whole entry with the next number.
func TestReadLogDoesNotGoOn(t *testing.T) {
	for _, list := range logLists() {
		entries := entriesOf(list...)
		log := logOf(list...)
		for i, entry := range entries {
			before, after := slices.Concat(entries[:i]...), slices.Concat(entries[i:]...)
			for cut := 1; cut < len(entry); cut += 1 + len(entry)/50 {
				if bytes.HasPrefix(after, entry[cut:]) {
					continue // the whole entry begins with the bytes that were cut off
				}
				broken := slices.Concat(before, entry[:cut], after)
				checkLog(t, "a cut entry before a whole one", broken, list[:i], len(before))
			}
		}
		for _, g := range [][]byte{{0}, {1}, {255}, {128, 0}, {2, 7, 8}, wantEntry(len(list)+1, nil)} {
			broken := slices.Concat(log, g, wantEntry(len(list), []byte{7, 8}))
			checkLog(t, "garbage before a whole entry", broken, list, len(log))
		}
		more := slices.Concat(log, wantEntry(len(list), []byte{7, 8}), []byte{0})
		checkLog(t, "a whole entry before garbage", more, append(slices.Clone(list), []byte{7, 8}), len(more)-1)
	}
}

func TestReadLogWithWrongChecksums(t *testing.T) {
	for _, list := range logLists() {
		entries := entriesOf(list...)
		for i, data := range list {
			before, after := slices.Concat(entries[:i]...), slices.Concat(entries[i+1:]...)
			sum := wantSum(i, data)
			wrong := []int{sum + 1, sum ^ 1, sum ^ 1<<30, sum + modulus, sum + 1<<31, sum + 1<<32, sum + 1<<39, maxValue, 1 << 42, wantHash(nil), impl.Hash(impl.BytesToInts(data)), impl.KeyedHash(101, []int{i})}
			for bit := range 31 {
				wrong = append(wrong, sum^1<<bit)
			}
			for _, w := range wrong {
				log := slices.Concat(before, entryWithSum(data, w), after)
				checkLog(t, "a wrong checksum", log, list[:i], len(before))
			}
		}
	}
}

func TestReadLogWithChecksumsThatAreNone(t *testing.T) {
	for _, before := range [][][]byte{{}, {{7, 8}}, {{}, {1}, bytesOf(130)}} {
		for _, data := range [][]byte{{}, {5}, bytesOf(130)} {
			for _, bad := range rejectedVarints {
				log := slices.Concat(logOf(before...), binary.AppendUvarint(nil, uint64(len(data))), data, bad)
				checkWhole(t, "a checksum that is no number", log, before...)
				sum := wantEntry(len(before), data)
				checkWhole(t, "a checksum that is no number, and the right one", slices.Concat(log, sum), before...)
			}
		}
	}
}

// Each byte of an entry counts: if one is changed, the entries before it are read, and none behind it.
func TestReadLogWithChangedBytes(t *testing.T) {
	for _, list := range logLists() {
		log, entries := logOf(list...), entriesOf(list...)
		for i := range log {
			count, size := wholeWithin(entries, i)
			for _, mask := range []byte{1, 2, 4, 8, 16, 32, 64, 128, 255} {
				changed := slices.Clone(log)
				changed[i] ^= mask
				checkLog(t, fmt.Sprintf("a log changed at %d", i), changed, list[:count], size)
			}
		}
	}
}

func TestReadLogWithLostAndDoubledBytes(t *testing.T) {
	for _, list := range logLists() {
		log := logOf(list...)
		for i := range log {
			for _, changed := range [][]byte{slices.Delete(slices.Clone(log), i, i+1), slices.Insert(slices.Clone(log), i, log[i]), slices.Insert(slices.Clone(log), i, 0)} {
				want, size := wantRead(changed)
				checkLog(t, "a log with a byte more or less", changed, want, size)
			}
		}
	}
}

func TestReadLogWithEntriesForOtherNumbers(t *testing.T) {
	data := []byte{7, 8}
	for i := range 6 {
		before := slices.Repeat([][]byte{{3}}, i)
		for _, number := range []int{0, 1, 2, 3, 4, 5, 6, 7, -1, -2, 100, i + 1, i - 1, i + 256, i + 1<<31, i + 1<<32, -i - 1} {
			if number == i {
				continue
			}
			log := slices.Concat(logOf(before...), wantEntry(number, data), wantEntry(i+1, data))
			checkWhole(t, fmt.Sprintf("an entry for the number %d", number), log, before...)
		}
		// The checksums of numbers with the same remainder modulo Modulus are equal.
		log := slices.Concat(logOf(before...), wantEntry(i+modulus, data), wantEntry(i+1-modulus, nil))
		checkWhole(t, "entries for numbers with the same remainder", log, append(slices.Clone(before), data, nil)...)
	}
}

func TestReadLogInAnotherOrder(t *testing.T) {
	for _, list := range logLists() {
		entries := entriesOf(list...)
		for i := range entries {
			without := slices.Delete(slices.Clone(entries), i, i+1)
			checkWhole(t, "without an entry", slices.Concat(without...), list[:i]...)
			twice := slices.Insert(slices.Clone(entries), i, entries[i])
			checkWhole(t, "with an entry twice", slices.Concat(twice...), list[:i+1]...)
			for j := range i {
				swapped := slices.Clone(entries)
				swapped[i], swapped[j] = swapped[j], swapped[i]
				checkWhole(t, "two entries swapped", slices.Concat(swapped...), list[:j]...)
				moved := slices.Insert(slices.Delete(slices.Clone(entries), i, i+1), j, entries[i])
				checkWhole(t, "an entry moved", slices.Concat(moved...), list[:j]...)
			}
		}
	}
}

func TestReadLogWithBadLengths(t *testing.T) {
	for _, before := range [][][]byte{{}, {{7, 8}}, {{}, {1}, bytesOf(130)}} {
		log, number := logOf(before...), len(before)
		for _, data := range [][]byte{{}, {5}, bytesOf(100), bytesOf(130)} {
			behind := wantEntry(number, data)[len(binary.AppendUvarint(nil, uint64(len(data)))):]
			prefixes := slices.Concat(rejectedVarints, [][]byte{
				paddedVarint(len(data), 1), paddedVarint(len(data), 2),
				// -1 in 64 and in 32 bits, and the least numbers
				slices.Concat(slices.Repeat([]byte{255}, 9), []byte{1}), {255, 255, 255, 255, 15}, slices.Concat(slices.Repeat([]byte{128}, 9), []byte{1}), {128, 128, 128, 128, 8},
				binary.AppendUvarint(nil, uint64(-len(data)-1)), binary.AppendUvarint(nil, uint64(uint32(-len(data)-1))),
			})
			for _, length := range []int{len(behind) + 1, len(behind) + 2, len(behind) + 200, 3999, 4000, 4001, 16384, 1 << 31, 1<<32 + len(data), maxValue} {
				prefixes = append(prefixes, binary.AppendUvarint(nil, uint64(length)))
			}
			for _, prefix := range prefixes {
				checkWhole(t, fmt.Sprintf("%d bytes with the length %v", len(data), prefix), slices.Concat(log, prefix, behind), before...)
			}
			for _, length := range []int{len(data) - 1, len(data) + 1, len(data) + 2, len(behind) - 1, len(behind)} {
				if length >= 0 && length != len(data) {
					wrong := slices.Concat(log, binary.AppendUvarint(nil, uint64(length)), behind)
					checkWhole(t, fmt.Sprintf("%d bytes with the length %d", len(data), length), wrong, before...)
				}
			}
		}
	}
}

// paddedVarint has groups of zero bits at its end, so it is not minimal.
func paddedVarint(n int, groups int) []byte {
	b := binary.AppendUvarint(nil, uint64(n))
	for range groups {
		b[len(b)-1] |= 128
		b = append(b, 0)
	}
	return b
}

func TestCrashLog(t *testing.T) {
	cases := []struct {
		log     []byte
		kept    int
		garbage []byte
		want    []byte
	}{
		{nil, 0, nil, nil},
		{nil, 5, nil, nil},
		{nil, -5, []byte{9}, []byte{9}},
		{[]byte{}, 1, []byte{9, 8}, []byte{9, 8}},
		{[]byte{1, 2, 3}, 0, nil, nil},
		{[]byte{1, 2, 3}, 0, []byte{9}, []byte{9}},
		{[]byte{1, 2, 3}, 1, nil, []byte{1}},
		{[]byte{1, 2, 3}, 2, []byte{}, []byte{1, 2}},
		{[]byte{1, 2, 3}, 2, []byte{9}, []byte{1, 2, 9}},
		{[]byte{1, 2, 3}, 3, nil, []byte{1, 2, 3}},
		{[]byte{1, 2, 3}, 3, []byte{9, 9}, []byte{1, 2, 3, 9, 9}},
		{[]byte{1, 2, 3}, 4, nil, []byte{1, 2, 3}},
		{[]byte{1, 2, 3}, 4, []byte{9}, []byte{1, 2, 3, 9}},
		{[]byte{1, 2, 3}, math.MaxInt, []byte{9}, []byte{1, 2, 3, 9}},
		{[]byte{1, 2, 3}, -1, nil, nil},
		{[]byte{1, 2, 3}, -1, []byte{9, 0}, []byte{9, 0}},
		{[]byte{1, 2, 3}, -2, []byte{9}, []byte{9}},
		{[]byte{1, 2, 3}, math.MinInt, []byte{9}, []byte{9}},
	}
	for _, c := range cases {
		if got := impl.CrashLog(c.log, c.kept, c.garbage); !slices.Equal(got, c.want) {
			t.Errorf("CrashLog(%v, %d, %v) = %v, want %v", c.log, c.kept, c.garbage, got, c.want)
		}
	}
}

// Neither the log nor the garbage needs to be an entry, and no limit holds for what remains.
func TestCrashLogOfAnyBytes(t *testing.T) {
	for _, log := range append(byteStrings(), bytesOf(3999), bytesOf(4000), bytesOf(4001)) {
		for _, garbage := range [][]byte{nil, {}, {0}, {255, 128}, bytesOf(200), bytesOf(4001)} {
			for _, kept := range []int{math.MinInt, math.MinInt + 1, -modulus, -len(log), -2, -1, 0, 1, 2, 127, 128, 3999, 4000, 4001, len(log) / 2, len(log) - 1, len(log), len(log) + 1, 1 << 31, 1 << 32, maxValue, math.MaxInt - 1, math.MaxInt} {
				want := slices.Concat(log[:min(max(kept, 0), len(log))], garbage)
				if got := impl.CrashLog(log, kept, garbage); !slices.Equal(got, want) {
					t.Errorf("CrashLog of %d bytes after %d with %d bytes of garbage has %d bytes", len(log), kept, len(garbage), len(got))
				}
			}
		}
	}
}

// checkRepaired holds that a repaired log is read whole, has the same entries, and goes on with the next one.
func checkRepaired(t *testing.T, log []byte) {
	t.Helper()
	list, size := impl.ReadLog(log)
	repaired := impl.RepairLog(log)
	checkLog(t, "a repaired log", repaired, list, len(repaired))
	if len(repaired) != size {
		t.Errorf("RepairLog(%v) has %d bytes, want %d", log, len(repaired), size)
	}
	data := []byte{7, 8}
	longer, ok := impl.AppendLog(repaired, impl.CountLog(repaired), data)
	if !ok {
		t.Fatalf("AppendLog to the repaired log %v failed", repaired)
	}
	checkLog(t, "a repaired log and an entry", longer, append(list, data), len(longer))
}

func TestRepairLog(t *testing.T) {
	for _, list := range logLists() {
		log := logOf(list...)
		checkRepaired(t, log)
		for cut := range log {
			checkRepaired(t, log[:cut])
			checkRepaired(t, impl.CrashLog(log, cut, []byte{2, 7, 8, 1}))
			garbled := slices.Clone(log)
			garbled[cut] ^= 85
			checkRepaired(t, garbled)
		}
	}
	for _, g := range logGarbage() {
		checkRepaired(t, g)
	}
}

// An entry that is appended to a log that was not repaired is lost.
func TestRepairLogIsNeeded(t *testing.T) {
	list := [][]byte{{7, 8}, {9}}
	crashed := impl.CrashLog(logOf(list...), len(logOf(list...))-1, nil)
	lost, ok := impl.AppendLog(crashed, impl.CountLog(crashed), []byte{5, 6})
	if !ok {
		t.Fatal("AppendLog failed")
	}
	checkWhole(t, "not repaired", lost, list[:1]...)
	kept, ok := impl.AppendLog(impl.RepairLog(crashed), impl.CountLog(crashed), []byte{5, 6})
	if !ok {
		t.Fatal("AppendLog failed")
	}
	checkWhole(t, "repaired", kept, list[0], []byte{5, 6})
}

func TestCountLog(t *testing.T) {
	two := []byte{2, 7, 8, 177, 136, 186, 137, 4, 0, 135, 150, 136, 90}
	cases := []struct {
		log  []byte
		want int
	}{
		{nil, 0},
		{[]byte{}, 0},
		{[]byte{0}, 0},
		{two, 2},
		{two[:12], 1},
		{two[:9], 1},
		{two[:8], 1},
		{two[:7], 0},
		{two[:1], 0},
		{two[8:], 0},
		{two[1:], 0},
		{slices.Concat(two, []byte{0}), 2},
		{slices.Concat(two, two), 2},
		{slices.Concat([]byte{0}, two), 0},
	}
	for _, c := range cases {
		if got := impl.CountLog(c.log); got != c.want {
			t.Errorf("CountLog(%v) = %d, want %d", c.log, got, c.want)
		}
	}
}

func randomBytes(r *rand.Rand, most int) []byte {
	b := make([]byte, r.IntN(most+1))
	for i := range b {
		b[i] = byte(r.IntN(256))
	}
	return b
}

// randomLog is made of whole entries, entries for numbers that are near, cut ones and garbage.
func randomLog(r *rand.Rand) []byte {
	log := []byte{}
	number := 0
	for range r.IntN(8) {
		entry := wantEntry(number, randomBytes(r, 5))
		switch r.IntN(12) {
		case 0:
			entry = wantEntry(number+r.IntN(3)-1, randomBytes(r, 3))
		case 1:
			entry = entry[:r.IntN(len(entry))]
		case 2:
			entry = randomBytes(r, 4)
		case 3:
			entry[r.IntN(len(entry))] = byte(r.IntN(256))
		}
		log = append(log, entry...)
		number++
	}
	return log
}

func TestReadRandomLogs(t *testing.T) {
	r := rand.New(rand.NewPCG(11, 1))
	seen := map[int]int{}
	for range 30000 {
		log := randomLog(r)
		want, size := wantRead(log)
		checkLog(t, "a random log", log, want, size)
		seen[len(want)]++
	}
	for count := range 6 {
		if seen[count] < 500 {
			t.Errorf("only %d of the random logs have %d entries", seen[count], count)
		}
	}
}

// TestLogsOverManyCrashes keeps the entries of a log in a list, too.
func TestLogsOverManyCrashes(t *testing.T) {
	r := rand.New(rand.NewPCG(11, 2))
	for range 200 {
		log, list := []byte{}, [][]byte{}
		for range 40 {
			if r.IntN(4) > 0 {
				data := randomBytes(r, 150)
				longer, ok := impl.AppendLog(log, impl.CountLog(log), data)
				if ok != (len(log)+len(wantEntry(len(list), data)) <= maxLogBytes) {
					t.Fatalf("AppendLog of %d bytes to a log of %d bytes: %t", len(data), len(log), ok)
				}
				if ok {
					log, list = longer, append(list, data)
				}
			} else {
				cut := len(log) - r.IntN(200)
				count, _ := wholeWithin(entriesOf(list...), cut)
				list = list[:count]
				log = impl.CrashLog(log, cut, randomBytes(r, 20))
				checkWhole(t, "a crashed log", log, list...)
				log = impl.RepairLog(log)
			}
			checkWhole(t, "a log", log, list...)
		}
	}
}

// dataExtents is the memory of all slices of the data of a log, also through spare capacity.
func dataExtents(list [][]byte) []extent {
	extents := []extent{extentOf(list)}
	for _, data := range list[:cap(list)] {
		extents = append(extents, extentOf(data))
	}
	return slices.DeleteFunc(extents, func(x extent) bool { return x.start == x.end })
}

// oddLogs are whole, cut and garbled logs, and byte strings that are none.
func oddLogs() [][]byte {
	logs := [][]byte{nil, {}, {0}, {255}, {2, 7, 8}, bytesOf(3999), bytesOf(4000), bytesOf(4001)}
	for _, list := range logLists() {
		log := logOf(list...)
		logs = append(logs, log, impl.CrashLog(log, len(log)-1, nil), impl.CrashLog(log, len(log)/2, []byte{1, 2}), slices.Concat(log, []byte{3, 0}))
	}
	return logs
}

func TestReadLogResultsAreFresh(t *testing.T) {
	for _, log := range oddLogs() {
		arg := guard(log)
		first, size := impl.ReadLog(arg.part)
		arg.check(t, "ReadLog")
		second, also := impl.ReadLog(arg.part)
		arg.check(t, "ReadLog, again")
		if !sameData(first, second) || size != also {
			t.Errorf("ReadLog(%v) = %v, %d, then %v, %d", log, first, size, second, also)
		}
		checkExtentsApart(t, "ReadLog", slices.Concat([]extent{extentOf(arg.backing)}, dataExtents(first), dataExtents(second))...)
		want := [][]byte{}
		for _, data := range second {
			want = append(want, slices.Clone(data))
		}
		for _, data := range first {
			scribble(data)
		}
		arg.check(t, "ReadLog, its result changed")
		if !sameData(second, want) {
			t.Errorf("ReadLog(%v): a result changes with another one", log)
		}
	}
}

func TestLogResultsAreFresh(t *testing.T) {
	for _, log := range oddLogs() {
		checkResult(t, "RepairLog", impl.RepairLog, log)
		checkResult(t, "CountLog", func(log []byte) []int { return []int{impl.CountLog(log)} }, log)
		checkResult(t, "CheckSum", func(data []byte) []int { return []int{impl.CheckSum(3, data)} }, log)
		for _, other := range [][]byte{nil, {}, {5}, bytesOf(200), bytesOf(4000)} {
			for _, n := range []int{-1, 0, 1, len(log) - 1, len(log), len(log) + 1} {
				checkResult(t, "AppendLog", func(log []byte) []byte {
					longer, _ := impl.AppendLog(log, n, other)
					return longer
				}, log)
				checkResult(t, "AppendLog of its data", func(data []byte) []byte {
					longer, _ := impl.AppendLog(log, n, data)
					return longer
				}, other)
				checkResult(t, "CrashLog", func(log []byte) []byte { return impl.CrashLog(log, n, other) }, log)
				checkResult(t, "CrashLog with its garbage", func(garbage []byte) []byte { return impl.CrashLog(log, n, garbage) }, other)
			}
		}
	}
}

// TestLogsOfSharedArguments has a log that shares memory with the data or the garbage.
func TestLogsOfSharedArguments(t *testing.T) {
	whole := guard(logOf([]byte{7, 8}, []byte{1}, []byte{2, 3}))
	saved := slices.Clone(whole.part)
	for end := range saved {
		for start := range saved {
			log, other := whole.part[:end], whole.part[start:]
			checkAppendLog(t, log, 1, other)
			checkNoAppendLog(t, log, -1, other)
			for kept := -1; kept <= end+1; kept++ {
				want := slices.Concat(saved[:min(max(kept, 0), end)], saved[start:])
				got := impl.CrashLog(log, kept, other)
				if !slices.Equal(got, want) {
					t.Errorf("CrashLog(%v, %d, %v) = %v, want %v", log, kept, other, got, want)
				}
				scribble(got)
			}
			longer, _ := impl.AppendLog(log, 1, other)
			scribble(longer)
			copied, _ := impl.AppendLog(log, -1, other)
			scribble(copied)
			whole.check(t, "a log and a part of it")
		}
	}
}
