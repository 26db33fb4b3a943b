package tests

import (
	"encoding/binary"
	"fmt"
	"math"
	"slices"
	"strings"
	"testing"

	"loop.example/g00583/impl"
)

// Promise 5: a merge does not depend on the order of the sides (chapter 5).

const (
	maxFields = 6
	maxName   = 8
	maxField  = 1000000000
)

func TestRecordConstants(t *testing.T) {
	got := []int{impl.MaxFields, impl.MaxName, impl.MaxField}
	if want := []int{maxFields, maxName, maxField}; !slices.Equal(got, want) {
		t.Errorf("the constants of records are %v, want %v", got, want)
	}
}

func field(name string, n int) impl.Field {
	return impl.Field{Name: name, N: n}
}

func record(fields ...impl.Field) impl.Record {
	return impl.Record{Fields: fields}
}

func cloneRecord(r impl.Record) impl.Record {
	return record(slices.Clone(r.Fields)...)
}

// sameRecord compares records without the functions of the package.
func sameRecord(a impl.Record, b impl.Record) bool {
	return slices.Equal(a.Fields, b.Fields)
}

var fieldNames = []string{"a", "b", "c", "d", "e", "f", "g", "h"}

// recordOfFirst has the first names, with the numbers 10, 11 and so on.
func recordOfFirst(count int) impl.Record {
	r := record()
	for i := range count {
		r.Fields = append(r.Fields, field(fieldNames[i], 10+i))
	}
	return r
}

func validRecords() []impl.Record {
	records := []impl.Record{
		{}, record(), record(field("a", 0)), record(field("z", maxField)), record(field("zzzzzzzz", 127)), record(field("abcdefgh", 128)),
		record(field("a", 1), field("b", 300)), record(field("a", 5), field("aa", 5)), record(field("a", 0), field("z", 0)),
		record(field("aaaaaaaa", 0), field("aaaaaaab", 1), field("b", 2)), record(field("ab", 16383), field("abc", 16384), field("b", 2097151)),
		record(field("a", maxField), field("aaaaaaaa", maxField-1), field("b", 268435455), field("m", 268435456), field("zzzzzzz", 2097152), field("zzzzzzzz", maxField)),
	}
	for count := range maxFields + 1 {
		records = append(records, recordOfFirst(count))
	}
	return records
}

// badNames are of no field.
func badNames() []string {
	names := []string{
		"", "abcdefghi", "aaaaaaaaa", strings.Repeat("z", 300), "A", "Z", "aB", "Abcdefgh", "abcdefgH", "0", "9", "a1", "1a", "a b", " a", "a ", "a\n", "a-b", "a_b", "a'",
		"é", "aé", "ß", "日", "\xff", "a\x80", "\xe1", "\xc3a", "\x00", "a\x00", "abcdefgh\x00",
	}
	for c := range 256 {
		if c < 'a' || c > 'z' {
			bad := string([]byte{byte(c)})
			names = append(names, bad, bad+"a", "a"+bad, "abc"+bad+"efg")
		}
	}
	return names
}

var badFieldNumbers = []int{-1, -2, -128, -maxField, math.MinInt, math.MinInt + 1, maxField + 1, maxField + 2, 1 << 31, 1 << 32, maxValue, maxValue + 1, math.MaxInt}

func invalidRecords() []impl.Record {
	a, b, c := field("a", 1), field("b", 2), field("c", 3)
	records := []impl.Record{
		recordOfFirst(maxFields + 1), recordOfFirst(maxFields + 2), record(slices.Repeat([]impl.Field{a}, 40)...),
		record(b, a), record(a, c, b), record(c, b, a), record(b, a, c), record(field("aa", 1), a), record(field("ab", 1), field("aa", 2)), record(field("b", 1), field("aaaaaaaa", 2)),
		record(a, a), record(a, field("a", 2)), record(a, b, b), record(a, b, field("b", 0), c), record(a, b, a), record(a, a, b), record(a, b, c, c),
	}
	for _, name := range badNames() {
		records = append(records, record(field(name, 1)), record(a, field(name, 1)), record(field(name, 1), b))
	}
	for _, n := range badFieldNumbers {
		records = append(records, record(field("a", n)), record(a, field("b", n)), record(field("a", n), b), record(a, field("b", n), c))
	}
	return records
}

func TestIsName(t *testing.T) {
	for _, name := range []string{"a", "z", "m", "ab", "zz", "ba", "aaaaaaaa", "zzzzzzzz", "abcdefg", "abcdefgh", "stuvwxyz", "notes"} {
		if !impl.IsName(name) {
			t.Errorf("IsName(%q) = false", name)
		}
	}
	for _, name := range badNames() {
		if impl.IsName(name) {
			t.Errorf("IsName(%q) = true", name)
		}
	}
}

func TestIsNameOfEachCharacter(t *testing.T) {
	const letters = "abcdefghijklmnopqrstuvwxyz"
	for c := range 256 {
		want := strings.IndexByte(letters, byte(c)) >= 0
		character := string([]byte{byte(c)})
		for _, name := range []string{character, "a" + character, character + "z", "abc" + character + "efg", "abcdefg" + character} {
			if got := impl.IsName(name); got != want {
				t.Errorf("IsName(%q) = %t", name, got)
			}
		}
	}
}

func TestIsNameOfEachLength(t *testing.T) {
	for length := range 40 {
		if got, want := impl.IsName(strings.Repeat("b", length)), 1 <= length && length <= 8; got != want {
			t.Errorf("IsName of %d characters = %t", length, got)
		}
	}
	// Four characters of two bytes each are eight bytes.
	if impl.IsName("éééé") || impl.IsName("éééééééé") {
		t.Error("IsName of characters of two bytes = true")
	}
}

func TestIsRecord(t *testing.T) {
	for _, r := range validRecords() {
		if !impl.IsRecord(r) {
			t.Errorf("IsRecord(%v) = false", r)
		}
	}
	for _, r := range invalidRecords() {
		if impl.IsRecord(r) {
			t.Errorf("IsRecord(%v) = true", r)
		}
	}
}

func TestIsRecordOfEachCount(t *testing.T) {
	for count := range len(fieldNames) + 1 {
		if got, want := impl.IsRecord(recordOfFirst(count)), count <= 6; got != want {
			t.Errorf("IsRecord of %d fields = %t", count, got)
		}
	}
}

func TestIsRecordOfEachPlace(t *testing.T) {
	for i := range maxFields {
		for _, n := range []int{0, 1, maxField - 1, maxField} {
			r := recordOfFirst(maxFields)
			r.Fields[i].N = n
			if !impl.IsRecord(r) {
				t.Errorf("IsRecord(%v) = false", r)
			}
		}
		for _, n := range badFieldNumbers {
			r := recordOfFirst(maxFields)
			r.Fields[i].N = n
			if impl.IsRecord(r) {
				t.Errorf("IsRecord(%v) = true", r)
			}
		}
		for j := range maxFields {
			r := recordOfFirst(maxFields)
			r.Fields[i].Name = fieldNames[j]
			if got, want := impl.IsRecord(r), i == j; got != want {
				t.Errorf("IsRecord(%v) = %t", r, got)
			}
		}
	}
}

func checkGetField(t *testing.T, r impl.Record, name string, n int, exists bool) {
	t.Helper()
	if got, ok := impl.GetField(r, name); got != n || ok != exists {
		t.Errorf("GetField(%v, %q) = %d, %t, want %d, %t", r, name, got, ok, n, exists)
	}
}

func TestGetField(t *testing.T) {
	for _, r := range validRecords() {
		for _, f := range r.Fields {
			checkGetField(t, r, f.Name, f.N, true)
		}
		for _, name := range append(badNames(), "q", "aaa", "zzzz") {
			checkGetField(t, r, name, 0, false)
		}
	}
	r := record(field("ab", 7), field("b", 0), field("c", maxField))
	checkGetField(t, r, "b", 0, true)
	for _, name := range []string{"a", "abc", "aa", "B", "bb", "d", ""} {
		checkGetField(t, r, name, 0, false)
	}
}

func TestGetFieldOfInvalidRecords(t *testing.T) {
	checkGetField(t, record(field("a", 1), field("a", 2)), "a", 1, true)
	checkGetField(t, record(field("a", 2), field("a", 1)), "a", 2, true)
	checkGetField(t, record(field("b", 9), field("a", 3), field("b", 4), field("a", 5)), "a", 3, true)
	checkGetField(t, record(field("c", 1), field("b", 2), field("a", 3)), "a", 3, true)
	checkGetField(t, record(field("c", 1), field("b", 2), field("a", 3)), "c", 1, true)
	checkGetField(t, recordOfFirst(maxFields+2), "h", 17, true)
	checkGetField(t, record(field("a", -7)), "a", -7, true)
	checkGetField(t, record(field("a", math.MaxInt)), "a", math.MaxInt, true)
	checkGetField(t, record(field("", 5)), "", 5, true)
	checkGetField(t, record(field("A1", 6)), "A1", 6, true)
	checkGetField(t, record(field("A1", 6)), "a", 0, false)
}

// checkRecord compares a result of SetField, RemoveField or MergeRecords.
func checkRecord(t *testing.T, what string, got impl.Record, ok bool, want impl.Record, fine bool) {
	t.Helper()
	if !sameRecord(got, want) || ok != fine {
		t.Errorf("%s = %v, %t, want %v, %t", what, got, ok, want, fine)
	}
}

func checkSetField(t *testing.T, r impl.Record, name string, n int, want impl.Record, fine bool) {
	t.Helper()
	got, ok := impl.SetField(r, name, n)
	checkRecord(t, fmt.Sprintf("SetField(%v, %q, %d)", r, name, n), got, ok, want, fine)
}

func TestSetField(t *testing.T) {
	r := record(field("b", 2), field("d", 4), field("f", 6))
	checkSetField(t, impl.Record{}, "b", 300, record(field("b", 300)), true)
	checkSetField(t, r, "a", 9, record(field("a", 9), field("b", 2), field("d", 4), field("f", 6)), true)
	checkSetField(t, r, "c", 9, record(field("b", 2), field("c", 9), field("d", 4), field("f", 6)), true)
	checkSetField(t, r, "e", 9, record(field("b", 2), field("d", 4), field("e", 9), field("f", 6)), true)
	checkSetField(t, r, "g", 9, record(field("b", 2), field("d", 4), field("f", 6), field("g", 9)), true)
	checkSetField(t, r, "bb", 9, record(field("b", 2), field("bb", 9), field("d", 4), field("f", 6)), true)
	checkSetField(t, r, "aaaaaaaa", 9, record(field("aaaaaaaa", 9), field("b", 2), field("d", 4), field("f", 6)), true)
	checkSetField(t, r, "b", 9, record(field("b", 9), field("d", 4), field("f", 6)), true)
	checkSetField(t, r, "d", 0, record(field("b", 2), field("d", 0), field("f", 6)), true)
	checkSetField(t, r, "f", maxField, record(field("b", 2), field("d", 4), field("f", maxField)), true)
	checkSetField(t, r, "d", 4, r, true)
}

func TestSetFieldOfEachCount(t *testing.T) {
	for count := range maxFields + 1 {
		r := recordOfFirst(count)
		want := recordOfFirst(count)
		if count < maxFields {
			want.Fields = append(want.Fields, field("z", 1))
		}
		checkSetField(t, r, "z", 1, want, count < maxFields)
		for i := range count {
			want := recordOfFirst(count)
			want.Fields[i].N = maxField
			checkSetField(t, r, fieldNames[i], maxField, want, true)
		}
	}
	full := recordOfFirst(maxFields)
	for _, name := range []string{"aa", "cc", "zzzzzzzz"} {
		checkSetField(t, full, name, 1, full, false)
	}
}

// TestSetFieldInAnyOrder sets the same fields in each order, also over again.
func TestSetFieldInAnyOrder(t *testing.T) {
	want := recordOfFirst(maxFields)
	var set func(r impl.Record, left []int)
	set = func(r impl.Record, left []int) {
		if len(left) == 0 && !sameRecord(r, want) {
			t.Errorf("SetField of all fields, in some order, gives %v, want %v", r, want)
		}
		for i, at := range left {
			next, ok := impl.SetField(r, fieldNames[at], 10+at)
			if !ok {
				t.Fatalf("SetField(%v, %q, %d) = false", r, fieldNames[at], 10+at)
			}
			set(next, slices.Delete(slices.Clone(left), i, i+1))
		}
	}
	set(impl.Record{}, []int{0, 1, 2, 3, 4, 5})
}

func TestSetFieldRejects(t *testing.T) {
	for _, r := range validRecords() {
		for _, name := range badNames() {
			checkSetField(t, r, name, 1, r, false)
		}
		for _, n := range badFieldNumbers {
			checkSetField(t, r, "a", n, r, false)
			checkSetField(t, r, "m", n, r, false)
			checkSetField(t, r, "zzzzzzzz", n, r, false)
		}
	}
	for _, r := range invalidRecords() {
		checkSetField(t, r, "a", 1, r, false)
		checkSetField(t, r, "b", 0, r, false)
		checkSetField(t, r, "", -1, r, false)
	}
	// Setting the field would have made the record valid.
	for _, n := range badFieldNumbers {
		r := record(field("a", n))
		checkSetField(t, r, "a", 1, r, false)
	}
}

func checkRemoveField(t *testing.T, r impl.Record, name string, want impl.Record, fine bool) {
	t.Helper()
	got, ok := impl.RemoveField(r, name)
	checkRecord(t, fmt.Sprintf("RemoveField(%v, %q)", r, name), got, ok, want, fine)
}

func TestRemoveField(t *testing.T) {
	r := record(field("a", 1), field("b", 0), field("c", 3))
	checkRemoveField(t, r, "a", record(field("b", 0), field("c", 3)), true)
	checkRemoveField(t, r, "b", record(field("a", 1), field("c", 3)), true)
	checkRemoveField(t, r, "c", record(field("a", 1), field("b", 0)), true)
	checkRemoveField(t, record(field("a", 1)), "a", record(), true)
	for count := range maxFields + 1 {
		for i := range count {
			want := recordOfFirst(count)
			want.Fields = slices.Delete(want.Fields, i, i+1)
			checkRemoveField(t, recordOfFirst(count), fieldNames[i], want, true)
		}
	}
}

func TestRemoveFieldRejects(t *testing.T) {
	for _, r := range validRecords() {
		for _, name := range append(badNames(), "q", "aaa", "zzzz") {
			checkRemoveField(t, r, name, r, false)
		}
	}
	for _, r := range invalidRecords() {
		checkRemoveField(t, r, "q", r, false)
		for _, f := range r.Fields {
			checkRemoveField(t, r, f.Name, r, false)
		}
	}
}

// wantRecordEncoding is the encoding of a list of fields, valid or not, with no number below 0.
func wantRecordEncoding(fields ...impl.Field) []byte {
	encoded := binary.AppendUvarint(nil, uint64(len(fields)))
	for _, f := range fields {
		encoded = append(binary.AppendUvarint(encoded, uint64(len(f.Name))), f.Name...)
		encoded = binary.AppendUvarint(encoded, uint64(f.N))
	}
	return encoded
}

func TestEncodeRecordExamples(t *testing.T) {
	cases := []struct {
		r    impl.Record
		want []byte
	}{
		{impl.Record{}, []byte{0}},
		{record(), []byte{0}},
		{record(field("a", 0)), []byte{1, 1, 97, 0}},
		{record(field("a", 1), field("b", 300)), []byte{2, 1, 97, 1, 1, 98, 172, 2}},
		{record(field("ab", 127), field("b", 128)), []byte{2, 2, 97, 98, 127, 1, 98, 128, 1}},
		{record(field("zzzzzzzz", maxField)), []byte{1, 8, 122, 122, 122, 122, 122, 122, 122, 122, 128, 148, 235, 220, 3}},
		{recordOfFirst(6), []byte{6, 1, 97, 10, 1, 98, 11, 1, 99, 12, 1, 100, 13, 1, 101, 14, 1, 102, 15}},
	}
	for _, c := range cases {
		if got := impl.EncodeRecord(c.r); !slices.Equal(got, c.want) {
			t.Errorf("EncodeRecord(%v) = %v, want %v", c.r, got, c.want)
		}
		if got, ok := impl.DecodeRecord(c.want); !sameRecord(got, c.r) || !ok {
			t.Errorf("DecodeRecord(%v) = %v, %t, want %v", c.want, got, ok, c.r)
		}
	}
}

func TestRecordsAreEncodedThereAndBack(t *testing.T) {
	for _, r := range validRecords() {
		encoded := impl.EncodeRecord(r)
		if want := wantRecordEncoding(r.Fields...); !slices.Equal(encoded, want) {
			t.Errorf("EncodeRecord(%v) = %v, want %v", r, encoded, want)
		}
		if got, ok := impl.DecodeRecord(encoded); !sameRecord(got, r) || !ok {
			t.Errorf("DecodeRecord(%v) = %v, %t, want %v", encoded, got, ok, r)
		}
	}
	for _, r := range invalidRecords() {
		if got := impl.EncodeRecord(r); len(got) != 0 {
			t.Errorf("EncodeRecord(%v) = %v, want none", r, got)
		}
	}
}

func TestDecodeRecordRejects(t *testing.T) {
	a, b := field("a", 1), field("b", 2)
	cases := [][]byte{
		nil, {}, {128}, {255},
		// fewer fields than announced
		{1}, {2}, {6}, {2, 1, 97, 1}, {3, 1, 97, 1, 1, 98, 2},
		// more than announced
		{0, 0}, {0, 1, 97, 1}, {1, 1, 97, 1, 1, 98, 2}, {1, 1, 97, 1, 0}, {0, 128}, append(wantRecordEncoding(a, b), 0),
		// cut
		{1, 1}, {1, 1, 97}, {1, 2, 97}, {1, 1, 97, 128}, {2, 1, 97, 1, 1, 98}, {1, 128},
		// out of order, a name twice
		wantRecordEncoding(b, a), wantRecordEncoding(field("aa", 1), a), wantRecordEncoding(a, a), wantRecordEncoding(a, field("a", 2)), wantRecordEncoding(a, b, b),
		// no name
		{1, 0, 1}, {1, 9, 97, 98, 99, 100, 101, 102, 103, 104, 105, 1}, {1, 1, 65, 1}, {1, 1, 48, 1}, {1, 1, 225, 1}, {1, 1, 96, 1}, {1, 1, 123, 1}, {1, 2, 195, 169, 1},
		// N beyond the range
		wantRecordEncoding(field("a", maxField+1)), wantRecordEncoding(field("a", maxValue)), wantRecordEncoding(field("a", maxValue+1)), wantRecordEncoding(a, field("b", 1<<32)),
		wantRecordEncoding(field("a", math.MaxInt)), {1, 1, 97, 255, 255, 255, 255, 255, 255, 255, 255, 255, 1},
		// too many fields
		wantRecordEncoding(recordOfFirst(7).Fields...), wantRecordEncoding(recordOfFirst(8).Fields...), {7}, {127}, {128, 1},
		binary.AppendUvarint(nil, maxValue), binary.AppendUvarint(nil, math.MaxUint64),
		// varints that are not minimal
		{128, 0}, {129, 0, 1, 97, 1}, {1, 129, 0, 97, 1}, {1, 1, 97, 129, 0}, {1, 1, 97, 128, 0}, {129, 128, 0, 1, 97, 1}, {1, 1, 97, 172, 130, 0},
	}
	for _, b := range cases {
		if got, ok := impl.DecodeRecord(b); len(got.Fields) != 0 || ok {
			t.Errorf("DecodeRecord(%v) = %v, %t, want the zero Record, false", b, got, ok)
		}
	}
	for _, r := range invalidRecords() {
		encoded := wantRecordEncoding(r.Fields...)
		if got, ok := impl.DecodeRecord(encoded); len(got.Fields) != 0 || ok {
			t.Errorf("DecodeRecord(%v) = %v, %t, want the zero Record, false", encoded, got, ok)
		}
	}
}

// cutVarint takes a minimal varint off the front of b.
func cutVarint(b []byte) (int, []byte, bool) {
	n, size := binary.Uvarint(b)
	if size <= 0 || n > maxValue || len(binary.AppendUvarint(nil, n)) != size {
		return 0, nil, false
	}
	return int(n), b[size:], true
}

// wantDecodedRecord is the record that b encodes, found with the package binary and by what the document says of records.
func wantDecodedRecord(b []byte) (impl.Record, bool) {
	count, rest, ok := cutVarint(b)
	if !ok || count > maxFields {
		return impl.Record{}, false
	}
	r, last := impl.Record{}, ""
	for range count {
		length, behind, ok := cutVarint(rest)
		if !ok || length > len(behind) || length > maxName {
			return impl.Record{}, false
		}
		name := string(behind[:length])
		n, end, ok := cutVarint(behind[length:])
		if !ok || n > maxField || name <= last || strings.Trim(name, "abcdefghijklmnopqrstuvwxyz") != "" {
			return impl.Record{}, false
		}
		r.Fields = append(r.Fields, field(name, n))
		last, rest = name, end
	}
	if len(rest) > 0 {
		return impl.Record{}, false
	}
	return r, true
}

func checkDecodeRecord(t *testing.T, b []byte) {
	t.Helper()
	got, ok := impl.DecodeRecord(b)
	want, fine := wantDecodedRecord(b)
	if !sameRecord(got, want) || ok != fine {
		t.Errorf("DecodeRecord(%v) = %v, %t, want %v, %t", b, got, ok, want, fine)
	}
	if ok && !slices.Equal(impl.EncodeRecord(got), b) {
		t.Errorf("DecodeRecord(%v) = %v, which is encoded as %v", b, got, impl.EncodeRecord(got))
	}
}

func TestDecodeRecordOfChangedEncodings(t *testing.T) {
	for _, r := range validRecords() {
		encoded := wantRecordEncoding(r.Fields...)
		for length := range len(encoded) + 1 {
			checkDecodeRecord(t, encoded[:length])
			checkDecodeRecord(t, encoded[length:])
		}
		for c := range 256 {
			for i := range encoded {
				changed := slices.Clone(encoded)
				changed[i] = byte(c)
				checkDecodeRecord(t, changed)
				checkDecodeRecord(t, slices.Insert(slices.Clone(encoded), i, byte(c)))
			}
			checkDecodeRecord(t, append(slices.Clone(encoded), byte(c)))
		}
		for i := range encoded {
			checkDecodeRecord(t, slices.Delete(slices.Clone(encoded), i, i+1))
		}
		checkDecodeRecord(t, slices.Concat(encoded, encoded))
	}
}

func TestDecodeRecordOfAllShortInputs(t *testing.T) {
	const longest = 7
	inputs := [][]byte{{}}
	for i := 0; i < len(inputs); i++ {
		b := inputs[i]
		checkDecodeRecord(t, b)
		if len(b) == longest {
			continue
		}
		for _, c := range []byte{0, 1, 2, 97, 98, 128} {
			inputs = append(inputs, append(slices.Clone(b), c))
		}
	}
}

// absent stands for a field that a record does not have.
const absent = -1

// mergeCases have what base and the sides have under one name, and what the merge has.
var mergeCases = []struct{ base, a, b, want int }{
	// changed by no side
	{absent, absent, absent, absent},
	{5, 5, 5, 5},
	{0, 0, 0, 0},
	// changed, added or removed by one side
	{5, 5, 7, 7},
	{5, 5, 3, 3},
	{5, 5, 0, 0},
	{0, 0, 5, 5},
	{maxField, maxField, 0, 0},
	{absent, absent, 5, 5},
	{absent, absent, 0, 0},
	{5, 5, absent, absent},
	{0, 0, absent, absent},
	{maxField, maxField, absent, absent},
	// changed by both sides
	{5, 6, 7, 7},
	{5, 3, 4, 4},
	{5, 3, 7, 7},
	{5, 7, 7, 7},
	{5, 3, 3, 3},
	{5, 0, 3, 3},
	{5, 0, maxField, maxField},
	{5, 0, 0, 0},
	// added by both sides
	{absent, 3, 4, 4},
	{absent, 3, 3, 3},
	{absent, 0, 0, 0},
	{absent, 0, maxField, maxField},
	// removed by both sides
	{5, absent, absent, absent},
	{0, absent, absent, absent},
	{maxField, absent, absent, absent},
	// removed by one side and changed by the other
	{5, absent, 7, 7},
	{5, absent, 3, 3},
	{5, absent, 0, 0},
	{0, absent, 1, 1},
	{maxField, absent, 0, 0},
}

// recordOfStates has a field for each number that is not absent.
func recordOfStates(names []string, states []int) impl.Record {
	r := record()
	for i, n := range states {
		if n != absent {
			r.Fields = append(r.Fields, field(names[i], n))
		}
	}
	return r
}

// checkMerge merges in both orders of the sides.
func checkMerge(t *testing.T, base impl.Record, a impl.Record, b impl.Record, want impl.Record) {
	t.Helper()
	got, ok := impl.MergeRecords(base, a, b)
	checkRecord(t, fmt.Sprintf("MergeRecords(%v, %v, %v)", base, a, b), got, ok, want, true)
	got, ok = impl.MergeRecords(base, b, a)
	checkRecord(t, fmt.Sprintf("MergeRecords(%v, %v, %v)", base, b, a), got, ok, want, true)
}

// checkNoMerge merges in both orders of the sides; the result is the first side.
func checkNoMerge(t *testing.T, base impl.Record, a impl.Record, b impl.Record) {
	t.Helper()
	got, ok := impl.MergeRecords(base, a, b)
	checkRecord(t, fmt.Sprintf("MergeRecords(%v, %v, %v)", base, a, b), got, ok, a, false)
	got, ok = impl.MergeRecords(base, b, a)
	checkRecord(t, fmt.Sprintf("MergeRecords(%v, %v, %v)", base, b, a), got, ok, b, false)
}

func TestMergeRecordsOfOneName(t *testing.T) {
	for _, c := range mergeCases {
		// The field stands alone, and ahead of, between and behind fields that nobody changed.
		for _, around := range [][2][]impl.Field{
			{nil, nil},
			{nil, {field("x", 1), field("y", 0)}},
			{{field("a", 1)}, {field("x", 9)}},
			{{field("a", 0), field("b", maxField)}, nil},
		} {
			with := func(n int) impl.Record {
				return record(slices.Concat(around[0], recordOfStates([]string{"m"}, []int{n}).Fields, around[1])...)
			}
			checkMerge(t, with(c.base), with(c.a), with(c.b), with(c.want))
		}
	}
}

// TestMergeRecordsOfTwoNames has each case for the one name beside each case for the other.
func TestMergeRecordsOfTwoNames(t *testing.T) {
	names := []string{"ab", "b"}
	for _, c := range mergeCases {
		for _, d := range mergeCases {
			base, want := recordOfStates(names, []int{c.base, d.base}), recordOfStates(names, []int{c.want, d.want})
			checkMerge(t, base, recordOfStates(names, []int{c.a, d.a}), recordOfStates(names, []int{c.b, d.b}), want)
			checkMerge(t, base, recordOfStates(names, []int{c.a, d.b}), recordOfStates(names, []int{c.b, d.a}), want)
		}
	}
}

// wantMerged works on states: absent is less than each number that a field has.
func wantMerged(base []int, a []int, b []int) []int {
	merged := []int{}
	for i := range base {
		switch {
		case a[i] == base[i]:
			merged = append(merged, b[i])
		case b[i] == base[i]:
			merged = append(merged, a[i])
		default:
			merged = append(merged, max(a[i], b[i]))
		}
	}
	return merged
}

// allStates are the lists of so many states out of absent, 0 and 1.
func allStates(count int) [][]int {
	lists := [][]int{{}}
	for range count {
		longer := [][]int{}
		for _, list := range lists {
			for _, state := range []int{absent, 0, 1} {
				longer = append(longer, append(slices.Clone(list), state))
			}
		}
		lists = longer
	}
	return lists
}

func TestMergeRecordsOfAllStatesOfThreeNames(t *testing.T) {
	names := []string{"a", "b", "c"}
	lists := allStates(len(names))
	for _, base := range lists {
		for _, a := range lists {
			for _, b := range lists {
				want := recordOfStates(names, wantMerged(base, a, b))
				checkMerge(t, recordOfStates(names, base), recordOfStates(names, a), recordOfStates(names, b), want)
			}
		}
	}
}

// TestMergeRecordsOfManyNames takes records of up to 12 names, so that some results have more than MaxFields fields.
func TestMergeRecordsOfManyNames(t *testing.T) {
	names := []string{"a", "aa", "b", "c", "cc", "d", "e", "f", "g", "gg", "y", "z"}
	seed := 7
	pick := func(limit int) int {
		seed = (seed*1103515245 + 12345) % 2147483648
		return seed / 65536 % limit
	}
	states := func(start []int, changes int) []int {
		list := slices.Clone(start)
		for range changes {
			list[pick(len(list))] = pick(4) - 1
		}
		return list
	}
	merged, rejected := 0, 0
	for range 20000 {
		base := states(slices.Repeat([]int{absent}, len(names)), pick(9))
		a, b := states(base, pick(7)), states(base, pick(7))
		r, x, y := recordOfStates(names, base), recordOfStates(names, a), recordOfStates(names, b)
		want := recordOfStates(names, wantMerged(base, a, b))
		if len(r.Fields) <= maxFields && len(x.Fields) <= maxFields && len(y.Fields) <= maxFields && len(want.Fields) <= maxFields {
			checkMerge(t, r, x, y, want)
			merged++
		} else {
			checkNoMerge(t, r, x, y)
			rejected++
		}
	}
	if merged < 1000 || rejected < 1000 {
		t.Errorf("%d merges and %d rejections are too few of one of them", merged, rejected)
	}
}

func TestMergeRecordsExamples(t *testing.T) {
	base := record(field("a", 1), field("b", 300))
	checkMerge(t, base, record(field("a", 3), field("b", 300)), record(field("a", 1), field("b", 4)), record(field("a", 3), field("b", 4)))
	checkMerge(t, base, record(field("b", 300)), record(field("a", 1)), record())
	checkMerge(t, base, record(), record(), record())
	checkMerge(t, base, record(), base, record())
	checkMerge(t, base, base, base, base)
	checkMerge(t, base, record(field("c", 1)), record(field("d", 2)), record(field("c", 1), field("d", 2)))
	checkMerge(t, impl.Record{}, base, record(field("aa", 5)), record(field("a", 1), field("aa", 5), field("b", 300)))
	checkMerge(t, impl.Record{}, base, impl.Record{}, base)
	checkMerge(t, impl.Record{}, impl.Record{}, record(), impl.Record{})
}

func TestMergeRecordsOfManyFields(t *testing.T) {
	first, second := recordOfFirst(3), record(field("x", 1), field("y", 2), field("z", 3))
	both := record(slices.Concat(first.Fields, second.Fields)...)
	checkMerge(t, impl.Record{}, first, second, both)
	checkNoMerge(t, impl.Record{}, recordOfFirst(4), second)
	checkNoMerge(t, impl.Record{}, recordOfFirst(6), second)
	checkNoMerge(t, impl.Record{}, recordOfFirst(6), record(field("x", 1)))
	checkMerge(t, impl.Record{}, recordOfFirst(6), recordOfFirst(2), recordOfFirst(6))
	// Each side removes three of six fields; the sides and base have twelve names, the result has six.
	low, high := record(both.Fields[:3]...), record(both.Fields[3:]...)
	added := []impl.Field{field("aa", 1), field("bb", 2), field("cc", 3), field("xx", 4), field("yy", 5), field("zz", 6)}
	checkMerge(t, both, record(slices.Concat(added[:3], high.Fields)...), low, record(added[:3]...))
	checkMerge(t, both, record(added...), record(), record(added...))
	checkNoMerge(t, both, record(added...), record(append(slices.Clone(low.Fields), field("q", 0))...))
	// One field is removed, and each side adds one.
	checkMerge(t, both, record(append(slices.Clone(both.Fields[:5]), field("zz", 1))...), both, record(append(slices.Clone(both.Fields[:5]), field("zz", 1))...))
	checkNoMerge(t, both, record(append(slices.Clone(both.Fields[:5]), field("zz", 1))...), record(append(slices.Clone(both.Fields[:5]), field("zzz", 1))...))
}

func TestMergeRecordsOfInvalidRecords(t *testing.T) {
	for i, bad := range invalidRecords() {
		for _, r := range []impl.Record{{}, record(field("a", 1)), recordOfFirst(maxFields)} {
			checkNoMerge(t, bad, r, r)
			checkNoMerge(t, bad, r, impl.Record{})
			checkNoMerge(t, r, bad, r)
			checkNoMerge(t, r, bad, record(field("b", 2)))
			checkNoMerge(t, r, bad, bad)
			checkNoMerge(t, bad, bad, r)
			checkNoMerge(t, bad, bad, bad)
		}
		others := invalidRecords()
		checkNoMerge(t, bad, others[(i*7+3)%len(others)], others[(i*5+1)%len(others)])
	}
}

func TestEqualRecords(t *testing.T) {
	records := append(validRecords()[2:], invalidRecords()...)
	records = append(records, record(field("a", 2)), record(field("a", 2), field("b", 2)), record(field("b", 2), field("a", 2)), record(field("b", 2)), record(field("a", 2), field("b", 3)), record(field("a", 2), field("c", 2)))
	texts := []string{}
	for _, r := range records {
		texts = append(texts, fmt.Sprintf("%#v", r))
	}
	for i, a := range records {
		if !impl.EqualRecords(a, a) || !impl.EqualRecords(a, cloneRecord(a)) {
			t.Errorf("EqualRecords(%v) of itself = false", a)
		}
		for j, b := range records {
			if got, want := impl.EqualRecords(a, b), texts[i] == texts[j]; got != want {
				t.Errorf("EqualRecords(%v, %v) = %t", a, b, got)
			}
		}
	}
	if !impl.EqualRecords(impl.Record{}, impl.Record{Fields: []impl.Field{}}) || !impl.EqualRecords(impl.Record{Fields: []impl.Field{}}, impl.Record{}) {
		t.Error("EqualRecords of no fields and of an empty list = false")
	}
	// The spare capacity does not belong to a record.
	whole := recordOfFirst(4)
	if !impl.EqualRecords(record(whole.Fields[:2]...), recordOfFirst(2)) || impl.EqualRecords(record(whole.Fields[:2]...), whole) {
		t.Error("EqualRecords of a part of a longer list")
	}
}

func guardRecord(r impl.Record) guarded[impl.Field] {
	return guardBetween(field("edge", 201), r.Fields)
}

func scribbleRecord(r impl.Record) {
	all := r.Fields[:cap(r.Fields)]
	for i := range all {
		all[i] = field("changed", 85)
	}
}

// checkRecordResult calls a function of three records twice and changes the first result: neither an argument nor the second result may change with it.
func checkRecordResult(t *testing.T, what string, call func(a impl.Record, b impl.Record, c impl.Record) (impl.Record, bool), contents ...impl.Record) {
	t.Helper()
	args := []guarded[impl.Field]{guardRecord(contents[0]), guardRecord(contents[1]), guardRecord(contents[2])}
	check := func(when string) {
		t.Helper()
		for _, arg := range args {
			arg.check(t, what+when)
		}
	}
	first, ok := call(record(args[0].part...), record(args[1].part...), record(args[2].part...))
	check("")
	second, also := call(record(args[0].part...), record(args[1].part...), record(args[2].part...))
	check(", again")
	want := cloneRecord(second)
	if !sameRecord(first, second) || ok != also {
		t.Errorf("%s: %v, %t, then %v, %t", what, first, ok, second, also)
	}
	scribbleRecord(first)
	check(", its result changed")
	if !sameRecord(second, want) {
		t.Errorf("%s: a result changes with another one", what)
	}
}

func TestRecordResultsAreFresh(t *testing.T) {
	none := impl.Record{}
	records := append(validRecords(), invalidRecords()[:20]...)
	for _, r := range records {
		for _, name := range []string{"", "A", "a", "b", "c", "f", "m", "zzzzzzzz", "zzzzzzzzz"} {
			for _, n := range []int{-1, 0, 10, maxField, maxField + 1} {
				checkRecordResult(t, fmt.Sprintf("SetField(%v, %q, %d)", r, name, n), func(r, _, _ impl.Record) (impl.Record, bool) {
					return impl.SetField(r, name, n)
				}, r, none, none)
			}
			checkRecordResult(t, fmt.Sprintf("RemoveField(%v, %q)", r, name), func(r, _, _ impl.Record) (impl.Record, bool) {
				return impl.RemoveField(r, name)
			}, r, none, none)
		}
		for _, a := range records {
			for _, b := range []impl.Record{none, r, a, recordOfFirst(2), record(field("x", 1), field("a", 1))} {
				checkRecordResult(t, fmt.Sprintf("MergeRecords(%v, %v, %v)", r, a, b), impl.MergeRecords, r, a, b)
			}
		}
	}
}

// TestMergeRecordsOfOneList gives the same memory to all three arguments.
func TestMergeRecordsOfOneList(t *testing.T) {
	for _, r := range append(validRecords(), invalidRecords()...) {
		arg := guardRecord(r)
		got, ok := impl.MergeRecords(record(arg.part...), record(arg.part...), record(arg.part...))
		checkRecord(t, fmt.Sprintf("MergeRecords of %v three times", r), got, ok, r, impl.IsRecord(r))
		scribbleRecord(got)
		arg.check(t, "MergeRecords of one list")
	}
}

func TestRecordCodingIsFresh(t *testing.T) {
	for _, r := range append(validRecords(), invalidRecords()[:20]...) {
		arg := guardRecord(r)
		first, second := impl.EncodeRecord(record(arg.part...)), impl.EncodeRecord(record(arg.part...))
		want := slices.Clone(second)
		if !slices.Equal(first, second) {
			t.Errorf("EncodeRecord(%v) = %v, then %v", r, first, second)
		}
		scribble(first)
		arg.check(t, "EncodeRecord")
		if !slices.Equal(second, want) {
			t.Errorf("EncodeRecord(%v): a result changes with another one", r)
		}

		encoded := guard(wantRecordEncoding(r.Fields...))
		got, ok := impl.DecodeRecord(encoded.part)
		again, also := impl.DecodeRecord(encoded.part)
		kept := cloneRecord(again)
		if !sameRecord(got, again) || ok != also {
			t.Errorf("DecodeRecord(%v) = %v, %t, then %v, %t", encoded.part, got, ok, again, also)
		}
		scribbleRecord(got)
		encoded.check(t, "DecodeRecord")
		scribble(encoded.part)
		if !sameRecord(again, kept) {
			t.Errorf("DecodeRecord: the result %v changes with another one or with the argument", kept)
		}
	}
}

func TestReadingRecordsChangesNothing(t *testing.T) {
	records := append(validRecords(), invalidRecords()[:20]...)
	for _, r := range records {
		arg := guardRecord(r)
		impl.IsRecord(record(arg.part...))
		arg.check(t, "IsRecord")
		for _, name := range append([]string{"", "q"}, fieldNames...) {
			impl.GetField(record(arg.part...), name)
			arg.check(t, "GetField")
		}
		for _, other := range records {
			against := guardRecord(other)
			impl.EqualRecords(record(arg.part...), record(against.part...))
			arg.check(t, "EqualRecords")
			against.check(t, "EqualRecords")
		}
	}
}
