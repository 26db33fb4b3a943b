package tests

import (
	"encoding/binary"
	"fmt"
	"math"
	"slices"
	"testing"

	"loop.example/g00583/impl"
)

// Promise 2: integers and byte strings are decoded from their encodings (chapter 2).

// varintCases are numbers with their encodings, at the ends of each length.
var varintCases = []struct {
	n    int
	want []byte
}{
	{0, []byte{0}},
	{1, []byte{1}},
	{127, []byte{127}},
	{128, []byte{128, 1}},
	{129, []byte{129, 1}},
	{255, []byte{255, 1}},
	{256, []byte{128, 2}},
	{300, []byte{172, 2}},
	{16383, []byte{255, 127}},
	{16384, []byte{128, 128, 1}},
	{2097151, []byte{255, 255, 127}},
	{2097152, []byte{128, 128, 128, 1}},
	{268435455, []byte{255, 255, 255, 127}},
	{268435456, []byte{128, 128, 128, 128, 1}},
	{34359738367, []byte{255, 255, 255, 255, 127}},
	{34359738368, []byte{128, 128, 128, 128, 128, 1}},
	{maxValue - 1, []byte{255, 159, 148, 165, 141, 29}},
	{maxValue, []byte{128, 160, 148, 165, 141, 29}},
}

// outsideValues are numbers that have no encoding.
var outsideValues = []int{-1, -127, -128, -maxValue, math.MinInt, math.MinInt + 1, maxValue + 1, 1 << 42, 1 << 49, math.MaxInt}

func TestAppendUvarint(t *testing.T) {
	for _, c := range varintCases {
		for _, b := range [][]byte{nil, {}, {9}, {0}, {128}, {1, 2, 3}} {
			if got := impl.AppendUvarint(b, c.n); !slices.Equal(got, slices.Concat(b, c.want)) {
				t.Errorf("AppendUvarint(%v, %d) = %v, want %v after the slice", b, c.n, got, c.want)
			}
		}
	}
}

func TestAppendUvarintOutOfRange(t *testing.T) {
	for _, n := range outsideValues {
		for _, b := range [][]byte{nil, {}, {9}, {128, 0}} {
			if got := impl.AppendUvarint(b, n); !slices.Equal(got, b) {
				t.Errorf("AppendUvarint(%v, %d) = %v, want the slice alone", b, n, got)
			}
		}
	}
}

func TestReadUvarintAccepts(t *testing.T) {
	for _, c := range varintCases {
		for _, before := range [][]byte{nil, {0}, {128}, {255, 255, 255}} {
			for _, after := range [][]byte{nil, {0}, {128}, {255, 255}} {
				b := slices.Concat(before, c.want, after)
				n, next, ok := impl.ReadUvarint(b, len(before))
				if !ok || n != c.n || next != len(before)+len(c.want) {
					t.Errorf("ReadUvarint(%v, %d) = %d, %d, %v, want %d, %d, true", b, len(before), n, next, ok, c.n, len(before)+len(c.want))
				}
			}
		}
	}
}

// rejectedVarints are the encodings of no integer.
var rejectedVarints = [][]byte{
	nil,
	{},
	// the input ends before the final byte
	{128}, {255}, {128, 128}, {255, 255, 255, 255, 255}, {128, 128, 128, 128, 128}, {128, 160, 148, 165, 141},
	// seven bytes and more
	{128, 128, 128, 128, 128, 128, 0},
	{128, 128, 128, 128, 128, 128, 1},
	{128, 160, 148, 165, 141, 157, 0},
	{129, 128, 128, 128, 128, 128, 1},
	{128, 128, 128, 128, 128, 128, 128, 128, 128, 1},
	{128, 128, 128, 128, 128, 128, 128, 128, 128, 128, 1},
	slices.Repeat([]byte{128}, 20),
	slices.Repeat([]byte{255}, 6),
	// the last group is zero
	{128, 0}, {129, 0}, {255, 0}, {172, 130, 0}, {128, 128, 0}, {255, 255, 255, 255, 255, 0}, {128, 128, 128, 128, 128, 0},
	{128, 0, 1}, {172, 2 | 128, 0, 5},
	// beyond MaxValue
	{129, 160, 148, 165, 141, 29},
	{128, 161, 148, 165, 141, 29},
	{128, 160, 148, 165, 141, 30},
	{128, 128, 128, 128, 128, 32},
	{128, 128, 128, 128, 128, 64},
	{255, 255, 255, 255, 255, 127},
}

func TestReadUvarintRejects(t *testing.T) {
	for _, b := range rejectedVarints {
		if n, next, ok := impl.ReadUvarint(b, 0); ok || n != 0 || next != 0 {
			t.Errorf("ReadUvarint(%v, 0) = %d, %d, %v, want 0, 0, false", b, n, next, ok)
		}
		behind := slices.Concat([]byte{7, 172, 2}, b)
		if n, next, ok := impl.ReadUvarint(behind, 3); ok || n != 0 || next != 0 {
			t.Errorf("ReadUvarint(%v, 3) = %d, %d, %v, want 0, 0, false", behind, n, next, ok)
		}
	}
}

func offsetsOutside(b []byte) []int {
	return []int{-1, -2, -len(b) - 1, math.MinInt, math.MinInt + 1, len(b), len(b) + 1, len(b) + 6, maxValue, math.MaxInt, math.MaxInt - 1, math.MaxInt - 6}
}

func TestReadUvarintOffsetOutOfRange(t *testing.T) {
	for _, b := range [][]byte{nil, {}, {5}, {5, 172, 2}, {1, 2, 3, 4, 5, 6, 7, 8}} {
		for _, offset := range offsetsOutside(b) {
			if n, next, ok := impl.ReadUvarint(b, offset); ok || n != 0 || next != 0 {
				t.Errorf("ReadUvarint(%v, %d) = %d, %d, %v, want 0, 0, false", b, offset, n, next, ok)
			}
		}
	}
}

// The spare capacity of an input does not belong to it.
func TestReadUvarintStopsAtTheLength(t *testing.T) {
	whole := []byte{172, 2, 9, 3}
	if n, next, ok := impl.ReadUvarint(whole[:1], 0); ok || n != 0 || next != 0 {
		t.Errorf("ReadUvarint = %d, %d, %v, want 0, 0, false", n, next, ok)
	}
	if n, next, ok := impl.ReadUvarint(whole[:2], 2); ok || n != 0 || next != 0 {
		t.Errorf("ReadUvarint = %d, %d, %v, want 0, 0, false", n, next, ok)
	}
}

// wantVarint decodes with the standard library and keeps only what the document accepts.
func wantVarint(b []byte, offset int) (int, int, bool) {
	n, size := binary.Uvarint(b[offset:])
	if size < 1 || size > 6 || n > maxValue || !slices.Equal(binary.AppendUvarint(nil, n), b[offset:offset+size]) {
		return 0, 0, false
	}
	return int(n), offset + size, true
}

func checkReadUvarint(t *testing.T, b []byte, offset int) {
	t.Helper()
	wantN, wantNext, wantOK := wantVarint(b, offset)
	if n, next, ok := impl.ReadUvarint(b, offset); n != wantN || next != wantNext || ok != wantOK {
		t.Errorf("ReadUvarint(%v, %d) = %d, %d, %v, want %d, %d, %v", b, offset, n, next, ok, wantN, wantNext, wantOK)
	}
}

func TestReadUvarintOfAllShortInputs(t *testing.T) {
	for first := range 256 {
		checkReadUvarint(t, []byte{byte(first)}, 0)
		for second := range 256 {
			checkReadUvarint(t, []byte{byte(first), byte(second)}, 0)
			checkReadUvarint(t, []byte{byte(first), byte(second)}, 1)
		}
	}
	level := [][]byte{{}}
	for range 7 {
		var longer [][]byte
		for _, b := range level {
			for _, c := range []byte{0, 1, 29, 127, 128, 255} {
				longer = append(longer, slices.Concat(b, []byte{c}))
			}
		}
		level = longer
		for _, b := range level {
			checkReadUvarint(t, b, 0)
			checkReadUvarint(t, b, len(b)/2)
		}
	}
}

func TestUvarintThereAndBack(t *testing.T) {
	check := func(n int) {
		b := impl.AppendUvarint([]byte{200, 201}, n)
		want := binary.AppendUvarint([]byte{200, 201}, uint64(n))
		if !slices.Equal(b, want) {
			t.Errorf("AppendUvarint([200 201], %d) = %v, want %v", n, b, want)
		}
		if got, next, ok := impl.ReadUvarint(b, 2); !ok || got != n || next != len(b) {
			t.Errorf("ReadUvarint(%v, 2) = %d, %d, %v, want %d, %d, true", b, got, next, ok, n, len(b))
		}
		for end := 2; end < len(b); end++ {
			if got, next, ok := impl.ReadUvarint(b[:end], 2); ok || got != 0 || next != 0 {
				t.Errorf("ReadUvarint(%v, 2) = %d, %d, %v, want 0, 0, false", b[:end], got, next, ok)
			}
		}
	}
	for n := range 20000 {
		check(n)
		check(maxValue - n)
	}
	for n := 1; n <= maxValue; n *= 2 {
		check(n - 1)
		check(n)
		check(n + n/3)
	}
}

// byteStrings are data of several lengths, among them those at which the length prefix grows.
func byteStrings() [][]byte {
	list := [][]byte{nil, {}, {0}, {128}, {7, 8}, {255, 0, 255}}
	for _, length := range []int{126, 127, 128, 129, 300, 16383, 16384} {
		data := make([]byte, length)
		for i := range data {
			data[i] = byte(i*7 + 3)
		}
		list = append(list, data)
	}
	return list
}

func TestBytesThereAndBack(t *testing.T) {
	for _, data := range byteStrings() {
		for _, before := range [][]byte{nil, {}, {1}, {128, 128}, {0, 9, 0}} {
			b := impl.AppendBytes(before, data)
			want := slices.Concat(before, binary.AppendUvarint(nil, uint64(len(data))), data)
			if !slices.Equal(b, want) {
				t.Fatalf("AppendBytes(%v, %d bytes) = %v, want %v", before, len(data), b, want)
			}
			for _, after := range [][]byte{nil, {0}, {255, 1}} {
				for _, maxLen := range []int{len(data), len(data) + 1, maxValue, math.MaxInt} {
					got, next, ok := impl.ReadBytes(slices.Concat(b, after), len(before), maxLen)
					if !ok || next != len(b) || !slices.Equal(got, data) {
						t.Fatalf("ReadBytes of %d bytes behind %v with maxLen %d = %v, %d, %v", len(data), before, maxLen, got, next, ok)
					}
				}
			}
		}
	}
}

func TestAppendBytes(t *testing.T) {
	cases := []struct{ b, data, want []byte }{
		{nil, nil, []byte{0}},
		{[]byte{}, []byte{}, []byte{0}},
		{[]byte{5}, nil, []byte{5, 0}},
		{nil, []byte{6}, []byte{1, 6}},
		{[]byte{1}, []byte{7, 8}, []byte{1, 2, 7, 8}},
		{[]byte{128}, []byte{0, 0, 0}, []byte{128, 3, 0, 0, 0}},
	}
	for _, c := range cases {
		if got := impl.AppendBytes(c.b, c.data); !slices.Equal(got, c.want) {
			t.Errorf("AppendBytes(%v, %v) = %v, want %v", c.b, c.data, got, c.want)
		}
	}
	long := slices.Repeat([]byte{4}, 128)
	if got := impl.AppendBytes([]byte{9}, long); !slices.Equal(got, slices.Concat([]byte{9, 128, 1}, long)) {
		t.Errorf("AppendBytes([9], 128 bytes) = %v", got)
	}
}

func checkReadBytesRejects(t *testing.T, b []byte, offset int, maxLen int) {
	t.Helper()
	if data, next, ok := impl.ReadBytes(b, offset, maxLen); ok || next != 0 || len(data) != 0 {
		t.Errorf("ReadBytes(%v, %d, %d) = %v, %d, %v, want [], 0, false", b, offset, maxLen, data, next, ok)
	}
}

func TestReadBytesRejects(t *testing.T) {
	cases := []struct {
		b              []byte
		offset, maxLen int
	}{
		// the length exceeds maxLen
		{[]byte{1, 2, 7, 8}, 1, 1},
		{[]byte{2, 7, 8}, 0, 0},
		{[]byte{2, 7, 8}, 0, -1},
		{[]byte{0}, 0, -1},
		{[]byte{0}, 0, math.MinInt},
		{[]byte{1, 7}, 0, -maxValue},
		// the input is too short
		{[]byte{1}, 0, 100},
		{[]byte{3, 7, 8}, 0, 3},
		{[]byte{3, 7, 8}, 0, 100},
		{[]byte{9, 3, 7, 8}, 1, 100},
		{[]byte{172, 2, 1, 1}, 0, 1000},
		{[]byte{128, 160, 148, 165, 141, 29}, 0, maxValue},
		{[]byte{128, 160, 148, 165, 141, 29, 5}, 0, math.MaxInt},
		// both
		{[]byte{3, 7, 8}, 0, 2},
		{[]byte{128, 160, 148, 165, 141, 29}, 0, 5},
	}
	for _, c := range cases {
		checkReadBytesRejects(t, c.b, c.offset, c.maxLen)
	}
	for _, prefix := range rejectedVarints {
		checkReadBytesRejects(t, prefix, 0, math.MaxInt)
		checkReadBytesRejects(t, slices.Concat([]byte{6}, prefix), 1, 0)
	}
	for _, b := range [][]byte{nil, {}, {0}, {1, 7}, {2, 7, 8, 0}} {
		for _, offset := range offsetsOutside(b) {
			checkReadBytesRejects(t, b, offset, 0)
			checkReadBytesRejects(t, b, offset, math.MaxInt)
		}
	}
	// the bytes behind the length of the input are there, but do not belong to it
	whole := []byte{2, 7, 8, 9}
	checkReadBytesRejects(t, whole[:2], 0, 10)
	checkReadBytesRejects(t, whole[:0], 0, 10)
}

func TestReadBytesIsExactAboutItsLimits(t *testing.T) {
	b := impl.AppendBytes([]byte{5, 5}, []byte{0, 1, 2, 3})
	for maxLen := -2; maxLen <= 8; maxLen++ {
		for end := 2; end <= len(b); end++ {
			if maxLen < 4 || end < len(b) {
				checkReadBytesRejects(t, b[:end], 2, maxLen)
				continue
			}
			if data, next, ok := impl.ReadBytes(b[:end], 2, maxLen); !ok || next != 7 || !slices.Equal(data, []byte{0, 1, 2, 3}) {
				t.Errorf("ReadBytes(%v, 2, %d) = %v, %d, %v, want [0 1 2 3], 7, true", b[:end], maxLen, data, next, ok)
			}
		}
	}
	if data, next, ok := impl.ReadBytes([]byte{0}, 0, 0); !ok || next != 1 || len(data) != 0 {
		t.Errorf("ReadBytes([0], 0, 0) = %v, %d, %v, want [], 1, true", data, next, ok)
	}
}

func TestEncodeInts(t *testing.T) {
	cases := []struct {
		values []int
		want   []byte
	}{
		{nil, nil},
		{[]int{}, nil},
		{[]int{0}, []byte{0}},
		{[]int{5, 300}, []byte{5, 172, 2}},
		{[]int{300, 5}, []byte{172, 2, 5}},
		{[]int{127, 128}, []byte{127, 128, 1}},
		{[]int{0, 0, 0}, []byte{0, 0, 0}},
		{[]int{maxValue, 1}, []byte{128, 160, 148, 165, 141, 29, 1}},
		// values that have no encoding are left out
		{[]int{-1}, nil},
		{[]int{maxValue + 1}, nil},
		{[]int{4, -1, 5}, []byte{4, 5}},
		{[]int{-1, 4, maxValue + 1, 300, math.MinInt}, []byte{4, 172, 2}},
		{outsideValues, nil},
	}
	for _, c := range cases {
		if got := impl.EncodeInts(c.values); !slices.Equal(got, c.want) {
			t.Errorf("EncodeInts(%v) = %v, want %v", c.values, got, c.want)
		}
	}
}

func TestIntsThereAndBack(t *testing.T) {
	values := []int{}
	for _, c := range varintCases {
		values = append(values, c.n)
	}
	for first := range values {
		for last := first; last <= len(values); last++ {
			part := values[first:last]
			b := slices.Concat([]byte{128, 128}, impl.EncodeInts(part))
			list, next, ok := impl.DecodeInts(b, 2, len(part))
			if !ok || next != len(b) || !slices.Equal(list, part) {
				t.Errorf("DecodeInts(%v, 2, %d) = %v, %d, %v, want %v, %d, true", b, len(part), list, next, ok, part, len(b))
			}
			checkDecodeIntsRejects(t, b, 2, len(part)+1)
		}
	}
}

func checkDecodeIntsRejects(t *testing.T, b []byte, offset int, count int) {
	t.Helper()
	if list, next, ok := impl.DecodeInts(b, offset, count); ok || next != 0 || len(list) != 0 {
		t.Errorf("DecodeInts(%v, %d, %d) = %v, %d, %v, want [], 0, false", b, offset, count, list, next, ok)
	}
}

func TestDecodeIntsCount(t *testing.T) {
	values := make([]int, 150)
	for i := range values {
		values[i] = i * 11
	}
	b := impl.EncodeInts(values)
	offset := 0
	for count := 0; count <= 100; count++ {
		list, next, ok := impl.DecodeInts(b, 0, count)
		if !ok || next != offset || !slices.Equal(list, values[:count]) {
			t.Errorf("DecodeInts of %d numbers = %v, %d, %v, want %v, %d, true", count, list, next, ok, values[:count], offset)
		}
		offset += len(impl.AppendUvarint(nil, values[count]))
	}
	for _, count := range []int{-1, -2, -100, math.MinInt, 101, 102, 150, 151, maxValue, math.MaxInt} {
		checkDecodeIntsRejects(t, b, 0, count)
		checkDecodeIntsRejects(t, nil, 0, count)
	}
	_, middle, _ := impl.DecodeInts(b, 0, 100)
	list, next, ok := impl.DecodeInts(b, middle, 50)
	if !ok || next != len(b) || !slices.Equal(list, values[100:]) {
		t.Errorf("DecodeInts of the last 50 numbers = %v, %d, %v", list, next, ok)
	}
}

func TestDecodeIntsOffset(t *testing.T) {
	for _, b := range [][]byte{nil, {}, {5}, {128}, {5, 172, 2}} {
		for offset := 0; offset <= len(b); offset++ {
			if list, next, ok := impl.DecodeInts(b, offset, 0); !ok || next != offset || len(list) != 0 {
				t.Errorf("DecodeInts(%v, %d, 0) = %v, %d, %v, want [], %d, true", b, offset, list, next, ok, offset)
			}
		}
		checkDecodeIntsRejects(t, b, len(b), 1)
		for _, offset := range offsetsOutside(b) {
			if offset == len(b) {
				continue
			}
			checkDecodeIntsRejects(t, b, offset, 0)
			checkDecodeIntsRejects(t, b, offset, 1)
		}
	}
}

func TestDecodeIntsRejectsWithItsWholeList(t *testing.T) {
	for _, bad := range rejectedVarints {
		b := slices.Concat([]byte{5, 172, 2}, bad)
		checkDecodeIntsRejects(t, b, 0, 3)
		if list, next, ok := impl.DecodeInts(b, 0, 2); !ok || next != 3 || !slices.Equal(list, []int{5, 300}) {
			t.Errorf("DecodeInts(%v, 0, 2) = %v, %d, %v, want [5 300], 3, true", b, list, next, ok)
		}
	}
	whole := []byte{5, 6, 7}
	checkDecodeIntsRejects(t, whole[:2], 0, 3)
}

func TestEqualBytes(t *testing.T) {
	cases := []struct {
		a, b []byte
		want bool
	}{
		{nil, nil, true},
		{nil, []byte{}, true},
		{[]byte{}, []byte{}, true},
		{[]byte{0}, nil, false},
		{[]byte{0}, []byte{0}, true},
		{[]byte{0}, []byte{1}, false},
		{[]byte{0}, []byte{0, 0}, false},
		{[]byte{1, 2, 3}, []byte{1, 2, 3}, true},
		{[]byte{1, 2, 3}, []byte{1, 2}, false},
		{[]byte{1, 2, 3}, []byte{0, 2, 3}, false},
		{[]byte{1, 2, 3}, []byte{1, 0, 3}, false},
		{[]byte{1, 2, 3}, []byte{1, 2, 4}, false},
		{[]byte{1, 2, 3}, []byte{3, 2, 1}, false},
		{[]byte{255}, []byte{127}, false},
	}
	for _, c := range cases {
		if got := impl.EqualBytes(c.a, c.b); got != c.want {
			t.Errorf("EqualBytes(%v, %v) = %v, want %v", c.a, c.b, got, c.want)
		}
		if got := impl.EqualBytes(c.b, c.a); got != c.want {
			t.Errorf("EqualBytes(%v, %v) = %v, want %v", c.b, c.a, got, c.want)
		}
	}
	whole := []byte{1, 2, 3, 1, 2, 4}
	if !impl.EqualBytes(whole[:2], whole[3:5]) || impl.EqualBytes(whole[:3], whole[3:]) {
		t.Error("EqualBytes of two parts of one array")
	}
}

// checkResult calls a function of the arguments twice and changes the first result: neither an argument nor the second result may change with it.
func checkResult[T byte | int, R byte | int](t *testing.T, what string, call func(arg []T) []R, content []T) {
	t.Helper()
	arg := guard(content)
	first := call(arg.part)
	arg.check(t, what)
	second := call(arg.part)
	arg.check(t, what)
	want := slices.Clone(second)
	if !slices.Equal(first, second) {
		t.Errorf("%s: %v, then %v", what, first, second)
	}
	scribble(first)
	arg.check(t, what+", its result changed")
	if !slices.Equal(second, want) {
		t.Errorf("%s: a result changes with another one", what)
	}
}

func TestEncodingResultsAreFresh(t *testing.T) {
	for _, b := range [][]byte{nil, {}, {1}, {3, 7, 8, 9}, {0, 0}, {172, 2, 1}, slices.Repeat([]byte{5}, 40)} {
		for _, n := range []int{0, 127, 128, maxValue, maxValue + 1, -1} {
			checkResult(t, fmt.Sprintf("AppendUvarint(%v, %d)", b, n), func(b []byte) []byte { return impl.AppendUvarint(b, n) }, b)
		}
		for _, data := range [][]byte{nil, {}, {6}, {6, 7}, slices.Repeat([]byte{2}, 200)} {
			checkResult(t, fmt.Sprintf("AppendBytes(%v, %v)", b, data), func(b []byte) []byte { return impl.AppendBytes(b, data) }, b)
			checkResult(t, fmt.Sprintf("AppendBytes(%v, %v) of its data", b, data), func(data []byte) []byte { return impl.AppendBytes(b, data) }, data)
		}
		checkResult(t, fmt.Sprintf("AppendBytes(%v) to itself", b), func(b []byte) []byte { return impl.AppendBytes(b, b) }, b)
		for offset := -1; offset <= len(b)+1; offset++ {
			for _, limit := range []int{-1, 0, 1, 3, 100} {
				checkResult(t, fmt.Sprintf("ReadBytes(%v, %d, %d)", b, offset, limit), func(b []byte) []byte {
					data, _, _ := impl.ReadBytes(b, offset, limit)
					return data
				}, b)
				checkResult(t, fmt.Sprintf("DecodeInts(%v, %d, %d)", b, offset, limit), func(b []byte) []int {
					list, _, _ := impl.DecodeInts(b, offset, limit)
					return list
				}, b)
			}
			checkResult(t, fmt.Sprintf("ReadUvarint(%v, %d)", b, offset), func(b []byte) []int {
				n, next, _ := impl.ReadUvarint(b, offset)
				return []int{n, next}
			}, b)
		}
	}
	for _, values := range [][]int{nil, {}, {5}, {5, 300, -1, maxValue}, outsideValues} {
		checkResult(t, fmt.Sprintf("EncodeInts(%v)", values), impl.EncodeInts, values)
	}
}

func TestEqualChangesNothing(t *testing.T) {
	for _, b := range [][]byte{nil, {}, {1}, {1, 2, 3}} {
		checkResult(t, fmt.Sprintf("EqualBytes of %v", b), func(b []byte) []int {
			if impl.EqualBytes(b, []byte{1, 2, 3}) != impl.EqualBytes([]byte{1, 2, 3}, b) {
				t.Errorf("EqualBytes of %v depends on the order", b)
			}
			return nil
		}, b)
	}
	for _, list := range [][]int{nil, {}, {1}, {1, 2, 3}} {
		checkResult(t, fmt.Sprintf("EqualInts of %v", list), func(list []int) []int {
			if impl.EqualInts(list, []int{1, 2, 3}) != impl.EqualInts([]int{1, 2, 3}, list) {
				t.Errorf("EqualInts of %v depends on the order", list)
			}
			return nil
		}, list)
	}
}
