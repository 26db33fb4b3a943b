package tests

import (
	"encoding/binary"
	"fmt"
	"math"
	"slices"
	"strconv"
	"strings"
	"testing"
	"unsafe"

	"loop.example/g00583/impl"
)

// Promise 4: encoded keys are ordered like the keys (chapter 4).

const (
	maxNumber  = 1000000000000
	maxKeyText = 12
)

const keyAlphabet = "0123456789abcdefghijklmnopqrstuvwxyz"

func numberKey(n int) impl.Key {
	return impl.Key{Kind: impl.KeyNumber, N: n}
}

func textKey(text string) impl.Key {
	return impl.Key{Kind: impl.KeyText, Text: text}
}

func pairKey(n int, text string) impl.Key {
	return impl.Key{Kind: impl.KeyPair, N: n, Text: text}
}

func TestKeyConstants(t *testing.T) {
	got := []int{impl.KeyNumber, impl.KeyText, impl.KeyPair, impl.MaxNumber, impl.MaxKeyText}
	if want := []int{1, 2, 3, maxNumber, maxKeyText}; !slices.Equal(got, want) {
		t.Errorf("the constants of keys are %v, want %v", got, want)
	}
}

// keyNumbers are valid numbers in ascending order; the bytes of their encodings differ in each place.
var keyNumbers = []int{
	-maxNumber, -maxNumber + 1, -maxNumber + 255, -maxNumber + 256, -maxNumber + 257, -maxNumber + 1<<16, -maxNumber + 1<<24, -maxNumber + 1<<32,
	-999999999999 + 1<<33, -4294967297, -1000, -256, -255, -10, -9, -2, -1,
	0, 1, 2, 5, 9, 10, 11, 99, 100, 127, 128, 255, 256, 65535, 65536, 1 << 31, 1 << 32, 1 << 39,
	maxNumber - 256, maxNumber - 1, maxNumber,
}

// keyTexts are valid texts in ascending order.
var keyTexts = []string{
	"", "0", "00", "000000000000", "01", "0a", "1", "10", "2", "9", "99", "9z", "a", "a0", "a9", "aa", "aaaaaaaaaaaa", "ab", "az", "b", "b0", "m",
	"z", "z0", "zz", "zzzzzzzzzzzy", "zzzzzzzzzzzz",
}

// keysInOrder are valid keys of all kinds, in ascending order.
func keysInOrder() []impl.Key {
	keys := []impl.Key{}
	for _, n := range keyNumbers {
		keys = append(keys, numberKey(n))
	}
	for _, text := range keyTexts {
		keys = append(keys, textKey(text))
	}
	for _, n := range keyNumbers {
		for _, text := range keyTexts {
			keys = append(keys, pairKey(n, text))
		}
	}
	return keys
}

// badTexts are of no key, whatever its kind and number.
func badTexts() []string {
	texts := []string{
		strings.Repeat("a", maxKeyText+1), strings.Repeat("0", maxKeyText+1), strings.Repeat("z", 300),
		"abcdefghijkl'", "abcdefghijkl\x00", "'a", "a'", "a b", " ", "a ", "ab\n", "-1", "é", "aé", "ß", "日", "\xff\xfe", "a\xc3", "A1", "Z", "aB",
	}
	for c := range 256 {
		if strings.IndexByte(keyAlphabet, byte(c)) < 0 {
			bad := string([]byte{byte(c)})
			texts = append(texts, bad, "ab"+bad, bad+"12", "a"+bad+"9")
		}
	}
	return texts
}

func invalidKeys() []impl.Key {
	keys := []impl.Key{{}, {N: 5}, {Text: "a"}, {N: 5, Text: "a"}}
	for _, kind := range []int{-1, 0, 4, 5, 255, 256, 257, 258, 259, 1<<32 + 1, math.MaxInt, math.MinInt, math.MinInt + 1} {
		keys = append(keys, impl.Key{Kind: kind}, impl.Key{Kind: kind, N: 7}, impl.Key{Kind: kind, Text: "a"}, impl.Key{Kind: kind, N: -7, Text: "a"})
	}
	for _, n := range []int{maxNumber + 1, -maxNumber - 1, 1 << 47, 1 << 48, 1<<48 - maxNumber, 1<<48 + 5, math.MaxInt, math.MaxInt - maxNumber, math.MinInt, math.MinInt + maxNumber} {
		keys = append(keys, numberKey(n), pairKey(n, ""), pairKey(n, "a"))
	}
	for _, n := range []int{1, -1, 300, maxNumber, -maxNumber, maxNumber + 1, math.MinInt, math.MaxInt} {
		keys = append(keys, impl.Key{Kind: impl.KeyText, N: n}, impl.Key{Kind: impl.KeyText, N: n, Text: "ab"})
	}
	for _, text := range []string{"a", "0", "ab", "zzzzzzzzzzzz"} {
		keys = append(keys, impl.Key{Kind: impl.KeyNumber, Text: text}, impl.Key{Kind: impl.KeyNumber, N: 5, Text: text})
	}
	for _, text := range badTexts() {
		keys = append(keys, textKey(text), pairKey(0, text), pairKey(-3, text), impl.Key{Kind: impl.KeyNumber, N: 2, Text: text})
	}
	return keys
}

func TestIsKey(t *testing.T) {
	for _, k := range keysInOrder() {
		if !impl.IsKey(k) {
			t.Errorf("IsKey(%#v) = false", k)
		}
	}
	for _, k := range invalidKeys() {
		if impl.IsKey(k) {
			t.Errorf("IsKey(%#v) = true", k)
		}
	}
}

func TestIsKeyOfEachCharacter(t *testing.T) {
	for c := range 256 {
		want := strings.IndexByte(keyAlphabet, byte(c)) >= 0
		for _, before := range []string{"", "a", "01234567890"} {
			text := before + string([]byte{byte(c)})
			if got := impl.IsKey(textKey(text)); got != want {
				t.Errorf("IsKey of the text %q = %t", text, got)
			}
			if got := impl.IsKey(pairKey(4, text)); got != want {
				t.Errorf("IsKey of the pair of 4 and %q = %t", text, got)
			}
		}
	}
}

func TestIsKeyOfEachLength(t *testing.T) {
	for length := range 40 {
		text := strings.Repeat("b", length)
		if got, want := impl.IsKey(textKey(text)), length <= 12; got != want {
			t.Errorf("IsKey of a text of %d characters = %t", length, got)
		}
		if got, want := impl.IsKey(pairKey(0, text)), length <= 12; got != want {
			t.Errorf("IsKey of a pair with %d characters = %t", length, got)
		}
		if got, want := impl.IsKey(impl.Key{Kind: impl.KeyNumber, Text: text}), length == 0; got != want {
			t.Errorf("IsKey of a number with %d characters = %t", length, got)
		}
	}
}

func TestCompareKeysExamples(t *testing.T) {
	cases := []struct {
		a, b impl.Key
		want int
	}{
		{numberKey(5), numberKey(5), 0},
		{numberKey(-1), numberKey(5), -1},
		{numberKey(-1), numberKey(-2), 1},
		{numberKey(-maxNumber), numberKey(maxNumber), -1},
		{numberKey(9), numberKey(10), -1},
		{numberKey(256), numberKey(255), 1},
		{numberKey(maxNumber), textKey(""), -1},
		{textKey("zzzzzzzzzzzz"), pairKey(-maxNumber, ""), -1},
		{pairKey(0, ""), numberKey(0), 1},
		{pairKey(0, ""), textKey(""), 1},
		{textKey(""), textKey(""), 0},
		{textKey(""), textKey("0"), -1},
		{textKey("a"), textKey("ab"), -1},
		{textKey("ab"), textKey("a"), 1},
		{textKey("9"), textKey("a"), -1},
		{textKey("b"), textKey("aaaa"), 1},
		{textKey("10"), textKey("9"), -1},
		{pairKey(3, ""), pairKey(3, ""), 0},
		{pairKey(3, ""), pairKey(3, "a"), -1},
		{pairKey(3, "a"), pairKey(3, ""), 1},
		{pairKey(3, "zz"), pairKey(4, ""), -1},
		{pairKey(4, ""), pairKey(3, "zzzzzzzzzzzz"), 1},
		{pairKey(-3, "a"), pairKey(3, "a"), -1},
		{pairKey(-3, ""), pairKey(-4, "b"), 1},
		{pairKey(0, "a"), pairKey(0, "b"), -1},
	}
	for _, c := range cases {
		if got := impl.CompareKeys(c.a, c.b); got != c.want {
			t.Errorf("CompareKeys(%#v, %#v) = %d, want %d", c.a, c.b, got, c.want)
		}
		if got := impl.CompareBytes(impl.EncodeKey(c.a), impl.EncodeKey(c.b)); got != c.want {
			t.Errorf("the encodings of %#v and %#v compare as %d, want %d", c.a, c.b, got, c.want)
		}
	}
}

func sign(n int) int {
	switch {
	case n < 0:
		return -1
	case n > 0:
		return 1
	}
	return 0
}

func TestEncodedKeysAreOrderedLikeTheKeys(t *testing.T) {
	keys := keysInOrder()
	encodings := [][]byte{}
	for _, k := range keys {
		encodings = append(encodings, impl.EncodeKey(k))
	}
	for i, a := range keys {
		for j, b := range keys {
			want := sign(i - j)
			if got := impl.CompareKeys(a, b); got != want {
				t.Fatalf("CompareKeys(%#v, %#v) = %d, want %d", a, b, got, want)
			}
			if got := impl.CompareBytes(encodings[i], encodings[j]); got != want {
				t.Fatalf("the encodings of %#v and %#v compare as %d, want %d", a, b, got, want)
			}
			if got := slices.Compare(encodings[i], encodings[j]); got != want {
				t.Fatalf("the encodings of %#v and %#v are ordered as %d, want %d", a, b, got, want)
			}
		}
	}
}

func TestCompareKeysOfInvalidKeys(t *testing.T) {
	valid := []impl.Key{numberKey(-maxNumber), numberKey(0), numberKey(maxNumber), textKey(""), textKey("zz"), pairKey(-5, ""), pairKey(5, "x")}
	invalid := invalidKeys()
	for i, bad := range invalid {
		for _, k := range valid {
			if a, b := impl.CompareKeys(bad, k), impl.CompareKeys(k, bad); a != 0 || b != 0 {
				t.Errorf("CompareKeys of %#v and %#v = %d and %d, want 0", bad, k, a, b)
			}
		}
		other := invalid[(i*7+3)%len(invalid)]
		if got := impl.CompareKeys(bad, other); got != 0 {
			t.Errorf("CompareKeys(%#v, %#v) = %d, want 0", bad, other, got)
		}
	}
}

// wantEncoding is the encoding of a key that is known to be valid.
func wantEncoding(k impl.Key) []byte {
	encoded := []byte{byte(k.Kind)}
	if k.Kind == 1 || k.Kind == 3 {
		number := binary.BigEndian.AppendUint64(nil, uint64(k.N+maxNumber))
		encoded = append(encoded, number[2:]...)
	}
	return append(encoded, []byte(k.Text)...)
}

func TestEncodeKeyExamples(t *testing.T) {
	cases := []struct {
		k    impl.Key
		want []byte
	}{
		{numberKey(5), []byte{1, 0, 232, 212, 165, 16, 5}},
		{numberKey(0), []byte{1, 0, 232, 212, 165, 16, 0}},
		{numberKey(-1), []byte{1, 0, 232, 212, 165, 15, 255}},
		{numberKey(-maxNumber), []byte{1, 0, 0, 0, 0, 0, 0}},
		{numberKey(-maxNumber + 1), []byte{1, 0, 0, 0, 0, 0, 1}},
		{numberKey(maxNumber), []byte{1, 1, 209, 169, 74, 32, 0}},
		{textKey(""), []byte{2}},
		{textKey("ab"), []byte{2, 97, 98}},
		{textKey("0z9"), []byte{2, 48, 122, 57}},
		{pairKey(0, ""), []byte{3, 0, 232, 212, 165, 16, 0}},
		{pairKey(-5, "x"), []byte{3, 0, 232, 212, 165, 15, 251, 120}},
		{pairKey(maxNumber, "zzzzzzzzzzzz"), append([]byte{3, 1, 209, 169, 74, 32, 0}, "zzzzzzzzzzzz"...)},
	}
	for _, c := range cases {
		if got := impl.EncodeKey(c.k); !slices.Equal(got, c.want) {
			t.Errorf("EncodeKey(%#v) = %v, want %v", c.k, got, c.want)
		}
		if got, ok := impl.DecodeKey(c.want); got != c.k || !ok {
			t.Errorf("DecodeKey(%v) = %#v, %t, want %#v", c.want, got, ok, c.k)
		}
	}
}

func TestKeysAreEncodedThereAndBack(t *testing.T) {
	for _, k := range keysInOrder() {
		encoded := impl.EncodeKey(k)
		if want := wantEncoding(k); !slices.Equal(encoded, want) {
			t.Fatalf("EncodeKey(%#v) = %v, want %v", k, encoded, want)
		}
		if got, ok := impl.DecodeKey(encoded); got != k || !ok {
			t.Fatalf("DecodeKey(%v) = %#v, %t, want %#v", encoded, got, ok, k)
		}
	}
	for _, k := range invalidKeys() {
		if got := impl.EncodeKey(k); len(got) != 0 {
			t.Errorf("EncodeKey(%#v) = %v, want none", k, got)
		}
	}
}

// wantDecoded is the key that b encodes, found by the lengths and ranges that the document names.
func wantDecoded(b []byte) (impl.Key, bool) {
	if len(b) == 0 || b[0] < 1 || b[0] > 3 {
		return impl.Key{}, false
	}
	k := impl.Key{Kind: int(b[0])}
	text := b[1:]
	if k.Kind != 2 {
		if len(b) < 7 {
			return impl.Key{}, false
		}
		number := binary.BigEndian.Uint64(slices.Concat([]byte{0, 0}, b[1:7]))
		if number > 2*maxNumber {
			return impl.Key{}, false
		}
		k.N = int(number) - maxNumber
		text = b[7:]
	}
	if k.Kind == 1 && len(text) > 0 || len(text) > maxKeyText {
		return impl.Key{}, false
	}
	for _, c := range text {
		if strings.IndexByte(keyAlphabet, c) < 0 {
			return impl.Key{}, false
		}
	}
	k.Text = string(text)
	return k, true
}

func checkDecodeKey(t *testing.T, b []byte) {
	t.Helper()
	got, ok := impl.DecodeKey(b)
	want, fine := wantDecoded(b)
	if got != want || ok != fine {
		t.Errorf("DecodeKey(%v) = %#v, %t, want %#v, %t", b, got, ok, want, fine)
	}
	if ok && !slices.Equal(impl.EncodeKey(got), b) {
		t.Errorf("DecodeKey(%v) = %#v, which is encoded as %v", b, got, impl.EncodeKey(got))
	}
}

func TestDecodeKeyRejects(t *testing.T) {
	number := func(kind byte, rest ...byte) []byte { return append([]byte{kind}, rest...) }
	cases := [][]byte{
		nil, {}, {0}, {1}, {3}, {4}, {255},
		number(1, 0, 232, 212, 165, 16),
		number(3, 0, 232, 212, 165, 16),
		number(3, 0, 0, 0, 0, 0),
		number(1, 0, 232, 212, 165, 16, 5, 0),
		number(1, 0, 232, 212, 165, 16, 5, 97),
		number(0, 0, 232, 212, 165, 16, 5),
		number(4, 0, 232, 212, 165, 16, 5),
		number(1, 1, 209, 169, 74, 32, 1),
		number(3, 1, 209, 169, 74, 32, 1),
		number(3, 1, 209, 169, 74, 32, 1, 97),
		number(1, 255, 255, 255, 255, 255, 255),
		number(3, 128, 0, 0, 0, 0, 0),
		number(3, 0, 232, 212, 165, 16, 0, 'A'),
		number(3, 0, 232, 212, 165, 16, 0, 39, 97),
		append(number(3, 0, 232, 212, 165, 16, 0), "abcdefghijklm"...),
		[]byte("\x02abcdefghijklm"), []byte("\x02A"), []byte("\x02a b"), []byte("\x02'a"), []byte("\x02\xc3\xa9"), []byte("\x02ab\xff"),
		{2, 0}, {2, 97, 0}, {2, 47}, {2, 58}, {2, 96}, {2, 123}, {2, 128}, {2, 225},
	}
	for _, b := range cases {
		if got, ok := impl.DecodeKey(b); got != (impl.Key{}) || ok {
			t.Errorf("DecodeKey(%v) = %#v, %t, want the zero Key, false", b, got, ok)
		}
	}
}

func TestDecodeKeyOfChangedEncodings(t *testing.T) {
	for _, k := range []impl.Key{
		numberKey(-maxNumber), numberKey(-1), numberKey(0), numberKey(maxNumber), textKey(""), textKey("a"), textKey("0123456789ab"),
		pairKey(-maxNumber, ""), pairKey(0, "z"), pairKey(maxNumber, "zzzzzzzzzzzz"), pairKey(77, "q7"),
	} {
		encoded := wantEncoding(k)
		for length := range len(encoded) + 1 {
			checkDecodeKey(t, encoded[:length])
		}
		for c := range 256 {
			for i := range encoded {
				changed := slices.Clone(encoded)
				changed[i] = byte(c)
				checkDecodeKey(t, changed)
				checkDecodeKey(t, slices.Insert(slices.Clone(encoded), i, byte(c)))
			}
			checkDecodeKey(t, append(slices.Clone(encoded), byte(c)))
		}
		checkDecodeKey(t, slices.Concat(encoded, encoded))
		checkDecodeKey(t, slices.Concat(encoded, slices.Repeat([]byte{'a'}, 500)))
	}
}

func TestDecodeKeyOfAllShortInputs(t *testing.T) {
	for a := range 256 {
		checkDecodeKey(t, []byte{byte(a)})
		for b := range 256 {
			checkDecodeKey(t, []byte{byte(a), byte(b)})
		}
	}
}

func TestCompareBytes(t *testing.T) {
	inOrder := [][]byte{
		{}, {0}, {0, 0}, {0, 0, 0}, {0, 1}, {0, 255}, {1}, {1, 0}, {1, 0, 255}, {1, 1}, {1, 255}, {2}, {127}, {127, 255}, {128}, {128, 0},
		slices.Repeat([]byte{200}, 50), slices.Repeat([]byte{200}, 51), {201}, {254, 255}, {255}, {255, 0}, {255, 254}, {255, 255}, {255, 255, 0},
	}
	for i, a := range inOrder {
		for j, b := range inOrder {
			if got, want := impl.CompareBytes(a, b), sign(i-j); got != want {
				t.Errorf("CompareBytes(%v, %v) = %d, want %d", a, b, got, want)
			}
		}
		if got, want := impl.CompareBytes(nil, a), sign(0-i); got != want {
			t.Errorf("CompareBytes(nil, %v) = %d, want %d", a, got, want)
		}
		if got, want := impl.CompareBytes(a, nil), sign(i-0); got != want {
			t.Errorf("CompareBytes(%v, nil) = %d, want %d", a, got, want)
		}
	}
	if got := impl.CompareBytes(nil, nil); got != 0 {
		t.Errorf("CompareBytes(nil, nil) = %d", got)
	}
	for a := range 256 {
		for b := range 256 {
			if got, want := impl.CompareBytes([]byte{7, byte(a)}, []byte{7, byte(b)}), sign(a-b); got != want {
				t.Errorf("CompareBytes of %d and %d = %d, want %d", a, b, got, want)
			}
		}
	}
}

func TestFormatKeyExamples(t *testing.T) {
	cases := []struct {
		k    impl.Key
		want string
	}{
		{numberKey(5), "5"},
		{numberKey(0), "0"},
		{numberKey(-1), "-1"},
		{numberKey(maxNumber), "1000000000000"},
		{numberKey(-maxNumber), "-1000000000000"},
		{textKey(""), "'"},
		{textKey("ab"), "'ab"},
		{textKey("0"), "'0"},
		{textKey("007"), "'007"},
		{textKey("zzzzzzzzzzzz"), "'zzzzzzzzzzzz"},
		{pairKey(0, ""), "0'"},
		{pairKey(0, "0"), "0'0"},
		{pairKey(-5, "x"), "-5'x"},
		{pairKey(-5, ""), "-5'"},
		{pairKey(-maxNumber, "01"), "-1000000000000'01"},
		{pairKey(maxNumber, "abcdefghijkl"), "1000000000000'abcdefghijkl"},
	}
	for _, c := range cases {
		if got := impl.FormatKey(c.k); got != c.want {
			t.Errorf("FormatKey(%#v) = %q, want %q", c.k, got, c.want)
		}
		if got, ok := impl.ParseKey(c.want); got != c.k || !ok {
			t.Errorf("ParseKey(%q) = %#v, %t, want %#v", c.want, got, ok, c.k)
		}
	}
}

// wantFormat is the text of a key that is known to be valid.
func wantFormat(k impl.Key) string {
	return []string{"", strconv.Itoa(k.N), "'" + k.Text, strconv.Itoa(k.N) + "'" + k.Text}[k.Kind]
}

func TestKeysAreFormattedThereAndBack(t *testing.T) {
	for _, k := range keysInOrder() {
		s := impl.FormatKey(k)
		if want := wantFormat(k); s != want {
			t.Fatalf("FormatKey(%#v) = %q, want %q", k, s, want)
		}
		if got, ok := impl.ParseKey(s); got != k || !ok {
			t.Fatalf("ParseKey(%q) = %#v, %t, want %#v", s, got, ok, k)
		}
	}
	for _, k := range invalidKeys() {
		if got := impl.FormatKey(k); got != "" {
			t.Errorf("FormatKey(%#v) = %q, want none", k, got)
		}
	}
}

func TestParseKeyRejects(t *testing.T) {
	cases := []string{
		"", "-", "+", "--1", "-0", "+0", "+1", "-+1", "00", "01", "007", "-01", "-00", " 1", "1 ", "1\n", "1.0", "1e3", "1_000", "0x1", "a", "ab", "1a", "a1", "é", "١",
		"1000000000001", "-1000000000001", "9999999999999", "10000000000000", "-10000000000000", "9223372036854775807", "9223372036854775808",
		"-9223372036854775808", "-9223372036854775809", "18446744073709551616", "18446744073709551621", strings.Repeat("9", 400), "-" + strings.Repeat("9", 400),
		"-0'", "-0'a", "+1'a", "+0'", "01'a", "00'", "-01'a", "-'a", "+'", "-'", " '", " 1'a", "1 'a", "a'b", "a'",
		"1000000000001'", "-1000000000001'a", "9223372036854775808'a", "18446744073709551621'a",
		"''", "'a'", "''a", "'a'b", "1''", "1'a'", "1'a'b", "5'a'b", "1'2'3",
		"'abcdefghijklm", "1'abcdefghijklm", "'" + strings.Repeat("a", 500),
		"'A", "'aB", "1'A", "5'A", "' ", "'a ", "'-1", "1'-1", "'é", "1'é", "'\xff", "1'\x80", "'\x00", "'a\x00", "1\x00", "1'a\x00", "1\"a", "1’a", "1`a",
	}
	for _, s := range cases {
		if got, ok := impl.ParseKey(s); got != (impl.Key{}) || ok {
			t.Errorf("ParseKey(%q) = %#v, %t, want the zero Key, false", s, got, ok)
		}
	}
	for _, text := range badTexts() {
		for _, s := range []string{"'" + text, "1'" + text, "-20'" + text} {
			if got, ok := impl.ParseKey(s); got != (impl.Key{}) || ok {
				t.Errorf("ParseKey(%q) = %#v, %t, want the zero Key, false", s, got, ok)
			}
		}
	}
}

// TestParseKeyOfAllShortStrings looks each string up in the formatted keys that are short enough.
func TestParseKeyOfAllShortStrings(t *testing.T) {
	const characters = "-+01'aA "
	const longest = 5
	texts := []string{""}
	for i := 0; i < len(texts); i++ {
		if len(texts[i]) < longest-1 {
			texts = append(texts, texts[i]+"0", texts[i]+"1", texts[i]+"a")
		}
	}
	keys := map[string]impl.Key{}
	put := func(k impl.Key) {
		keys[wantFormat(k)] = k
	}
	for _, text := range texts {
		put(textKey(text))
		for n := -9999; n <= 99999; n++ {
			if s := strconv.Itoa(n); strings.Trim(s, characters) == "" && len(s)+1+len(text) <= longest {
				put(pairKey(n, text))
			}
		}
	}
	for n := -9999; n <= 99999; n++ {
		put(numberKey(n))
	}
	strs := []string{""}
	for i := 0; i < len(strs); i++ {
		s := strs[i]
		want, fine := keys[s]
		if got, ok := impl.ParseKey(s); got != want || ok != fine {
			t.Errorf("ParseKey(%q) = %#v, %t, want %#v, %t", s, got, ok, want, fine)
		}
		if len(s) < longest {
			for j := range len(characters) {
				strs = append(strs, s+characters[j:j+1])
			}
		}
	}
}

func between(low impl.Key, high impl.Key) impl.KeyRange {
	return impl.KeyRange{HasLow: true, HasHigh: true, Low: low, High: high}
}

func atLeast(low impl.Key) impl.KeyRange {
	return impl.KeyRange{HasLow: true, Low: low}
}

func atMost(high impl.Key) impl.KeyRange {
	return impl.KeyRange{HasHigh: true, High: high}
}

func TestInRangeOfExamples(t *testing.T) {
	five := numberKey(5)
	cases := []struct {
		k    impl.Key
		r    impl.KeyRange
		want bool
	}{
		{five, impl.KeyRange{}, true},
		{textKey(""), impl.KeyRange{}, true},
		{pairKey(0, ""), impl.KeyRange{}, true},
		{five, atLeast(five), true},
		{five, atMost(five), true},
		{five, between(five, five), true},
		{five, atLeast(numberKey(6)), false},
		{five, atMost(numberKey(4)), false},
		{five, between(numberKey(4), numberKey(6)), true},
		{five, between(numberKey(6), numberKey(4)), false},
		{numberKey(6), between(numberKey(6), numberKey(4)), false},
		{numberKey(4), between(numberKey(6), numberKey(4)), false},
		{textKey("a"), between(five, pairKey(5, "")), true},
		{textKey("a"), atLeast(numberKey(maxNumber)), true},
		{textKey("a"), atMost(numberKey(maxNumber)), false},
		{textKey(""), atLeast(pairKey(-maxNumber, "")), false},
		{textKey("zzzzzzzzzzzz"), atMost(pairKey(-maxNumber, "")), true},
		{pairKey(5, ""), between(pairKey(5, ""), pairKey(5, "")), true},
		{pairKey(5, ""), atLeast(pairKey(5, "0")), false},
		{pairKey(5, "0"), atMost(pairKey(5, "")), false},
		{pairKey(5, "0"), atLeast(pairKey(5, "")), true},
		{pairKey(4, "zz"), atMost(pairKey(5, "")), true},
	}
	for _, c := range cases {
		if got := impl.InRangeOf(c.k, c.r); got != c.want {
			t.Errorf("InRangeOf(%#v, %#v) = %t", c.k, c.r, got)
		}
	}
}

// someKeys are a few keys of each kind, in ascending order.
func someKeys() []impl.Key {
	return []impl.Key{
		numberKey(-maxNumber), numberKey(-5), numberKey(0), numberKey(5), numberKey(maxNumber),
		textKey(""), textKey("0"), textKey("a"), textKey("ab"), textKey("zzzzzzzzzzzz"),
		pairKey(-maxNumber, ""), pairKey(-5, ""), pairKey(-5, "z"), pairKey(0, ""), pairKey(0, "a"), pairKey(5, "0"), pairKey(maxNumber, "zz"),
	}
}

func TestInRangeOfAllPairsOfBounds(t *testing.T) {
	keys := someKeys()
	for i, k := range keys {
		for low := range keys {
			for high := range keys {
				r := impl.KeyRange{Low: keys[low], High: keys[high]}
				check := func(want bool) {
					if got := impl.InRangeOf(k, r); got != want {
						t.Errorf("InRangeOf(%#v, %#v) = %t", k, r, got)
					}
				}
				check(true)
				r.HasLow = true
				check(low <= i)
				r.HasHigh = true
				check(low <= i && i <= high)
				r.HasLow = false
				check(i <= high)
			}
		}
	}
}

func TestInRangeOfInvalidKeysAndBounds(t *testing.T) {
	low, k, high := numberKey(-maxNumber), textKey("m"), pairKey(maxNumber, "zz")
	for _, bad := range invalidKeys() {
		for _, r := range []impl.KeyRange{{}, atLeast(low), atMost(high), between(low, high), atLeast(bad), atMost(bad), between(bad, bad)} {
			if impl.InRangeOf(bad, r) {
				t.Errorf("InRangeOf of the invalid key %#v in %#v = true", bad, r)
			}
		}
		for _, r := range []impl.KeyRange{atLeast(bad), atMost(bad), between(bad, high), between(low, bad), between(bad, bad)} {
			if impl.InRangeOf(k, r) {
				t.Errorf("InRangeOf(%#v, %#v) = true, with an invalid bound that is set", k, r)
			}
		}
		for _, r := range []impl.KeyRange{{Low: bad, High: bad}, {HasLow: true, Low: low, High: bad}, {HasHigh: true, Low: bad, High: high}} {
			if !impl.InRangeOf(k, r) {
				t.Errorf("InRangeOf(%#v, %#v) = false, with an invalid bound that is not set", k, r)
			}
		}
		for _, r := range []impl.KeyRange{{HasLow: true, Low: high, High: bad}, {HasHigh: true, Low: bad, High: low}} {
			if impl.InRangeOf(k, r) {
				t.Errorf("InRangeOf(%#v, %#v) = true, out of the bound that is set", k, r)
			}
		}
	}
}

func TestEncodedKeysAreFresh(t *testing.T) {
	for _, k := range append(someKeys(), impl.Key{}, numberKey(maxNumber+1)) {
		first, second := impl.EncodeKey(k), impl.EncodeKey(k)
		want := slices.Clone(second)
		if !slices.Equal(first, second) {
			t.Errorf("EncodeKey(%#v) = %v, then %v", k, first, second)
		}
		scribble(first)
		if !slices.Equal(second, want) || !slices.Equal(impl.EncodeKey(k), want) {
			t.Errorf("EncodeKey(%#v): a result changes with another one", k)
		}
	}
}

func TestKeysLeaveTheirArgumentsAlone(t *testing.T) {
	contents := [][]byte{nil, {}, {2}, {9, 9}, {1, 0, 1}, []byte("\x02abcdefghijklm")}
	for _, k := range someKeys() {
		contents = append(contents, wantEncoding(k))
	}
	for _, content := range contents {
		what := fmt.Sprintf("DecodeKey(%v)", content)
		arg := guard(content)
		k, ok := impl.DecodeKey(arg.part)
		arg.check(t, what)
		want := impl.Key{Kind: k.Kind, N: k.N, Text: strings.Clone(k.Text)}
		scribble(arg.part)
		if k != want {
			t.Errorf("%s: the result changes with the argument", what)
		}
		if again, fine := impl.DecodeKey(content); again != want || fine != ok {
			t.Errorf("%s = %#v, %t, then %#v, %t", what, want, ok, again, fine)
		}
		for _, other := range contents {
			a, b := guard(content), guard(other)
			impl.CompareBytes(a.part, b.part)
			a.check(t, "CompareBytes")
			b.check(t, "CompareBytes")
		}
	}
}

func TestParsedKeysAreFresh(t *testing.T) {
	for _, s := range []string{"'ab", "5'x", "-7'0123456789ab"} {
		k, ok := impl.ParseKey(s)
		if !ok {
			t.Errorf("ParseKey(%q) = %#v, false", s, k)
			continue
		}
		for i := range len(s) {
			if unsafe.StringData(k.Text) == unsafe.StringData(s[i:]) {
				t.Errorf("ParseKey(%q) shares the memory of its argument", s)
			}
		}
	}
}
