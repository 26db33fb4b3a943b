package tests

import (
	"fmt"
	"math"
	"math/big"
	"slices"
	"strings"
	"testing"

	"loop.example/g00583/impl"
)

// Promise 3: decryption inverts encryption; a keyed hash depends on each of its values (chapter 3).

const modulus = 2147483647

func TestModulus(t *testing.T) {
	if impl.Modulus != modulus {
		t.Errorf("Modulus = %d, want %d", impl.Modulus, modulus)
	}
}

// wantHash computes the hash with numbers of any size, without the functions of the package.
func wantHash(values []int) int {
	accumulator, m := big.NewInt(11), big.NewInt(modulus)
	for _, v := range values {
		// Mod of big.Int is never negative.
		remainder := new(big.Int).Mod(big.NewInt(int64(v)), m)
		accumulator.Mul(accumulator, big.NewInt(1000003))
		accumulator.Add(accumulator, remainder)
		accumulator.Add(accumulator, big.NewInt(13))
		accumulator.Mod(accumulator, m)
	}
	return int(accumulator.Int64())
}

func wantKeyedHash(key int, values []int) int {
	return wantHash(slices.Concat([]int{key}, values, []int{key}))
}

// oddInts are numbers at the ends of the ranges that matter to a hash.
var oddInts = []int{
	0, 1, 2, 5, 10, 13, 255, 256, 1000003, maxValue - 1, maxValue, maxValue + 1,
	modulus - 13, modulus - 2, modulus - 1, modulus, modulus + 1, modulus + 5, 2 * modulus, 3*modulus - 1,
	1 << 32, 1<<32 + 5, 1 << 62, math.MaxInt - 1, math.MaxInt,
	-1, -2, -5, -13, -256, -modulus + 1, -modulus, -modulus - 1, -2 * modulus, -maxValue - 1, -1 << 32, math.MinInt + 1, math.MinInt,
}

// intLists are sequences of no values, of one and of several.
func intLists() [][]int {
	lists := [][]int{
		nil, {}, {0, 0}, {0, 0, 0}, {1, 2}, {2, 1}, {1, 2, 3}, {3, 2, 1}, {-5, 5}, {5, -5}, {-1, -1, -1},
		{modulus, modulus - 1}, {math.MinInt, math.MaxInt}, {math.MaxInt, math.MinInt, 0, -1},
		slices.Clone(oddInts), slices.Repeat([]int{modulus - 1}, 300), slices.Repeat([]int{-1, maxValue, 7}, 200),
	}
	for _, v := range oddInts {
		lists = append(lists, []int{v})
	}
	return lists
}

func TestHash(t *testing.T) {
	cases := []struct {
		values []int
		want   int
	}{
		{nil, 11},
		{[]int{}, 11},
		{[]int{0}, 11000046},
		{[]int{5}, 11000051},
		{[]int{-1}, 11000045},
		{[]int{modulus - 1}, 11000045},
		{[]int{modulus}, 11000046},
		{[]int{-modulus}, 11000046},
		{[]int{modulus + 5}, 11000051},
		{[]int{maxValue}, 1431104191},
		{[]int{math.MinInt}, 11000044},
		{[]int{math.MaxInt}, 11000047},
		{[]int{0, 0}, 667760217},
		{[]int{1, 2}, 668760222},
		{[]int{2, 1}, 669760224},
		{[]int{-5, 5}, 662760207},
		{[]int{1, 2, 3}, 1460866530},
	}
	for _, c := range cases {
		if got := impl.Hash(c.values); got != c.want {
			t.Errorf("Hash(%v) = %d, want %d", c.values, got, c.want)
		}
	}
	for _, list := range intLists() {
		if got, want := impl.Hash(list), wantHash(list); got != want {
			t.Errorf("Hash(%v) = %d, want %d", list, got, want)
		}
	}
}

// hashToZero is a last value that brings the hash of the values before it to 0.
func hashToZero(values []int) int {
	return modulus - wantHash(append(slices.Clone(values), 0))
}

func TestHashStaysInItsRange(t *testing.T) {
	for _, list := range intLists() {
		if got := impl.Hash(list); got < 0 || got >= modulus {
			t.Errorf("Hash(%v) = %d, want 0 to Modulus-1", list, got)
		}
		last := hashToZero(list)
		if got := impl.Hash(slices.Concat(list, []int{last})); got != 0 {
			t.Errorf("Hash(%v, %d) = %d, want 0", list, last, got)
		}
		if got := impl.Hash(slices.Concat(list, []int{last - 1})); got != modulus-1 {
			t.Errorf("Hash(%v, %d) = %d, want Modulus-1", list, last-1, got)
		}
	}
}

// sameRemainder are numbers, some of them negative, that a hash does not tell from v.
func sameRemainder(v int) []int {
	remainder := (v%modulus + modulus) % modulus
	return []int{remainder, remainder - modulus, remainder + modulus, remainder + 1000*modulus, remainder - 1000*modulus}
}

func TestHashCountsRemaindersOnly(t *testing.T) {
	for _, v := range oddInts {
		for _, same := range sameRemainder(v) {
			for _, pair := range [][2][]int{{{v}, {same}}, {{v, 4}, {same, 4}}, {{4, v}, {4, same}}, {{4, v, -9}, {4, same, -9}}} {
				if a, b := impl.Hash(pair[0]), impl.Hash(pair[1]); a != b {
					t.Errorf("Hash(%v) = %d, but Hash(%v) = %d", pair[0], a, pair[1], b)
				}
				if a, b := impl.KeyedHash(v, pair[0]), impl.KeyedHash(same, pair[1]); a != b {
					t.Errorf("KeyedHash(%d, %v) = %d, but KeyedHash(%d, %v) = %d", v, pair[0], a, same, pair[1], b)
				}
			}
		}
	}
}

func TestKeyedHash(t *testing.T) {
	if got := impl.KeyedHash(0, nil); got != 667760217 {
		t.Errorf("KeyedHash(0, nil) = %d, want 667760217", got)
	}
	if got := impl.KeyedHash(0, []int{0}); got != 32762367 {
		t.Errorf("KeyedHash(0, [0]) = %d, want 32762367", got)
	}
	for _, key := range oddInts {
		for _, list := range intLists() {
			got := impl.KeyedHash(key, list)
			if want := wantKeyedHash(key, list); got != want {
				t.Errorf("KeyedHash(%d, %v) = %d, want %d", key, list, got, want)
			}
			if want := impl.Hash(slices.Concat([]int{key}, list, []int{key})); got != want {
				t.Errorf("KeyedHash(%d, %v) = %d, but Hash of key, values..., key is %d", key, list, got, want)
			}
		}
	}
}

// changes are what a number may be moved by so that its remainder modulo Modulus changes.
var changes = []int{1, -1, 2, 13, 255, 256, 1 << 16, 1 << 30, -1 << 30, modulus - 1, 1 - modulus, modulus + 1, 1 << 31}

func TestKeyedHashDependsOnEachValue(t *testing.T) {
	lists := [][]int{{0}, {5}, {-5}, {modulus}, {1, 2}, {0, 0, 0}, {9, -8, modulus - 1, maxValue, 7}, {-maxValue, 0, 1 << 40}, slices.Repeat([]int{3}, 60)}
	for _, key := range []int{0, 1, 77, modulus - 1, modulus, -1, maxValue, math.MinInt, math.MaxInt} {
		for _, list := range lists {
			before := impl.KeyedHash(key, list)
			for i := range list {
				for _, change := range changes {
					changed := slices.Clone(list)
					changed[i] += change
					if impl.KeyedHash(key, changed) == before {
						t.Errorf("KeyedHash(%d, %v) is the same with %d at index %d", key, list, changed[i], i)
					}
				}
			}
		}
	}
}

func TestKeyedHashDependsOnTheKey(t *testing.T) {
	for _, key := range []int{0, 1, 77, modulus - 2, -1, -maxValue, maxValue} {
		for _, list := range [][]int{nil, {0}, {5}, {1, 2, 3}, {-1, maxValue}} {
			before := impl.KeyedHash(key, list)
			for _, change := range changes {
				if impl.KeyedHash(key+change, list) == before {
					t.Errorf("KeyedHash(%d, %v) is the same with the key %d", key, list, key+change)
				}
			}
		}
	}
}

func TestKeyedHashDependsOnOrderAndLength(t *testing.T) {
	lists := [][]int{nil, {0}, {0, 0}, {0, 0, 0}, {1, 2}, {2, 1}, {1, 2, 3}, {1, 3, 2}, {2, 1, 3}, {3, 2, 1}, {1, 2, 0}, {0, 1, 2}}
	for i, a := range lists {
		for _, b := range lists[:i] {
			if impl.KeyedHash(77, a) == impl.KeyedHash(77, b) {
				t.Errorf("KeyedHash(77, %v) is KeyedHash(77, %v)", a, b)
			}
		}
	}
}

func TestIsValidKey(t *testing.T) {
	for _, key := range []int{1, 2, 77, 1 << 30, modulus - 2, modulus - 1} {
		if !impl.IsValidKey(key) {
			t.Errorf("IsValidKey(%d) = false, want true", key)
		}
	}
	for _, key := range []int{0, -1, -77, 1 - modulus, -modulus, modulus, modulus + 1, 1 << 31, 1 << 32, 1<<32 + 1, maxValue, math.MaxInt, math.MinInt, math.MinInt + 1} {
		if impl.IsValidKey(key) {
			t.Errorf("IsValidKey(%d) = true, want false", key)
		}
	}
}

func allBytes() []byte {
	b := make([]byte, 256)
	for i := range b {
		b[i] = byte(i)
	}
	return b
}

// byteLists are plaintexts, ciphertexts and labels of several lengths.
func byteLists() [][]byte {
	return [][]byte{
		nil, {}, {0}, {1}, {127}, {128}, {255}, {0, 0}, {0, 255}, {255, 0}, {255, 255, 255}, []byte("hello"), []byte("h\u00e9llo\x80\xff"),
		allBytes(), slices.Repeat([]byte{0}, 700), slices.Repeat([]byte{255}, 300),
	}
}

func TestBytesToInts(t *testing.T) {
	cases := []struct {
		b    []byte
		want []int
	}{
		{nil, []int{0}},
		{[]byte{}, []int{0}},
		{[]byte{0}, []int{1, 0}},
		{[]byte{255}, []int{1, 255}},
		{[]byte{9, 8}, []int{2, 9, 8}},
		{[]byte{127, 128, 129}, []int{3, 127, 128, 129}},
		{[]byte("ab"), []int{2, 97, 98}},
	}
	for _, c := range cases {
		if got := impl.BytesToInts(c.b); !slices.Equal(got, c.want) {
			t.Errorf("BytesToInts(%v) = %v, want %v", c.b, got, c.want)
		}
	}
	for _, b := range byteLists() {
		got := impl.BytesToInts(b)
		if len(got) != len(b)+1 || got[0] != len(b) {
			t.Errorf("BytesToInts(%v) = %v, want the length %d first", b, got, len(b))
			continue
		}
		for i, c := range b {
			if got[i+1] != int(c) {
				t.Errorf("BytesToInts(%v)[%d] = %d, want %d", b, i+1, got[i+1], c)
			}
		}
	}
}

func TestEncryptKnownStreams(t *testing.T) {
	cases := []struct {
		key    int
		stream []byte
	}{
		{0, []byte{255, 66, 133, 200, 11, 78}},
		{1, []byte{90, 157, 224, 35, 102, 169}},
		{77, []byte{145, 212, 23, 90, 157, 224}},
		{-1, []byte{163, 230, 41, 108, 175, 242}},
		{modulus, []byte{255, 66, 133, 200, 11, 78}},
		{math.MinInt, []byte{71, 138, 205, 16, 83, 150}},
		{math.MaxInt, []byte{90, 157, 224, 35, 102, 169}},
	}
	for _, c := range cases {
		zeros := make([]byte, len(c.stream))
		if got := impl.Encrypt(c.key, zeros); !slices.Equal(got, c.stream) {
			t.Errorf("Encrypt(%d, %v) = %v, want %v", c.key, zeros, got, c.stream)
		}
		if got := impl.Decrypt(c.key, c.stream); !slices.Equal(got, zeros) {
			t.Errorf("Decrypt(%d, %v) = %v, want %v", c.key, c.stream, got, zeros)
		}
	}
}

func TestEncryptAndDecryptEachByte(t *testing.T) {
	for _, key := range oddInts {
		for _, b := range byteLists() {
			encrypted, decrypted := impl.Encrypt(key, b), impl.Decrypt(key, b)
			if len(encrypted) != len(b) || len(decrypted) != len(b) {
				t.Errorf("Encrypt and Decrypt of %d bytes with key %d have %d and %d bytes", len(b), key, len(encrypted), len(decrypted))
				continue
			}
			for i, c := range b {
				shift := wantKeyedHash(key, []int{i}) % 256
				if want := (int(c) + shift) % 256; int(encrypted[i]) != want {
					t.Errorf("Encrypt(%d, %v)[%d] = %d, want %d", key, b, i, encrypted[i], want)
				}
				if want := (int(c) + 256 - shift) % 256; int(decrypted[i]) != want {
					t.Errorf("Decrypt(%d, %v)[%d] = %d, want %d", key, b, i, decrypted[i], want)
				}
			}
		}
	}
}

func TestDecryptInvertsEncrypt(t *testing.T) {
	for _, key := range append(slices.Clone(oddInts), 3, 77, 78, 1000, 123456789) {
		for _, b := range byteLists() {
			if got := impl.Decrypt(key, impl.Encrypt(key, b)); !slices.Equal(got, b) {
				t.Errorf("Decrypt(%d, Encrypt(%d, %v)) = %v", key, key, b, got)
			}
			if got := impl.Encrypt(key, impl.Decrypt(key, b)); !slices.Equal(got, b) {
				t.Errorf("Encrypt(%d, Decrypt(%d, %v)) = %v", key, key, b, got)
			}
		}
	}
}

func TestEncryptDependsOnTheKey(t *testing.T) {
	b := []byte("hello")
	for key := range 50 {
		c := impl.Encrypt(key, b)
		if slices.Equal(c, b) || slices.Equal(impl.Decrypt(key+1, c), b) || slices.Equal(impl.Decrypt(-key-1, c), b) {
			t.Errorf("Encrypt(%d, %v) = %v is read without the key", key, b, c)
		}
	}
}

func TestDeriveFromString(t *testing.T) {
	labels := []string{"", "a", "b", "ab", "ba", "label", "\x00", "\x00\x00", "\xff\x80", "h\u00e9", "\U0001f600", string(allBytes()), strings.Repeat("long ", 100)}
	for _, label := range labels {
		values := []int{len(label)}
		for _, c := range []byte(label) {
			values = append(values, int(c))
		}
		for _, key := range oddInts {
			got := impl.DeriveFromString(key, label)
			if want := max(1, wantKeyedHash(key, values)); got != want {
				t.Errorf("DeriveFromString(%d, %q) = %d, want %d", key, label, got, want)
			}
			if !impl.IsValidKey(got) {
				t.Errorf("DeriveFromString(%d, %q) = %d is no valid key", key, label, got)
			}
		}
	}
	if got, want := impl.DeriveFromString(5, "ab"), impl.KeyedHash(5, []int{2, 97, 98}); got != want || got != 1905036959 {
		t.Errorf("DeriveFromString(5, \"ab\") = %d, want %d", got, want)
	}
}

func TestDeriveFromStringIsNeverZero(t *testing.T) {
	// each key takes the keyed hash of its label to 0
	cases := []struct {
		key   int
		label string
	}{
		{1310415589, ""},
		{1310415589 - modulus, ""},
		{1465621127, "a"},
		{916074962, "ab"},
		{916074962 + modulus, "ab"},
		{971690925, "label"},
		{293453469, "\xff\x00"},
		{965377503, string(allBytes())},
	}
	for _, c := range cases {
		if got := impl.KeyedHash(c.key, impl.BytesToInts([]byte(c.label))); got != 0 {
			t.Errorf("KeyedHash(%d, BytesToInts(%q)) = %d, want 0", c.key, c.label, got)
		}
		if got := impl.DeriveFromString(c.key, c.label); got != 1 {
			t.Errorf("DeriveFromString(%d, %q) = %d, want 1", c.key, c.label, got)
		}
	}
}

func TestCryptoLeavesItsArgumentsAlone(t *testing.T) {
	for _, list := range intLists() {
		checkResult(t, fmt.Sprintf("Hash(%v)", list), func(values []int) []int { return []int{impl.Hash(values)} }, list)
		for _, key := range []int{0, 77, -1} {
			checkResult(t, fmt.Sprintf("KeyedHash(%d, %v)", key, list), func(values []int) []int { return []int{impl.KeyedHash(key, values)} }, list)
		}
		checkResult(t, fmt.Sprintf("EqualInts(%v)", list), func(values []int) []int {
			impl.EqualInts(values, values)
			return nil
		}, list)
	}
	for _, b := range byteLists() {
		checkResult(t, fmt.Sprintf("BytesToInts(%v)", b), impl.BytesToInts, b)
		for _, key := range []int{0, 77, -1} {
			checkResult(t, fmt.Sprintf("Encrypt(%d, %v)", key, b), func(b []byte) []byte { return impl.Encrypt(key, b) }, b)
			checkResult(t, fmt.Sprintf("Decrypt(%d, %v)", key, b), func(b []byte) []byte { return impl.Decrypt(key, b) }, b)
		}
	}
}

func TestEqualInts(t *testing.T) {
	cases := []struct {
		a, b []int
		want bool
	}{
		{nil, nil, true},
		{nil, []int{}, true},
		{[]int{}, []int{}, true},
		{[]int{0}, nil, false},
		{[]int{0}, []int{0}, true},
		{[]int{0}, []int{1}, false},
		{[]int{0}, []int{0, 0}, false},
		{[]int{5, 300}, []int{5, 300}, true},
		{[]int{5, 300}, []int{300, 5}, false},
		{[]int{5, 300}, []int{5}, false},
		{[]int{1, 2, 3}, []int{0, 2, 3}, false},
		{[]int{1, 2, 3}, []int{1, 0, 3}, false},
		{[]int{1, 2, 3}, []int{1, 2, 4}, false},
		{[]int{-1}, []int{1}, false},
		{[]int{-1, maxValue + 1}, []int{-1, maxValue + 1}, true},
		// equal in their lowest 8 or 32 bits only
		{[]int{1}, []int{257}, false},
		{[]int{1}, []int{1 + 1<<32}, false},
		{[]int{math.MinInt}, []int{math.MinInt}, true},
		{[]int{math.MinInt}, []int{math.MaxInt}, false},
		{[]int{math.MinInt}, []int{0}, false},
	}
	for _, c := range cases {
		if got := impl.EqualInts(c.a, c.b); got != c.want {
			t.Errorf("EqualInts(%v, %v) = %v, want %v", c.a, c.b, got, c.want)
		}
		if got := impl.EqualInts(c.b, c.a); got != c.want {
			t.Errorf("EqualInts(%v, %v) = %v, want %v", c.b, c.a, got, c.want)
		}
	}
	whole := []int{1, 2, 3, 1, 2, 4}
	if !impl.EqualInts(whole[:2], whole[3:5]) || impl.EqualInts(whole[:3], whole[3:]) {
		t.Error("EqualInts of two parts of one array")
	}
}
