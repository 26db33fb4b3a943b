package tests

import (
	"math"
	"strings"
	"testing"

	"loop.example/g00583/impl"
)

// Promise 1: integers are parsed from their decimal form (chapter 1).

const maxValue = 1000000000000

func TestMaxValue(t *testing.T) {
	if impl.MaxValue != maxValue {
		t.Errorf("MaxValue = %d, want %d", impl.MaxValue, maxValue)
	}
}

func TestFormatInt(t *testing.T) {
	cases := []struct {
		n    int
		want string
	}{
		{0, "0"},
		{7, "7"},
		{10, "10"},
		{120, "120"},
		{1000001, "1000001"},
		{-1, "-1"},
		{-3, "-3"},
		{-120, "-120"},
		{maxValue, "1000000000000"},
		{maxValue + 1, "1000000000001"},
		{-maxValue, "-1000000000000"},
		{math.MaxInt, "9223372036854775807"},
		{math.MinInt, "-9223372036854775808"},
	}
	for _, c := range cases {
		if got := impl.FormatInt(c.n); got != c.want {
			t.Errorf("FormatInt(%d) = %q, want %q", c.n, got, c.want)
		}
	}
}

func TestParseIntAccepts(t *testing.T) {
	cases := []struct {
		s    string
		want int
	}{
		{"0", 0},
		{"1", 1},
		{"9", 9},
		{"10", 10},
		{"17", 17},
		{"100", 100},
		{"1234567890", 1234567890},
		{"999999999999", maxValue - 1},
		{"1000000000000", maxValue},
	}
	for _, c := range cases {
		if n, ok := impl.ParseInt(c.s); !ok || n != c.want {
			t.Errorf("ParseInt(%q) = %d, %v, want %d, true", c.s, n, ok, c.want)
		}
	}
}

func TestParseIntRejects(t *testing.T) {
	cases := []string{
		"",
		// leading zeros
		"00", "01", "017", "0000", "001000000000000", "01000000000001",
		strings.Repeat("0", 50), strings.Repeat("0", 50) + "1",
		// signs
		"-", "+", "-0", "+0", "-1", "+1", "-17", "--1", "+-1", "1-", "1+", "-1000000000000",
		// beyond MaxValue, up to what wraps around in 64 bits
		"1000000000001", "1000000000010", "9999999999999", "10000000000000",
		"9223372036854775807", "9223372036854775808", "18446744073709551616", "18446744073709551617",
		"-9223372036854775808", "-18446744073709551615", strings.Repeat("9", 200),
		// characters other than the digits 0 to 9
		" ", " 1", "1 ", "1 2", "\t1", "1\n", "1x", "x1", "1x1", "/", ":", "a", "1.0", "1,000", "1e3", "0x10", "0b1", "1_000",
		"\x00", "1\x00", "\xff", "1\xff", "\u0661", "\uff11", "\u22121",
	}
	for _, s := range cases {
		if n, ok := impl.ParseInt(s); ok || n != 0 {
			t.Errorf("ParseInt(%q) = %d, %v, want 0, false", s, n, ok)
		}
	}
}

func TestParseIntInvertsFormatInt(t *testing.T) {
	check := func(n int) {
		s := impl.FormatInt(n)
		if got, ok := impl.ParseInt(s); !ok || got != n {
			t.Errorf("ParseInt(%q) = %d, %v, want %d, true", s, got, ok, n)
		}
		for _, bad := range []string{"0" + s, "+" + s, "-" + s, " " + s, s + " ", s + "x"} {
			if got, ok := impl.ParseInt(bad); ok || got != 0 {
				t.Errorf("ParseInt(%q) = %d, %v, want 0, false", bad, got, ok)
			}
		}
	}
	for n := range 1200 {
		check(n)
		check(maxValue - n)
	}
	for n := 1; n <= maxValue; n *= 10 {
		check(n - 1)
		check(n)
	}
	for n := 1; n <= maxValue; n *= 2 {
		check(n - 1)
		check(n)
	}
	for n := 1; n < 1200; n++ {
		for _, outside := range []int{-n, maxValue + n, math.MaxInt - n, math.MinInt + n} {
			if got, ok := impl.ParseInt(impl.FormatInt(outside)); ok || got != 0 {
				t.Errorf("ParseInt of %d = %d, %v, want 0, false", outside, got, ok)
			}
		}
	}
}

// Every short string over the digits and the characters around them is either the decimal form of a number or rejected.
func TestParseIntOfAllShortStrings(t *testing.T) {
	decimal := map[string]int{}
	for n := range 10000 {
		decimal[impl.FormatInt(n)] = n
	}
	level := []string{""}
	for range 5 {
		var next []string
		for _, s := range level {
			want, wantOK := decimal[s]
			if n, ok := impl.ParseInt(s); n != want || ok != wantOK {
				t.Errorf("ParseInt(%q) = %d, %v, want %d, %v", s, n, ok, want, wantOK)
			}
			for _, c := range "0129+-/: " {
				next = append(next, s+string(c))
			}
		}
		level = next
	}
}

func TestMinMax(t *testing.T) {
	cases := []struct{ a, b, least, greatest int }{
		{2, -1, -1, 2},
		{-1, 2, -1, 2},
		{0, 0, 0, 0},
		{5, 5, 5, 5},
		{3, 4, 3, 4},
		{-4, -3, -4, -3},
		{0, 1, 0, 1},
		{0, -1, -1, 0},
		{maxValue, maxValue + 1, maxValue, maxValue + 1},
		{math.MinInt, math.MaxInt, math.MinInt, math.MaxInt},
		{math.MaxInt, math.MinInt, math.MinInt, math.MaxInt},
		{math.MinInt, 0, math.MinInt, 0},
		{0, math.MaxInt, 0, math.MaxInt},
		{math.MinInt, math.MinInt, math.MinInt, math.MinInt},
		{math.MaxInt, math.MaxInt - 1, math.MaxInt - 1, math.MaxInt},
	}
	for _, c := range cases {
		if got := impl.Min(c.a, c.b); got != c.least {
			t.Errorf("Min(%d, %d) = %d, want %d", c.a, c.b, got, c.least)
		}
		if got := impl.Max(c.a, c.b); got != c.greatest {
			t.Errorf("Max(%d, %d) = %d, want %d", c.a, c.b, got, c.greatest)
		}
	}
}

func TestCeilDiv(t *testing.T) {
	cases := []struct{ a, b, want int }{
		// exact and inexact division
		{6, 3, 2},
		{7, 3, 3},
		{8, 3, 3},
		{9, 3, 3},
		{5, 1, 5},
		{5, 5, 1},
		{5, 6, 1},
		{1, 2, 1},
		// the ends of the ranges
		{0, 1, 0},
		{0, 5, 0},
		{0, maxValue, 0},
		{1, 1, 1},
		{1, maxValue, 1},
		{maxValue, 1, maxValue},
		{maxValue, 2, maxValue / 2},
		{maxValue, 3, 333333333334},
		{maxValue, maxValue - 1, 2},
		{maxValue, maxValue, 1},
		{maxValue - 1, maxValue, 1},
		// a out of range
		{-1, 2, 0},
		{-7, 3, 0},
		{maxValue + 1, 1, 0},
		{maxValue + 1, maxValue, 0},
		{math.MinInt, 1, 0},
		{math.MaxInt, 1, 0},
		// b out of range
		{1, 0, 0},
		{0, 0, 0},
		{7, -1, 0},
		{7, -3, 0},
		{1, maxValue + 1, 0},
		{maxValue, maxValue + 1, 0},
		{7, math.MinInt, 0},
		{7, math.MaxInt, 0},
		// both out of range
		{-1, 0, 0},
		{-6, -3, 0},
		{math.MinInt, -1, 0},
		{math.MinInt, math.MinInt, 0},
		{math.MaxInt, math.MaxInt, 0},
		{maxValue + 1, maxValue + 1, 0},
	}
	for _, c := range cases {
		if got := impl.CeilDiv(c.a, c.b); got != c.want {
			t.Errorf("CeilDiv(%d, %d) = %d, want %d", c.a, c.b, got, c.want)
		}
	}
}

// The quotient rounded up is the smallest number whose product with b reaches a.
func TestCeilDivIsTheSmallestCover(t *testing.T) {
	for a := 1; a <= 60; a++ {
		for b := 1; b <= 60; b++ {
			if q := impl.CeilDiv(a, b); q*b < a || (q-1)*b >= a {
				t.Errorf("CeilDiv(%d, %d) = %d", a, b, q)
			}
		}
	}
}

func TestMod(t *testing.T) {
	cases := []struct{ p, q, want int }{
		{15, 7, 1},
		{14, 7, 0},
		{6, 7, 6},
		{7, 7, 0},
		{0, 7, 0},
		{5, 1, 0},
		// negative p
		{-1, 7, 6},
		{-6, 7, 1},
		{-7, 7, 0},
		{-8, 7, 6},
		{-5, 1, 0},
		{-maxValue, 7, 6},
		// the ends of the ranges
		{0, 1, 0},
		{maxValue, maxValue, 0},
		{maxValue - 1, maxValue, maxValue - 1},
		{maxValue + 1, maxValue, 1},
		{-1, maxValue, maxValue - 1},
		{-maxValue, maxValue, 0},
		{math.MaxInt, 1, 0},
		{math.MaxInt, 10, 7},
		{math.MaxInt, maxValue, 36854775807},
		{math.MinInt, 1, 0},
		{math.MinInt, 2, 0},
		{math.MinInt, 10, 2},
		{math.MinInt, maxValue, 963145224192},
		// q out of range
		{3, 0, 0},
		{0, 0, 0},
		{-3, 0, 0},
		{3, -1, 0},
		{3, -7, 0},
		{-3, -7, 0},
		{3, maxValue + 1, 0},
		{-3, maxValue + 1, 0},
		{3, math.MaxInt, 0},
		{3, math.MinInt, 0},
		{math.MinInt, -1, 0},
		{math.MinInt, math.MinInt, 0},
	}
	for _, c := range cases {
		if got := impl.Mod(c.p, c.q); got != c.want {
			t.Errorf("Mod(%d, %d) = %d, want %d", c.p, c.q, got, c.want)
		}
	}
}

func TestModIsInItsRangeAndCongruent(t *testing.T) {
	for p := -100; p <= 100; p++ {
		for q := 1; q <= 30; q++ {
			if r := impl.Mod(p, q); r < 0 || r >= q || (p-r)%q != 0 {
				t.Errorf("Mod(%d, %d) = %d", p, q, r)
			}
		}
	}
}

func TestInRange(t *testing.T) {
	cases := []struct {
		n, low, high int
		want         bool
	}{
		{2, 2, 3, true},
		{3, 2, 3, true},
		{4, 2, 3, false},
		{1, 2, 3, false},
		{5, 1, 9, true},
		{5, 5, 5, true},
		{4, 5, 5, false},
		{6, 5, 5, false},
		{-2, -3, -1, true},
		{-4, -3, -1, false},
		{0, -3, -1, false},
		// an empty range
		{2, 3, 1, false},
		{3, 3, 1, false},
		{1, 3, 1, false},
		// the smallest and the greatest int
		{math.MinInt, math.MinInt, math.MaxInt, true},
		{math.MaxInt, math.MinInt, math.MaxInt, true},
		{0, math.MinInt, math.MaxInt, true},
		{math.MinInt, math.MinInt + 1, math.MaxInt, false},
		{math.MaxInt, math.MinInt, math.MaxInt - 1, false},
		{math.MinInt, 0, maxValue, false},
		{math.MaxInt, 0, maxValue, false},
		{math.MinInt, math.MaxInt, math.MinInt, false},
	}
	for _, c := range cases {
		if got := impl.InRange(c.n, c.low, c.high); got != c.want {
			t.Errorf("InRange(%d, %d, %d) = %v, want %v", c.n, c.low, c.high, got, c.want)
		}
	}
}
