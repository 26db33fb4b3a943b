package tests

import (
	"math"
	"testing"

	"loop.example/g00583/impl"
)

func TestEqualInts(t *testing.T) {
	cases := []struct {
		a, b []int
		want bool
	}{
		{nil, nil, true},
		{nil, []int{}, true},
		{[]int{}, []int{}, true},
		{[]int{0}, nil, false},
		{[]int{0}, []int{0}, true},
		{[]int{0}, []int{1}, false},
		{[]int{0}, []int{0, 0}, false},
		{[]int{5, 300}, []int{5, 300}, true},
		{[]int{5, 300}, []int{300, 5}, false},
		{[]int{5, 300}, []int{5}, false},
		{[]int{1, 2, 3}, []int{0, 2, 3}, false},
		{[]int{1, 2, 3}, []int{1, 0, 3}, false},
		{[]int{1, 2, 3}, []int{1, 2, 4}, false},
		{[]int{-1}, []int{1}, false},
		{[]int{-1, maxValue + 1}, []int{-1, maxValue + 1}, true},
		// equal in their lowest 8 or 32 bits only
		{[]int{1}, []int{257}, false},
		{[]int{1}, []int{1 + 1<<32}, false},
		{[]int{math.MinInt}, []int{math.MinInt}, true},
		{[]int{math.MinInt}, []int{math.MaxInt}, false},
		{[]int{math.MinInt}, []int{0}, false},
	}
	for _, c := range cases {
		if got := impl.EqualInts(c.a, c.b); got != c.want {
			t.Errorf("EqualInts(%v, %v) = %v, want %v", c.a, c.b, got, c.want)
		}
		if got := impl.EqualInts(c.b, c.a); got != c.want {
			t.Errorf("EqualInts(%v, %v) = %v, want %v", c.b, c.a, got, c.want)
		}
	}
	whole := []int{1, 2, 3, 1, 2, 4}
	if !impl.EqualInts(whole[:2], whole[3:5]) || impl.EqualInts(whole[:3], whole[3:]) {
		t.Error("EqualInts of two parts of one array")
	}
}
