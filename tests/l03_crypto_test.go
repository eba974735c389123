package tests

import (
	"math"
	"testing"

	"loop.example/g00511/impl"
)

func TestEqualInts(t *testing.T) {
	for _, c := range []struct {
		a, b []int
		want bool
	}{
		{nil, nil, true}, {nil, []int{}, true}, {[]int{}, nil, true}, {[]int{}, []int{}, true},
		{[]int{0}, []int{0}, true}, {[]int{5, 300}, []int{5, 300}, true},
		{[]int{math.MinInt, math.MaxInt}, []int{math.MinInt, math.MaxInt}, true},
		{nil, []int{0}, false}, {[]int{0}, nil, false}, {[]int{0}, []int{0, 0}, false},
		{[]int{5, 300}, []int{5}, false}, {[]int{5}, []int{5, 300}, false},
		{[]int{5, 300}, []int{300, 5}, false}, {[]int{5, 300}, []int{5, 301}, false}, {[]int{4, 300}, []int{5, 300}, false},
		{[]int{1, 2, 3}, []int{1, 0, 3}, false}, {[]int{1}, []int{-1}, false},
		// differences that no byte and no 32-bit integer shows
		{[]int{1}, []int{257}, false}, {[]int{1}, []int{1<<32 + 1}, false}, {[]int{math.MinInt}, []int{0}, false},
	} {
		if got := impl.EqualInts(c.a, c.b); got != c.want {
			t.Errorf("EqualInts(%v, %v) is %v", c.a, c.b, got)
		}
	}
}
