package chain_test

import (
	"math"
	"slices"
	"testing"

	"palfrey/api"
	"palfrey/chain"
	"palfrey/kdf"
)

var starts = []api.Key{{}, {1}, {31: 7}, {4, 5, 6}}

// P10.1
func TestStep(t *testing.T) {
	for _, c := range starts {
		message, next := chain.Step(c)
		want := kdf.Keys(c, "message", "chain")
		if message != want[0] || next != want[1] || message == next {
			t.Errorf("%x: %x %x", c, message, next)
		}
	}
}

// P10.1
func TestRoot(t *testing.T) {
	for _, root := range starts {
		for _, common := range starts {
			next, c := chain.Root(root, common)
			want := kdf.Keys(kdf.Draw(root, common[:]), "root", "chain")
			if next != want[0] || c != want[1] || next == c {
				t.Errorf("%x %x: %x %x", root, common, next, c)
			}
		}
	}
	a, _ := chain.Root(starts[1], starts[2])
	b, _ := chain.Root(starts[2], starts[1])
	if a == b {
		t.Error("root and common key are exchangeable")
	}
}

// P10.2
func TestWalk(t *testing.T) {
	for _, c := range starts {
		for many := range 9 {
			var want []api.Key
			at := c
			for range many {
				var message api.Key
				message, at = chain.Step(at)
				want = append(want, message)
			}
			got, next, e := chain.Walk(c, many)
			if e != api.OK || next != at || !slices.Equal(got, want) {
				t.Error(many, e)
			}
		}
	}
}

// P10.2
func TestWalkTooFar(t *testing.T) {
	for _, many := range []int{-1, 9, 10, math.MinInt, math.MaxInt} {
		if got, next, e := chain.Walk(api.Key{1}, many); e != api.ErrSkip || len(got) != 0 || next != (api.Key{}) {
			t.Error(many, got, next, e)
		}
	}
}

// P10.3
func TestWalkInParts(t *testing.T) {
	for _, c := range starts {
		for first := range 9 {
			for second := range 9 - first {
				whole, end, _ := chain.Walk(c, first+second)
				a, middle, _ := chain.Walk(c, first)
				b, other, _ := chain.Walk(middle, second)
				if other != end || !slices.Equal(append(a, b...), whole) {
					t.Error(first, second)
				}
			}
		}
	}
}
