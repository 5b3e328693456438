package bucket_test

import (
	"math"
	"math/rand"
	"testing"

	"palfrey/api"
	"palfrey/bucket"
)

func made(t *testing.T, most, every int) *bucket.Bucket {
	t.Helper()
	b, e := bucket.New(most, every)
	if e != api.OK || b == nil {
		t.Fatal(most, every, e)
	}
	return b
}

func take(t *testing.T, b *bucket.Bucket, now int, want api.Errno) {
	t.Helper()
	if e := b.Take(now); e != want {
		t.Errorf("Take(%d): %v, not %v", now, e, want)
	}
}

func has(t *testing.T, b *bucket.Bucket, now, want int) {
	t.Helper()
	if got := b.Has(now); got != want {
		t.Errorf("Has(%d): %d, not %d", now, got, want)
	}
}

// P18.1
func TestNew(t *testing.T) {
	for _, n := range []int{0, -1, 1001, math.MinInt, math.MaxInt} {
		for _, c := range [][2]int{{n, 5}, {5, n}, {n, n}} {
			if b, e := bucket.New(c[0], c[1]); e != api.ErrArg || b != nil {
				t.Error(c, b, e)
			}
		}
	}
	for _, c := range [][2]int{{1, 1}, {1000, 1000}, {1, 1000}, {1000, 1}, {5, 10}} {
		b := made(t, c[0], c[1])
		has(t, b, 0, c[0])
		has(t, b, 1000000, c[0])
	}
}

// P18.2
func TestHas(t *testing.T) {
	b := made(t, 3, 10)
	for range 3 {
		take(t, b, 5, api.OK)
	}
	for now, want := range map[int]int{5: 0, 9: 0, 10: 1, 19: 1, 20: 2, 29: 2, 30: 3, 31: 3, 40: 3, 1000000: 3, 4: 0, 0: 0, -1: 0, math.MinInt: 0, 1000001: 0, math.MaxInt: 0} {
		has(t, b, now, want)
		has(t, b, now, want)
	}
	// Has changed nothing: the bucket's time is still 5.
	take(t, b, 5, api.ErrRate)
	take(t, b, 4, api.ErrOld)
	take(t, b, 10, api.OK)
	// A multiple counts only if it is after the bucket's time.
	has(t, b, 10, 0)
	has(t, b, 19, 0)
	has(t, b, 20, 1)
	full := made(t, 3, 10)
	has(t, full, -1, 0)
	has(t, full, 1000001, 0)
}

// P18.3
func TestTake(t *testing.T) {
	b := made(t, 2, 10)
	take(t, b, 0, api.OK)
	take(t, b, 0, api.OK)
	take(t, b, 9, api.ErrRate)
	take(t, b, 10, api.OK)
	take(t, b, 10, api.ErrRate)
	take(t, b, 9, api.ErrOld)
	take(t, b, -1, api.ErrOld)
	take(t, b, 1000001, api.ErrArg)
	take(t, b, math.MaxInt, api.ErrArg)
	take(t, b, math.MinInt, api.ErrOld)
	has(t, b, 30, 2)
	take(t, b, 1000000, api.OK)
	take(t, b, 1000000, api.OK)
	take(t, b, 1000000, api.ErrRate)
	take(t, b, 999999, api.ErrOld)
	take(t, b, 1000001, api.ErrArg)
}

// P18.3: the time moves with ErrRate, and with no other error.
func TestTime(t *testing.T) {
	b := made(t, 1, 10)
	take(t, b, 3, api.OK)
	take(t, b, 8, api.ErrRate)
	take(t, b, 7, api.ErrOld)
	has(t, b, 7, 0)
	take(t, b, 8, api.ErrRate)
	take(t, b, 1000001, api.ErrArg)
	take(t, b, 8, api.ErrRate)
	take(t, b, 10, api.OK)
	take(t, b, 19, api.ErrRate)
	// The multiple 20 is after 19, although 10 ticks have not passed.
	take(t, b, 20, api.OK)
}

// P18.2, P18.3: tokens that would be more than most are lost.
func TestMost(t *testing.T) {
	b := made(t, 2, 1)
	take(t, b, 100, api.OK)
	has(t, b, 100, 1)
	has(t, b, 101, 2)
	has(t, b, 102, 2)
	take(t, b, 102, api.OK)
	take(t, b, 102, api.OK)
	take(t, b, 102, api.ErrRate)
}

// P18.4: against a bucket that is filled tick by tick.
func TestAgainstTicks(t *testing.T) {
	r := rand.New(rand.NewSource(18))
	for range 200 {
		most, every := 1+r.Intn(6), 1+r.Intn(12)
		b := made(t, most, every)
		time, tokens, taken := 0, most, 0
		first := -1
		for range 60 {
			for range r.Intn(1 + r.Intn(15)) {
				time++
				if time%every == 0 {
					tokens = min(tokens+1, most)
				}
			}
			if first < 0 {
				first = time
			}
			has(t, b, time, tokens)
			if tokens == 0 {
				take(t, b, time, api.ErrRate)
			} else {
				take(t, b, time, api.OK)
				tokens--
				taken++
			}
			if bound := most + time/every - first/every; taken > bound {
				t.Fatal("too many were taken", taken, bound)
			}
		}
		has(t, b, time+most*every, most)
	}
}
