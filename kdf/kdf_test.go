package kdf_test

import (
	"bytes"
	"crypto/sha256"
	"encoding/hex"
	"math"
	"strings"
	"testing"

	"palfrey/api"
	"palfrey/blake"
	"palfrey/kdf"
)

// counting is the key 0, 1, 2 and so on.
func counting() api.Key {
	var k api.Key
	for i := range k {
		k[i] = byte(i)
	}
	return k
}

// P3.1
func TestDraw(t *testing.T) {
	for _, salt := range []api.Key{{}, counting(), {31: 1}} {
		for _, b := range [][]byte{nil, []byte("a"), bytes.Repeat([]byte{3}, 64), bytes.Repeat([]byte{4}, 100)} {
			want, e := blake.Mac(salt[:], b)
			if got := kdf.Draw(salt, b); e != api.OK || got != want {
				t.Error(salt, len(b))
			}
		}
	}
	if kdf.Draw(api.Key{}, nil) == blake.Sum(nil) {
		t.Error("a salt of zeros is no salt")
	}
}

// P3.2: the wanted bytes were computed by another implementation.
func TestSpread(t *testing.T) {
	k := counting()
	got, e := kdf.Spread(k, "turn", 100)
	if e != api.OK || hex.EncodeToString(got) != "e21be24c9351c659c5e7d0a508ea24641d02ddc80f32006125102ee0da268ee3a03ae34d1df070a990c73601c1de1e328b074a934172486f9d5ac60bff04e7b2d7b0836831a1e5a5af1b7cc453e3425bdb9c3c335a9eebcc6f4e3fb145238d98b9bff846" {
		t.Errorf("%x %v", got, e)
	}
	got, e = kdf.Spread(k, "turn", 2000)
	sum := sha256.Sum256(got)
	if e != api.OK || len(got) != 2000 || hex.EncodeToString(sum[:]) != "5fc9db8f1dd8b22be91b9c906d8bb370727d9a05c827483622fd8c44a0626f9f" {
		t.Errorf("%x %v", sum, e)
	}
	got, e = kdf.Spread(k, "", 33)
	if e != api.OK || hex.EncodeToString(got) != "09bc37a9299f3c678db55bc9964eaae34f83b16a5dca296eb36c95a6837a592421" {
		t.Errorf("%x %v", got, e)
	}
	got, e = kdf.Spread(k, strings.Repeat("x", 200), 40)
	if e != api.OK || hex.EncodeToString(got) != "203de6b68f6d6cc78204310009b2b01477b09591b4f128005094f44139b165b0577cd3fcc16315fa" {
		t.Errorf("%x %v", got, e)
	}
}

// P3.2
func TestSpreadEdges(t *testing.T) {
	k := counting()
	for _, many := range []int{0, 1, 31, 32, 33, 64, 1999, 2000} {
		if got, e := kdf.Spread(k, "p", many); e != api.OK || len(got) != many {
			t.Error(many, len(got), e)
		}
	}
	for _, many := range []int{-1, 2001, math.MinInt, math.MaxInt} {
		if got, e := kdf.Spread(k, "p", many); e != api.ErrArg || len(got) != 0 {
			t.Error(many, len(got), e)
		}
	}
}

// P3.3
func TestKeys(t *testing.T) {
	k := counting()
	purposes := []string{"a", "b", "", "turn", "a"}
	got := kdf.Keys(k, purposes...)
	if len(got) != len(purposes) {
		t.Fatal(len(got))
	}
	for i, p := range purposes {
		want, _ := kdf.Spread(k, p, 32)
		if !bytes.Equal(got[i][:], want) {
			t.Error(i)
		}
	}
	if got[0] != got[4] || got[0] == got[1] || got[0] == got[2] || got[1] == got[3] {
		t.Error("keys of purposes")
	}
	if len(kdf.Keys(k)) != 0 {
		t.Error("keys for no purpose")
	}
}

// P3.4
func TestPrefix(t *testing.T) {
	k := counting()
	long, _ := kdf.Spread(k, "purpose", 2000)
	for many := range 2001 {
		short, e := kdf.Spread(k, "purpose", many)
		if e != api.OK || !bytes.Equal(short, long[:many]) {
			t.Fatal(many, e)
		}
	}
}

// P3.4
func TestKeysAreIndependent(t *testing.T) {
	k := counting()
	if kdf.Keys(k, "a", "b")[1] != kdf.Keys(k, "b")[0] || kdf.Keys(k, "a", "b")[0] != kdf.Keys(k, "a", "c", "d")[0] {
		t.Error("a key depends on the other purposes")
	}
	if kdf.Keys(k, "b")[0] == kdf.Keys(api.Key{}, "b")[0] {
		t.Error("a key does not depend on the key")
	}
}

// P3.4: a result belongs to the caller, whatever is appended to it.
func TestResultsAreNew(t *testing.T) {
	k := counting()
	a, _ := kdf.Spread(k, "p", 5)
	_ = append(a, 1, 2, 3)
	a[0] ^= 1
	b, _ := kdf.Spread(k, "p", 5)
	if bytes.Equal(a, b) {
		t.Error("results share memory")
	}
}
