package curve_test

import (
	"bytes"
	"crypto/ecdh"
	"encoding/hex"
	"math/rand"
	"testing"

	"palfrey/api"
	"palfrey/curve"
)

func keyOf(t *testing.T, s string) api.Key {
	t.Helper()
	b, err := hex.DecodeString(s)
	if err != nil || len(b) != 32 {
		t.Fatal(s, err)
	}
	return api.Key(b)
}

func random(r *rand.Rand) api.Key {
	var k api.Key
	r.Read(k[:])
	return k
}

// P7.1: RFC 7748, section 5.2.
func TestMultOfRFC(t *testing.T) {
	for _, c := range [][3]string{
		{"a546e36bf0527c9d3b16154b82465edd62144c0ac1fc5a18506a2244ba449ac4", "e6db6867583030db3594c1a424b15f7c726624ec26b3353b10a903a6d0ab1c4c", "c3da55379de9c6908e94ea4df28d084f32eccf03491c71f754b4075577a28552"},
		{"4b66e9d4d1b4673c5ad22691957d6af5c11b6421e0ea01d42ca4169e7918ba0d", "e5210f12786811d3f4b7959d0538ae2c31dbe7106fc03c3efc4cd549c715a493", "95cbde9476e8907d7aade45cb4b873f88b595a68799fa152e6f8f7647aac7957"},
	} {
		if got := curve.Mult(keyOf(t, c[0]), keyOf(t, c[1])); got != keyOf(t, c[2]) {
			t.Errorf("%x", got)
		}
	}
}

// P7.1: the iteration of RFC 7748, section 5.2.
func TestIterated(t *testing.T) {
	k, u := api.Key{9}, api.Key{9}
	for i := range 100 {
		k, u = curve.Mult(k, u), k
		if i == 0 && k != keyOf(t, "422c8e7a6227d7bca1350b3e2bb7279f7897b87bb6854b783c60e80311ae3079") {
			t.Errorf("%x", k)
		}
	}
	if k != keyOf(t, "b1a5a73158904c020866c13939dd7e1aa26852ee1d2609c92e5a8f1debe2150a") {
		t.Errorf("%x", k)
	}
}

// P7.1, P7.2: against another implementation.
func TestAgainstOther(t *testing.T) {
	r := rand.New(rand.NewSource(1))
	for range 100 {
		secret, public := random(r), random(r)
		own, err := ecdh.X25519().NewPrivateKey(secret[:])
		if err != nil {
			t.Fatal(err)
		}
		got := curve.Base(secret)
		if !bytes.Equal(got[:], own.PublicKey().Bytes()) {
			t.Errorf("Base of %x: %x", secret, got)
		}
		other, err := ecdh.X25519().NewPublicKey(public[:])
		if err != nil {
			t.Fatal(err)
		}
		want, err := own.ECDH(other)
		if err != nil {
			t.Fatal(err)
		}
		got = curve.Mult(secret, public)
		if !bytes.Equal(got[:], want) {
			t.Errorf("Mult of %x and %x: %x", secret, public, got)
		}
	}
}

// P7.1: public keys of small order, from p on, and with the highest bit, give 0.
func TestNothing(t *testing.T) {
	r := rand.New(rand.NewSource(2))
	for _, public := range []string{
		"0000000000000000000000000000000000000000000000000000000000000000",
		"0100000000000000000000000000000000000000000000000000000000000000",
		"e0eb7a7c3b41b8ae1656e3faf19fc46ada098deb9c32b1fd866205165f49b800",
		"5f9c95bca3508c24b1d0b1559c83ef5b04445cc4581c8e86d8224eddd09f1157",
		"ecffffffffffffffffffffffffffffffffffffffffffffffffffffffffffff7f",
		"edffffffffffffffffffffffffffffffffffffffffffffffffffffffffffff7f",
		"eeffffffffffffffffffffffffffffffffffffffffffffffffffffffffffff7f",
		"edffffffffffffffffffffffffffffffffffffffffffffffffffffffffffffff",
	} {
		for range 3 {
			if got := curve.Mult(random(r), keyOf(t, public)); got != (api.Key{}) {
				t.Errorf("%s: %x", public, got)
			}
		}
		if got := curve.Mult(api.Key{}, keyOf(t, public)); got != (api.Key{}) {
			t.Errorf("%s: %x", public, got)
		}
	}
	// A public key that is p + 9 counts as 9.
	if curve.Mult(api.Key{5}, keyOf(t, "f6ffffffffffffffffffffffffffffffffffffffffffffffffffffffffffff7f")) != curve.Base(api.Key{5}) {
		t.Error("p + 9 is not 9")
	}
}

// P7.2
func TestBase(t *testing.T) {
	var ones api.Key
	for i := range ones {
		ones[i] = 255
	}
	for _, secret := range []api.Key{{}, {1}, {9}, {31: 0x80}, ones} {
		own, err := ecdh.X25519().NewPrivateKey(secret[:])
		if err != nil {
			t.Fatal(err)
		}
		got := curve.Base(secret)
		if !bytes.Equal(got[:], own.PublicKey().Bytes()) || got != curve.Mult(secret, api.Key{9}) {
			t.Errorf("Base of %x: %x", secret, got)
		}
	}
}

// P7.3
func TestSymmetric(t *testing.T) {
	r := rand.New(rand.NewSource(3))
	for range 20 {
		a, b := random(r), random(r)
		one, two := curve.Mult(a, curve.Base(b)), curve.Mult(b, curve.Base(a))
		if one != two || one == (api.Key{}) {
			t.Errorf("%x %x", one, two)
		}
	}
}

// P7.3
func TestIgnoredBits(t *testing.T) {
	r := rand.New(rand.NewSource(4))
	for range 5 {
		secret, public := random(r), curve.Base(random(r))
		want := curve.Mult(secret, public)
		for _, bit := range []byte{1, 2, 4} {
			other := secret
			other[0] ^= bit
			if curve.Mult(other, public) != want {
				t.Error("a low bit of the secret has an effect", bit)
			}
		}
		for _, bit := range []byte{0x80, 0x40} {
			other := secret
			other[31] ^= bit
			if curve.Mult(other, public) != want {
				t.Error("a high bit of the secret has an effect", bit)
			}
		}
		other := public
		other[31] ^= 0x80
		if curve.Mult(secret, other) != want {
			t.Error("the highest bit of the public key has an effect")
		}
		other = secret
		other[0] ^= 8
		if curve.Mult(other, public) == want {
			t.Error("another bit of the secret has no effect")
		}
		other = secret
		other[31] ^= 0x20
		if curve.Mult(other, public) == want {
			t.Error("another bit of the secret has no effect")
		}
	}
}

func BenchmarkBase(b *testing.B) {
	k := api.Key{1}
	for range b.N {
		k = curve.Base(k)
	}
}
