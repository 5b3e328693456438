package field_test

import (
	"math/big"
	"math/rand"
	"testing"

	"palfrey/api"
	"palfrey/field"
)

var p = new(big.Int).Sub(new(big.Int).Lsh(big.NewInt(1), 255), big.NewInt(19))

// keyOf is a number below 2^256 in little-endian order.
func keyOf(n *big.Int) api.Key {
	var k api.Key
	n.FillBytes(k[:])
	for i := range 16 {
		k[i], k[31-i] = k[31-i], k[i]
	}
	return k
}

func bigOf(k api.Key) *big.Int {
	for i := range 16 {
		k[i], k[31-i] = k[31-i], k[i]
	}
	return new(big.Int).SetBytes(k[:])
}

func small(n int64) field.Elem { return field.Of(keyOf(big.NewInt(n))) }

// samples are the numbers around the edges, numbers whose limbs are full or empty, and others.
func samples() []*big.Int {
	var l []*big.Int
	for _, n := range []int64{0, 1, 2, 3, 9, 18, 19, 20, 37, 38, 121665} {
		l = append(l, big.NewInt(n), new(big.Int).Sub(p, big.NewInt(n+1)))
	}
	one := big.NewInt(1)
	for _, bit := range []uint{31, 32, 33, 51, 63, 64, 96, 127, 128, 191, 192, 224, 253, 254} {
		power := new(big.Int).Lsh(one, bit)
		l = append(l, power, new(big.Int).Sub(power, one), new(big.Int).Sub(p, power))
	}
	l = append(l, new(big.Int).Rsh(p, 1), new(big.Int).Add(new(big.Int).Rsh(p, 1), one))
	r := rand.New(rand.NewSource(6))
	for range 40 {
		l = append(l, new(big.Int).Rand(r, p))
	}
	return l
}

func check(t *testing.T, what string, got field.Elem, want *big.Int) {
	t.Helper()
	want = new(big.Int).Mod(want, p)
	if got.Key() != keyOf(want) {
		t.Errorf("%s: %x, not %x", what, bigOf(got.Key()), want)
	}
	// Equal numbers are equal as values, too.
	if got != field.Of(keyOf(want)) {
		t.Errorf("%s: the same number in two forms", what)
	}
}

// P6.1
func TestOfKey(t *testing.T) {
	for _, n := range samples() {
		check(t, "Of", field.Of(keyOf(n)), n)
		high := keyOf(n)
		high[31] |= 0x80
		check(t, "the highest bit", field.Of(high), n)
		if got := field.Of(high).Key(); got != keyOf(n) {
			t.Errorf("%x", got)
		}
	}
	// Numbers from p to 2^255 - 1.
	for n := range int64(19) {
		check(t, "above p", field.Of(keyOf(new(big.Int).Add(p, big.NewInt(n)))), big.NewInt(n))
	}
	all := api.Key{}
	for i := range all {
		all[i] = 255
	}
	check(t, "all bits", field.Of(all), big.NewInt(18))
	if field.Of(keyOf(p)).Key() != (api.Key{}) {
		t.Error("p is not 0")
	}
	if (field.Elem{}).Key() != (api.Key{}) || field.Of(api.Key{}) != (field.Elem{}) {
		t.Error("the zero value is not 0")
	}
	if k := field.Of(api.Key{1, 2}).Key(); k != (api.Key{1, 2}) {
		t.Error(k)
	}
}

// P6.2
func TestArithmetic(t *testing.T) {
	l := samples()
	for _, a := range l {
		for _, b := range l {
			x, y := field.Of(keyOf(a)), field.Of(keyOf(b))
			check(t, "Add", x.Add(y), new(big.Int).Add(a, b))
			check(t, "Sub", x.Sub(y), new(big.Int).Sub(a, b))
			check(t, "Mul", x.Mul(y), new(big.Int).Mul(a, b))
			check(t, "Sum", field.Sum(x, y, x), new(big.Int).Add(new(big.Int).Add(a, b), a))
			if x.Key() != keyOf(a) || y.Key() != keyOf(b) {
				t.Fatal("an argument was changed")
			}
		}
	}
}

// P6.2: products that come close to a multiple of p, where all that is carried while they are reduced counts.
func TestProductsAroundMultiples(t *testing.T) {
	r := rand.New(rand.NewSource(7))
	for n := int64(-420); n <= 420; n++ {
		for range 6 {
			a := new(big.Int).Rand(r, p)
			b := new(big.Int).Mul(big.NewInt(n), new(big.Int).ModInverse(a, p))
			b.Mod(b, p)
			check(t, "Mul", field.Of(keyOf(a)).Mul(field.Of(keyOf(b))), big.NewInt(n))
		}
	}
}

// P6.2
func TestSum(t *testing.T) {
	if field.Sum() != (field.Elem{}) {
		t.Error("the sum of none")
	}
	total := new(big.Int)
	var l []field.Elem
	for _, n := range samples() {
		total.Add(total, n)
		l = append(l, field.Of(keyOf(n)))
		check(t, "Sum", field.Sum(l...), total)
	}
	if field.Sum(l[5]) != l[5] {
		t.Error("the sum of one")
	}
}

// P6.2
func TestInv(t *testing.T) {
	for _, n := range samples() {
		want := new(big.Int).Exp(n, new(big.Int).Sub(p, big.NewInt(2)), p)
		check(t, "Inv", field.Of(keyOf(n)).Inv(), want)
	}
	if small(0).Inv() != (field.Elem{}) {
		t.Error("the inverse of 0")
	}
	if small(2).Inv().Mul(small(2)) != small(1) {
		t.Error("the example")
	}
}

// P6.3
func TestLaws(t *testing.T) {
	var l []field.Elem
	for i, n := range samples() {
		if i%3 == 0 {
			l = append(l, field.Of(keyOf(n)))
		}
	}
	one := small(1)
	for _, a := range l {
		if a != (field.Elem{}) && a.Mul(a.Inv()) != one {
			t.Error("a number times its inverse")
		}
		for _, b := range l {
			if a.Add(b) != b.Add(a) || a.Mul(b) != b.Mul(a) {
				t.Error("not commutative")
			}
			if a.Add(b).Sub(b) != a || a.Sub(b).Add(b) != a {
				t.Error("subtraction is not inverse to addition")
			}
			for _, c := range l {
				if a.Add(b).Add(c) != a.Add(b.Add(c)) || a.Mul(b).Mul(c) != a.Mul(b.Mul(c)) {
					t.Error("not associative")
				}
				if a.Mul(b.Add(c)) != a.Mul(b).Add(a.Mul(c)) {
					t.Error("not distributive")
				}
			}
		}
	}
}

func BenchmarkMul(b *testing.B) {
	x := field.Of(api.Key{1, 2, 3, 31: 0x55})
	for range b.N {
		x = x.Mul(x)
	}
}
