package blake_test

import (
	"bytes"
	"encoding/hex"
	"testing"

	"palfrey/api"
	"palfrey/blake"
)

func input(n int) []byte {
	b := make([]byte, n)
	for i := range b {
		b[i] = byte((i*7 + 3) % 251)
	}
	return b
}

func key(n int) []byte {
	b := make([]byte, n)
	for i := range b {
		b[i] = byte(200 - i)
	}
	return b
}

// vectors were computed by another implementation of BLAKE2s, for key(keyed) and input(size).
var vectors = []struct {
	keyed, size int
	want        string
}{
	{0, 0, "69217a3079908094e11121d042354a7c1f55b6482ca1a51e1b250dfd1ed0eef9"},
	{0, 1, "a28ac19d6bcbe2cd1d7de183485768d598e996b07889b9b11f418cb1b4a4fb0d"},
	{0, 2, "7003138ee5c7d153bfd79e9ce6c76f5bfa17c23abe2ae017f24e4d7854f80939"},
	{0, 63, "0437522bc12fd98cc605c1b2cc63a5bbde63de77adcef8795b94b0012d5069bd"},
	{0, 64, "f702c57f6c760be51ef340442aeca75d4f564703fc3ab07d1d4f68ac9bcc95fb"},
	{0, 65, "5bb54d2022e10d06d83d35bc365d8c1972ad38b80a76d1c790871afd85fffd7e"},
	{0, 127, "6a0b500d9bd045ef368cb6dd65e4de4dc5bcb75f4f0dcc6e0384e6df90cce1bb"},
	{0, 128, "6f7d8f95de6c4e088d588b7091cfb6438f47e7c5f40c62f8264f8d873ea9cb80"},
	{0, 129, "6cb140d40f925727b9c8c1ce5bbacc9fd3d8012aa52f265dc202ba2aea161485"},
	{0, 192, "da1d2e556dcf0d20e730a686e63c30d27fd4d2fb1d31f461039746d3662fa245"},
	{0, 255, "8fd2facc1c7c0b5639b8ad8931d033d71c496c26b82b3f2d82da810e2a862ddf"},
	{0, 1000, "d3e9062f2fe816b3125a7345d293a34439e4bdfaeb7e39dba83d66230cae5f0b"},
	{1, 0, "198548c1d818c2597c32d5e6d674ca1a01963cb989f287f3b8e6411729fbd89f"},
	{1, 1, "38abf19b2ffefa60916a4e9a1dac86a0cd3a31bf6a46f54962fcd0cb7dbfb149"},
	{1, 2, "14f674f17fc31bdf3581a60ecd0353e8522350bdd5be904a0bd6e0893a57b75d"},
	{1, 63, "379e017e3278cea9bc8df6f65ca541f766b2532523adc68443d060439c6b7832"},
	{1, 64, "d3c4299997ed141386fee9a5d608e8c19be208edf4578e3b5e9e7c12c19fb782"},
	{1, 65, "988300d0317644c1549b49324f96cf07338cb42c1963d81d87b2f363f4e476b7"},
	{1, 127, "1665ed9c62a2d5b1af396a6730c8bcc8f8056a784d807e8ea46a134fc4004c09"},
	{1, 128, "789817f92c3f280d9479245158d2f02a6a6c93cd7c4578623bbb54924a9e53ab"},
	{1, 129, "30fe51ad0524aab4f68718b998901d34b36fd71f72b1c294c1a8ce018b139b9d"},
	{1, 192, "e64bf9d9de5d4f1c2d8ad932060f8e3c5aeda33dee436eb16c4b408c706232d9"},
	{1, 255, "867abcf8d9c61ebf7b8bf64818d54415afd26cd11bbbfa8d8eed9a974525e784"},
	{1, 1000, "5333aa62ca39f8e3139958dad688d12152a0e176ce081955f11517bec757e494"},
	{16, 0, "0e20dd623b503399eaa488a6ee902eff50b13bc0ae6864fc37a28321944437e4"},
	{16, 1, "2d7d7ba59975120caaf9097c827c51df1d53df6b2ac5b3c27b76ef923b937b38"},
	{16, 2, "2a6da51a6299bc87e9035b73e70b98e576de282350f889e978fbe01e232662a5"},
	{16, 63, "5d898140c07a3d7754e1acc79303627f8cb62ab4a628dda3b636ba6fa7385d68"},
	{16, 64, "991d180d1fb0c91076c8bdead9137fe54437da5b284297cbba299be2bd0474d7"},
	{16, 65, "3913d5ff823f01b0dd3d48d5c7b4496b89fa25841482ee54ddb1e8d6f87a2222"},
	{16, 127, "b88ade918b9d96ade06edb7ccfbe0662b5ce6de764c88dbd5656fbfb01fed08d"},
	{16, 128, "5b67984bb9c911fa706def1ea60769d58f80c1ffc01d0f0915b409260a4b0073"},
	{16, 129, "274c9dc8a915a6550c17eddd596cd7f716c3abbb1654adfd6f691a6afd848f02"},
	{16, 192, "db09a58f12afa7e2c445a9a8f9e92770392dff662da337417e84615e1a3b2f63"},
	{16, 255, "d313bf8e8caecfe1cc17504ef88ed068f34f4851fc0c72d7f41cf187a6d50955"},
	{16, 1000, "7d1256cbbca19ce5d7196e9ca768902d1c840e264648db319c0487ae1ae92bc9"},
	{31, 0, "f42dea8d5959ca413be506d70c158cbf988a5e633d975205d3413982f4ccaed2"},
	{31, 1, "276a22ef56210925b5e44d7d307fb52f12dd281a23ef7eab500356fb5251441a"},
	{31, 2, "38b10c96cd7c2ff3ca491469b2efa1740ee302e53872000ea6a07692e430d09b"},
	{31, 63, "ea4f34ff1a6f6fdc7260cb80eb851e88098eabb9d64dcbbf2b2da297761b241b"},
	{31, 64, "a845408d87cac293a215d37cf8da45de88901460105eebb5b70b2b9547075e12"},
	{31, 65, "8c0e25f106b8d3dd2db4eea3afbf2ed92f95d56fe63c20fcef4e7d233290772c"},
	{31, 127, "722a0c0a187c6744d3c6f3c55c4ddba3ac2ccc7a305e1ae9285a8bb66729ac90"},
	{31, 128, "fd0a21b57be5159fd2714390dd5ff9c967f60917b9ab5b5f278e847dcd6f54b5"},
	{31, 129, "8c3bf3c7b3084bd912e8db205bf96a41f6afa808f22e38858abb4f90b85d975e"},
	{31, 192, "b52725a9198c9b933370a641815ade3409669baf14d7025885a18bcddd4cabe8"},
	{31, 255, "1e7ebd3ce419122e7e952eca3c0a28958f4da0a01c7915dd17a1b3e8c751c2b2"},
	{31, 1000, "35221655cd1cf4b5bb45018beecba6532dbc84131cbd48706c55660690bad3ad"},
	{32, 0, "ff534ad56f462e143d8709960a073d2e649331bda5373a24afc2aa0761cf1003"},
	{32, 1, "acb0ab0919451a19f9f10cc7f9aea5c58e8d7d09224d55239060e6ecb0cabef0"},
	{32, 2, "6cbf3b7c12d5b9a76bfa0a2204602421140ba7ddabbc13cb8d32d45b4db08e78"},
	{32, 63, "6c494dfab422a1f6f9ff56615b45c3bdaafe4d6ed38dbfe64c9f910f169bce8a"},
	{32, 64, "e8344f9f15c4806e3a1571d9e53b470364935ed138daf3cbff766cd188287421"},
	{32, 65, "2095014b37575d342f2b2bae0fad0e9bd007f40db635a6707d78a90be78d2200"},
	{32, 127, "d6386855a07be2d91d69885c6a541abdd0112ee625064bafce066d9b981dd783"},
	{32, 128, "dcb229d36ffe8d073f0ea640442f2e3c42b24eb9efe17bb7ee0cd42d50d6faaa"},
	{32, 129, "a22e1466a5a5c2a5db3b4d8db94cba267b294e7ded3444d471117860d5b38262"},
	{32, 192, "cd47f0368d8afab8cd91255d1c931aee75d2bbf16c7350baf52b46c1ab5ae78d"},
	{32, 255, "083076cf2ff13c1e2972981546d1f6a06c285baeb9d78e3a36735d096735dc10"},
	{32, 1000, "96377269f01db4df3fc44af1c7bec6053581fa9a157237a2137c44947143f6d6"},
}

// P2.1
func TestVectors(t *testing.T) {
	for _, c := range vectors {
		k, b := key(c.keyed), input(c.size)
		got, e := blake.Mac(k, b)
		if e != api.OK || hex.EncodeToString(got[:]) != c.want {
			t.Errorf("key of %d, input of %d: %x %v", c.keyed, c.size, got, e)
		}
		if c.keyed == 0 && blake.Sum(b) != got {
			t.Errorf("Sum of %d", c.size)
		}
		if !bytes.Equal(k, key(c.keyed)) || !bytes.Equal(b, input(c.size)) {
			t.Error("an argument was changed")
		}
	}
}

// P2.1: in the manner of the self-test of RFC 7693, appendix E, for hashes of 32 bytes alone; another implementation told the result.
func TestSequence(t *testing.T) {
	sequence := func(size int, seed uint32) []byte {
		out := make([]byte, size)
		a, b := 0xDEAD4BAD*seed, uint32(1)
		for i := range out {
			a, b = b, a+b
			out[i] = byte(b >> 24)
		}
		return out
	}
	var all []byte
	for _, size := range []int{0, 3, 64, 65, 255, 1024} {
		in := sequence(size, uint32(size))
		sum := blake.Sum(in)
		all = append(all, sum[:]...)
		tag, e := blake.Mac(sequence(32, 32), in)
		if e != api.OK {
			t.Fatal(e)
		}
		all = append(all, tag[:]...)
	}
	got := blake.Sum(all)
	if want := "caf4e0cc2111755c0b9672541eb947406ea171d4b62cb363cf80ab560214d804"; hex.EncodeToString(got[:]) != want {
		t.Errorf("%x", got)
	}
}

// P2.1
func TestLongKey(t *testing.T) {
	for _, n := range []int{33, 64, 65, 1000} {
		if got, e := blake.Mac(key(n), []byte("abc")); e != api.ErrArg || got != (api.Key{}) {
			t.Error(n, got, e)
		}
	}
	if _, e := blake.Mac(key(32), nil); e != api.OK {
		t.Error(e)
	}
}

// P2.1: zero bytes at the end of a key, or of the input, are not padding.
func TestPaddingTells(t *testing.T) {
	a, _ := blake.Mac([]byte{1}, nil)
	b, _ := blake.Mac([]byte{1, 0}, nil)
	c, _ := blake.Mac(nil, append([]byte{1}, make([]byte, 63)...))
	if a == b || a == c || b == c {
		t.Error("the length of the key does not tell")
	}
	if blake.Sum(nil) == blake.Sum([]byte{0}) || blake.Sum(make([]byte, 64)) == blake.Sum(make([]byte, 63)) {
		t.Error("the length of the input does not tell")
	}
}

// P2.2
func TestSum(t *testing.T) {
	got := blake.Sum([]byte("abc"))
	if hex.EncodeToString(got[:]) != "508c5e8c327c14e2e1a72ba34eeb452f37458b209ed63a294d999b4c86675982" {
		t.Errorf("%x", got)
	}
	got = blake.Sum(nil)
	if hex.EncodeToString(got[:]) != "69217a3079908094e11121d042354a7c1f55b6482ca1a51e1b250dfd1ed0eef9" {
		t.Errorf("%x", got)
	}
	if blake.Sum([]byte{}) != got {
		t.Error("nil and empty differ")
	}
}

// P2.2, P2.3
func TestCheck(t *testing.T) {
	for _, n := range []int{0, 1, 32} {
		k, b := key(n), input(70)
		tag, _ := blake.Mac(k, b)
		if e := blake.Check(k, b, tag); e != api.OK {
			t.Error(n, e)
		}
		for i := range tag {
			for bit := range 8 {
				other := tag
				other[i] ^= 1 << bit
				if e := blake.Check(k, b, other); e != api.ErrMac {
					t.Error(n, i, bit, e)
				}
			}
		}
		if e := blake.Check(k, b, api.Key{}); e != api.ErrMac {
			t.Error(e)
		}
		if e := blake.Check(k, b[:69], tag); e != api.ErrMac {
			t.Error(e)
		}
	}
	tag, _ := blake.Mac(key(32), nil)
	if e := blake.Check(key(33), nil, tag); e != api.ErrArg {
		t.Error(e)
	}
	if e := blake.Check(key(33), nil, api.Key{}); e != api.ErrArg {
		t.Error(e)
	}
	if e := blake.Check(key(31), nil, tag); e != api.ErrMac {
		t.Error(e)
	}
}

// P2.3
func TestNeighbours(t *testing.T) {
	for _, n := range []int{0, 1, 3, 63, 64, 65, 128, 130} {
		room := bytes.Repeat([]byte{0xee}, 400)
		copy(room[100:], input(n))
		b := room[100 : 100+n]
		if blake.Sum(b) != blake.Sum(input(n)) {
			t.Error("the neighbours of the bytes have an effect", n)
		}
		copy(room[300:], key(20))
		k := room[300:320]
		got, _ := blake.Mac(k, b)
		want, _ := blake.Mac(key(20), input(n))
		if got != want {
			t.Error("the neighbours of the key have an effect", n)
		}
		for i, x := range room {
			in := i >= 100 && i < 100+n || i >= 300 && i < 320
			if !in && x != 0xee {
				t.Fatal("a neighbour was changed", n, i)
			}
		}
	}
}
