package chacha_test

import (
	"bytes"
	"encoding/hex"
	"testing"

	"palfrey/api"
	"palfrey/chacha"
)

func keyAndNonce() (api.Key, [12]byte) {
	var k api.Key
	for i := range k {
		k[i] = byte(i*11 + 200)
	}
	var nonce [12]byte
	for i := range nonce {
		nonce[i] = byte(101 + i)
	}
	return k, nonce
}

// P4.1: the example of RFC 8439, section 2.3.2.
func TestBlockOfRFC(t *testing.T) {
	var k api.Key
	for i := range k {
		k[i] = byte(i)
	}
	got := chacha.Block(k, [12]byte{3: 9, 7: 74}, 1)
	if hex.EncodeToString(got[:]) != "10f1e7e4d13b5915500fdd1fa32071c4c7d1f4c733c068030422aa9ac3d46c4ed2826446079faa0914c2d705d98b02a2b5129cd1de164eb9cbd083e8a2503c4e" {
		t.Errorf("%x", got)
	}
	got = chacha.Block(api.Key{}, [12]byte{}, 0)
	if hex.EncodeToString(got[:]) != "76b8e0ada0f13d90405d6ae55386bd28bdd219b8a08ded1aa836efcc8b770dc7da41597c5157488d7724e03fb8d84a376a43b8f41518a11cc387b669b2ee6586" {
		t.Errorf("%x", got)
	}
}

// P4.1: the wanted bytes were computed by another implementation.
func TestBlock(t *testing.T) {
	k, nonce := keyAndNonce()
	for n, want := range map[uint32]string{
		0:          "2061e55bf34a830ae30cf94cdd39ad483df49b35885da5c4a749667ca54591200702ef3eac45c5df3531cb117387d205d9749e07649053ba42e9397650f17e0e",
		1:          "7b8f90e35ff6bba5e79ee07a85ff090b501a7d54daf2578cfe098fed22a98bb3a4c589121ded5c8e4e427fd3b2f37d97b7b2c1b46db7f62526d5a62edeb777cf",
		0x01020304: "213ac884cb8017e80424d9f6ab24f7f03954befa26d11b6a059815e8342950cab5fe542e4b5ffb743e9b09979cec9a4835aa51698ef2627dd7080e16d3ec0bd2",
		0xffffffff: "32e2c0816def82196aa3a888ebf2ba75e49bcdf7575eb515dbb72292f0f206bca4f2c5926537ee5a2f09ae22aba821448ad96bb032dbd86eb5d0a15c7e94c615",
	} {
		got := chacha.Block(k, nonce, n)
		if hex.EncodeToString(got[:]) != want {
			t.Errorf("%d: %x", n, got)
		}
	}
}

// P4.2
func TestTurnIsBlocks(t *testing.T) {
	k, nonce := keyAndNonce()
	for _, n := range []uint32{0, 1, 7, 0xfffffffe, 0xffffffff} {
		var stream []byte
		for i := range uint32(5) {
			block := chacha.Block(k, nonce, n+i)
			stream = append(stream, block[:]...)
		}
		for _, size := range []int{0, 1, 63, 64, 65, 127, 128, 129, 300, 320} {
			zeros := make([]byte, size)
			if got := chacha.Turn(k, nonce, n, zeros); !bytes.Equal(got, stream[:size]) {
				t.Errorf("n %d, %d zero bytes", n, size)
			}
			b := make([]byte, size)
			for i := range b {
				b[i] = byte(i * 5)
			}
			kept := bytes.Clone(b)
			got := chacha.Turn(k, nonce, n, b)
			if len(got) != size || !bytes.Equal(b, kept) {
				t.Error("the argument was changed")
			}
			for i := range got {
				if got[i] != b[i]^stream[i] {
					t.Fatalf("n %d, size %d, byte %d", n, size, i)
				}
			}
		}
	}
}

// P4.2: RFC 8439, section 2.4.2.
func TestTurnOfRFC(t *testing.T) {
	var k api.Key
	for i := range k {
		k[i] = byte(i)
	}
	text := "Ladies and Gentlemen of the class of '99: If I could offer you only one tip for the future, sunscreen would be it."
	got := chacha.Turn(k, [12]byte{7: 74}, 1, []byte(text))
	if hex.EncodeToString(got) != "6e2e359a2568f98041ba0728dd0d6981e97e7aec1d4360c20a27afccfd9fae0bf91b65c5524733ab8f593dabcd62b3571639d624e65152ab8f530c359f0861d807ca0dbf500d6a6156a38e088a22b65e52bc514d16ccf806818ce91ab77937365af90bbf74a35be6b40b8eedf2785e42874d" {
		t.Errorf("%x", got)
	}
}

// P4.3
func TestTurnTwice(t *testing.T) {
	k, nonce := keyAndNonce()
	for _, size := range []int{0, 1, 64, 65, 1000} {
		b := bytes.Repeat([]byte{0x5a}, size)
		once := chacha.Turn(k, nonce, 0xffffffff, b)
		if size > 0 && bytes.Equal(once, b) {
			t.Error("nothing was turned")
		}
		if !bytes.Equal(chacha.Turn(k, nonce, 0xffffffff, once), b) {
			t.Error("Turn twice does not restore", size)
		}
	}
}

// P4.3
func TestTurnInParts(t *testing.T) {
	k, nonce := keyAndNonce()
	b := bytes.Repeat([]byte{1, 2, 3, 4, 5}, 60)
	for _, n := range []uint32{0, 9, 0xfffffffe} {
		whole := chacha.Turn(k, nonce, n, b)
		for blocks := range 5 {
			first := chacha.Turn(k, nonce, n, b[:64*blocks])
			second := chacha.Turn(k, nonce, n+uint32(blocks), b[64*blocks:])
			if !bytes.Equal(append(first, second...), whole) {
				t.Error(n, blocks)
			}
		}
	}
}

// P4.3: what lies behind the bytes in memory neither matters nor changes.
func TestNeighbours(t *testing.T) {
	k, nonce := keyAndNonce()
	room := bytes.Repeat([]byte{0xee}, 300)
	got := chacha.Turn(k, nonce, 0, room[:70])
	got = append(got, 1)
	if !bytes.Equal(room, bytes.Repeat([]byte{0xee}, 300)) || len(got) != 71 {
		t.Error("a neighbour was changed")
	}
}
