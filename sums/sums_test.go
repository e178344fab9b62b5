package sums_test

import (
	"bytes"
	"crypto/hmac"
	"crypto/sha256"
	"encoding/hex"
	"math/rand"
	"strings"
	"sync"
	"testing"

	"assayer/sums"
)

// blockSize is how many bytes a block has.
const blockSize = 64

func wantOf(t *testing.T, b []byte) {
	t.Helper()
	if got, want := sums.Of(b), sha256.Sum256(b); got != want {
		t.Errorf("Of %d bytes: %x, but it is %x", len(b), got, want)
	}
}

// keyed is what another library answers.
func keyed(key, b []byte) (out [32]byte) {
	h := hmac.New(sha256.New, key)
	h.Write(b)
	copy(out[:], h.Sum(nil))
	return out
}

func wantKeyed(t *testing.T, key, b []byte) {
	t.Helper()
	if got, want := sums.Keyed(key, b), keyed(key, b); got != want {
		t.Errorf("Keyed of a key of %d bytes and %d bytes: %x, but it is %x", len(key), len(b), got, want)
	}
}

// drawn is so many bytes, always the same of one r.
func drawn(r *rand.Rand, n int) []byte {
	b := make([]byte, n)
	r.Read(b)
	return b
}

func TestOfKnown(t *testing.T) { // P10.1, P10.3
	for s, want := range map[string]string{
		"":    "e3b0c44298fc1c149afbf4c8996fb92427ae41e4649b934ca495991b7852b855",
		"abc": "ba7816bf8f01cfea414140de5dae2223b00361a396177a9cb410ff61f20015ad",
		"abcdbcdecdefdefgefghfghighijhijkijkljklmklmnlmnomnopnopq":                                                         "248d6a61d20638b8e5c026930c3e6039a33ce45964ff2167f6ecedd419db06c1",
		"abcdefghbcdefghicdefghijdefghijkefghijklfghijklmghijklmnhijklmnoijklmnopjklmnopqklmnopqrlmnopqrsmnopqrstnopqrstu": "cf5b16a778af8380036ce59e7b0492370b249b11e8f07a51afac45037afee9d1",
		"\xbd":                             "68325720aabd7c82f30f554b313d0570c95accbb7dc4b5aae11204c08ffe732b",
		"\xc9\x8c\x8e\x55":                 "7abc22c0ae5af26ce93dbb94433a0e0b2e119d014f8e7f65bd56c61ccccd9504",
		strings.Repeat("\x00", 55):         "02779466cdec163811d078815c633f21901413081449002f24aa3e80f0b88ef7",
		strings.Repeat("\x00", 56):         "d4817aa5497628e7c77e6b606107042bbba3130888c5f47a375e6179be789fbb",
		strings.Repeat("\x00", 57):         "65a16cb7861335d5ace3c60718b5052e44660726da4cd13bb745381b235a1785",
		strings.Repeat("\x00", 64):         "f5a5fd42d16a20302798ef6ed309979b43003d2320d9f0e8ea9831a92759fb4b",
		strings.Repeat("\x00", 1000):       "541b3e9daa09b20bf85fa273e5cbd3e80185aa4ec298e765db87742b70138a53",
		strings.Repeat("A", 1000):          "c2e686823489ced2017f6059b8b239318b6364f6dcd835d0a519105a1eadd6e4",
		strings.Repeat("a", 1000000):       "cdc76e5c9914fb9281a1c7e284d73e67f1809a48a497200e046d39ccc7112cd0",
		strings.Repeat("\x00", 0x00100000): "30e14955ebf1352266dc2ff8067e68104607e750abb9d3b36582b8af909fcb58",
	} {
		if got := sums.Text(sums.Of([]byte(s))); got != want {
			t.Errorf("Of %d bytes: %s, but it is %s", len(s), got, want)
		}
	}
}

// TestOfLengths: of all lengths up to some blocks, and around whole blocks and what closes them.
func TestOfLengths(t *testing.T) { // P10.1
	r := rand.New(rand.NewSource(10))
	for n := range 6*blockSize + 3 {
		wantOf(t, drawn(r, n))
		wantOf(t, make([]byte, n))
		wantOf(t, bytes.Repeat([]byte{0xff}, n))
		wantOf(t, bytes.Repeat([]byte{0x80}, n))
	}
	for _, n := range []int{1 << 13, 1<<13 - 9, 1<<13 - 8, 1 << 16, 1 << 21, 1<<21 + 55, 1<<21 + 56} {
		wantOf(t, drawn(r, n))
	}
}

// TestOfBytes: each bit of each place tells.
func TestOfBytes(t *testing.T) { // P10.1
	const n = 2*blockSize + 60
	met := map[[32]byte]int{}
	for i := range n {
		for bit := range 8 {
			b := make([]byte, n)
			b[i] = 1 << bit
			wantOf(t, b)
			met[sums.Of(b)]++
		}
	}
	if len(met) != 8*n {
		t.Errorf("%d sums of %d lists of bytes", len(met), 8*n)
	}
	met = map[[32]byte]int{}
	for n := range 200 {
		met[sums.Of(make([]byte, n))]++
	}
	if len(met) != 200 {
		t.Errorf("%d sums of 200 lengths", len(met))
	}
}

// TestOfGreat: how many bits there are takes more than 32 bits to tell.
func TestOfGreat(t *testing.T) { // P10.1
	b := make([]byte, 1<<29+7)
	wantOf(t, b)
}

func TestKeyedKnown(t *testing.T) { // P10.2
	same := func(c byte, n int) string { return strings.Repeat(string([]byte{c}), n) }
	for _, c := range []struct{ key, s, want string }{
		{"Jefe", "what do ya want for nothing?", "5bdcc146bf60754e6a042426089575c75a003f089d2739839dec58b964ec3843"},
		{same(0x0b, 20), "Hi There", "b0344c61d8db38535ca8afceaf0bf12b881dc200c9833da726e9376c2e32cff7"},
		{same(0xaa, 20), same(0xdd, 50), "773ea91e36800e46854db8ebd09181a72959098b3ef8c122d9635514ced565fe"},
		{"\x01\x02\x03\x04\x05\x06\x07\x08\x09\x0a\x0b\x0c\x0d\x0e\x0f\x10\x11\x12\x13\x14\x15\x16\x17\x18\x19", same(0xcd, 50), "82558a389a443c0ea4cc819899f2083a85f0faa3e578f8077a2e3ff46729665b"},
		{same(0xaa, 131), "Test Using Larger Than Block-Size Key - Hash Key First", "60e431591ee0b67f0d8a26aacbf5b77f8e0bc6213728c5140546040f0ee37f54"},
		{same(0xaa, 131), "This is a test using a larger than block-size key and a larger than block-size data. The key needs to be hashed before being used by the HMAC algorithm.", "9b09ffa71b942fcb27635fbcd5b0e944bfdc63644f0713938a7f51535c3a35e2"},
		{"", "", "b613679a0814d9ec772f95d778c35fc5ff1697c493715653c6c712144292c5ad"},
		{"key", "The quick brown fox jumps over the lazy dog", "f7bc83f430538424b13298e6aa6fb143ef4d59a14946175997479dbc2d1a3cd8"},
	} {
		if got := sums.Text(sums.Keyed([]byte(c.key), []byte(c.s))); got != c.want {
			t.Errorf("Keyed(%q, %q): %s, but it is %s", c.key, c.s, got, c.want)
		}
	}
}

// TestKeyedLengths: of all lengths around those that the chapter names.
func TestKeyedLengths(t *testing.T) { // P10.2
	r := rand.New(rand.NewSource(20))
	for key := range 2*blockSize + 3 {
		for _, n := range []int{0, 1, 32, 54, 55, 56, 57, 63, 64, 65, 119, 120, 128, 300} {
			wantKeyed(t, drawn(r, key), drawn(r, n))
		}
	}
	for n := range 3*blockSize + 3 {
		wantKeyed(t, drawn(r, 5), drawn(r, n))
		wantKeyed(t, drawn(r, 64), drawn(r, n))
		wantKeyed(t, drawn(r, 65), drawn(r, n))
	}
	wantKeyed(t, drawn(r, 1<<20), drawn(r, 1<<21+3))
	wantKeyed(t, make([]byte, 1000), nil)
}

// TestKeyedBits: each bit of a key tells, in each place.
func TestKeyedBits(t *testing.T) { // P10.2
	for _, n := range []int{blockSize, blockSize + 1} {
		met := map[[32]byte]int{}
		for i := range 8 * n {
			key := make([]byte, n)
			key[i/8] = 1 << (i % 8)
			wantKeyed(t, key, []byte("so"))
			met[sums.Keyed(key, []byte("so"))]++
		}
		if len(met) != 8*n {
			t.Errorf("%d sums of %d keys", len(met), 8*n)
		}
	}
}

func TestText(t *testing.T) { // P10.3
	var rising, falling [32]byte
	for i := range rising {
		rising[i], falling[i] = byte(i), byte(0xff-i)
	}
	for s, want := range map[[32]byte]string{
		{}:      strings.Repeat("0", 64),
		rising:  "000102030405060708090a0b0c0d0e0f101112131415161718191a1b1c1d1e1f",
		falling: "fffefdfcfbfaf9f8f7f6f5f4f3f2f1f0efeeedecebeae9e8e7e6e5e4e3e2e1e0",
		{0xab}:  "ab" + strings.Repeat("0", 62),
		{31: 9}: strings.Repeat("0", 62) + "09",
	} {
		if got := sums.Text(s); got != want {
			t.Errorf("Text(%v): %q, but it is %q", s, got, want)
		}
	}
	for i := range 32 {
		for c := range 256 {
			var s [32]byte
			s[i] = byte(c)
			if got, want := sums.Text(s), hex.EncodeToString(s[:]); got != want {
				t.Errorf("Text of %x, in place %d: %q", c, i, got)
			}
		}
	}
}

// TestAlike: which keys are as one, and which are not.
func TestAlike(t *testing.T) { // P10.4
	r := rand.New(rand.NewSource(40))
	b := drawn(r, 100)
	for n := range 3 * blockSize {
		key := bytes.Repeat([]byte{7}, n)
		of := sums.Of(key)
		if like := sums.Keyed(key, b) == sums.Keyed(of[:], b); like != (n > blockSize) {
			t.Errorf("a key of %d bytes is as its sum: %t", n, like)
		}
		for more := range blockSize + 3 {
			longer := append(bytes.Clone(key), make([]byte, more)...)
			if like := sums.Keyed(key, b) == sums.Keyed(longer, b); like != (more == 0 || n+more <= blockSize) {
				t.Errorf("a key of %d bytes, and %d bytes 0 behind it, is as it was: %t", n, more, like)
			}
		}
	}
	if sums.Keyed([]byte{0, 7}, b) == sums.Keyed([]byte{7}, b) {
		t.Error("a byte 0 ahead of a key tells nothing")
	}
}

// TestNothing: no list is as an empty one.
func TestNothing(t *testing.T) { // R4
	if sums.Of(nil) != sums.Of([]byte{}) || sums.Of(nil) != sums.Of(make([]byte, 5)[:0]) {
		t.Error("Of tells no list from an empty one")
	}
	some := []byte("some")
	if sums.Keyed(nil, some) != sums.Keyed([]byte{}, some) || sums.Keyed(some, nil) != sums.Keyed(some, []byte{}) {
		t.Error("Keyed tells no list from an empty one")
	}
}

// TestHandedIn: what is handed in is not changed, nor is its spare room, and nothing of it is kept.
func TestHandedIn(t *testing.T) { // R4, R5
	r := rand.New(rand.NewSource(50))
	for _, n := range []int{0, 3, 32, 55, 56, 63, 64, 65, 130} {
		room, keyRoom := drawn(r, 400), drawn(r, 400)
		was, keyWas := bytes.Clone(room), bytes.Clone(keyRoom)
		b, key := room[100:100+n], keyRoom[100:100+n]
		of, with := sums.Of(b), sums.Keyed(key, b)
		if !bytes.Equal(room, was) || !bytes.Equal(keyRoom, keyWas) {
			t.Errorf("%d bytes: what was handed in is changed", n)
		}
		if of != sha256.Sum256(b) || with != keyed(key, b) {
			t.Errorf("%d bytes: what stands behind them tells", n)
		}
		for i := range b {
			b[i], key[i] = 1, 2
		}
		wantOf(t, b)
		wantKeyed(t, key, b)
		// One list may be both.
		wantKeyed(t, b, b)
	}
}

// TestAtOnce: several calls at one time do not meet.
func TestAtOnce(t *testing.T) { // R5
	var all sync.WaitGroup
	for i := range 8 {
		all.Go(func() {
			r := rand.New(rand.NewSource(int64(i)))
			for n := range 200 {
				wantOf(t, drawn(r, n))
				wantKeyed(t, drawn(r, n), drawn(r, n))
			}
		})
	}
	all.Wait()
}
