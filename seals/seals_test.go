package seals_test

import (
	"crypto/hmac"
	"crypto/sha256"
	"encoding/hex"
	"fmt"
	"math"
	"math/rand"
	"strings"
	"sync"
	"testing"

	"assayer/seals"
	"assayer/sums"
)

// signs is how many signs a seal has.
const signs = 64

// seal is what another library answers.
func seal(key, name string, n uint64) string {
	h := hmac.New(sha256.New, []byte(key))
	fmt.Fprintf(h, "%s\x00%d", name, n)
	return hex.EncodeToString(h.Sum(nil))
}

func wantMake(t *testing.T, key, name string, n uint64) {
	t.Helper()
	if got, want := seals.Make(key, name, n), seal(key, name, n); got != want {
		t.Errorf("Make(%.70q, %.70q, %d): %q, but it is %q", key, name, n, got, want)
	}
}

func wantCheck(t *testing.T, key, name string, n uint64, s string, want bool) {
	t.Helper()
	if got := seals.Check(key, name, n, s); got != want {
		t.Errorf("Check(%.70q, %.70q, %d, %.140q): %t", key, name, n, s, got)
	}
}

// drawn is so many bytes, always the same of one r.
func drawn(r *rand.Rand, n int) string {
	b := make([]byte, n)
	r.Read(b)
	return string(b)
}

// numbers are those around which the digits become more, and the ends.
func numbers() []uint64 {
	l := []uint64{0, math.MaxUint64, math.MaxUint64 - 1, math.MaxInt64, math.MaxInt64 + 1, math.MaxUint32, math.MaxUint32 + 1, math.MaxInt32, math.MaxInt32 + 1}
	for n := uint64(1); n <= math.MaxUint64/10; n *= 10 {
		l = append(l, n-1, n, n+1, 9*n, 10*n)
	}
	return l
}

// words are keys and names: ordinary, empty, with any byte, and around a block's length.
func words() []string {
	r := rand.New(rand.NewSource(11))
	l := []string{"", "ann", "bob", "Ann", "ann ", "a_1", "\x00", "a\x00", "\x00a", "a\x001", "1", "12", "\xff\x80", "é", "\n", "most"}
	for _, n := range []int{31, 32, 33, 55, 63, 64, 65, 128, 1000} {
		l = append(l, drawn(r, n), strings.Repeat("k", n))
	}
	return l
}

func TestMakeKnown(t *testing.T) { // P11.1
	for _, c := range []struct {
		key, name string
		n         uint64
		want      string
	}{
		{"key", "ann", 1, "fb2e413d2591cec6fc2a56af0d751a988ea73891362174d99732b3641da9ba40"},
		{"key", "ann", 2, "61447ee8fd8fc25c3e57c7212d07c85764044ed20b974015f5ea920d11789615"},
		{"key", "bob", 1, "1d05f0ca85742b5504d5b7e9e599297c37546bd055cdc29e5763fcad236ecfba"},
		{"", "", 0, "1b1279975e6bd4a06ff41d3041086dbbbc56a7b40875383ec8180d9fa3a3a09c"},
		{"key", "ann", math.MaxUint64, "ef1db18a8702f767293ef144680f14e408a96cc5e9b075fce25f263419b8e798"},
		{strings.Repeat("\xaa", 131), "a_1", 1 << 63, "d04f603222cd584ea6b845d0997447c0ee65e68782aee997c9934d31c85fce32"},
		{"\xff\x00\x80", "a\x00b", 1000, "f3ffb9b9b1ce42f020ab5228188fbf7bd4b9558b5fe4697ada215852160e0a50"},
	} {
		if got := seals.Make(c.key, c.name, c.n); got != c.want {
			t.Errorf("Make(%q, %q, %d): %q, but it is %q", c.key, c.name, c.n, got, c.want)
		}
		wantCheck(t, c.key, c.name, c.n, c.want, true)
	}
}

// TestMake: of all keys, names and numbers together; and what they make is right.
func TestMake(t *testing.T) { // P11.1, P11.2, P11.3
	for _, key := range words() {
		for _, name := range words() {
			for _, n := range []uint64{0, 1, 9, 10, 105, math.MaxUint64} {
				wantMake(t, key, name, n)
				wantCheck(t, key, name, n, seal(key, name, n), true)
			}
		}
	}
	for _, n := range numbers() {
		wantMake(t, "key", "ann", n)
		wantCheck(t, "key", "ann", n, seal("key", "ann", n), true)
	}
	for n := range uint64(1200) {
		wantMake(t, "key", "ann", n)
	}
	for c := range 256 {
		one := string([]byte{byte(c)})
		wantMake(t, one, "ann", 1)
		wantMake(t, "key", one, 1)
	}
	wantMake(t, strings.Repeat("key", 1<<18), strings.Repeat("ann", 1<<20), 1)
}

// TestMakeIsKeyed: it is the text of just that sum.
func TestMakeIsKeyed(t *testing.T) { // P11.1
	if got, want := seals.Make("key", "ann", 1), sums.Text(sums.Keyed([]byte("key"), []byte("ann\x001"))); got != want {
		t.Errorf("Make: %q, but it is %q", got, want)
	}
}

// TestCheckSign: any other sign, in any place, is wrong.
func TestCheckSign(t *testing.T) { // P11.2, P11.3
	right := seal("key", "ann", 7)
	for i := range signs {
		for c := range 256 {
			b := []byte(right)
			b[i] = byte(c)
			wantCheck(t, "key", "ann", 7, string(b), byte(c) == right[i])
		}
	}
}

// TestCheckSigns: nor is it right if two signs differ, or more, and just as much, or the other way round.
func TestCheckSigns(t *testing.T) { // P11.2, P11.3
	right := seal("key", "ann", 7)
	for i := range signs {
		for j := range i {
			swapped := []byte(right)
			swapped[i], swapped[j] = swapped[j], swapped[i]
			wantCheck(t, "key", "ann", 7, string(swapped), right[i] == right[j])
			for bit := range 8 {
				b := []byte(right)
				b[i] ^= 1 << bit
				b[j] ^= 1 << bit
				wantCheck(t, "key", "ann", 7, string(b), false)
			}
			b := []byte(right)
			b[i]++
			b[j]--
			wantCheck(t, "key", "ann", 7, string(b), false)
		}
	}
	for bit := range 8 {
		b := []byte(right)
		for i := range b {
			b[i] ^= 1 << bit
			wantCheck(t, "key", "ann", 7, string(b), false)
		}
	}
}

// TestCheckLength: what is shorter or longer is wrong, whatever it begins or ends with.
func TestCheckLength(t *testing.T) { // P11.2, P11.3
	right := seal("key", "ann", 7)
	for n := range signs {
		wantCheck(t, "key", "ann", 7, right[:n], false)
		wantCheck(t, "key", "ann", 7, right[signs-n:], false)
		wantCheck(t, "key", "ann", 7, right[:n]+strings.Repeat("\x00", signs-n), false)
		wantCheck(t, "key", "ann", 7, right+right[:n+1], false)
		wantCheck(t, "key", "ann", 7, right[n:]+right, false)
	}
	for c := range 256 {
		one := string([]byte{byte(c)})
		wantCheck(t, "key", "ann", 7, right+one, false)
		wantCheck(t, "key", "ann", 7, one+right, false)
		wantCheck(t, "key", "ann", 7, one, false)
	}
	for _, s := range []string{"", right + strings.Repeat("\x00", 192), strings.Repeat(right, 4), strings.Repeat(right, 1<<16), strings.Repeat("\x00", signs), strings.ToUpper(right), " " + right[1:], right + "\n"} {
		wantCheck(t, "key", "ann", 7, s, false)
	}
}

// TestCheckOther: with another key, name or number it is wrong.
func TestCheckOther(t *testing.T) { // P11.2, P11.3
	made := seals.Make("key", "ann", 1)
	wantCheck(t, "key", "ann", 1, made, true)
	wantCheck(t, "key", "ann", 2, made, false)
	wantCheck(t, "key", "bob", 1, made, false)
	wantCheck(t, "key", "ann", 1, "", false)
	for _, other := range words() {
		wantCheck(t, other, "ann", 1, made, false)
		wantCheck(t, "key", other, 1, made, other == "ann")
	}
	for _, n := range numbers() {
		wantCheck(t, "key", "ann", n, made, n == 1)
	}
	for bit := range 64 {
		wantCheck(t, "key", "ann", 1^1<<bit, made, false)
	}
	wantCheck(t, "ann", "key", 1, made, false)
}

// TestSameOfOthers: where other keys make the same seal, it is right; where a name and a number only look alike, it is wrong.
func TestSameOfOthers(t *testing.T) { // P11.3
	long := strings.Repeat("k", signs+1)
	of := sums.Of([]byte(long))
	wantCheck(t, string(of[:]), "ann", 1, seals.Make(long, "ann", 1), true)
	wantCheck(t, "key\x00", "ann", 1, seals.Make("key", "ann", 1), true)
	wantCheck(t, "key", "ann", 1, seals.Make("key"+strings.Repeat("\x00", signs-3), "ann", 1), true)
	wantCheck(t, "key", "ann", 1, seals.Make("key"+strings.Repeat("\x00", signs-2), "ann", 1), false)
	wantCheck(t, "\x00key", "ann", 1, seals.Make("key", "ann", 1), false)
	for _, c := range []struct {
		name  string
		n     uint64
		other string
		m     uint64
	}{
		{"ann", 12, "ann1", 2}, {"ann", 12, "ann\x001", 2}, {"ann", 1, "ann\x00", 1}, {"ann", 1, "ann\x000", 1}, {"a", 0, "a0", 0}, {"", 1, "1", 0}, {"", 0, "\x00", 0}, {"ann", 1, "ann\x001", 1},
	} {
		wantCheck(t, "key", c.name, c.n, seals.Make("key", c.other, c.m), false)
		wantCheck(t, "key", c.other, c.m, seals.Make("key", c.name, c.n), false)
	}
}

// TestDrawn: of what is drawn at random, Check is true just where the seals are the same.
func TestDrawn(t *testing.T) { // P11.1 to P11.3
	r := rand.New(rand.NewSource(12))
	for range 5000 {
		key, name, n := drawn(r, r.Intn(140)), drawn(r, r.Intn(70)), r.Uint64()>>r.Intn(64)
		wantMake(t, key, name, n)
		made := seals.Make(key, name, n)
		wantCheck(t, key, name, n, made, true)
		wantCheck(t, key, name, n+1, made, false)
		wantCheck(t, key+"k", name, n, made, false)
		wantCheck(t, key, name+"n", n, made, false)
		wantCheck(t, key, name, n, drawn(r, signs), false)
	}
}

// TestAtOnce: several calls at one time do not meet, and one call is as the next.
func TestAtOnce(t *testing.T) { // R5
	var all sync.WaitGroup
	for i := range 8 {
		all.Go(func() {
			r := rand.New(rand.NewSource(int64(i)))
			for n := range uint64(300) {
				key, name := drawn(r, r.Intn(70)), drawn(r, r.Intn(33))
				wantMake(t, key, name, n)
				wantCheck(t, key, name, n, seal(key, name, n), true)
				wantCheck(t, key, name, n, seal(key, name, n+1), false)
			}
		})
	}
	all.Wait()
}
