package lines_test

import (
	"bytes"
	"math/rand"
	"regexp"
	"runtime"
	"slices"
	"strings"
	"sync"
	"testing"

	"assayer/api"
	"assayer/lines"
)

// most is what Left answers of anything longer.
const most = api.MaxLine + 2

// told is what a reader told of what came.
type told struct {
	lines []string
	bad   []bool
	left  int
}

var ordinary = regexp.MustCompile(`^[\t -~]*$`)

// want is what is to be told of all that came, of however many pieces.
func want(all string) told {
	l := strings.Split(all, "\n")
	last := len(l) - 1
	w := told{left: min(len(l[last]), most)}
	for _, s := range l[:last] {
		s = strings.TrimSuffix(s, "\r")
		bad := len(s) > api.MaxLine || !ordinary.MatchString(s)
		if bad {
			s = ""
		}
		w.lines, w.bad = append(w.lines, s), append(w.bad, bad)
	}
	return w
}

// put puts one piece, and looks at what does not hang on what came ahead of it.
func put(t *testing.T, r *lines.Reader, piece string) ([]string, []bool) {
	t.Helper()
	l, bad, e := r.Put([]byte(piece))
	if e != api.OK || len(l) != strings.Count(piece, "\n") || len(bad) != len(l) {
		t.Fatalf("Put(%.70q) of %d bytes: %d lines, %d told, %d", piece, len(piece), len(l), len(bad), e)
	}
	return l, bad
}

// pieces is what a new reader tells of pieces; what is left is held against all that came behind each of them.
func pieces(t *testing.T, l ...string) told {
	t.Helper()
	r := lines.New()
	var got told
	open := 0
	for _, piece := range l {
		s, bad := put(t, r, piece)
		got.lines, got.bad = append(got.lines, s...), append(got.bad, bad...)
		if at := strings.LastIndexByte(piece, '\n'); at >= 0 {
			open = len(piece) - at - 1
		} else {
			open += len(piece)
		}
		if n := r.Left(); n != min(open, most) {
			t.Fatalf("Left behind %.70q: %d, but it is %d", piece, n, min(open, most))
		}
	}
	got.left = r.Left()
	return got
}

func same(a, b told) bool {
	return slices.Equal(a.lines, b.lines) && slices.Equal(a.bad, b.bad) && a.left == b.left
}

func wantTold(t *testing.T, l ...string) {
	t.Helper()
	all := strings.Join(l, "")
	if got, want := pieces(t, l...), want(all); !same(got, want) {
		t.Errorf("%.200q, in %d pieces: %.200q %t %d, but it is %.200q %t %d", all, len(l), got.lines, got.bad, got.left, want.lines, want.bad, want.left)
	}
}

// cut is a text in pieces of so many bytes.
func cut(s string, n int) []string {
	var l []string
	for c := range slices.Chunk([]byte(s), n) {
		l = append(l, string(c))
	}
	return l
}

// drawnCut is a text in pieces of any length, some of them empty.
func drawnCut(r *rand.Rand, s string, longest int) []string {
	var l []string
	for s != "" {
		n := min(r.Intn(longest+1), len(s))
		l = append(l, s[:n])
		s = s[n:]
	}
	return l
}

func TestNew(t *testing.T) { // P12.1
	r := lines.New()
	if r == nil {
		t.Fatal("New: there is none")
	}
	if n := r.Left(); n != 0 {
		t.Errorf("Left of a new one: %d", n)
	}
	for _, b := range [][]byte{nil, {}} {
		if l, bad, e := r.Put(b); len(l) != 0 || len(bad) != 0 || e != api.OK || r.Left() != 0 {
			t.Errorf("Put(none): %q %t %d, and %d are left", l, bad, e, r.Left())
		}
	}
	if l, bad := put(t, r, "\n"); l[0] != "" || bad[0] {
		t.Errorf("the first line: %q %t", l, bad)
	}
}

// TestExamples: the chapter's.
func TestExamples(t *testing.T) { // P12.1 to P12.4
	r := lines.New()
	step := func(piece string, l []string, bad []bool, left int) {
		t.Helper()
		gotLines, gotBad := put(t, r, piece)
		if !slices.Equal(gotLines, l) || !slices.Equal(gotBad, bad) || r.Left() != left {
			t.Errorf("Put(%q): %q %t, and %d are left", piece, gotLines, gotBad, r.Left())
		}
	}
	step("ab", nil, nil, 2)
	step("c\r\nd\n\n", []string{"abc", "d", ""}, []bool{false, false, false}, 0)
	step("a\x00\nb\rc\n\t\n", []string{"", "", "\t"}, []bool{true, true, false}, 0)
	wantWords(t, " a  b\tc ", "a", "b", "c")
}

// TestShort: all short texts of an alphabet of edges, cut in all ways.
func TestShort(t *testing.T) { // P12.2, P12.3, P12.5
	const signs = "a\n\r\t\x00"
	texts := []string{""}
	for range 5 {
		for _, s := range texts {
			for i := range len(signs) {
				text := s + signs[i:i+1]
				for cuts := range 1 << (len(text) - 1) {
					wantTold(t, cutAt(text, cuts)...)
				}
			}
		}
		texts = longer(texts, signs)
	}
}

// longer is each text with each sign behind it.
func longer(texts []string, signs string) []string {
	var l []string
	for _, s := range texts {
		for i := range len(signs) {
			l = append(l, s+signs[i:i+1])
		}
	}
	return l
}

// cutAt is a text cut behind each byte for which cuts has a bit.
func cutAt(s string, cuts int) []string {
	var l []string
	from := 0
	for i := range len(s) {
		if cuts>>i&1 == 1 {
			l = append(l, s[from:i+1])
			from = i + 1
		}
	}
	return append(l, s[from:])
}

// TestBytes: each byte alone, at each end and within a line, and what stands behind that line.
func TestBytes(t *testing.T) { // P12.2
	for c := range 256 {
		one := string([]byte{byte(c)})
		for _, line := range []string{one, one + "ab", "a" + one + "b", "ab" + one, one + one, one + "\r", "\r" + one} {
			for _, end := range []string{"\n", "\r\n"} {
				wantTold(t, line+end+"next\n")
				wantTold(t, cut(line+end+"next\n", 1)...)
				wantTold(t, line, end, "next\nopen")
			}
		}
		wantBad := c < 32 && c != 9 && c != 10 && c != 13 || c > 126
		if l, bad := put(t, lines.New(), one+"\n"); bad[0] != wantBad || l[0] != "" != (c >= 32 && c <= 126 || c == 9) {
			t.Errorf("a line of the byte %d: %q %t", c, l, bad)
		}
	}
	for _, s := range []string{"é\n", "\u2028\n", "\xff\xfe\n", "ab\x7f\n", "~ ~\t!\n", "\r\n", "\r\r\n", "\ra\r\n", "\r\n\r\n", "\n\r\n", "\n\r", "\r"} {
		wantTold(t, s)
		wantTold(t, cut(s, 1)...)
	}
}

// TestLimits: lines around MaxLine, with all that may stand at their ends, in pieces of many lengths.
func TestLimits(t *testing.T) { // P12.2, P12.3, P12.5
	for n := api.MaxLine - 3; n <= api.MaxLine+4; n++ {
		long := strings.Repeat("x", n)
		for _, end := range []string{"\n", "\r\n", "\r\r\n", "\rx\n", "\x00\n", "\t\n", "\r", "\r\r", "x\r\r\r\n"} {
			all := "a\n" + long + end + "next\r\nopen"
			wantTold(t, all)
			wantTold(t, "a\n"+long, end, "next\r\nopen")
			wantTold(t, "a\n"+long+end[:1], end[1:], "next\r\nopen")
			for _, size := range []int{4096, api.MaxLine, api.MaxLine + 1, most, most + 1} {
				wantTold(t, cut(all, size)...)
			}
		}
	}
	for _, end := range []string{"\n", "\r\n", "\r\r\n"} {
		wantTold(t, cut(strings.Repeat("x", api.MaxLine)+end+"next\n", 1)...)
		wantTold(t, cut(strings.Repeat("x", api.MaxLine+1)+end+"next\n", 1)...)
	}
}

// TestLimitsStrange: nor may lines be that are long and have bytes 13, or other strange ones, just where no more is kept.
func TestLimitsStrange(t *testing.T) { // P12.2
	for at := api.MaxLine - 2; at < api.MaxLine+4; at++ {
		for _, c := range []string{"\r", "\r\r", "\x00", "\x7f", "\t"} {
			for _, more := range []int{0, 1, 2, 3, 70000} {
				wantTold(t, strings.Repeat("x", at)+c+strings.Repeat("x", more)+"\nnext\n")
				wantTold(t, strings.Repeat("x", at), c, strings.Repeat("x", more), "\nnext\n")
			}
		}
	}
	wantTold(t, strings.Repeat("\r", 3*api.MaxLine), "\n", strings.Repeat("\t", api.MaxLine), "\r\n", strings.Repeat("\x00", 3*api.MaxLine)+"\n\n")
}

// TestLongest: one line of MaxLine bytes may be, one of a byte more may not, written out.
func TestLongest(t *testing.T) { // P12.2, P12.3
	r := lines.New()
	long := strings.Repeat("x", 70000)
	put(t, r, long)
	if n := r.Left(); n != 70000 {
		t.Errorf("Left: %d", n)
	}
	if l, bad := put(t, r, "\r\n"); l[0] != long || bad[0] {
		t.Errorf("a line of 70000 bytes: %d bytes, %t", len(l[0]), bad[0])
	}
	put(t, r, long+"xx")
	if n := r.Left(); n != 70002 {
		t.Errorf("Left: %d", n)
	}
	put(t, r, "x")
	if n := r.Left(); n != 70002 {
		t.Errorf("Left: %d", n)
	}
	if l, bad := put(t, r, "\n"+long+"x\n"); l[0] != "" || !bad[0] || l[1] != "" || !bad[1] || r.Left() != 0 {
		t.Errorf("lines of 70003 and 70001 bytes: %d and %d bytes, %t, and %d are left", len(l[0]), len(l[1]), bad, r.Left())
	}
}

// TestDrawn: what is drawn at random, cut at random.
func TestDrawn(t *testing.T) { // P12.2, P12.3, P12.5
	r := rand.New(rand.NewSource(12))
	signs := []byte("ab \t~\n\n\n\r\r\n\x00\x1f\x7f\x80")
	for range 3000 {
		var b []byte
		for range r.Intn(300) {
			b = append(b, signs[r.Intn(len(signs))])
		}
		wantTold(t, drawnCut(r, string(b), 1+r.Intn(40))...)
	}
	for range 60 {
		var b []byte
		for range 1 + r.Intn(6) {
			b = append(b, strings.Repeat(string(signs[r.Intn(5)]), api.MaxLine-3+r.Intn(7))...)
			b = append(b, signs[r.Intn(len(signs))], signs[r.Intn(len(signs))], '\n')
		}
		wantTold(t, drawnCut(r, string(b), 1+r.Intn(2*api.MaxLine))...)
	}
}

// TestMany: many lines in one piece.
func TestMany(t *testing.T) { // P12.2
	wantTold(t, strings.Repeat("\n", 1<<20))
	wantTold(t, strings.Repeat("ab\r\n\x00\n", 1<<18)+"open")
}

// used is how much memory is in use.
func used() int {
	var m runtime.MemStats
	runtime.GC()
	runtime.ReadMemStats(&m)
	return int(m.HeapAlloc)
}

// TestKept: however long a line is, and whatever ended ahead of it, some MaxLine bytes are kept.
func TestKept(t *testing.T) { // P12.2
	const readers = 16
	before := used()
	l := make([]*lines.Reader, readers)
	for i := range l {
		l[i] = lines.New()
		long := strings.Repeat("x", 1<<24)
		put(t, l[i], long)
		put(t, l[i], long)
		if n := l[i].Left(); n != most {
			t.Fatalf("Left: %d", n)
		}
		if i%2 == 1 {
			put(t, l[i], long+"\n"+long)
		}
	}
	if n := (used() - before) / readers; n > 2*api.MaxLine {
		t.Errorf("a reader keeps some %d bytes", n)
	}
	for _, r := range l {
		if s, bad := put(t, r, "\nnext\n"); s[0] != "" || !bad[0] || s[1] != "next" || bad[1] {
			t.Errorf("behind a long line: %.70q %t", s, bad)
		}
	}
}

// TestNotThere: nothing is done by one that is not there, or that New did not make.
func TestNotThere(t *testing.T) { // P12.2, P12.3, R3
	for _, r := range []*lines.Reader{nil, {}, new(lines.Reader)} {
		for _, b := range []string{"", "a", "a\nb", "\x00\n", strings.Repeat("x", most)} {
			if l, bad, e := r.Put([]byte(b)); len(l) != 0 || len(bad) != 0 || e != api.ErrNil {
				t.Errorf("Put(%.70q): %q %t %d", b, l, bad, e)
			}
			if n := r.Left(); n != 0 {
				t.Errorf("Left: %d", n)
			}
		}
	}
}

// TestHandedIn: what is handed in is neither changed nor kept, nor is what is answered.
func TestHandedIn(t *testing.T) { // R4
	r := lines.New()
	room := []byte("ab\r\ncd\x00\nef....")
	b := room[:10:len(room)]
	l, bad, _ := r.Put(b)
	if string(room) != "ab\r\ncd\x00\nef...." {
		t.Errorf("what was handed in is %q now", room)
	}
	for i := range room {
		room[i] = '!'
	}
	if !slices.Equal(l, []string{"ab", ""}) || !slices.Equal(bad, []bool{false, true}) {
		t.Errorf("what was answered is %q %t now", l, bad)
	}
	again, _ := put(t, r, "gh\nij\n")
	if !slices.Equal(again, []string{"efgh", "ij"}) || !slices.Equal(l, []string{"ab", ""}) || !slices.Equal(bad, []bool{false, true}) {
		t.Errorf("%q is told, and %q %t was", again, l, bad)
	}
	for _, s := range [][]string{l[:cap(l)], again[:cap(again)]} {
		for i := range s {
			s[i] = "!"
		}
	}
	clear(bad[:cap(bad)])
	if l, bad := put(t, r, "k\x00\nl\n"); !slices.Equal(l, []string{"", "l"}) || !slices.Equal(bad, []bool{true, false}) {
		t.Errorf("%q %t is told", l, bad)
	}
}

// TestApart: two readers do not meet, in turns or at one time.
func TestApart(t *testing.T) { // R5
	a, b := lines.New(), lines.New()
	put(t, a, "a")
	put(t, b, "bb")
	if a.Left() != 1 || b.Left() != 2 {
		t.Errorf("Left: %d %d", a.Left(), b.Left())
	}
	l, _ := put(t, a, "\n")
	m, _ := put(t, b, "\n")
	if l[0] != "a" || m[0] != "bb" {
		t.Errorf("%q %q", l, m)
	}
	var all sync.WaitGroup
	for i := range 8 {
		all.Go(func() {
			r := lines.New()
			own := bytes.Repeat([]byte{byte('a' + i)}, 100+i)
			for range 1000 {
				if l, bad, e := r.Put(append(own, '\n')); e != api.OK || len(l) != 1 || l[0] != string(own) || bad[0] {
					t.Errorf("%q %t %d", l, bad, e)
				}
			}
		})
	}
	all.Wait()
}

func wantWords(t *testing.T, s string, want ...string) {
	t.Helper()
	if got := lines.Words(s); !slices.Equal(got, want) {
		t.Errorf("Words(%.200q): %.200q, but these are %.200q", s, got, want)
	}
}

// words are what is to be answered of a text: it goes byte by byte.
func words(s string) []string {
	var l []string
	word := ""
	for i := range len(s) {
		if s[i] != 32 && s[i] != 9 {
			word += s[i : i+1]
			continue
		}
		if word != "" {
			l = append(l, word)
		}
		word = ""
	}
	if word != "" {
		l = append(l, word)
	}
	return l
}

func TestWords(t *testing.T) { // P12.4
	wantWords(t, "")
	wantWords(t, " ")
	wantWords(t, "\t \t")
	wantWords(t, "a", "a")
	wantWords(t, "submit 7 a%20b", "submit", "7", "a%20b")
	wantWords(t, "\ta\t\tb ", "a", "b")
	wantWords(t, "a b a b a", "a", "b", "a", "b", "a")
	wantWords(t, "a\nb\rc\vd\fe f", "a\nb\rc\vd\fe", "f")
	wantWords(t, "\u0085 \u00a0\u2003\u3000 \x85\xa0", "\u0085", "\u00a0\u2003\u3000", "\x85\xa0")
	wantWords(t, "\xe2\x80 \xff\t\xc3", "\xe2\x80", "\xff", "\xc3")
}

// TestWordsBytes: only the bytes 32 and 9 are between words, and all others are of them.
func TestWordsBytes(t *testing.T) { // P12.4
	for c := range 256 {
		one := string([]byte{byte(c)})
		if c == 32 || c == 9 {
			wantWords(t, one)
			wantWords(t, "a"+one+"b", "a", "b")
			wantWords(t, one+one+"a"+one, "a")
			continue
		}
		wantWords(t, one, one)
		wantWords(t, "a"+one+"b", "a"+one+"b")
		wantWords(t, " "+one+"\t"+one, one, one)
	}
}

// TestWordsShort: all short texts of an alphabet of edges, and what is drawn at random.
func TestWordsShort(t *testing.T) { // P12.4
	texts := []string{""}
	for range 6 {
		texts = longer(texts, "a \t\xc3\xa9")
		for _, s := range texts {
			wantWords(t, s, words(s)...)
		}
	}
	r := rand.New(rand.NewSource(13))
	for range 2000 {
		b := make([]byte, r.Intn(200))
		r.Read(b)
		for i := range b {
			if r.Intn(3) == 0 {
				b[i] = "\t "[r.Intn(2)]
			}
		}
		wantWords(t, string(b), words(string(b))...)
	}
	wantWords(t, strings.Repeat("ab ", 1<<18), slices.Repeat([]string{"ab"}, 1<<18)...)
	wantWords(t, strings.Repeat(" ", 1<<20)+"a"+strings.Repeat("\t", 1<<20), "a")
	long := strings.Repeat("x", 1<<20)
	wantWords(t, long+" "+long, long, long)
}

// TestWordsNew: words do not keep the text of which they are.
func TestWordsNew(t *testing.T) { // R4
	before := used()
	var l [][]string
	for range 16 {
		l = append(l, lines.Words("a "+strings.Repeat("x", 1<<22)+" b"))
		l[len(l)-1][1] = ""
	}
	if n := used() - before; n > 1<<22 {
		t.Errorf("%d bytes are kept", n)
	}
	for _, w := range l {
		if !slices.Equal(w, []string{"a", "", "b"}) {
			t.Errorf("%.70q", w)
		}
	}
	s := " a b "
	first := lines.Words(s)
	for i := range first[:cap(first)] {
		first[i] = "!"
	}
	wantWords(t, s, "a", "b")
}
