package tokens_test

import (
	"math/rand"
	"regexp"
	"slices"
	"strings"
	"testing"
	"unsafe"

	"assayer/api"
	"assayer/tokens"
)

const (
	letters  = "abcdefghijklmnopqrstuvwxyzABCDEFGHIJKLMNOPQRSTUVWXYZ"
	digits   = "0123456789"
	ofWord   = letters + digits + "_"
	blanks   = " \t\n\r"
	single   = "+-*/,:;=()[]"
	ownWords = "most least sum rows vars whole free end"
	model    = "most 3 x + 2 y - x; vars x, y whole [-1, 1/2], z free; rows x + y <= 4; -z >= -2.5; = 0; end"
)

func token(kind uint8, text string, at int) api.Token {
	return api.Token{Kind: kind, Text: text, At: at}
}

// piece is what a text is made of, as another library reads it: a word, a number, signs, or what says nothing.
var piece = regexp.MustCompile(`^(?:([A-Za-z][A-Za-z0-9_]*)|([0-9]+(?:\.[0-9]+)?)|(<=|>=|[-+*/,:;=()\[\]])|[ \t\n\r]|#[^\n]*)`)

// expected is what Read must answer of a text that is not too long.
func expected(s string) (l []api.Token, at int, e api.Errno) {
	for at < len(s) {
		m := piece.FindStringSubmatchIndex(s[at:])
		if m == nil {
			return nil, at, api.ErrForm
		}
		for kind := 1; kind <= 3; kind++ {
			if m[2*kind] == 0 {
				l = append(l, token(uint8(kind), s[at:at+m[1]], at))
			}
		}
		at += m[1]
	}
	return l, 0, api.OK
}

// want complains, if Read answers something else.
func want(t *testing.T, s string, l []api.Token, at int, e api.Errno) {
	t.Helper()
	got, where, fault := tokens.Read(s)
	if !slices.Equal(got, l) || where != at || fault != e {
		t.Errorf("Read(%q): %v %d %d, but it is %v %d %d", s, got, where, fault, l, at, e)
	}
}

// wantForm complains, if the text may be, or is at fault elsewhere.
func wantForm(t *testing.T, s string, at int) {
	t.Helper()
	want(t, s, nil, at, api.ErrForm)
}

// texts are the texts of the tokens, which must be there.
func texts(t *testing.T, s string) []string {
	t.Helper()
	l, at, e := tokens.Read(s)
	if at != 0 || e != api.OK {
		t.Errorf("Read(%q): at %d %d", s, at, e)
	}
	var out []string
	for _, k := range l {
		out = append(out, k.Text)
	}
	return out
}

func TestReadExamples(t *testing.T) { // P6.1
	want(t, "3x<=-2.50 # y", []api.Token{token(2, "3", 0), token(1, "x", 1), token(3, "<=", 2), token(3, "-", 4), token(2, "2.50", 5)}, 0, api.OK)
	wantForm(t, "a < b", 2)
	wantForm(t, "1.", 1)
	wantForm(t, "01.2.3", 4)
	want(t, "", nil, 0, api.OK)
}

func TestReadWords(t *testing.T) { // P6.1
	for _, s := range []string{"x", "Z", "x_1", "x__", "a0Z_9", "most", "end", "Rows", ofWord, strings.Repeat("w", api.MaxName+1), strings.Repeat("w", api.MaxText)} {
		want(t, s, []api.Token{token(1, s, 0)}, 0, api.OK)
	}
	want(t, "x1 1x", []api.Token{token(1, "x1", 0), token(2, "1", 3), token(1, "x", 4)}, 0, api.OK)
	wantForm(t, "_x", 0)
	wantForm(t, "1_x", 1)
	wantForm(t, "x+_", 2)
	wantForm(t, "x.y", 1)
	wantForm(t, "x.1", 1)
	wantForm(t, "\u00e9", 0)
	wantForm(t, "x\u00e9", 1)
	wantForm(t, "x\u0660", 1)
}

func TestReadNumbers(t *testing.T) { // P6.1
	for _, s := range []string{"0", "7", "00", "01", digits, "0.0", "1.5", "00.00", digits + "." + digits, strings.Repeat("9", api.MaxDigits+1), strings.Repeat("9", api.MaxText), "1." + strings.Repeat("0", api.MaxText-2)} {
		want(t, s, []api.Token{token(2, s, 0)}, 0, api.OK)
	}
	want(t, "1.5x", []api.Token{token(2, "1.5", 0), token(1, "x", 3)}, 0, api.OK)
	want(t, "1 2", []api.Token{token(2, "1", 0), token(2, "2", 2)}, 0, api.OK)
	want(t, "1/2.5", []api.Token{token(2, "1", 0), token(3, "/", 1), token(2, "2.5", 2)}, 0, api.OK)
	for s, at := range map[string]int{".": 0, ".5": 0, "1..5": 1, "1. 5": 1, "1.x": 1, "1 .5": 2, "1.5.": 3, "1.5.6": 3, "12.+": 2, "1._": 1, "1.#": 1} {
		wantForm(t, s, at)
	}
}

func TestReadSigns(t *testing.T) { // P6.1
	for _, s := range append(strings.Split(single, ""), "<=", ">=") {
		want(t, s, []api.Token{token(3, s, 0)}, 0, api.OK)
	}
	want(t, "<==>=-", []api.Token{token(3, "<=", 0), token(3, "=", 2), token(3, ">=", 3), token(3, "-", 5)}, 0, api.OK)
	want(t, "==[]", []api.Token{token(3, "=", 0), token(3, "=", 1), token(3, "[", 2), token(3, "]", 3)}, 0, api.OK)
	for s, at := range map[string]int{"<": 0, ">": 0, "< =": 0, "<>=": 0, "=>": 1, "=<": 1, "<=>": 2, "<=<": 2, "+>": 1, "<#\n=": 0} {
		wantForm(t, s, at)
	}
}

func TestReadComments(t *testing.T) { // P6.1
	for _, s := range []string{"#", "##", "# x", "#\n", "#\n#", "# < . \x00 \xff \u00e9\r\t#", " # x\n # y\n", blanks, "#" + strings.Repeat("\n", 9), "#" + strings.Repeat("#", api.MaxText-1)} {
		want(t, s, nil, 0, api.OK)
	}
	want(t, "x#y\nz", []api.Token{token(1, "x", 0), token(1, "z", 4)}, 0, api.OK)
	want(t, "1#\n.5", nil, 3, api.ErrForm)
	want(t, "#\r1\n2", []api.Token{token(2, "2", 4)}, 0, api.OK)
	want(t, "#\n\n<", nil, 3, api.ErrForm)
	for c := range 256 {
		s := "#" + string([]byte{byte(c)}) + "x"
		if c == '\n' {
			want(t, s, []api.Token{token(1, "x", 2)}, 0, api.OK)
			continue
		}
		want(t, s, nil, 0, api.OK)
	}
}

func TestReadBytes(t *testing.T) { // P6.1
	for c := range 256 {
		s := string([]byte{byte(c)})
		switch {
		case strings.Contains(letters, s):
			want(t, s, []api.Token{token(1, s, 0)}, 0, api.OK)
		case strings.Contains(digits, s):
			want(t, s, []api.Token{token(2, s, 0)}, 0, api.OK)
		case strings.Contains(single, s):
			want(t, s, []api.Token{token(3, s, 0)}, 0, api.OK)
		case strings.Contains(blanks+"#", s):
			want(t, s, nil, 0, api.OK)
		default:
			wantForm(t, s, 0)
			wantForm(t, "# x\n"+s+" <", 4)
		}
		for _, around := range [][2]string{{"x", "y"}, {"1", "2"}, {"1.", "5"}, {"1.5", "6"}, {"<", "="}, {"+", "="}, {" ", " "}, {"x ", " < ."}} {
			s := around[0] + s + around[1]
			l, at, e := expected(s)
			want(t, s, l, at, e)
		}
	}
}

func TestReadShort(t *testing.T) { // P6.1
	const alphabet = "aZ09_.<>=+#\n \x00\xc3"
	var all func(s string, left int)
	all = func(s string, left int) {
		l, at, e := expected(s)
		want(t, s, l, at, e)
		if left == 0 {
			return
		}
		for i := range len(alphabet) {
			all(s+alphabet[i:i+1], left-1)
		}
	}
	all("", 4)
}

// mixed are texts of pieces that may be, hardly ever with one that may not; always the same.
func mixed() []string {
	pieces := []string{"x", "Y_2", "most", "end", "0", "12", "3.50", "<=", ">=", "=", "+", "-", "*", "/", ",", ":", ";", "(", ")", "[", "]", " ", "  ", "\n", "\t", "\r\n", "# so < .\n", "#\n"}
	r := rand.New(rand.NewSource(6))
	l := []string{model, "", " ", "x", strings.Repeat(model+"\n", 100)}
	for i := range 300 {
		var s strings.Builder
		for range i {
			s.WriteString(pieces[r.Intn(len(pieces))])
		}
		l = append(l, s.String(), s.String()+"<", s.String()+" . "+s.String())
	}
	return l
}

func TestReadMixed(t *testing.T) { // P6.1
	for _, s := range mixed() {
		l, at, e := expected(s)
		want(t, s, l, at, e)
	}
}

func TestReadLimit(t *testing.T) { // P6.1
	for _, s := range []string{"x", "1", "+", " ", "#", "\n", "x ", "1.", "<=", "<", "\x00", "\xff"} {
		long := strings.Repeat(s, api.MaxText)
		for _, n := range []int{api.MaxText - 1, api.MaxText} {
			l, at, e := expected(long[:n])
			want(t, long[:n], l, at, e)
		}
		want(t, strings.Repeat(s, api.MaxText+1)[:api.MaxText+1], nil, 0, api.ErrLimit)
	}
	end := strings.Repeat(" ", api.MaxText-1)
	wantForm(t, end+"<", api.MaxText-1)
	want(t, end+"<=", nil, 0, api.ErrLimit)
	want(t, "<"+end+" ", nil, 0, api.ErrLimit)
	want(t, strings.Repeat("x ", 1<<20), nil, 0, api.ErrLimit)
}

func TestName(t *testing.T) { // P6.2
	longest := letters[:api.MaxName]
	for _, s := range []string{"x", "Z", "x_1", "x_", "Rows", "ROWS", "Most", "rows_", "row", "rowss", "ends", "en", "summ", "frees", "most1", longest, longest[1:], "x" + strings.Repeat("_", api.MaxName-1)} {
		if !tokens.Name(s) {
			t.Errorf("%q may be a name", s)
		}
	}
	for _, s := range append(strings.Fields(ownWords), "", "_x", "_", "1", "1x", "1.5", "+", "<=", "x y", " x", "x ", "x\n", "x#", "#x", "x.1", "x-1", "x;", "\u00e9", "x\u00e9", "\xff", "x\x00", "\x00", longest+"x", strings.Repeat("w", api.MaxName+1), strings.Repeat("x", 1<<20)) {
		if tokens.Name(s) {
			t.Errorf("%q may not be a name", s)
		}
	}
}

func TestNameBytes(t *testing.T) { // P6.2
	for c := range 256 {
		s := string([]byte{byte(c)})
		if may := strings.Contains(letters, s); tokens.Name(s) != may || tokens.Name(s+"1") != may || tokens.Name(s+"x") != may {
			t.Errorf("whether %q may begin a name: %t", s, !may)
		}
		if may := strings.Contains(ofWord, s); tokens.Name("x"+s) != may || tokens.Name("x"+s+"y") != may || tokens.Name(strings.Repeat("x", api.MaxName-1)+s) != may {
			t.Errorf("whether %q may stand in a name: %t", s, !may)
		}
	}
}

func TestApart(t *testing.T) { // P6.3
	for _, s := range mixed() {
		l, _, e := tokens.Read(s)
		if e != api.OK {
			continue
		}
		for _, between := range []string{" ", "\t", "\n", "\r", " \n ", "# y < .\n"} {
			var out strings.Builder
			var again []api.Token
			for _, k := range l {
				again = append(again, token(k.Kind, k.Text, out.Len()))
				out.WriteString(k.Text + between)
			}
			want(t, out.String(), again, 0, api.OK)
			want(t, strings.TrimSuffix(out.String(), between), again, 0, api.OK)
		}
	}
}

func TestClose(t *testing.T) { // P6.3
	for _, s := range mixed() {
		l, _, e := tokens.Read(s)
		if e != api.OK {
			continue
		}
		// Signs need nothing on either side, nor does a word behind a number.
		var out strings.Builder
		var again []api.Token
		for i, k := range l {
			if i > 0 && l[i-1].Kind != 3 && k.Kind != 3 && (l[i-1].Kind == 1 || k.Kind == 2) {
				out.WriteByte(' ')
			}
			again = append(again, token(k.Kind, k.Text, out.Len()))
			out.WriteString(k.Text)
		}
		want(t, out.String(), again, 0, api.OK)
	}
	for s, parts := range map[string]string{"x y": "x y", "xy": "xy", "x 1": "x 1", "x1": "x1", "1 2": "1 2", "12": "12", "1 x": "1 x", "1x": "1 x", "x#\ny": "x y", "1#\n2": "1 2"} {
		if l := texts(t, s); !slices.Equal(l, strings.Fields(parts)) {
			t.Errorf("Read(%q): %v", s, l)
		}
	}
}

func TestMemory(t *testing.T) { // R4
	l, _, _ := expected(model)
	b := []byte(model)
	s := unsafe.String(unsafe.SliceData(b), len(b))
	first, _, _ := tokens.Read(s)
	second, _, _ := tokens.Read(s)
	if string(b) != model {
		t.Errorf("what was handed in is changed: %q", b)
	}
	clear(b)
	if !slices.Equal(first, l) {
		t.Errorf("tokens share memory with the text: %v", first)
	}
	clear(first[:cap(first)])
	if !slices.Equal(second, l) {
		t.Errorf("two answers share memory: %v", second)
	}
	want(t, model, l, 0, api.OK)
}
