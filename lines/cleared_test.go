package lines

import (
	"strings"
	"testing"

	"assayer/api"
)

// TestCleared: behind what is left nothing stands any more of the lines ahead of it, which no call could tell.
func TestCleared(t *testing.T) {
	long := strings.Repeat("x", api.MaxLine)
	for _, l := range [][]string{{"abc", "def\ng"}, {"abc\n"}, {"a\x00b\nc"}, {long, "\r\n", "a"}, {long, long, "\nabc\nd"}} {
		r := New()
		for _, s := range l {
			if _, _, e := r.Put([]byte(s)); e != api.OK {
				t.Fatalf("Put(%.70q): %d", s, e)
			}
		}
		for i, c := range r.kept[len(r.kept):cap(r.kept)] {
			if c != 0 {
				t.Fatalf("%.70q: a byte %d is there still, %d behind what is left", l, c, i)
			}
		}
	}
}
