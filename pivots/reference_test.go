package pivots_test

import (
	"math/big"
	"math/rand"
	"slices"
	"strings"
	"testing"

	"assayer/api"
	"assayer/ints"
	"assayer/rats"
)

// rat is a fraction as it stands here, in lowest terms or not.
func rat(num int64, den ...uint32) api.Rat { return api.Rat{Num: ints.Of(num), Den: den} }

// mayNot are fractions that may not be.
func mayNot() []api.Rat {
	return []api.Rat{
		{}, {Num: ints.Of(5)}, {Num: ints.Of(1), Den: api.Nat{}}, rat(1, 0), rat(1, 1, 0), rat(0, 0), rat(2, 4), rat(-2, 4), rat(4, 2), rat(0, 5), rat(6, 0, 1),
		{Num: api.Int{Neg: true}, Den: api.Nat{1}}, {Num: api.Int{N: api.Nat{0}}, Den: api.Nat{1}}, {Num: api.Int{N: api.Nat{3, 0}}, Den: api.Nat{5}}, {Num: api.Int{Neg: true, N: api.Nat{3, 0}}, Den: api.Nat{5}},
	}
}

// row is the fractions that another library reads in a text, with blanks between.
func row(t *testing.T, s string) []api.Rat {
	t.Helper()
	var out []api.Rat
	for _, s := range strings.Fields(s) {
		q, ok := new(big.Rat).SetString(s)
		if !ok {
			t.Fatalf("%q is no fraction's text", s)
		}
		out = append(out, ratOf(q))
	}
	return out
}

// grid is the rows of a text, with strokes between, with blanks around; of no text there is no row.
func grid(t *testing.T, s string) [][]api.Rat {
	t.Helper()
	var out [][]api.Rat
	if s != "" {
		for line := range strings.SplitSeq(s, " / ") {
			out = append(out, row(t, line))
		}
	}
	return out
}

func ratOf(q *big.Rat) api.Rat {
	return api.Rat{Num: api.Int{Neg: q.Sign() < 0, N: natOf(q.Num())}, Den: natOf(q.Denom())}
}

// natOf is how far from 0 the number is.
func natOf(n *big.Int) api.Nat {
	var a api.Nat
	for n = new(big.Int).Abs(n); n.Sign() > 0; n.Rsh(n, 32) {
		a = append(a, uint32(new(big.Int).And(n, big.NewInt(1<<32-1)).Uint64()))
	}
	return a
}

// bigOf is a fraction that may be, as another library has it.
func bigOf(a api.Rat) *big.Rat {
	num, den := bigNat(a.Num.N), bigNat(a.Den)
	if a.Num.Neg {
		num.Neg(num)
	}
	return new(big.Rat).SetFrac(num, den)
}

func bigNat(a api.Nat) *big.Int {
	n := new(big.Int)
	for _, p := range slices.Backward(a) {
		n.Or(n.Lsh(n, 32), big.NewInt(int64(p)))
	}
	return n
}

func bigGrid(l [][]api.Rat) [][]*big.Rat {
	var out [][]*big.Rat
	for _, row := range l {
		var own []*big.Rat
		for _, a := range row {
			own = append(own, bigOf(a))
		}
		out = append(out, own)
	}
	return out
}

func same(a, b api.Rat) bool {
	return a.Num.Neg == b.Num.Neg && slices.Equal(a.Num.N, b.Num.N) && slices.Equal(a.Den, b.Den)
}

func sameRow(a, b []api.Rat) bool { return slices.EqualFunc(a, b, same) }

func sameGrid(a, b [][]api.Rat) bool { return slices.EqualFunc(a, b, sameRow) }

// told is a grid as a text.
func told(l [][]api.Rat) string {
	var rows []string
	for _, row := range l {
		var out []string
		for _, a := range row {
			if !rats.Check(a) {
				out = append(out, "?")
				continue
			}
			out = append(out, bigOf(a).RatString())
		}
		rows = append(rows, strings.Join(out, " "))
	}
	return strings.Join(rows, " / ")
}

// clones is the grid with new lists, but the fractions are the same ones.
func clones(l [][]api.Rat) [][]api.Rat {
	var out [][]api.Rat
	for _, row := range l {
		out = append(out, slices.Clone(row))
	}
	return out
}

// some are grids of each shape: ordinary ones, edges, ones with holes, ones of many parts; always the same.
func some(t *testing.T) [][][]api.Rat {
	t.Helper()
	var l [][][]api.Rat
	for _, s := range []string{
		"0", "1", "-7/2", "0 / 0", "0 / 3", "3 / 0", "0 0", "0 5", "5 0", "-1 -1", "2 4 / 1 1", "1 4 / 2 6 / -1 0", "1 1 / 0 -1", "1 2 3 / 4 5 6 / 7 8 9", "1 0 0 / 0 1 0 / 0 0 1", "0 0 1 / 0 1 0 / 1 0 0",
		"1 1/2 1/3 / 1/2 1/3 1/4 / 1/3 1/4 1/5", "-1 -2 -3 / 4 -5 6", "2 4 / 3 6 / 5 10 / 7 14", "0 0 0 / 0 0 0", "1 1 1 1 / 1 1 1 1 / 1 1 1 2", "1 0 2 0 / 0 3 0 4 / 5 0 -6 0",
		"4294967296 4294967297 / 4294967295 4294967296", "18446744073709551616 1/18446744073709551616 / 18446744073709551615/18446744073709551616 -1",
	} {
		l = append(l, grid(t, s))
	}
	r := rand.New(rand.NewSource(16))
	for _, shape := range [][2]int{{1, 1}, {1, 6}, {6, 1}, {2, 2}, {3, 3}, {2, 7}, {7, 2}, {5, 4}, {4, 6}, {6, 6}} {
		for range 4 {
			l = append(l, holed(r, shape[0], shape[1]))
		}
		l = append(l, full(r, shape[0], shape[1], 3), full(r, shape[0], shape[1], 80))
	}
	return l
}

// full is a grid of fractions of so many bits at most, above and below.
func full(r *rand.Rand, rows, columns, bits int) [][]api.Rat {
	return drawn(rows, columns, func() *big.Rat {
		most := new(big.Int).Lsh(big.NewInt(1), uint(bits))
		num, den := new(big.Int).Rand(r, most), new(big.Int).Rand(r, most)
		q := new(big.Rat).SetFrac(num, den.Add(den, big.NewInt(1)))
		if r.Intn(2) == 0 {
			q.Neg(q)
		}
		return q
	})
}

// holed is a grid of small fractions, many of them 0, and many alike.
func holed(r *rand.Rand, rows, columns int) [][]api.Rat {
	return drawn(rows, columns, func() *big.Rat {
		return big.NewRat(int64(r.Intn(7)-2)*int64(r.Intn(2)), int64(1+r.Intn(2)))
	})
}

func drawn(rows, columns int, next func() *big.Rat) [][]api.Rat {
	var out [][]api.Rat
	for range rows {
		var row []api.Rat
		for range columns {
			row = append(row, ratOf(next()))
		}
		out = append(out, row)
	}
	return out
}

// wrong are lists like this grid that are none: one fraction may not be, or one row is longer or shorter than the others.
func wrong(l [][]api.Rat) [][][]api.Rat {
	var out [][][]api.Rat
	for i, row := range l {
		for j := range row {
			bad := clones(l)
			bad[i][j] = mayNot()[(i*5+j)%len(mayNot())]
			out = append(out, bad)
		}
		if len(l) > 1 {
			longer, shorter, none := clones(l), clones(l), clones(l)
			longer[i] = append(longer[i], rats.Of(0))
			shorter[i] = shorter[i][1:]
			none[i] = nil
			out = append(out, longer, shorter, none)
		}
	}
	return out
}

// eachWrong hands on lists that are no grid.
func eachWrong(t *testing.T, refused func(l [][]api.Rat)) {
	t.Helper()
	for _, l := range some(t) {
		for _, bad := range wrong(l) {
			refused(bad)
		}
	}
	for _, l := range [][][]api.Rat{nil, {}, {nil}, {{}}, {nil, nil}, {{}, {}, {}}, {nil, row(t, "1")}, {row(t, "1"), nil}, {nil, row(t, "1 1"), row(t, "1 1")}, grid(t, "1 1 / 0 -1 5"), grid(t, "1 1 1 / 0 -1"), grid(t, "1 1 / 1 / 1 1")} {
		refused(l)
	}
	for _, odd := range mayNot() {
		one, right := rats.Of(1), rats.Of(-1)
		refused([][]api.Rat{{odd}})
		refused([][]api.Rat{{one, odd}, {right, one}})
		refused([][]api.Rat{{one, one}, {right, odd}})
		refused([][]api.Rat{{odd, one}, {right, one}})
		refused([][]api.Rat{{one, one}, {odd, right}})
		refused([][]api.Rat{{one, right, odd}, {right, one, one}})
	}
}

// pivoted is what Pivot must answer of a grid that has this place, where 0 does not stand.
func pivoted(l [][]api.Rat, row, col int) [][]*big.Rat {
	g := bigGrid(l)
	var turner []*big.Rat
	for _, q := range g[row] {
		turner = append(turner, new(big.Rat).Quo(q, g[row][col]))
	}
	for i, r := range bigGrid(l) {
		for j, q := range r {
			g[i][j] = new(big.Rat).Sub(q, new(big.Rat).Mul(turner[j], r[col]))
		}
	}
	g[row] = turner
	return g
}

// leastOf is what Least must answer, of a column ahead of the last one, and a tag for each row but the last.
func leastOf(l [][]api.Rat, col int, tags []int) (int, api.Errno) {
	var found []int
	var least *big.Rat
	g := bigGrid(l)
	for i, r := range g[:len(g)-1] {
		if r[col].Sign() <= 0 {
			continue
		}
		q := new(big.Rat).Quo(r[len(r)-1], r[col])
		if least == nil || q.Cmp(least) < 0 {
			least, found = q, nil
		}
		if q.Cmp(least) == 0 {
			found = append(found, i)
		}
	}
	for _, i := range found {
		if !slices.ContainsFunc(found, func(j int) bool { return tags[j] < tags[i] || tags[j] == tags[i] && j < i }) {
			return i, api.OK
		}
	}
	return 0, api.ErrNone
}

// firstOf is what First must answer of a grid.
func firstOf(l [][]api.Rat) (int, api.Errno) {
	goal := bigGrid(l)[len(l)-1]
	at := slices.IndexFunc(goal[:len(goal)-1], func(q *big.Rat) bool { return q.Sign() < 0 })
	if at < 0 {
		return 0, api.ErrNone
	}
	return at, api.OK
}
