package pivots_test

import (
	"math"
	"math/big"
	"math/rand"
	"slices"
	"testing"

	"assayer/api"
	"assayer/grids"
	"assayer/pivots"
	"assayer/rats"
)

func wantGrid(t *testing.T, what string, got [][]api.Rat, e api.Errno, want [][]*big.Rat) {
	t.Helper()
	var l [][]api.Rat
	for _, row := range want {
		var own []api.Rat
		for _, q := range row {
			own = append(own, ratOf(q))
		}
		l = append(l, own)
	}
	if !sameGrid(got, l) || e != api.OK {
		t.Errorf("%s: %s %d, but it is %s", what, told(got), e, told(l))
	}
}

func wantPlace(t *testing.T, what string, got int, e api.Errno, want int, fault api.Errno) {
	t.Helper()
	if got != want || e != fault {
		t.Errorf("%s: %d %d, but it is %d %d", what, got, e, want, fault)
	}
}

func wantNoGrid(t *testing.T, l [][]api.Rat, row, col int, fault api.Errno) {
	t.Helper()
	if got, e := pivots.Pivot(l, row, col); len(got) != 0 || e != fault {
		t.Errorf("Pivot(%s, %d, %d): %s %d, but it is %d", told(l), row, col, told(got), e, fault)
	}
}

// eachPlace hands on each place of some grids.
func eachPlace(t *testing.T, use func(l [][]api.Rat, row, col int)) {
	t.Helper()
	for _, l := range some(t) {
		for row := range l {
			for col := range l[0] {
				use(l, row, col)
			}
		}
	}
}

// noPlaces are numbers that are no place of n.
func noPlaces(n int) []int {
	return []int{n, n + 1, 2 * n, -1, -2, -n, -n - 1, math.MaxInt, math.MinInt, math.MaxInt32, math.MinInt32, 1 << 32, 1 << 40}
}

func TestPivot(t *testing.T) { // P16.1
	turned, zeros := 0, 0
	eachPlace(t, func(l [][]api.Rat, row, col int) {
		if bigOf(l[row][col]).Sign() == 0 {
			zeros++
			wantNoGrid(t, l, row, col, api.ErrZero)
			return
		}
		turned++
		got, e := pivots.Pivot(l, row, col)
		wantGrid(t, told(l), got, e, pivoted(l, row, col))
	})
	if turned < 400 || zeros < 200 {
		t.Errorf("%d turned, %d zeros", turned, zeros)
	}
	for _, c := range []struct {
		l        string
		row, col int
		want     string
	}{
		{"2 4 / 1 1", 0, 0, "1 2 / 0 -1"}, {"2 4 / 1 1", 0, 1, "1/2 1 / 1/2 0"}, {"2 4 / 1 1", 1, 0, "0 2 / 1 1"}, {"2 4 / 1 1", 1, 1, "-2 0 / 1 1"},
		{"5", 0, 0, "1"}, {"-1/3", 0, 0, "1"}, {"-2 1 4", 0, 0, "1 -1/2 -2"}, {"-2 1 4", 0, 2, "-1/2 1/4 1"}, {"3 / -2 / 0", 0, 0, "1 / 0 / 0"}, {"0 2 / 3 0", 0, 1, "0 1 / 3 0"},
		{"0 1/2 3 / 1 -1 0 / 0 0 7", 0, 1, "0 1 6 / 1 0 6 / 0 0 7"},
	} {
		if got, e := pivots.Pivot(grid(t, c.l), c.row, c.col); told(got) != c.want || e != api.OK {
			t.Errorf("Pivot(%s, %d, %d): %s %d", c.l, c.row, c.col, told(got), e)
		}
	}
}

func TestPivotWrong(t *testing.T) { // P16.1
	eachWrong(t, func(l [][]api.Rat) {
		t.Helper()
		for _, row := range []int{-1, 0, 1, len(l) - 1} {
			for _, col := range []int{-1, 0, 1} {
				wantNoGrid(t, l, row, col, api.ErrArg)
			}
		}
	})
	for _, l := range some(t) {
		for _, no := range noPlaces(len(l)) {
			for col := range l[0] {
				wantNoGrid(t, l, no, col, api.ErrArg)
			}
		}
		for _, no := range noPlaces(len(l[0])) {
			for row := range l {
				wantNoGrid(t, l, row, no, api.ErrArg)
			}
			wantNoGrid(t, l, -1, no, api.ErrArg)
			wantNoGrid(t, l, len(l), no, api.ErrArg)
		}
	}
}

// tagsOf are tags for all rows but the last: in order, turned, alike, at the ends of what a number may be, and drawn.
func tagsOf(r *rand.Rand, l [][]api.Rat) [][]int {
	out := make([][]int, 7)
	for i := range l[1:] {
		for j, tag := range []int{i, -i, 7, []int{math.MaxInt, math.MinInt, 0}[i%3], []int{-1, math.MaxInt, math.MinInt}[i%3], r.Intn(3) - 1, r.Int() - r.Int()} {
			out[j] = append(out[j], tag)
		}
	}
	return out
}

func TestLeast(t *testing.T) { // P16.2
	r := rand.New(rand.NewSource(162))
	l := some(t)
	for range 600 {
		// Small numbers and few columns: most of these have several rows that are as good.
		l = append(l, holed(r, 2+r.Intn(6), 2+r.Intn(2)))
	}
	ends, ties := map[api.Errno]int{}, 0
	for _, l := range l {
		for col := range len(l[0]) - 1 {
			told := told(l)
			answers := map[int]bool{}
			for _, tags := range tagsOf(r, l) {
				want, fault := leastOf(l, col, tags)
				got, e := pivots.Least(l, col, tags)
				wantPlace(t, told, got, e, want, fault)
				answers[got] = true
				ends[e]++
			}
			if len(answers) > 1 {
				ties++
			}
		}
	}
	if ends[api.OK] < 1000 || ends[api.ErrNone] < 500 || ties < 100 {
		t.Errorf("%v, %d times the tags told", ends, ties)
	}
}

func TestLeastKnown(t *testing.T) { // P16.2
	for _, c := range []struct {
		l    string
		col  int
		tags []int
		want int
		e    api.Errno
	}{
		{"1 4 / 2 6 / -1 0", 0, []int{5, 7}, 1, api.OK}, {"1 4 / 2 8 / -1 0", 0, []int{5, 7}, 0, api.OK}, {"1 4 / 2 8 / -1 0", 0, []int{7, 5}, 1, api.OK}, {"1 4 / 2 8 / -1 0", 0, []int{5, 5}, 0, api.OK},
		{"1 4 / 2 8 / 3 12 / -1 0", 0, []int{5, 4, 4}, 1, api.OK}, {"1 4 / 2 8 / 3 11 / -1 0", 0, []int{5, 4, 9}, 2, api.OK}, {"1 4 / 2 8 / -1 0", 0, []int{math.MaxInt, math.MinInt}, 1, api.OK}, {"1 4 / 2 8 / -1 0", 0, []int{math.MinInt, math.MaxInt}, 0, api.OK},
		// Below 0 or 0 at the column there is no share, but what stands last may be anything.
		{"-1 -9 / 1 4 / 0 -9 / -1 0", 0, []int{1, 2, 3}, 1, api.OK}, {"1 -4 / 1 4 / -1 0", 0, []int{9, 2}, 0, api.OK}, {"1 0 / 1 -1/9 / -1 0", 0, []int{1, 2}, 1, api.OK}, {"0 1 / -1 1 / 5 5", 0, []int{1, 2}, 0, api.ErrNone},
		// The last row is never taken.
		{"2 4 / 1 0", 0, []int{3}, 0, api.OK}, {"0 4 / 1 0", 0, []int{3}, 0, api.ErrNone}, {"1 0", 0, nil, 0, api.ErrNone}, {"1 0", 0, []int{}, 0, api.ErrNone},
		{"1 2 3 / 2 1 3 / 0 0 0", 0, []int{0, 1}, 1, api.OK}, {"1 2 3 / 2 1 3 / 0 0 0", 1, []int{0, 1}, 0, api.OK},
		// The column itself has no share of its own.
		{"1 1 / 2 2 / -1 0", 1, []int{0, 1}, 0, api.ErrArg}, {"1 / 2 / 3", 0, []int{0, 1}, 0, api.ErrArg}, {"1", 0, nil, 0, api.ErrArg},
	} {
		got, e := pivots.Least(grid(t, c.l), c.col, c.tags)
		wantPlace(t, c.l, got, e, c.want, c.e)
	}
}

func TestLeastWrong(t *testing.T) { // P16.2
	refused := func(l [][]api.Rat, col int, tags []int) {
		t.Helper()
		got, e := pivots.Least(l, col, tags)
		wantPlace(t, told(l), got, e, 0, api.ErrArg)
	}
	eachWrong(t, func(l [][]api.Rat) {
		t.Helper()
		for col := range 3 {
			refused(l, col, make([]int, max(0, len(l)-1)))
			refused(l, col, make([]int, len(l)))
		}
		refused(l, -1, nil)
	})
	for _, l := range some(t) {
		n := len(l[0])
		for _, no := range append(noPlaces(n), n-1) {
			refused(l, no, make([]int, len(l)-1))
		}
		for col := range n {
			refused(l, col, make([]int, len(l)))
			refused(l, col, make([]int, len(l)+1))
			refused(l, col, make([]int, 2*len(l)))
			if len(l) > 1 {
				refused(l, col, make([]int, len(l)-2))
				refused(l, col, nil)
			}
		}
	}
}

func TestFirst(t *testing.T) { // P16.3
	r := rand.New(rand.NewSource(163))
	l := some(t)
	for range 500 {
		l = append(l, holed(r, 1+r.Intn(3), 1+r.Intn(8)))
	}
	places, none := map[int]int{}, 0
	for _, l := range l {
		want, fault := firstOf(l)
		got, e := pivots.First(l)
		wantPlace(t, told(l), got, e, want, fault)
		if e == api.OK {
			places[got]++
		} else {
			none++
		}
	}
	if len(places) < 5 || places[0] < 50 || none < 100 {
		t.Errorf("%v, none %d times", places, none)
	}
	for _, c := range []struct {
		l    string
		want int
		e    api.Errno
	}{
		{"1 1 / 0 -1", 0, api.ErrNone}, {"1 1 / -1 -1", 0, api.OK}, {"1 1 / 0 -1 5", 0, api.ErrArg}, {"-1 -1 / 0 0", 0, api.ErrNone}, {"-1 1 1 / 1 -1/9 1", 1, api.OK},
		{"-1", 0, api.ErrNone}, {"1 / -1", 0, api.ErrNone}, {"-1 0", 0, api.OK}, {"0 -1 -2 0", 1, api.OK}, {"0 0 0 -2", 0, api.ErrNone}, {"0 0 -5 -2", 2, api.OK}, {"3 -1 -9 0", 1, api.OK},
	} {
		got, e := pivots.First(grid(t, c.l))
		wantPlace(t, c.l, got, e, c.want, c.e)
	}
	eachWrong(t, func(l [][]api.Rat) {
		t.Helper()
		got, e := pivots.First(l)
		wantPlace(t, told(l), got, e, 0, api.ErrArg)
	})
}

// TestGrids: what is taken as a grid is one by grids.Check, and has a row and a column.
func TestGrids(t *testing.T) {
	l := append(some(t), nil, [][]api.Rat{}, [][]api.Rat{nil}, [][]api.Rat{{}, {}})
	eachWrong(t, func(bad [][]api.Rat) { l = append(l, bad) })
	for _, l := range l {
		is := grids.Check(l) && len(l) > 0 && len(l[0]) > 0
		if _, e := pivots.First(l); (e == api.ErrArg) == is {
			t.Errorf("%s: %d", told(l), e)
		}
		if _, e := pivots.Pivot(l, 0, 0); (e == api.ErrArg) == is {
			t.Errorf("%s: %d", told(l), e)
		}
	}
}

// zeroAt is the grid with one more column, so that a column drawn, with 1 behind it, makes 0 of all rows.
func zeroAt(r *rand.Rand, l [][]api.Rat) (wide [][]api.Rat, x []api.Rat) {
	x = full(r, 1, len(l[0]), 5)[0]
	made, _ := grids.Times(l, x)
	for i, row := range l {
		wide = append(wide, append(slices.Clone(row), rats.Sub(rats.Of(0), made[i])))
	}
	return wide, append(x, rats.Of(1))
}

// makesZero tells whether the grid makes 0 of a column, in all rows.
func makesZero(t *testing.T, l [][]api.Rat, x []api.Rat) bool {
	t.Helper()
	made, e := grids.Times(l, x)
	if e != api.OK {
		t.Errorf("%s, of %d numbers: %d", told(l), len(x), e)
	}
	return !slices.ContainsFunc(made, func(a api.Rat) bool { return rats.Sign(a) != 0 })
}

func TestPoints(t *testing.T) { // P16.4
	r := rand.New(rand.NewSource(164))
	ends := map[bool]int{}
	eachPlace(t, func(l [][]api.Rat, row, col int) {
		wide, x := zeroAt(r, l)
		got, e := pivots.Pivot(wide, row, col)
		if rats.Sign(wide[row][col]) == 0 || e != api.OK {
			return
		}
		if !makesZero(t, wide, x) || !makesZero(t, got, x) {
			t.Errorf("%s, turned %s, at %s", told(wide), told(got), told([][]api.Rat{x}))
		}
		for i := range x {
			// One number is another one now, and most of these make something else.
			off := slices.Clone(x)
			off[i] = rats.Add(off[i], rats.Of(int64(1+r.Intn(3))))
			was := makesZero(t, wide, off)
			if makesZero(t, got, off) != was {
				t.Errorf("%s, turned %s, at %s", told(wide), told(got), told([][]api.Rat{off}))
			}
			ends[was]++
		}
	})
	if ends[true] < 50 || ends[false] < 1000 {
		t.Errorf("%v", ends)
	}
}

func TestTurnedColumn(t *testing.T) { // P16.4
	eachPlace(t, func(l [][]api.Rat, row, col int) {
		got, e := pivots.Pivot(l, row, col)
		if e != api.OK {
			return
		}
		for i := range got {
			want := "0"
			if i == row {
				want = "1"
			}
			if s := rats.Text(got[i][col]); s != want {
				t.Errorf("Pivot(%s, %d, %d): %s in row %d", told(l), row, col, s, i)
			}
		}
		if again, e := pivots.Pivot(got, row, col); !sameGrid(again, got) || e != api.OK {
			t.Errorf("Pivot(%s, %d, %d) twice: %s %d", told(l), row, col, told(again), e)
		}
		if rank, _ := grids.Rank(l); rank == len(l) {
			if now, e := grids.Rank(got); now != rank || e != api.OK {
				t.Errorf("Rank of Pivot(%s, %d, %d): %d %d", told(l), row, col, now, e)
			}
		}
	})
}

// TestClimb: by First, Least and Pivot alone one comes to the best, though by rows that are as good one could go round for ever.
func TestClimb(t *testing.T) { // P16.1, P16.2, P16.3
	for _, c := range []struct {
		l    string
		best string
	}{
		{"1 1 1 0 4 / 1 3 0 1 6 / -3 -2 0 0 0", "12"},
		{"2 1 1 0 0 18 / 2 3 0 1 0 42 / 3 1 0 0 1 24 / -3 -2 0 0 0 0", "33"},
		{"1/4 -8 -1 9 1 0 0 0 / 1/2 -12 -1/2 3 0 1 0 0 / 0 0 1 0 0 0 1 1 / -3/4 20 -1/2 6 0 0 0 0", "5/4"},
		{"1/4 -60 -1/25 9 1 0 0 0 / 1/2 -90 -1/50 3 0 1 0 0 / 0 0 1 0 0 0 1 1 / -3/4 150 -1/50 6 0 0 0 0", "1/20"},
		{"1/2 -11/2 -5/2 9 1 0 0 0 / 1/2 -3/2 -1/2 1 0 1 0 0 / 1 0 0 0 0 0 1 1 / -10 57 9 24 0 0 0 0", "1"},
	} {
		l := grid(t, c.l)
		var tags []int
		for i := range l[1:] {
			tags = append(tags, len(l[0])-len(l)+i)
		}
		steps := 0
		for col, e := pivots.First(l); e == api.OK && steps < 100; col, e = pivots.First(l) {
			row, e := pivots.Least(l, col, tags)
			if e != api.OK {
				t.Fatalf("Least(%s, %d): %d", told(l), col, e)
			}
			l, _ = pivots.Pivot(l, row, col)
			tags[row] = col
			steps++
		}
		if best := rats.Text(l[len(l)-1][len(l[0])-1]); best != c.best || steps == 100 {
			t.Errorf("%s: %s behind %d steps, but it is %s", c.l, best, steps, c.best)
		}
	}
}

// TestGreat: each call ends soon, though the grid is great, or its numbers are long.
func TestGreat(t *testing.T) { // R1
	r := rand.New(rand.NewSource(161))
	for _, l := range [][][]api.Rat{full(r, 60, 60, 20), holed(r, 200, 200), full(r, 2, 3000, 10), full(r, 3000, 2, 10), full(r, 8, 8, 3000)} {
		l[len(l)-2][0] = rats.Of(3)
		got, e := pivots.Pivot(l, len(l)-2, 0)
		wantGrid(t, "great", got, e, pivoted(l, len(l)-2, 0))
		tags := make([]int, len(l)-1)
		want, fault := leastOf(l, 0, tags)
		at, e := pivots.Least(l, 0, tags)
		wantPlace(t, "great", at, e, want, fault)
		want, fault = firstOf(l)
		at, e = pivots.First(l)
		wantPlace(t, "great", at, e, want, fault)
	}
}
