package grids_test

import (
	"math/big"
	"math/rand"
	"slices"
	"strings"
	"testing"

	"assayer/api"
	"assayer/grids"
	"assayer/ints"
	"assayer/rats"
	"assayer/vecs"
)

const top = 1<<32 - 1

// rat is a fraction as it stands here, in lowest terms or not.
func rat(num int64, den ...uint32) api.Rat { return api.Rat{Num: ints.Of(num), Den: den} }

// mayNot are fractions that may not be.
func mayNot() []api.Rat {
	return []api.Rat{
		{}, {Num: ints.Of(5)}, {Num: ints.Of(1), Den: api.Nat{}}, rat(1, 0), rat(1, 1, 0), rat(5, 7, 3, 0), rat(0, 0),
		rat(2, 4), rat(-2, 4), rat(4, 2), rat(5, 5), rat(0, 5), rat(6, 0, 1),
		{Num: api.Int{Neg: true}, Den: api.Nat{1}}, {Num: api.Int{N: api.Nat{0}}, Den: api.Nat{1}}, {Num: api.Int{N: api.Nat{3, 0}}, Den: api.Nat{5}}, {Num: api.Int{Neg: true, N: api.Nat{3, 0}}, Den: api.Nat{5}},
	}
}

// row is the fractions that another library reads in a text, with blanks between.
func row(t *testing.T, s string) []api.Rat {
	t.Helper()
	var out []api.Rat
	for _, s := range strings.Fields(s) {
		q, ok := new(big.Rat).SetString(s)
		if !ok {
			t.Fatalf("%q is no fraction's text", s)
		}
		out = append(out, ratOf(q))
	}
	return out
}

// grid is the rows of a text, with semicolons between; of no text there is no row.
func grid(t *testing.T, s string) [][]api.Rat {
	t.Helper()
	var out [][]api.Rat
	if s != "" {
		for line := range strings.SplitSeq(s, ";") {
			out = append(out, row(t, line))
		}
	}
	return out
}

func ratOf(q *big.Rat) api.Rat {
	return api.Rat{Num: api.Int{Neg: q.Sign() < 0, N: natOf(q.Num())}, Den: natOf(q.Denom())}
}

// natOf is how far from 0 the number is.
func natOf(n *big.Int) api.Nat {
	var a api.Nat
	for n = new(big.Int).Abs(n); n.Sign() > 0; n.Rsh(n, 32) {
		a = append(a, uint32(new(big.Int).And(n, big.NewInt(top)).Uint64()))
	}
	return a
}

// bigOf is a fraction that may be, as another library has it.
func bigOf(a api.Rat) *big.Rat {
	num, den := bigNat(a.Num.N), bigNat(a.Den)
	if a.Num.Neg {
		num.Neg(num)
	}
	return new(big.Rat).SetFrac(num, den)
}

func bigNat(a api.Nat) *big.Int {
	n := new(big.Int)
	for _, p := range slices.Backward(a) {
		n.Or(n.Lsh(n, 32), big.NewInt(int64(p)))
	}
	return n
}

func bigRow(l []api.Rat) []*big.Rat {
	var out []*big.Rat
	for _, a := range l {
		out = append(out, bigOf(a))
	}
	return out
}

func same(a, b api.Rat) bool {
	return a.Num.Neg == b.Num.Neg && slices.Equal(a.Num.N, b.Num.N) && slices.Equal(a.Den, b.Den)
}

func sameRow(a, b []api.Rat) bool { return slices.EqualFunc(a, b, same) }

func sameGrid(a, b [][]api.Rat) bool { return slices.EqualFunc(a, b, sameRow) }

// clones is the grid with new lists, but the fractions are the same ones.
func clones(l [][]api.Rat) [][]api.Rat {
	out := make([][]api.Rat, 0, len(l))
	for _, row := range l {
		out = append(out, slices.Clone(row))
	}
	return out
}

// some are grids of each shape: ordinary ones, edges, and ones of many parts, of full rank and of less; always the same.
func some(t *testing.T) [][][]api.Rat {
	t.Helper()
	l := [][][]api.Rat{nil, {}, {nil}, {nil, {}, nil}}
	for _, s := range []string{
		"0", "1", "-7/2", "0;0", "0;3", "0 0", "0 5", "1 2;3 4", "1 2;3 4;5 6", "1 2 3;4 5 6", "1 2;2 4;0 1", "1 1;1 -1", "1 1", "1;1",
		"0 1;1 0", "0 0 1;0 1 0;1 0 0", "0 1 2;0 2 4;0 0 7", "0 1 2;0 2 4;0 0 0;0 3 7", "1 2 3;4 5 6;7 8 9", "1 1/2 1/3;1/2 1/3 1/4;1/3 1/4 1/5", "2 4;3 6;5 10;7 14", "0 0 0;0 0 0", "1 1 1 1;1 1 1 1;1 1 1 2",
		"4294967296 4294967297;4294967295 4294967296", "18446744073709551616 1/18446744073709551616;18446744073709551615/18446744073709551616 -1",
	} {
		l = append(l, grid(t, s))
	}
	r := rand.New(rand.NewSource(5))
	for _, shape := range [][3]int{{1, 5, 1}, {5, 1, 1}, {3, 3, 3}, {4, 4, 2}, {5, 3, 3}, {3, 5, 3}, {6, 4, 3}, {6, 6, 6}, {7, 7, 5}, {4, 9, 2}, {9, 4, 1}} {
		l = append(l, ofRank(r, shape[0], shape[1], shape[2], 3), ofRank(r, shape[0], shape[1], shape[2], 40), holed(r, shape[0], shape[1]))
	}
	return l
}

// ofRank is a grid of so many rows and columns that is made of two ones with so many of them between: its rank is hardly ever less than that, and never more.
func ofRank(r *rand.Rand, rows, columns, rank, bits int) [][]api.Rat {
	left, right := make([][]*big.Rat, rows), make([][]*big.Rat, columns)
	for i := range left {
		left[i] = anyRow(r, rank, bits)
	}
	for i := range right {
		right[i] = anyRow(r, rank, bits)
	}
	var out [][]api.Rat
	for _, a := range left {
		var row []api.Rat
		for _, b := range right {
			row = append(row, ratOf(bigDot(a, b)))
		}
		out = append(out, row)
	}
	return out
}

func anyRow(r *rand.Rand, n, bits int) []*big.Rat {
	var out []*big.Rat
	for range n {
		most := new(big.Int).Lsh(big.NewInt(1), uint(bits))
		num, den := new(big.Int).Rand(r, most), new(big.Int).Rand(r, most)
		q := new(big.Rat).SetFrac(num, den.Add(den, big.NewInt(1)))
		if r.Intn(2) == 0 {
			q.Neg(q)
		}
		out = append(out, q)
	}
	return out
}

// holed is a grid of small numbers, most of them 0.
func holed(r *rand.Rand, rows, columns int) [][]api.Rat {
	var out [][]api.Rat
	for range rows {
		var row []api.Rat
		for range columns {
			row = append(row, ratOf(big.NewRat(int64(max(0, r.Intn(9)-5)), int64(1+r.Intn(3)))))
		}
		out = append(out, row)
	}
	return out
}

func bigDot(a, b []*big.Rat) *big.Rat {
	sum := new(big.Rat)
	for i := range a {
		sum.Add(sum, new(big.Rat).Mul(a[i], b[i]))
	}
	return sum
}

// reduced turns rows by another library till each leading place is 1, with 0 above and below it; it answers the columns of these places too.
func reduced(l [][]api.Rat) (rows [][]*big.Rat, leads []int) {
	for _, a := range l {
		rows = append(rows, bigRow(a))
	}
	for col := 0; len(l) > 0 && col < len(l[0]); col++ {
		next := len(leads)
		at := slices.IndexFunc(rows[next:], func(a []*big.Rat) bool { return a[col].Sign() != 0 })
		if at < 0 {
			continue
		}
		rows[next], rows[next+at] = rows[next+at], rows[next]
		leads = append(leads, col)
		by := new(big.Rat).Inv(rows[next][col])
		for j, x := range rows[next] {
			rows[next][j] = new(big.Rat).Mul(x, by)
		}
		for i, a := range rows {
			by := a[col]
			for j, x := range a {
				if i != next {
					a[j] = new(big.Rat).Sub(x, new(big.Rat).Mul(by, rows[next][j]))
				}
			}
		}
	}
	return rows, leads
}

// expected is what Solve must answer of a grid that may be, and as many numbers as there are rows.
func expected(l [][]api.Rat, right []api.Rat) ([]*big.Rat, api.Errno) {
	columns := 0
	wide := clones(l)
	for i := range wide {
		columns = len(wide[i])
		wide[i] = append(wide[i], right[i])
	}
	rows, leads := reduced(wide)
	switch {
	case len(leads) > 0 && leads[len(leads)-1] == columns:
		return nil, api.ErrNone
	case len(leads) < columns:
		return nil, api.ErrState
	}
	var x []*big.Rat
	for i := range leads {
		x = append(x, rows[i][columns])
	}
	return x, api.OK
}

// wantRow complains, if one of them may not be, or they are others.
func wantRow(t *testing.T, what string, l []api.Rat, q []*big.Rat) {
	t.Helper()
	if len(l) != len(q) {
		t.Errorf("%s: %v, but there are %d", what, l, len(q))
		return
	}
	for i, a := range l {
		if !rats.Check(a) || bigOf(a).Cmp(q[i]) != 0 {
			t.Errorf("%s: %v, but it is %s", what, a, q[i])
		}
	}
}

// wrong are grids like this one that may not be: one fraction may not be, or one row is longer or shorter than the others.
func wrong(l [][]api.Rat) [][][]api.Rat {
	var out [][][]api.Rat
	for i, row := range l {
		for j := range row {
			bad := clones(l)
			bad[i][j] = mayNot()[(i*5+j)%len(mayNot())]
			out = append(out, bad)
		}
		if len(l) < 2 {
			continue
		}
		bad := clones(l)
		bad[i] = append(bad[i], rats.Of(0))
		out = append(out, bad)
		if len(row) > 0 {
			bad := clones(l)
			bad[i] = bad[i][1:]
			out = append(out, bad)
			bad = clones(l)
			bad[i] = nil
			out = append(out, bad)
		}
	}
	for _, odd := range mayNot() {
		if len(l) > 0 && len(l[0]) > 0 {
			bad := clones(l)
			bad[len(l)-1][len(l[0])-1] = odd
			out = append(out, bad)
		}
	}
	return out
}

// eachWrong hands on grids that may not be.
func eachWrong(t *testing.T, refused func(l [][]api.Rat)) {
	t.Helper()
	for _, l := range some(t) {
		for _, bad := range wrong(l) {
			refused(bad)
		}
	}
	for _, s := range []string{"1 2;3", "1;2 3", "1 2;3;4 5", "1 2;3 4;5", "1;2;3 4", "1;", ";1", "0 0;0", "1 2;1 2;1 2 3"} {
		refused(grid(t, s))
	}
	for _, odd := range mayNot() {
		refused([][]api.Rat{{odd}})
		refused([][]api.Rat{row(t, "0"), {odd}})
	}
}

// columnsOf is how many there are.
func columnsOf(l [][]api.Rat) int {
	if len(l) == 0 {
		return 0
	}
	return len(l[0])
}

// rights are columns for a grid, of which it makes some, and others not.
func rights(t *testing.T, l [][]api.Rat) [][]api.Rat {
	t.Helper()
	r := rand.New(rand.NewSource(55))
	out := [][]api.Rat{vecs.Zero(len(l))}
	var ones, any []api.Rat
	for i := range l {
		ones = append(ones, rats.Of(1))
		any = append(any, ratOf(big.NewRat(int64(i*i-3), int64(i+1))))
	}
	out = append(out, ones, any)
	for _, bits := range []int{2, 50} {
		x := anyRow(r, columnsOf(l), bits)
		var made []api.Rat
		for _, row := range l {
			made = append(made, ratOf(bigDot(bigRow(row), x)))
		}
		out = append(out, made)
		if len(made) > 0 {
			// All but one row agree.
			made = slices.Clone(made)
			made[len(made)-1] = rats.Add(made[len(made)-1], rats.Of(1))
			out = append(out, made)
		}
	}
	return out
}

func TestCheck(t *testing.T) { // P5.1
	for _, l := range some(t) {
		if !grids.Check(l) {
			t.Errorf("%v may be", l)
		}
	}
	eachWrong(t, func(l [][]api.Rat) {
		if grids.Check(l) {
			t.Errorf("%v may not be", l)
		}
	})
}

func TestTurn(t *testing.T) { // P5.2
	for _, l := range some(t) {
		turned, e := grids.Turn(l)
		if e != api.OK || len(turned) != columnsOf(l) {
			t.Errorf("Turn(%v): %v %d", l, turned, e)
			continue
		}
		for j, column := range turned {
			if len(column) != len(l) {
				t.Errorf("Turn(%v): %v", l, turned)
				continue
			}
			for i, a := range column {
				if !same(a, l[i][j]) {
					t.Errorf("Turn(%v): %v", l, turned)
				}
			}
		}
	}
	if turned, _ := grids.Turn(grid(t, "1 2;3 4;5 6")); !sameGrid(turned, grid(t, "1 3 5;2 4 6")) {
		t.Errorf("Turn: %v", turned)
	}
	eachWrong(t, func(l [][]api.Rat) {
		if turned, e := grids.Turn(l); len(turned) != 0 || e != api.ErrArg {
			t.Errorf("Turn(%v): %v %d", l, turned, e)
		}
	})
}

func TestTimes(t *testing.T) { // P5.3
	r := rand.New(rand.NewSource(53))
	for _, l := range some(t) {
		for _, bits := range []int{1, 3, 70} {
			x := anyRow(r, columnsOf(l), bits)
			var made []*big.Rat
			for _, row := range l {
				made = append(made, bigDot(bigRow(row), x))
			}
			var handed []api.Rat
			for _, q := range x {
				handed = append(handed, ratOf(q))
			}
			got, e := grids.Times(l, handed)
			if wantRow(t, "Times", got, made); e != api.OK {
				t.Errorf("Times(%v, %v): %d", l, handed, e)
			}
		}
	}
	if got, e := grids.Times(grid(t, "1 2;3 4"), row(t, "1 -1")); !sameRow(got, row(t, "-1 -1")) || e != api.OK {
		t.Errorf("Times: %v %d", got, e)
	}
	// Where there is no row there is no column, but any x goes.
	for _, s := range []string{"", "1", "1 -1/2 0"} {
		for _, l := range [][][]api.Rat{nil, {}} {
			if got, e := grids.Times(l, row(t, s)); len(got) != 0 || e != api.OK {
				t.Errorf("Times(none, %s): %v %d", s, got, e)
			}
		}
	}
}

func TestTimesWrong(t *testing.T) { // P5.3
	refused := func(l [][]api.Rat, x []api.Rat) {
		t.Helper()
		if got, e := grids.Times(l, x); len(got) != 0 || e != api.ErrArg {
			t.Errorf("Times(%v, %v): %v %d", l, x, got, e)
		}
	}
	eachWrong(t, func(l [][]api.Rat) {
		t.Helper()
		refused(l, vecs.Zero(columnsOf(l)))
		refused(l, nil)
	})
	for _, l := range some(t) {
		n := columnsOf(l)
		if len(l) > 0 {
			refused(l, vecs.Zero(n+1))
			refused(l, vecs.Zero(n+len(l)))
		}
		if n > 0 {
			refused(l, vecs.Zero(n-1))
			refused(l, nil)
		}
		for i, odd := range mayNot() {
			x := vecs.Zero(max(1, n))
			x[i%len(x)] = odd
			refused(l, x)
		}
	}
}

func TestRank(t *testing.T) { // P5.4
	for _, l := range some(t) {
		_, leads := reduced(l)
		if n, e := grids.Rank(l); n != len(leads) || e != api.OK {
			t.Errorf("Rank(%v): %d %d, but it is %d", l, n, e, len(leads))
		}
	}
	for s, want := range map[string]int{"": 0, "0 0": 0, "0;0": 0, "1 2;2 4;0 1": 2, "1 2;3 4": 2, "1 2;2 4": 1, "0 1;0 2": 1, "0 1;1 0": 2, "1 2 3;4 5 6;7 8 9": 2, "1/3 1/7;7 3": 1, "0 0 1;0 1 0;1 0 0": 3, "1;2;3": 1, "1 2 3": 1, "0 0 2;0 0 3;0 1 0": 2} {
		if n, e := grids.Rank(grid(t, s)); n != want || e != api.OK {
			t.Errorf("Rank(%s): %d %d", s, n, e)
		}
	}
	eachWrong(t, func(l [][]api.Rat) {
		if n, e := grids.Rank(l); n != 0 || e != api.ErrArg {
			t.Errorf("Rank(%v): %d %d", l, n, e)
		}
	})
}

func TestSolve(t *testing.T) { // P5.5
	ends := map[api.Errno]int{}
	for _, l := range some(t) {
		for _, right := range rights(t, l) {
			x, fault := expected(l, right)
			got, e := grids.Solve(l, right)
			if wantRow(t, "Solve", got, x); e != fault {
				t.Errorf("Solve(%v, %v): %d, but it is %d", l, right, e, fault)
			}
			ends[e]++
		}
	}
	for _, e := range []api.Errno{api.OK, api.ErrNone, api.ErrState} {
		if ends[e] < 20 {
			t.Errorf("%d was the end %d times", e, ends[e])
		}
	}
	for _, c := range []struct {
		l, right, x string
		e           api.Errno
	}{
		{"1 1;1 -1", "3 1", "2 1", api.OK}, {"1 1", "2", "", api.ErrState}, {"1;1", "1 2", "", api.ErrNone}, {"", "", "", api.OK}, {"1;1", "2 2", "2", api.OK},
		{"0 2;3 0", "1 1", "1/3 1/2", api.OK}, {"0", "0", "", api.ErrState}, {"0", "1", "", api.ErrNone}, {"0 0;0 0", "0 1", "", api.ErrNone}, {"1 2;2 4", "1 3", "", api.ErrNone}, {"1 2;2 4", "1 2", "", api.ErrState},
		{"0 1", "5", "", api.ErrState}, {"1 0;0 1;1 1", "1 2 3", "1 2", api.OK}, {"1 0;0 1;1 1", "1 2 4", "", api.ErrNone}, {"1/2 1/3;1/4 1/5", "1 1", "-8 15", api.OK},
		// There is none, though the first column is free.
		{"0 1;0 1", "1 2", "", api.ErrNone},
	} {
		if x, e := grids.Solve(grid(t, c.l), row(t, c.right)); !sameRow(x, row(t, c.x)) || e != c.e {
			t.Errorf("Solve(%s, %s): %v %d", c.l, c.right, x, e)
		}
	}
	// Rows without a column make 0 alone.
	for right, want := range map[string]api.Errno{"0 0": api.OK, "0 1": api.ErrNone, "-1 0": api.ErrNone} {
		if x, e := grids.Solve([][]api.Rat{nil, {}}, row(t, right)); len(x) != 0 || e != want {
			t.Errorf("Solve(two rows of none, %s): %v %d", right, x, e)
		}
	}
}

func TestSolveWrong(t *testing.T) { // P5.5
	refused := func(l [][]api.Rat, right []api.Rat) {
		t.Helper()
		if x, e := grids.Solve(l, right); len(x) != 0 || e != api.ErrArg {
			t.Errorf("Solve(%v, %v): %v %d", l, right, x, e)
		}
	}
	eachWrong(t, func(l [][]api.Rat) {
		t.Helper()
		refused(l, vecs.Zero(len(l)))
		refused(l, nil)
	})
	for _, l := range some(t) {
		refused(l, vecs.Zero(len(l)+1))
		refused(l, vecs.Zero(len(l)+2))
		if len(l) > 0 {
			refused(l, vecs.Zero(len(l)-1))
			refused(l, nil)
		}
		for i, odd := range mayNot() {
			right := vecs.Zero(max(1, len(l)))
			right[i%len(right)] = odd
			refused(l, right)
		}
	}
}

func TestLaws(t *testing.T) { // P5.6
	for _, l := range some(t) {
		turned, _ := grids.Turn(l)
		again, e := grids.Turn(turned)
		if columnsOf(l) > 0 && !sameGrid(again, l) || e != api.OK {
			t.Errorf("%v, turned twice: %v %d", l, again, e)
		}
		a, _ := grids.Rank(l)
		b, e := grids.Rank(turned)
		if a != b || e != api.OK {
			t.Errorf("Rank(%v): %d, and turned %d %d", l, a, b, e)
		}
		for _, right := range rights(t, l) {
			x, e := grids.Solve(l, right)
			if e != api.OK {
				continue
			}
			made, e := grids.Times(l, x)
			if !sameRow(made, right) || e != api.OK || a != columnsOf(l) {
				t.Errorf("Solve(%v, %v): %v makes %v %d", l, right, x, made, e)
			}
		}
	}
}

// TestGreat: each call ends soon, though the grid is great, or its numbers are long.
func TestGreat(t *testing.T) { // R1, P5.4, P5.5
	r := rand.New(rand.NewSource(51))
	const n = 20
	var close [][]api.Rat
	for i := range n {
		var row []api.Rat
		for j := range n {
			row = append(row, ratOf(big.NewRat(1, int64(i+j+1))))
		}
		close = append(close, row)
	}
	long := ofRank(r, 10, 10, 9, 60)
	for _, l := range [][][]api.Rat{close, ofRank(r, n, n, n, 10), ofRank(r, 3, 300, 3, 10), ofRank(r, 300, 3, 3, 10), long, ofRank(r, 1, 3000, 1, 8), ofRank(r, 3000, 1, 1, 8)} {
		_, leads := reduced(l)
		if rank, e := grids.Rank(l); rank != len(leads) || e != api.OK {
			t.Errorf("Rank of %d rows: %d %d", len(l), rank, e)
		}
		var right []api.Rat
		for x, i := anyRow(r, columnsOf(l), 2), 0; i < len(l); i++ {
			right = append(right, ratOf(bigDot(bigRow(l[i]), x)))
		}
		x, fault := expected(l, right)
		got, e := grids.Solve(l, right)
		if wantRow(t, "Solve", got, x); e != fault {
			t.Errorf("Solve of %d rows: %d, but it is %d", len(l), e, fault)
		}
	}
}

// TestMemory: what is handed in stays as it is, its spare room too, and no answer's list shares memory with it, or with another one.
func TestMemory(t *testing.T) { // R4
	for _, l := range some(t) {
		for i, right := range rights(t, l) {
			checkMemory(t, l, right)
			for _, bad := range wrong(l) {
				if i == 0 && len(l) < 4 {
					checkMemory(t, bad, right)
				}
			}
		}
	}
}

// checkMemory clears each list that is answered, with its spare room, and asks whether that is to be seen in another one, or in what was handed in.
func checkMemory(t *testing.T, l [][]api.Rat, right []api.Rat) {
	t.Helper()
	a, b := roomyGrid(l), roomyRow(right)
	x := roomyRow(vecs.Zero(columnsOf(l)))
	for i := range x {
		x[i] = roomy(rat(int64(i), 1))
	}
	turned, _ := grids.Turn(a)
	again, _ := grids.Turn(a)
	made, _ := grids.Times(a, x)
	solved, _ := grids.Solve(a, b)
	resolved, _ := grids.Solve(a, b)
	answers := append(append(slices.Clone(turned), again...), made, solved, resolved)
	grids.Check(a)
	grids.Rank(a)
	var lists, before []api.Nat
	for _, l := range answers {
		for _, z := range l {
			lists = append(lists, z.Num.N, z.Den)
			before = append(before, slices.Clone(z.Num.N), slices.Clone(z.Den))
		}
	}
	clear(turned[:cap(turned)])
	clear(again[:cap(again)])
	for _, l := range answers {
		clear(l[:cap(l)])
	}
	for i, z := range lists {
		if !slices.Equal(z, before[i]) {
			t.Fatalf("list %d of the answers to %v, %v shares memory", i, l, right)
		}
		clear(z[:cap(z)])
	}
	if !sameRoom(b, roomyRow(right)) || !slices.EqualFunc(a[:cap(a)], roomyGrid(l)[:cap(a)], sameRoom) {
		t.Fatalf("what was handed in: %v, %v", l, right)
	}
	for i, z := range x {
		if !sameRoom([]api.Rat{z}, []api.Rat{roomy(rat(int64(i), 1))}) {
			t.Fatalf("what was handed in with %v: %v", l, x)
		}
	}
}

// roomyGrid is a copy with spare room, in which something stands, as it does in the spare room of each of its rows.
func roomyGrid(l [][]api.Rat) [][]api.Rat {
	var room [][]api.Rat
	for _, row := range l {
		room = append(room, roomyRow(row))
	}
	room = append(room, roomyRow([]api.Rat{rat(5, 3)}), roomyRow(nil))
	return room[:len(l):len(room)]
}

func roomyRow(l []api.Rat) []api.Rat {
	var room []api.Rat
	for _, a := range l {
		room = append(room, roomy(a))
	}
	room = append(room, roomy(rat(77, 5)), roomy(rat(2, 4)))
	return room[:len(l):len(room)]
}

func roomy(a api.Rat) api.Rat {
	return api.Rat{Num: api.Int{Neg: a.Num.Neg, N: roomyNat(a.Num.N)}, Den: roomyNat(a.Den)}
}

func roomyNat(a api.Nat) api.Nat {
	room := append(slices.Clone(a), 77, 78, 79)
	return room[: len(a) : len(a)+3]
}

func sameRoom(a, b []api.Rat) bool {
	return slices.EqualFunc(a[:cap(a)], b[:cap(b)], func(x, y api.Rat) bool {
		return same(x, y) && slices.Equal(x.Num.N[:cap(x.Num.N)], y.Num.N[:cap(y.Num.N)]) && slices.Equal(x.Den[:cap(x.Den)], y.Den[:cap(y.Den)])
	})
}
