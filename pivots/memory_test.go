package pivots_test

import (
	"slices"
	"testing"

	"assayer/api"
	"assayer/pivots"
)

// roomyGrid is a copy with spare room, in which something stands, as it does in the spare room of each of its rows.
func roomyGrid(l [][]api.Rat) [][]api.Rat {
	var room [][]api.Rat
	for _, row := range l {
		room = append(room, roomyRow(row))
	}
	room = append(room, roomyRow([]api.Rat{rat(5, 3)}), roomyRow(nil))
	return room[:len(l):len(room)]
}

func roomyRow(l []api.Rat) []api.Rat {
	var room []api.Rat
	for _, a := range append(slices.Clone(l), rat(77, 5), rat(2, 4)) {
		room = append(room, api.Rat{Num: api.Int{Neg: a.Num.Neg, N: roomyNat(a.Num.N)}, Den: roomyNat(a.Den)})
	}
	return room[:len(l):len(room)]
}

func roomyNat(a api.Nat) api.Nat {
	room := append(slices.Clone(a), 77, 78, 79)
	return room[: len(a) : len(a)+3]
}

func sameRoom(a, b []api.Rat) bool {
	return slices.EqualFunc(a[:cap(a)], b[:cap(b)], func(x, y api.Rat) bool {
		return same(x, y) && slices.Equal(x.Num.N[:cap(x.Num.N)], y.Num.N[:cap(y.Num.N)]) && slices.Equal(x.Den[:cap(x.Den)], y.Den[:cap(y.Den)])
	})
}

// stamp writes another number into each part of each number, and its spare room, and 0 into the spare room of all lists; and looks whether they are all still there.
func stamp(t *testing.T, grids ...[][]api.Rat) {
	t.Helper()
	var parts []*uint32
	var places []*api.Rat
	for _, l := range grids {
		for _, row := range l {
			for j := range row[:cap(row)] {
				places = append(places, &row[:cap(row)][j])
			}
			for _, a := range row {
				for _, n := range []api.Nat{a.Num.N, a.Den} {
					for i := range n[:cap(n)] {
						parts = append(parts, &n[:cap(n)][i])
					}
				}
			}
		}
		clear(l[len(l):cap(l)])
	}
	for i, part := range parts {
		*part = uint32(i)
	}
	for i, part := range parts {
		if *part != uint32(i) {
			t.Fatalf("part %d shares memory", i)
		}
	}
	for i, place := range places {
		*place = api.Rat{Num: api.Int{N: api.Nat{uint32(i)}}}
	}
	for i, place := range places {
		if place.Num.N[0] != uint32(i) {
			t.Fatalf("place %d shares memory", i)
		}
	}
}

// TestMemory: what is handed in stays as it is, its spare room too, and no answer's list shares memory with it, or with another one.
func TestMemory(t *testing.T) { // R4
	use := func(l [][]api.Rat, row, col int) {
		t.Helper()
		a, tags := roomyGrid(l), make([]int, len(l)+2)
		for i := range tags {
			tags[i] = 9 - i
		}
		was := slices.Clone(tags)
		got, _ := pivots.Pivot(a, row, col)
		again, _ := pivots.Pivot(a, row, col)
		pivots.Least(a, col, tags[:max(0, len(l)-1)])
		pivots.First(a)
		if !slices.Equal(tags, was) || !slices.EqualFunc(a[:cap(a)], roomyGrid(l)[:cap(a)], sameRoom) {
			t.Fatalf("what was handed in: %s, %d, %d", told(l), row, col)
		}
		text := told(got)
		stamp(t, a)
		if told(got) != text || told(again) != text {
			t.Fatalf("Pivot(%s, %d, %d) shares what was handed in", told(l), row, col)
		}
		stamp(t, got, again)
	}
	eachPlace(t, use)
	for _, l := range some(t) {
		use(l, -1, 0)
		for _, bad := range wrong(l) {
			use(bad, 0, 0)
		}
	}
}

// TestSharedRows: rows that are one list are turned as rows of their own.
func TestSharedRows(t *testing.T) { // R4
	l := row(t, "2 3 0")
	got, e := pivots.Pivot([][]api.Rat{l, l, l[:3:3]}, 1, 0)
	if want := "0 0 0 / 1 3/2 0 / 0 0 0"; told(got) != want || e != api.OK {
		t.Errorf("%s %d, but it is %s", told(got), e, want)
	}
	stamp(t, got)
	one := row(t, "2")[0]
	got, e = pivots.Pivot([][]api.Rat{{one, one}, {row(t, "0")[0], one}, {one, one}}, 0, 1)
	if want := "1 1 / -2 0 / 0 0"; told(got) != want || e != api.OK {
		t.Errorf("%s %d, but it is %s", told(got), e, want)
	}
	stamp(t, got)
}
