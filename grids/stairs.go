package grids

import (
	"slices"

	"assayer/api"
	"assayer/rats"
	"assayer/vecs"
)

// grid is rows that are all as long.
type grid [][]api.Rat

// columns is how many there are.
func (g grid) columns() int {
	if len(g) == 0 {
		return 0
	}
	return len(g[0])
}

// column is what stands in each row at this place. It shares the memory of what stands there.
func (g grid) column(at int) []api.Rat {
	out := make([]api.Rat, 0, len(g))
	for _, row := range g {
		out = append(out, row[at])
	}
	return out
}

// beside is the grid with one more column, the last one. It shares the memory of what stands there.
func (g grid) beside(right []api.Rat) grid {
	out := make(grid, 0, len(g))
	for i, row := range g {
		out = append(out, slices.Concat(row, right[i:i+1]))
	}
	return out
}

// stairs are a grid whose rows are turned, till each one that is not 0 begins farther to the right than the one above it.
type stairs struct {
	grid
	leads []int // at which column each row begins that is not 0
}

// stairsOf are the stairs to which the rows can be turned. They may share memory with the rows, which stay as they are.
func stairsOf(g grid) *stairs {
	s := &stairs{grid: slices.Clone(g)}
columns:
	for col := range s.columns() {
		for at := len(s.leads); at < len(s.grid); at++ {
			if rats.Sign(s.grid[at][col]) != 0 {
				s.turn(at, col)
				continue columns
			}
		}
	}
	return s
}

// turn makes of a row that begins at the column the next stair: it is taken away from those below it, so many times that they have 0 there.
func (s *stairs) turn(at, col int) {
	next := len(s.leads)
	s.grid[at], s.grid[next] = s.grid[next], s.grid[at]
	stair := s.grid[next][col:]
	for i := next + 1; i < len(s.grid); i++ {
		row := s.grid[i]
		if rats.Sign(row[col]) == 0 {
			continue
		}
		times, _ := rats.Div(row[col], stair[0])
		// Both have 0 at all columns before this one: these need not be gone through.
		rest, _ := vecs.Add(row[col:], stair, minus(times))
		s.grid[i] = slices.Concat(row[:col], rest)
	}
	s.leads = append(s.leads, col)
}

// solved is the one column of which the rows make the last column, of stairs that begin at each of the others, and not at the last one.
func (s *stairs) solved() []api.Rat {
	n := len(s.leads)
	x := make([]api.Rat, n)
	for at, row := range slices.Backward(s.grid[:n]) {
		known, _ := vecs.Dot(row[at+1:n], x[at+1:])
		x[at], _ = rats.Div(rats.Sub(row[n], known), row[at])
	}
	return x
}

func minus(a api.Rat) api.Rat { return rats.Sub(rats.Of(0), a) }
