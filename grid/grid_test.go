package grid_test

import (
	"math"
	"slices"
	"testing"

	"forebay/api"
	"forebay/grid"
)

const (
	least = -1 << 63
	most  = 1<<63 - 1
	top   = 1 << 20
)

// row is a row of stages; those below 0 wait, at what they are with the other sign.
func row(stages ...int) []api.Cell {
	var l []api.Cell
	for _, n := range stages {
		if n < 0 {
			l = append(l, api.Cell{Stage: -n, Wait: true})
		} else {
			l = append(l, api.Cell{Stage: n})
		}
	}
	return l
}

// Promise 33.1: nodes and their parts.
func TestNode(t *testing.T) {
	for _, x := range []struct {
		iter, stage int
		want        complex128
	}{
		{0, 0, 0}, {1, 0, 1}, {0, 1, 1i}, {3, 4, 3 + 4i}, {top, top, complex(top, top)}, {top + 1, 2, complex(top, 2)}, {-1, -5, 0}, {most, least, top}, {least, most, complex(0, top)},
	} {
		if got := grid.Node(x.iter, x.stage); got != x.want {
			t.Error(x, got)
		}
	}
	nan, inf := math.NaN(), math.Inf(1)
	for _, x := range []struct {
		n           complex128
		iter, stage int
	}{
		{0, 0, 0}, {3 + 4i, 3, 4}, {3.99 + 0.5i, 3, 0}, {-1 - 2i, 0, 0}, {-0.5 + 1i, 0, 1}, {complex(top, top), top, top}, {complex(top+0.5, 1e300), top, top},
		{complex(nan, 5), 0, 5}, {complex(5, nan), 5, 0}, {complex(nan, nan), 0, 0}, {complex(inf, -inf), top, 0}, {complex(-inf, inf), 0, top}, {complex(nan, inf), 0, top},
		{complex(top-0.25, 1), top - 1, 1},
	} {
		if grid.Iter(x.n) != x.iter || grid.Stage(x.n) != x.stage {
			t.Error(x.n, grid.Iter(x.n), grid.Stage(x.n))
		}
	}
}

// Promise 33.1: rows, and what is wrong with them.
func TestCheck(t *testing.T) {
	long := row(0)
	for i := 1; i < 100; i++ {
		long = append(long, api.Cell{Stage: i * 3})
	}
	longer := append(slices.Clone(long), api.Cell{Stage: 1000})
	for i, x := range []struct {
		rows [][]api.Cell
		want api.Errno
	}{
		{nil, api.OK},
		{[][]api.Cell{row(0)}, api.OK},
		{[][]api.Cell{long}, api.OK},
		{[][]api.Cell{longer}, api.ErrLong},
		{[][]api.Cell{row(0), longer, {}}, api.ErrLong},
		{[][]api.Cell{row(0), {}, longer}, api.ErrNone},
		{slices.Repeat([][]api.Cell{row(0, -5, 7)}, 100), api.OK},
		{slices.Repeat([][]api.Cell{{}}, 101), api.ErrLong},
		{[][]api.Cell{{}}, api.ErrNone},
		{[][]api.Cell{row(0), nil}, api.ErrNone},
		{[][]api.Cell{row(1)}, api.ErrForm},
		{[][]api.Cell{{{Stage: 0, Wait: true}}}, api.ErrForm},
		{[][]api.Cell{{{Stage: -1}}}, api.ErrForm},
		{[][]api.Cell{row(0, 0)}, api.ErrForm},
		{[][]api.Cell{row(0, 3, 3)}, api.ErrForm},
		{[][]api.Cell{row(0, 3, -2)}, api.ErrForm},
		{[][]api.Cell{row(0, 1<<20-1)}, api.OK},
		{[][]api.Cell{row(0, 1<<20)}, api.ErrForm},
		{[][]api.Cell{row(0, 1, most)}, api.ErrForm},
		{[][]api.Cell{{{}, {Stage: least}}}, api.ErrForm},
	} {
		if e := grid.Check(x.rows); e != x.want {
			t.Error(i, e)
		}
		l, e := grid.Edges(x.rows)
		if e != x.want || e != api.OK && len(l) != 0 {
			t.Error(i, e)
		}
		if e != api.OK && grid.Before(x.rows, 0, 1) {
			t.Error(i, "before")
		}
	}
}

// Promise 33.2: edges, in order.
func TestEdges(t *testing.T) {
	for i, x := range []struct {
		rows [][]api.Cell
		want [][2]complex128
	}{
		{nil, nil},
		{[][]api.Cell{row(0)}, nil},
		{[][]api.Cell{row(0, -1), row(0, -1)}, [][2]complex128{{0, 1i}, {0, 1}, {1, 1 + 1i}, {1i, 1 + 1i}}},
		{[][]api.Cell{row(0, 1), row(0, 1)}, [][2]complex128{{0, 1i}, {0, 1}, {1, 1 + 1i}}},
		{[][]api.Cell{row(0, -2, 5), row(0, -1, -4, 6, -9), row(0), row(0, -3)}, [][2]complex128{
			{0, 2i}, {2i, 5i}, {0, 1}, {1, 1 + 1i}, {0, 1 + 1i}, {1 + 1i, 1 + 4i}, {2i, 1 + 4i}, {1 + 4i, 1 + 6i}, {1 + 6i, 1 + 9i}, {5i, 1 + 9i},
			{1, 2}, {2, 3}, {3, 3 + 3i}, {2, 3 + 3i},
		}},
		{[][]api.Cell{row(0, -3), row(0, -3)}, [][2]complex128{{0, 3i}, {0, 1}, {1, 1 + 3i}, {3i, 1 + 3i}}},
	} {
		if l, e := grid.Edges(x.rows); !slices.Equal(l, x.want) || e != api.OK {
			t.Error(i, l, e)
		}
	}
}

// Promise 33.2: ways along edges.
func TestBefore(t *testing.T) {
	rows := [][]api.Cell{row(0, -2, 5), row(0, -1, -4, 6), row(0, 3, -5)}
	var nodes []complex128
	for i, cells := range rows {
		for _, c := range cells {
			nodes = append(nodes, grid.Node(i, c.Stage))
		}
	}
	edges, _ := grid.Edges(rows)
	way := map[[2]complex128]bool{}
	for _, e := range edges {
		way[e] = true
	}
	for _, m := range nodes { // all ways, over more and more nodes
		for _, a := range nodes {
			for _, b := range nodes {
				if way[[2]complex128{a, m}] && way[[2]complex128{m, b}] {
					way[[2]complex128{a, b}] = true
				}
			}
		}
	}
	for _, a := range nodes {
		for _, b := range nodes {
			if got := grid.Before(rows, a, b); got != way[[2]complex128{a, b}] {
				t.Error(a, b, got)
			}
		}
	}
	nan := complex(math.NaN(), 0)
	for _, n := range []complex128{1i, 3i, 2 + 4i, 3, 0.5, 2.5i, -1, nan, complex(math.Inf(1), 0), 1 + 2i, 5.5i, complex(0, math.NaN())} {
		if grid.Before(rows, 0, n) || grid.Before(rows, n, 2+5i) || grid.Before(rows, n, n) {
			t.Error(n)
		}
	}
	if !grid.Before(rows, 0, 2+5i) || !grid.Before(rows, 2i, 1+6i) || grid.Before(rows, 5i, 2+5i) || grid.Before(rows, 0, 0) {
		t.Error("ways")
	}
}

// Promise 33.2: many ways, of which each is gone once.
func TestBeforeGreat(t *testing.T) {
	cells := row(0)
	for stage := 1; stage < 100; stage++ {
		cells = append(cells, api.Cell{Stage: stage, Wait: true})
	}
	rows := slices.Repeat([][]api.Cell{cells}, 100)
	if !grid.Before(rows, 0, 99+99i) || !grid.Before(rows, 50i, 99+51i) || grid.Before(rows, 50i, 99+49i) || grid.Before(rows, 99+99i, 0) {
		t.Error("ways")
	}
}

// Promise 33.3: next nodes, and mirrors.
func TestStepMirror(t *testing.T) {
	if grid.Step(3+4i, true) != 3+5i || grid.Step(3+4i, false) != 4+4i || grid.Step(0, true) != 1i || grid.Step(-1.5, false) != -0.5 {
		t.Error("steps")
	}
	for n, want := range map[complex128]complex128{
		0: 0, 3 + 4i: 4 + 3i, 3.7 + 4.2i: 4 + 3i, -2 + 5i: 5, complex(1e9, 1): complex(1, top),
	} {
		if got := grid.Mirror(n); got != want {
			t.Error(n, got)
		}
	}
	if grid.Mirror(complex(math.NaN(), 7)) != 7 || grid.Mirror(complex(7, math.NaN())) != 7i {
		t.Error("of no numbers")
	}
}

// Promise 33.4: edges lead to a later iteration, or stage, or both, never back.
func TestForward(t *testing.T) {
	for seed := range uint32(60) {
		x := seed
		next := func(n int) int {
			x = x*1664525 + 1013904223
			return int(x>>9) % n
		}
		var rows [][]api.Cell
		for range 1 + next(8) {
			cells := row(0)
			stage := 0
			for range next(8) {
				stage += 1 + next(4)
				cells = append(cells, api.Cell{Stage: stage, Wait: next(2) == 0})
			}
			rows = append(rows, cells)
		}
		l, e := grid.Edges(rows)
		if e != api.OK {
			t.Fatal(e)
		}
		for _, edge := range l {
			a, b := edge[0], edge[1]
			i, j, s, u := grid.Iter(a), grid.Iter(b), grid.Stage(a), grid.Stage(b)
			if i > j || s > u || a == b || j-i > 1 || !grid.Before(rows, a, b) || grid.Before(rows, b, a) {
				t.Fatal(edge)
			}
		}
	}
}
