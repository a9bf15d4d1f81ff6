package span_test

import (
	"reflect"
	"slices"
	"testing"

	"forebay/api"
	"forebay/reach"
	"forebay/span"
	"forebay/strand"
)

const (
	least = -1 << 63
	most  = 1<<63 - 1
)

// of is strands with predecessors, and accesses of these strands.
func of(preds [][]int, strands ...int) strand.Dag {
	d := strand.Dag{Preds: preds}
	for _, n := range strands {
		d.Accesses = append(d.Accesses, api.Access{Strand: n, Word: n * 3, Write: n%2 == 0})
	}
	return d
}

// fork is 1, 2 and 3 behind 0; diamond has 4 behind 1 and 2, and 5 alone.
var (
	fork    = [][]int{nil, {0}, {0}, {0}}
	diamond = [][]int{nil, {0}, {0}, {0}, {1, 2}, nil}
)

// Promise 41.1: weights, work and span.
func TestWeights(t *testing.T) {
	for i, x := range []struct {
		d          strand.Dag
		weights    []int
		work, span int
	}{
		{of(nil), nil, 0, 0},
		{of([][]int{nil}), []int{1}, 1, 1},
		{of([][]int{nil}, 0, 0, 0), []int{4}, 4, 4},
		{of(fork, 2, 2, 3, 0), []int{2, 1, 3, 2}, 8, 5},
		{of(diamond, 1, 2, 2, 4), []int{1, 2, 3, 1, 2, 1}, 10, 6},
		{of(diamond, 5, 5, 5, 5, 5, 5, 5), []int{1, 1, 1, 1, 1, 8}, 13, 8},
		{of(diamond, 3, 3, 3, 3), []int{1, 1, 1, 5, 1, 1}, 10, 6},
		{of([][]int{nil, {0}, {1, 1}, nil}, 3), []int{1, 1, 1, 2}, 5, 3},
	} {
		if got, e := span.Weights(x.d); !slices.Equal(got, x.weights) || e != api.OK {
			t.Error(i, got, e)
		}
		if got, e := span.Work(x.d); got != x.work || e != api.OK {
			t.Error(i, got, e)
		}
		if got, e := span.Span(x.d); got != x.span || e != api.OK {
			t.Error(i, got, e)
		}
	}
}

// Promises 41.1 to 41.3: what is wrong.
func TestWrong(t *testing.T) {
	for i, x := range []struct {
		d    strand.Dag
		want api.Errno
	}{
		{of(make([][]int, 1001), -1), api.ErrLong},
		{of([][]int{{0}}), api.ErrRange},
		{of([][]int{nil, {-1}}), api.ErrRange},
		{of(fork, 0, 4), api.ErrRange},
		{of(fork, -1), api.ErrRange},
		{of(nil, 0), api.ErrRange},
		{of(fork, most), api.ErrRange},
	} {
		if l, e := span.Weights(x.d); len(l) != 0 || e != x.want {
			t.Error(i, l, e)
		}
		if n, e := span.Work(x.d); n != 0 || e != x.want {
			t.Error(i, n, e)
		}
		if n, e := span.Span(x.d); n != 0 || e != x.want {
			t.Error(i, n, e)
		}
	}
	for i, x := range []struct {
		preds [][]int
		want  api.Errno
	}{
		{make([][]int, 1001), api.ErrLong}, {[][]int{{0}}, api.ErrRange}, {[][]int{nil, {1}}, api.ErrRange}, {[][]int{nil, {least}}, api.ErrRange},
	} {
		a, e1 := span.Levels(x.preds)
		b, e2 := span.Widest(x.preds)
		c, e3 := span.Greedy(x.preds, 2)
		d, e4 := span.Plan(x.preds, 2)
		if len(a) != 0 || b != 0 || c != 0 || len(d) != 0 || e1 != x.want || e2 != x.want || e3 != x.want || e4 != x.want {
			t.Error(i, e1, e2, e3, e4)
		}
	}
}

// Promise 41.2: levels.
func TestLevels(t *testing.T) {
	for i, x := range []struct {
		preds  [][]int
		levels []int
		widest int
	}{
		{nil, nil, 0},
		{[][]int{nil}, []int{0}, 1},
		{fork, []int{0, 1, 1, 1}, 3},
		{diamond, []int{0, 1, 1, 1, 2, 0}, 3},
		{[][]int{nil, nil, {0}, {2, 1}, {1}}, []int{0, 0, 1, 2, 1}, 2},
		{make([][]int, 1000), make([]int, 1000), 1000},
	} {
		if got, e := span.Levels(x.preds); !slices.Equal(got, x.levels) || e != api.OK {
			t.Error(i, got, e)
		}
		if got, e := span.Widest(x.preds); got != x.widest || e != api.OK {
			t.Error(i, got, e)
		}
	}
}

// Promise 41.3: plans.
func TestPlan(t *testing.T) {
	for i, x := range []struct {
		preds   [][]int
		workers int
		want    [][]int
	}{
		{nil, 3, nil},
		{fork, 2, [][]int{{0}, {1, 2}, {3}}},
		{fork, 1, [][]int{{0}, {1}, {2}, {3}}},
		{fork, 0, [][]int{{0}, {1}, {2}, {3}}},
		{fork, least, [][]int{{0}, {1}, {2}, {3}}},
		{fork, 3, [][]int{{0}, {1, 2, 3}}},
		{fork, most, [][]int{{0}, {1, 2, 3}}},
		{diamond, 2, [][]int{{0, 5}, {1, 2}, {3, 4}}},
		{diamond, 1, [][]int{{0}, {1}, {2}, {3}, {4}, {5}}},
		{diamond, 64, [][]int{{0, 5}, {1, 2, 3}, {4}}},
		{[][]int{nil, {0}, nil, {2, 2}}, 2, [][]int{{0, 2}, {1, 3}}},
		{[][]int{nil, {0}, nil}, 1, [][]int{{0}, {1}, {2}}},
	} {
		got, e := span.Plan(x.preds, x.workers)
		if e != api.OK || len(got) != len(x.want) || len(got) > 0 && !reflect.DeepEqual(got, x.want) {
			t.Error(i, got, e)
		}
		if n, e := span.Greedy(x.preds, x.workers); n != len(x.want) || e != api.OK {
			t.Error(i, n, e)
		}
	}
	rows, _ := span.Plan(make([][]int, 130), 99)
	if len(rows) != 3 || len(rows[0]) != 64 || len(rows[2]) != 2 || rows[1][0] != 64 {
		t.Error(rows)
	}
}

// Promise 41.4: a greedy plan is in order, and has neither too few rows nor too many.
func TestGreedy(t *testing.T) {
	for seed := range uint32(80) {
		x := seed
		next := func(n int) int {
			x = x*1664525 + 1013904223
			return int(x>>9) % n
		}
		preds := make([][]int, 1+next(60))
		for b := 1; b < len(preds); b++ {
			for range next(4) {
				preds[b] = append(preds[b], next(b))
			}
		}
		longest, _ := reach.Longest(preds)
		for workers := 1; workers < 6; workers++ {
			rows, e := span.Plan(preds, workers)
			if e != api.OK {
				t.Fatal(e)
			}
			n := len(preds)
			if len(rows) < longest || len(rows) < (n+workers-1)/workers || len(rows) > longest+(n-longest+workers-1)/workers {
				t.Fatal(seed, workers, len(rows), longest, n)
			}
			row := make([]int, n)
			var all []int
			for i, l := range rows {
				if len(l) == 0 || len(l) > workers || !slices.IsSorted(l) {
					t.Fatal(l)
				}
				for _, a := range l {
					row[a] = i
				}
				all = append(all, l...)
			}
			if len(all) != n || !reach.Order(preds, all) {
				t.Fatal(all)
			}
			for b, l := range preds {
				for _, a := range l {
					if row[a] >= row[b] {
						t.Fatal(a, b)
					}
				}
			}
		}
	}
}
