package stage_test

import (
	"testing"

	"forebay/api"
	"forebay/stage"
)

const (
	least = -1 << 63
	most  = 1<<63 - 1
	top   = 1<<20 - 1
)

// Promise 21.1: where an iteration may go.
func TestGo(t *testing.T) {
	for _, x := range [][3]int{
		{3, 3, api.BadStage}, {3, 2, api.BadStage}, {3, 4, api.NoFault}, {0, 0, api.BadStage}, {0, 1, api.NoFault},
		{0, top, api.NoFault}, {0, top + 1, api.BadStage}, {top - 1, top, api.NoFault}, {top, top, api.BadStage}, {top, top + 1, api.BadStage},
		{0, -1, api.BadStage}, {-2, -1, api.NoFault}, {least, top, api.NoFault}, {0, most, api.BadStage}, {most, least, api.BadStage},
	} {
		if got := stage.Go(x[0], x[1]); got != x[2] {
			t.Error(x, got)
		}
	}
}

// Promise 21.1: whether an iteration is past a stage.
func TestPast(t *testing.T) {
	for _, x := range []struct {
		counter, stage int
		want           bool
	}{
		{4, 3, true}, {3, 3, false}, {2, 3, false}, {0, 0, false}, {1, 0, true}, {api.Past, top, true}, {least, most, false}, {most, least, true},
	} {
		if got := stage.Past(x.counter, x.stage); got != x.want {
			t.Error(x, got)
		}
		if got := (stage.Left{}).Saw(x.counter).Knows(x.stage); got != (max(x.counter, 0) > x.stage) {
			t.Error(x, got)
		}
	}
}

// Promises 21.2, 21.4: what was seen, the greatest of it.
func TestLeft(t *testing.T) {
	var l stage.Left
	if l.Known() != 0 || l.Knows(0) || !l.Knows(-1) {
		t.Error(l)
	}
	if n := l.Saw(-5).Known(); n != 0 {
		t.Error(n)
	}
	known := 0
	for _, counter := range []int{3, 2, 3, 7, -9, 0, 7, 9, least, 8, most, 5} {
		before := l
		after := l.Saw(counter)
		if l != before {
			t.Error("what was handed over has changed")
		}
		known = max(known, counter)
		l = after
		if l.Known() != known || l.Knows(known) || !l.Knows(known-1) {
			t.Error(counter, l.Known())
		}
	}
}

// Promise 21.3: how many cells are below a counter.
func TestRow(t *testing.T) {
	cells := []api.Cell{{Stage: 0}, {Stage: 2, Wait: true}, {Stage: 5}, {Stage: 4}, {Stage: 9}}
	for counter, want := range map[int]int{-1: 0, 0: 0, 1: 1, 2: 1, 3: 2, 5: 2, 6: 4, 9: 4, 10: 5, api.Past: 5, least: 0, most: 5} {
		if got := stage.Row(cells, counter); got != want {
			t.Error(counter, got)
		}
	}
	if stage.Row(nil, 5) != 0 || stage.Row([]api.Cell{}, 0) != 0 {
		t.Error("of none")
	}
}
