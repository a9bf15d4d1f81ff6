package log_test

import (
	"slices"
	"testing"

	"forebay/api"
	"forebay/log"
)

// some are events of three loops.
var some = []api.Event{
	{Kind: api.Start, Loop: 4}, {Kind: api.Begin, Loop: 4}, {Kind: api.Start, Loop: 2}, {Kind: api.Advance, Loop: 4, Stage: 3},
	{Kind: api.Start, Loop: 4, Iter: 1}, {Kind: api.Passes, Loop: 4, Iter: 1, Stage: 7}, {Kind: api.Begin, Loop: 2}, {Kind: api.Finish, Loop: 4, Stage: 3},
	{Kind: api.Ends, Loop: 4, Iter: 1}, {Kind: api.Start, Loop: -9}, {Kind: 77, Loop: 2, Iter: 5},
}

// noted is a log of events.
func noted(l []api.Event) *log.Log {
	x := log.New()
	for _, e := range l {
		x.Note(e)
	}
	return x
}

// Promise 24.1: all events, in order.
func TestAll(t *testing.T) {
	l := log.New()
	if l.Len() != 0 || len(l.All()) != 0 || len(l.Loops()) != 0 {
		t.Error(l.All())
	}
	for i, e := range some {
		l.Note(e)
		if l.Len() != i+1 || !slices.Equal(l.All(), some[:i+1]) {
			t.Error(i, l.All())
		}
	}
	l.All()[0].Kind = 99
	if !slices.Equal(l.All(), some) {
		t.Error(l.All())
	}
	l.Note(some[0]) // the same once more
	if l.Len() != len(some)+1 {
		t.Error(l.Len())
	}
}

// Promise 24.1: the events of a loop, with their places among all.
func TestOf(t *testing.T) {
	l := noted(some)
	for loop, want := range map[int][]int{4: {0, 1, 3, 4, 5, 7, 8}, 2: {2, 6, 10}, -9: {9}, 0: nil, 5: nil} {
		var got []int
		for i, e := range l.Of(loop) {
			got = append(got, i)
			if e != some[i] {
				t.Error(loop, i, e)
			}
		}
		if !slices.Equal(got, want) {
			t.Error(loop, got)
		}
	}
	n := 0
	for i := range l.Of(4) {
		n++
		if i == 3 {
			break
		}
	}
	if n != 3 {
		t.Error(n)
	}
	n = 0
	for range l.Of(4) { // noting while they are told
		l.Note(api.Event{Loop: 4})
		n++
	}
	if n != 7 || l.Len() != len(some)+7 {
		t.Error(n, l.Len())
	}
	l.Of(4)(nil)
}

// Promise 24.1: the loops, in the order of their first events.
func TestLoops(t *testing.T) {
	if got := noted(some).Loops(); !slices.Equal(got, []int{4, 2, -9}) {
		t.Error(got)
	}
	var many []api.Event
	var want []int
	for i := range 300 {
		loop := 1000 - i*i%311
		many = append(many, api.Event{Loop: loop}, api.Event{Loop: loop, Iter: 1})
		if !slices.Contains(want, loop) {
			want = append(want, loop)
		}
	}
	if got := noted(many).Loops(); !slices.Equal(got, want) {
		t.Error(got)
	}
}

// Promise 24.2: an iteration's last event.
func TestLast(t *testing.T) {
	l := noted(some)
	for _, x := range []struct {
		loop, iter, at int
	}{
		{4, 0, 7}, {4, 1, 8}, {2, 0, 6}, {2, 5, 10}, {-9, 0, 9},
	} {
		if e, ok := l.Last(x.loop, x.iter); e != some[x.at] || !ok {
			t.Error(x, e, ok)
		}
	}
	if e, ok := noted(some[:4]).Last(2, 0); e != some[2] || !ok {
		t.Error(e, ok)
	}
	if e, ok := noted(some[:1]).Last(4, 0); e != some[0] || !ok {
		t.Error(e, ok)
	}
	for _, x := range [][2]int{{4, 2}, {3, 0}, {2, 1}, {-9, -1}, {0, 0}} {
		if e, ok := l.Last(x[0], x[1]); e != (api.Event{}) || ok {
			t.Error(x, e, ok)
		}
	}
}

// Promise 24.2: how many events of a kind.
func TestCount(t *testing.T) {
	l := noted(some)
	for kind, want := range map[int]int{api.Start: 4, api.Begin: 2, api.Advance: 1, api.Finish: 1, api.Ends: 1, api.Passes: 1, 77: 1, 0: 0, -1: 0, 7: 0} {
		if got := l.Count(kind); got != want {
			t.Error(kind, got)
		}
	}
}

// Promises 24.1, 24.2: of nil, and of nothing.
func TestNil(t *testing.T) {
	for i, l := range []*log.Log{nil, new(log.Log)} {
		e, ok := l.Last(0, 0)
		if l.Len() != 0 || len(l.All()) != 0 || len(l.Loops()) != 0 || e != (api.Event{}) || ok || l.Count(0) != 0 {
			t.Error(i)
		}
		for range l.Of(0) {
			t.Error(i)
		}
		l.Note(some[0])
		if l.Len() != i {
			t.Error(i, l.Len())
		}
	}
}

// Promise 24.3: events of all loops together are all events; each keeps its place.
func TestTogether(t *testing.T) {
	l := noted(some)
	got := make([]api.Event, l.Len())
	n := 0
	for _, loop := range l.Loops() {
		for i, e := range l.Of(loop) {
			got[i] = e
			n++
		}
	}
	if n != l.Len() || !slices.Equal(got, some) {
		t.Error(n, got)
	}
	kinds := 0
	for kind := range 100 {
		kinds += l.Count(kind)
	}
	if kinds != l.Len() {
		t.Error(kinds)
	}
}
