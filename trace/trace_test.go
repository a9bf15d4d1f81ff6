package trace_test

import (
	"fmt"
	"reflect"
	"slices"
	"strings"
	"testing"

	"forebay/api"
	"forebay/asm"
	"forebay/machine"
	"forebay/trace"
)

const (
	least = -1 << 63
	most  = 1<<63 - 1
)

// read are events of the loop 1 in short: a letter each (s, b, a, p, f, e), the iteration, and the stage; of another loop it stands ahead, with a colon.
func read(t *testing.T, s string) []api.Event {
	t.Helper()
	var l []api.Event
	for _, x := range strings.Fields(s) {
		e := api.Event{Loop: 1}
		if head, rest, ok := strings.Cut(x, ":"); ok {
			fmt.Sscan(head, &e.Loop)
			x = rest
		}
		e.Kind = strings.Index("?sbafep", x[:1])
		head, rest, _ := strings.Cut(x[1:], ".")
		fmt.Sscan(head, &e.Iter)
		fmt.Sscan(rest, &e.Stage)
		l = append(l, e)
	}
	return l
}

// Promise 34.1: what could happen.
func TestCheck(t *testing.T) {
	for _, s := range []string{
		"",
		"s0.0",
		"s0.0 b0.0 f0.0",
		"s0.0 b0.0 f0.0 e1.0",
		"s0.0 b0.0 a0.3 b0.3 f0.3 e1.0",
		"s0.0 b0.0 p0.3 b0.3 p0.4 b0.4 f0.4 e1.0",
		"s0.0 b0.0 a0.3 s1.0 b1.0 b0.3 a1.2 b1.2 f1.2 f0.3 e2.0",
		"s0.0 b0.0 a0.3 s1.0 b1.0 a1.3 b0.3 a0.4 b1.3 f1.3 b0.4 f0.4 e2.0",
		"s0.0 b0.0 a0.3 s1.0 b1.0 a1.9 b0.3 f0.3 b1.9",
		"s0.0 b0.0 p0.3 s1.0 b1.0 p1.3 b1.3 f1.3", // who does not wait goes on
		"s0.0 b0.0 f0.0 s1.0",
		"s0.0 b0.0 a0.1048575",
		"s0.0 2:s0.0 2:b0.0 b0.0 2:f0.0 2:e1.0 f0.0 e1.0",
		"-5:s0.0 -5:b0.0",
	} {
		if at, e := trace.Check(read(t, s)); at != 0 || e != api.OK {
			t.Error(s, at, e)
		}
	}
}

// Promise 34.1: what could not happen, where, and why: the first reason of each event.
func TestCheckWrong(t *testing.T) {
	for _, x := range []struct {
		s    string
		at   int
		want api.Errno
	}{
		{"?0.0", 0, api.ErrKind},
		{"s0.0 ?9.9", 1, api.ErrKind},
		{"s0.0 b0.0 f0.0 e1.0 ?0.0", 4, api.ErrKind},
		{"s0.0 b0.0 f0.0 e1.0 s1.0", 4, api.ErrState},
		{"s0.0 b0.0 f0.0 e1.0 e1.0", 4, api.ErrState},
		{"s0.0 b0.0 f0.0 e1.0 b7.7", 4, api.ErrState},
		{"s1.0", 0, api.ErrForm},
		{"s-1.0", 0, api.ErrForm},
		{"s0.1", 0, api.ErrForm},
		{"s0.0 b0.0 f0.0 s0.0", 3, api.ErrForm},
		{"s0.0 b0.0 f0.0 s2.0", 3, api.ErrForm},
		{"s0.0 s1.0", 1, api.ErrShort},
		{"s0.0 b0.0 s1.0", 2, api.ErrShort},
		{"s0.0 b0.0 s1.1", 2, api.ErrForm},
		{"e0.0", 0, api.ErrForm},
		{"s0.0 e1.0", 1, api.ErrForm},
		{"s0.0 b0.0 f0.0 e0.0", 3, api.ErrForm},
		{"s0.0 b0.0 f0.0 e2.0", 3, api.ErrForm},
		{"s0.0 b0.0 f0.0 e1.1", 3, api.ErrForm},
		{"s0.0 b0.0 a0.1 s1.0 b1.0 f1.0 e2.0", 6, api.ErrForm},
		{"b0.0", 0, api.ErrNone},
		{"a0.1", 0, api.ErrNone},
		{"p0.1", 0, api.ErrNone},
		{"f0.0", 0, api.ErrNone},
		{"s0.0 b1.0", 1, api.ErrNone},
		{"s0.0 b-1.0", 1, api.ErrNone},
		{"s0.0 2:b0.0", 1, api.ErrNone},
		{"s0.0 b0.0 f0.0 b0.0", 3, api.ErrTwice},
		{"s0.0 b0.0 f0.0 f0.0", 3, api.ErrTwice},
		{"s0.0 b0.0 f0.0 a0.9", 3, api.ErrTwice},
		{"s0.0 b0.1", 1, api.ErrForm},
		{"s0.0 b0.0 b0.0", 2, api.ErrForm},
		{"s0.0 b0.0 a0.3 b0.0", 3, api.ErrForm},
		{"s0.0 b0.0 a0.3 b0.4", 3, api.ErrForm},
		{"s0.0 a0.1", 1, api.ErrForm},
		{"s0.0 p0.1", 1, api.ErrForm},
		{"s0.0 b0.0 a0.0", 2, api.ErrForm},
		{"s0.0 b0.0 p0.0", 2, api.ErrForm},
		{"s0.0 b0.0 a0.3 a0.4", 3, api.ErrForm},
		{"s0.0 b0.0 a0.3 b0.3 a0.3", 4, api.ErrForm},
		{"s0.0 b0.0 p0.3 b0.3 p0.2", 4, api.ErrForm},
		{"s0.0 b0.0 a0.1048576", 2, api.ErrForm},
		{"s0.0 b0.0 p0.1048576", 2, api.ErrForm},
		{"s0.0 f0.0", 1, api.ErrForm},
		{"s0.0 b0.0 f0.1", 2, api.ErrForm},
		{"s0.0 b0.0 a0.3 f0.3", 3, api.ErrForm},
		{"s0.0 b0.0 a0.3 b0.3 f0.0", 4, api.ErrForm},
		{"s0.0 b0.0 a0.3 s1.0 b1.0 a1.3 b1.3", 6, api.ErrShort},
		{"s0.0 b0.0 a0.3 s1.0 b1.0 a1.4 b1.4", 6, api.ErrShort},
		{"s0.0 b0.0 a0.3 s1.0 b1.0 a1.3 b1.4", 6, api.ErrForm},
		{"s0.0 b0.0 a0.3 b0.3 s1.0 b1.0 a1.3 b1.3", 7, api.ErrShort},
		{"s0.0 b0.0 f0.0 s1.0 b1.0 p1.2 s2.0 b2.0 a2.2 b2.2", 9, api.ErrShort},
	} {
		if at, e := trace.Check(read(t, x.s)); at != x.at || e != x.want {
			t.Errorf("%s: %d, %v; want %d, %v", x.s, at, e, x.at, x.want)
		}
	}
	for _, kind := range []int{0, 7, -1, least, most} {
		if at, e := trace.Check([]api.Event{{Kind: kind}}); at != 0 || e != api.ErrKind {
			t.Error(kind, at, e)
		}
	}
	for _, iter := range []int{least, most} {
		for kind, want := range map[int]api.Errno{api.Start: api.ErrForm, api.Begin: api.ErrNone, api.Ends: api.ErrForm, api.Finish: api.ErrNone} {
			if _, e := trace.Check([]api.Event{{Kind: kind, Iter: iter}}); e != want {
				t.Error(kind, iter, e)
			}
		}
	}
}

// Promise 34.2: the stages that iterations have come to.
func TestRows(t *testing.T) {
	for s, want := range map[string][][]api.Cell{
		"":               nil,
		"b0.0 a0.1 f0.0": nil,
		"s0.0":           {{{}}},
		"s0.0 b0.0 a0.3 s1.0 p1.2 a0.5 2:s0.0 2:a0.9 a1.7 f0.5 e2.0 a1.1": {{{}, {Stage: 3, Wait: true}, {Stage: 5, Wait: true}}, {{}, {Stage: 2}, {Stage: 7, Wait: true}, {Stage: 1, Wait: true}}},
		"a0.1 s0.0 a0.2":        {{{}, {Stage: 2, Wait: true}}},
		"s0.0 a0.2 s0.0 a0.3":   {{{}, {Stage: 2, Wait: true}}, {{}, {Stage: 3, Wait: true}}},
		"s5.0 p5.2 s-3.7 p-3.1": {{{}, {Stage: 2}}, {{}, {Stage: 1}}},
		"2:s0.0 2:a0.1":         nil,
		"s0.0 a9.1 p1.1":        {{{}}},
	} {
		if got := trace.Rows(read(t, s), 1); !reflect.DeepEqual(got, want) && len(got)+len(want) > 0 {
			t.Errorf("%s: %v", s, got)
		}
	}
	if got := trace.Rows(read(t, "2:s0.0 s0.0 2:p0.4"), 2); !reflect.DeepEqual(got, [][]api.Cell{{{}, {Stage: 4}}}) {
		t.Error(got)
	}
}

// Promise 34.2: the nodes that have begun.
func TestBegun(t *testing.T) {
	l := read(t, "s0.0 b0.0 a0.3 2:b7.7 b0.3 b5.6 f0.3 b0.3 b-1.9 b99999999.2")
	if got := trace.Begun(l, 1); !slices.Equal(got, []complex128{0, 3i, 5 + 6i, 3i, 9i, complex(1<<20, 2)}) {
		t.Error(got)
	}
	if got := trace.Begun(l, 2); !slices.Equal(got, []complex128{7 + 7i}) {
		t.Error(got)
	}
	if got := trace.Begun(l, 3); len(got) != 0 {
		t.Error(got)
	}
}

// Promise 34.2: whether nodes began behind those that lead to them.
func TestFollows(t *testing.T) {
	for s, want := range map[string]bool{
		"":                                   true,
		"s0.0":                               true,
		"s0.0 b0.0 a0.3 b0.3":                true,
		"s0.0 a0.3 b0.3 b0.0":                false,
		"s0.0 a0.3 b0.3":                     false,
		"s0.0 b0.0 a0.3 b0.3 b0.0":           true, // the first time counts
		"s0.0 a0.3 b0.3 b0.0 b0.3":           false,
		"s0.0 b0.0 s1.0 b1.0":                true,
		"s0.0 s1.0 b1.0 b0.0":                false,
		"s0.0 s1.0 b1.0":                     false,
		"s0.0 b0.0 a0.3 s1.0 b1.0 a1.4":      true,
		"s0.0 b0.0 a0.3 s1.0 b1.0 a1.4 b1.4": false, // the last cell up to 4 is that of 3, that has not begun
		"s0.0 b0.0 a0.3 b0.3 s1.0 b1.0 a1.4 b1.4": true,
		"s0.0 b0.0 a0.3 s1.0 b1.0 a1.2 b1.2":      true,
		"s0.0 b0.0 p0.3 s1.0 b1.0 p1.4 b1.4 b0.3": true, // who does not wait has no edge from there
		"s0.0 b0.0 a0.3 s1.0 b1.0 a1.3 b1.3 b0.3": false,
		"s0.0 a0.3 a0.3":                          false, // no rows of a grid
		"s0.0 a0.0":                               false,
		"s0.0 a0.1048576":                         false,
		"s0.0 b0.0 s0.0":                          true,
	} {
		if got := trace.Follows(read(t, s), 1); got != want {
			t.Errorf("%s: %v", s, got)
		}
	}
	var many []api.Event
	for i := range 101 {
		many = append(many, api.Event{Kind: api.Start, Loop: 1, Iter: i})
	}
	if !trace.Follows(many[:100], 1) || trace.Follows(many, 1) || !trace.Follows(many, 2) {
		t.Error("many rows")
	}
}

// Promise 34.3: what happens in a run could happen, and follows; without one of its events, or with two that are changed, mostly not.
func TestRuns(t *testing.T) {
	text := "memory 0\nfunction\npipe 1\npipe 1\nret\nfunction\nset 1 1\nadd 0 0 1\nset 2 6\nless 3 2 0\nzero 3 6\nbreak\nwait 1\nset 4 3\ncont 4\nset 4 7\nwait 4\nspawn 2\nadd 4 4 0\nwait 4\nret\nfunction\nret\n"
	p, e := asm.Read(text)
	if e != api.OK {
		t.Fatal(e)
	}
	refused := 0
	for seed := range uint32(60) {
		q := api.Params{Workers: 1 + int(seed)%4, Throttle: 1 + int(seed/4)%4, Frames: 60, Deque: 60, Fold: seed&1 != 0, Lazy: seed&2 != 0}
		m, e := machine.New(p, nil, q)
		if e != api.OK {
			t.Fatal(e)
		}
		x := seed * 999
		for !m.Ended() {
			x = x*1664525 + 1013904223
			m.Step(api.Pick{Worker: int(x >> 9), Victim: int(x >> 20)})
		}
		l := m.Events()
		if r := m.Result(); r.Status != api.Done || len(l) < 70 {
			t.Fatal(r)
		}
		if at, e := trace.Check(l); at != 0 || e != api.OK {
			t.Fatal(seed, at, e)
		}
		for loop := 1; loop <= 2; loop++ {
			if !trace.Follows(l, loop) || len(trace.Rows(l, loop)) == 0 {
				t.Fatal(seed, loop)
			}
		}
		for n := range l {
			if at, e := trace.Check(l[:n]); at != 0 || e != api.OK || !trace.Follows(l[:n], 1) {
				t.Fatal(seed, n, at, e)
			}
			if _, e := trace.Check(slices.Delete(slices.Clone(l), n, n+1)); e != api.OK {
				refused++
			} else if n < len(l)-1 && l[n].Kind != api.Ends {
				t.Fatal(seed, n, l[n])
			}
		}
	}
	if refused == 0 {
		t.Error("nothing is refused")
	}
}
