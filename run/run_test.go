package run_test

import (
	"reflect"
	"slices"
	"testing"

	"forebay/api"
	"forebay/machine"
	"forebay/prog"
	"forebay/run"
)

const (
	least = -1 << 63
	most  = 1<<63 - 1
)

// put is a program as bytes, that must be.
func put(t *testing.T, p api.Program) string {
	t.Helper()
	s, e := prog.Put(p)
	if e != api.OK {
		t.Fatal(e)
	}
	return s
}

// plain are parameters of so many workers.
func plain(workers int) api.Params {
	return api.Params{Workers: workers, Throttle: 2, Frames: 9, Deque: 9, Output: 9}
}

// round is so many picks, worker by worker.
func round(workers, steps int) []api.Pick {
	var l []api.Pick
	for i := range steps {
		l = append(l, api.Pick{Worker: i % workers})
	}
	return l
}

var (
	ret  = api.Ins{Op: api.Ret}
	emit = api.Ins{Op: api.Emit, A: 1}
	set  = api.Ins{Op: api.Set, A: 1, B: 4}
)

// pipe is a pipeline of two iterations, that emit at a stage.
var pipe = [][]api.Ins{
	{{Op: api.Pipe, A: 1}, ret},
	{
		{Op: api.Set, A: 1, B: 1}, {Op: api.Add, A: 0, B: 0, C: 1}, {Op: api.Set, A: 2, B: 2}, {Op: api.Less, A: 3, B: 2}, {Op: api.Zero, A: 3, B: 6},
		{Op: api.Break}, {Op: api.Wait, A: 1}, {Op: api.Emit}, ret,
	},
}

// Promise 28.1, example 1: a run that is done.
func TestDone(t *testing.T) {
	s := put(t, api.Program{Memory: 2, Funcs: [][]api.Ins{{set, emit, ret}}})
	r := run.Run(s, []int{7}, plain(1), round(1, 99))
	if r.Status != api.Done || r.Why != 0 || !slices.Equal(r.Output, []int{4}) || !slices.Equal(r.Memory, []int{7, 0}) || r.Stats != (api.Stats{Steps: 3, Peak: 1}) {
		t.Error(r)
	}
	if l := run.Trace(s, []int{7}, plain(1), round(1, 99)); len(l) != 0 {
		t.Error(l)
	}
}

// Promise 28.1: a script that ends ahead of the run.
func TestOut(t *testing.T) {
	s := put(t, api.Program{Memory: 1, Funcs: [][]api.Ins{{set, emit, ret}}})
	for n, output := range [][]int{nil, nil, {4}} {
		r := run.Run(s, nil, plain(1), round(1, n))
		if r.Status != api.Out || r.Why != 0 || !slices.Equal(r.Output, output) || !slices.Equal(r.Memory, []int{0}) || r.Stats != (api.Stats{Steps: n, Peak: 1}) {
			t.Error(n, r)
		}
	}
	if r := run.Run(s, nil, plain(1), round(1, 3)); r.Status != api.Done {
		t.Error(r)
	}
	again := put(t, api.Program{Funcs: [][]api.Ins{{{Op: api.Jump}}}})
	if r := run.Run(again, nil, plain(1), round(1, 5000)); r.Status != api.Out || r.Stats.Steps != 5000 {
		t.Error(r)
	}
}

// Promise 28.1: bytes that are no program, and parameters that may not be: nothing else is told.
func TestWrong(t *testing.T) {
	good := put(t, api.Program{Memory: 1, Funcs: [][]api.Ins{{ret}}})
	bad := plain(1)
	bad.Output = -1
	for i, x := range []struct {
		s     string
		input []int
		q     api.Params
		want  int
	}{
		{"", nil, plain(1), api.Malformed},
		{good[:len(good)-1], nil, plain(1), api.Malformed},
		{good + "x", nil, plain(1), api.Malformed},
		{"XR" + good[2:], make([]int, 5), api.Params{}, api.Malformed},
		{good, nil, api.Params{}, api.BadParam},
		{good, nil, plain(0), api.BadParam},
		{good, nil, plain(65), api.BadParam},
		{good, nil, bad, api.BadParam},
		{good, []int{1, 2}, plain(1), api.BadParam},
	} {
		if r := run.Run(x.s, x.input, x.q, round(1, 9)); !reflect.DeepEqual(r, api.Result{Status: x.want}) {
			t.Error(i, r)
		}
		if l := run.Trace(x.s, x.input, x.q, round(1, 9)); len(l) != 0 {
			t.Error(i, l)
		}
	}
}

// Promise 28.1: faults, and what is full; example 8.
func TestFaults(t *testing.T) {
	for i, x := range []struct {
		code        []api.Ins
		frames      int
		status, why int
		say         string
	}{
		{[]api.Ins{{Op: api.Load, B: 1}, ret}, 3, api.Done, 0, "done"},
		{[]api.Ins{set, {Op: api.Load, B: 1}, ret}, 3, api.Faulted, api.Bounds, "fault 2"},
		{[]api.Ins{{Op: api.Div}, ret}, 3, api.Faulted, api.DivZero, "fault 1"},
		{[]api.Ins{{Op: api.Break}}, 3, api.Faulted, api.NotPipe, "fault 4"},
		{[]api.Ins{{Op: api.Spawn}, ret}, 1, api.Full, api.FullFrames, "full 1"},
		{[]api.Ins{{Op: api.Spawn}, ret}, 200, api.Full, api.FullDeque, "full 2"},
		{[]api.Ins{emit, {Op: api.Jump}}, 1, api.Full, api.FullOutput, "full 3"},
		{[]api.Ins{{Op: api.Jump}}, 1, api.Out, 0, "out"},
	} {
		q := plain(1)
		q.Frames = x.frames
		r := run.Run(put(t, api.Program{Memory: 1, Funcs: [][]api.Ins{x.code}}), nil, q, round(1, 200))
		if r.Status != x.status || r.Why != x.why || run.Say(r) != x.say {
			t.Error(i, r.Status, r.Why, run.Say(r))
		}
	}
}

// Promise 28.1: a run is that of a machine that does the script's steps, till it has ended.
func TestAsMachine(t *testing.T) {
	p := api.Program{Memory: 1, Funcs: pipe}
	for steps := range 300 {
		script := round(3, steps)
		for i := range script {
			script[i].Victim = i * i % 5
		}
		before := slices.Clone(script)
		r := run.Run(put(t, p), []int{3}, plain(3), script)
		m, _ := machine.New(p, []int{3}, plain(3))
		for _, x := range script {
			m.Step(x)
		}
		want := m.Result()
		if want.Status == api.Going {
			want.Status = api.Out
		}
		if !reflect.DeepEqual(r, want) || !slices.Equal(script, before) {
			t.Fatal(steps, r, want)
		}
		if l := run.Trace(put(t, p), []int{3}, plain(3), script); !slices.Equal(l, m.Events()) {
			t.Fatal(steps, l)
		}
	}
}

// Promise 28.2: the statuses' names.
func TestStatuses(t *testing.T) {
	want := []string{"going", "done", "malformed", "badparam", "fault", "full", "out"}
	if l := run.Statuses(); !slices.Equal(l, want) {
		t.Error(l)
	}
	run.Statuses()[0] = "x"
	if l := run.Statuses(); !slices.Equal(l, want) || run.Say(api.Result{}) != "going" {
		t.Error(l)
	}
}

// Promise 28.2: results in writing.
func TestSay(t *testing.T) {
	for _, x := range []struct {
		status, why int
		want        string
	}{
		{0, 0, "going"}, {1, 0, "done"}, {1, 5, "done"}, {2, 3, "malformed"}, {3, 1, "badparam"}, {4, 0, "fault 0"}, {4, 5, "fault 5"},
		{4, least, "fault -9223372036854775808"}, {5, 3, "full 3"}, {5, -7, "full -7"}, {6, 2, "out"},
		{7, 1, "unknown"}, {-1, 1, "unknown"}, {least, 0, "unknown"}, {most, 0, "unknown"},
	} {
		if got := run.Say(api.Result{Status: x.status, Why: x.why}); got != x.want {
			t.Error(x, got)
		}
	}
}

// Promise 28.3: a run tells just one of these, and is the same each time.
func TestSame(t *testing.T) {
	s := put(t, api.Program{Memory: 1, Funcs: pipe})
	for _, n := range []int{0, 5, 50, 500} {
		a, b := run.Run(s, []int{1}, plain(2), round(2, n)), run.Run(s, []int{1}, plain(2), round(2, n))
		if !reflect.DeepEqual(a, b) || a.Status != api.Done && a.Status != api.Out {
			t.Error(n, a, b)
		}
		if !slices.Equal(run.Trace(s, nil, plain(2), round(2, n)), run.Trace(s, nil, plain(2), round(2, n))) {
			t.Error(n)
		}
	}
}
