package compare_test

import (
	"reflect"
	"slices"
	"strings"
	"testing"

	"forebay/api"
	"forebay/asm"
	"forebay/compare"
	"forebay/machine"
	"forebay/sched"
	"forebay/serial"
)

const (
	least = -1 << 63
	most  = 1<<63 - 1
)

// read is the program that is written, with semicolons between its lines.
func read(t testing.TB, text string) api.Program {
	t.Helper()
	p, e := asm.Read(strings.ReplaceAll(text, "; ", "\n"))
	if e != api.OK {
		t.Fatal(e)
	}
	return p
}

// done is a result that is done, in so many steps.
func done(steps int, output, memory []int) api.Result {
	return api.Result{Status: api.Done, Output: output, Memory: memory, Stats: api.Stats{Steps: steps}}
}

// Promise 40.1: results and outcomes.
func TestAgrees(t *testing.T) {
	o := serial.Outcome{Status: api.Done, Output: []int{1, 2}, Memory: []int{3}, Steps: 99, Frames: 4}
	late := o
	late.Why = 7
	for i, x := range []struct {
		r    api.Result
		o    serial.Outcome
		want api.Errno
	}{
		{done(5, []int{1, 2}, []int{3}), o, api.OK},
		{done(0, []int{1, 2}, []int{3}), late, api.OK},
		{done(5, nil, []int{}), serial.Outcome{Status: api.Done, Output: []int{}}, api.OK},
		{done(5, []int{1}, []int{3}), o, api.ErrForm},
		{done(5, []int{1, 3}, []int{3}), o, api.ErrForm},
		{done(5, []int{1, 2, 3}, []int{3}), o, api.ErrForm},
		{done(5, []int{1, 2}, []int{4}), o, api.ErrRange},
		{done(5, []int{1, 2}, nil), o, api.ErrRange},
		{done(5, []int{1}, nil), o, api.ErrForm},
		{api.Result{Status: api.Done, Why: 1, Output: []int{1, 2}, Memory: []int{3}}, o, api.ErrState},
		{api.Result{Status: api.Out, Output: []int{1}}, o, api.ErrState},
		{api.Result{}, o, api.ErrState},
		{done(5, []int{1}, []int{3}), serial.Outcome{Status: api.Out}, api.ErrState},
		{done(5, nil, nil), serial.Outcome{}, api.ErrState},
		{api.Result{}, serial.Outcome{}, api.ErrState},
		{api.Result{Status: api.Faulted, Why: 2}, serial.Outcome{Status: api.Faulted, Why: 2}, api.ErrState},
	} {
		if e := compare.Agrees(x.r, x.o); e != x.want {
			t.Error(i, e)
		}
	}
}

// Promise 40.2: how many results are what.
func TestAdd(t *testing.T) {
	full := func(why int) api.Result { return api.Result{Status: api.Full, Why: why} }
	for i, x := range []struct {
		l    []api.Result
		want compare.Sum
	}{
		{nil, compare.Sum{}},
		{[]api.Result{done(1, []int{1}, nil), done(2, []int{1}, []int{})}, compare.Sum{Runs: 2, Done: 2, Distinct: 1}},
		{[]api.Result{done(1, []int{1}, nil), done(1, []int{2}, nil), done(1, nil, []int{1}), done(1, []int{1}, []int{1})}, compare.Sum{Runs: 4, Done: 4, Distinct: 4}},
		{[]api.Result{done(1, []int{1, 2}, nil), done(1, []int{12}, nil), done(1, []int{1}, []int{2}), done(1, nil, []int{1, 2})}, compare.Sum{Runs: 4, Done: 4, Distinct: 4}},
		{[]api.Result{full(1), full(2), full(1), {Status: api.Faulted, Why: 1}, {Status: api.Out}, {Status: api.Out}, {Status: api.Out, Why: 3}}, compare.Sum{Runs: 7, Faulted: 1, Full: 3, Out: 3, Distinct: 5}},
		{[]api.Result{{}, {Status: api.Malformed}, {Status: api.BadParam}, {Status: 99}, {Status: -1}, {}}, compare.Sum{Runs: 6, Distinct: 5}},
		{[]api.Result{{Status: api.Done, Why: 1}, {Status: api.Done, Why: 2}}, compare.Sum{Runs: 2, Done: 2, Distinct: 2}},
		{[]api.Result{done(0, []int{-1}, nil), done(0, []int{1}, nil), done(0, []int{least}, nil), done(0, []int{most}, nil), done(0, []int{0, 0}, nil), done(0, []int{0}, nil)}, compare.Sum{Runs: 6, Done: 6, Distinct: 6}},
	} {
		if got := compare.Add(x.l); got != x.want {
			t.Errorf("%d: %+v", i, got)
		}
	}
}

// program is a pipeline whose iterations emit as they come.
const program = "memory 1; function; pipe 1; ret; function; set 1 1; add 0 0 1; set 2 3; less 3 2 0; zero 3 6; break; cont 1; emit 0; fetch 5 6 1; ret"

// plain are parameters of so many workers.
func plain(workers int) api.Params {
	return api.Params{Workers: workers, Throttle: 3, Frames: 20, Deque: 20, Output: 20}
}

// Promise 40.3: what is wrong.
func TestSpreadWrong(t *testing.T) {
	p := read(t, program)
	for i, x := range []struct {
		p      api.Program
		input  []int
		q      api.Params
		orders []string
		want   api.Errno
	}{
		{api.Program{}, nil, plain(1), nil, api.ErrNone},
		{p, nil, plain(0), nil, api.ErrRange},
		{p, nil, plain(0), make([]string, 51), api.ErrRange},
		{p, make([]int, 2), plain(1), make([]string, 51), api.ErrLong},
		{p, nil, plain(1), make([]string, 51), api.ErrLong},
		{p, nil, plain(1), make([]string, 50), api.OK},
		{p, nil, plain(1), nil, api.OK},
	} {
		l, e := compare.Spread(x.p, x.input, x.q, x.orders, 10)
		if e != x.want || e != api.OK && len(l) != 0 || e == api.OK && len(l) != len(x.orders) {
			t.Error(i, len(l), e)
		}
	}
}

// Promise 40.3: each order's result is that of a machine that steps so.
func TestSpread(t *testing.T) {
	p := read(t, program)
	orders := []string{"", "a", "\x01\x00\x02", "\x80\xff", "bcd"}
	for workers := 1; workers <= 3; workers++ {
		for _, steps := range []int{-1, 0, 1, 30, 77, 5000} {
			l, e := compare.Spread(p, []int{4}, plain(workers), orders, steps)
			if e != api.OK || len(l) != len(orders) {
				t.Fatal(e)
			}
			for i, order := range orders {
				m, _ := machine.New(p, []int{4}, plain(workers))
				for _, x := range sched.Turns(workers, steps, order) {
					m.Step(x)
				}
				want := m.Result()
				if want.Status == api.Going {
					want.Status = api.Out
				}
				if !reflect.DeepEqual(l[i], want) || steps == 5000 && want.Status != api.Done {
					t.Error(workers, steps, order, l[i], want)
				}
			}
		}
	}
	l, _ := compare.Spread(read(t, "memory 0; function; jump 0"), nil, plain(1), []string{""}, most)
	if len(l) != 1 || l[0].Status != api.Out || l[0].Stats.Steps != 100000 {
		t.Error(l)
	}
}

// Promise 40.4: the least steps of those that agree.
func TestLeast(t *testing.T) {
	o := serial.Outcome{Status: api.Done, Output: []int{1}}
	for i, x := range []struct {
		l    []api.Result
		want int
	}{
		{nil, -1},
		{[]api.Result{done(5, []int{2}, nil)}, -1},
		{[]api.Result{done(5, []int{2}, nil), done(9, []int{1}, nil), done(7, []int{1}, nil), done(8, []int{1}, nil), done(6, nil, nil)}, 7},
		{[]api.Result{done(0, []int{1}, nil), done(3, []int{1}, nil)}, 0},
		{[]api.Result{{Status: api.Out, Output: []int{1}}}, -1},
		{[]api.Result{done(9, []int{1}, nil), done(9, []int{1}, []int{0})}, 9},
	} {
		if got := compare.Least(o, x.l); got != x.want {
			t.Error(i, got)
		}
	}
	if got := compare.Least(serial.Outcome{}, []api.Result{done(9, nil, nil)}); got != -1 {
		t.Error(got)
	}
}

// Promise 40.5: results that agree with one outcome are not distinct.
func TestAgreeing(t *testing.T) {
	p := read(t, strings.Replace(program, "cont", "wait", 1))
	o, _ := serial.Eval(p, nil, 9999)
	l, e := compare.Spread(p, nil, plain(3), []string{"", "a", "b", "c", "ab", "\x80\x91", "zyx"}, 9999)
	if e != api.OK {
		t.Fatal(e)
	}
	for i, r := range l {
		if compare.Agrees(r, o) != api.OK {
			t.Error(i, r)
		}
	}
	if s := compare.Add(l); s != (compare.Sum{Runs: 7, Done: 7, Distinct: 1}) {
		t.Error(s)
	}
	if n := compare.Least(o, l); n < o.Steps || !slices.ContainsFunc(l, func(r api.Result) bool { return r.Stats.Steps == n }) {
		t.Error(n)
	}
}
