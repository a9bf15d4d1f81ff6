package machine_test

import (
	"fmt"
	"reflect"
	"slices"
	"strings"
	"testing"

	"forebay/api"
	"forebay/asm"
	"forebay/machine"
	"forebay/worker"
)

const (
	least = -1 << 63
	most  = 1<<63 - 1
)

// read is the program of so many words of memory that is written, with semicolons between its lines.
func read(t testing.TB, memory int, text string) api.Program {
	t.Helper()
	p, e := asm.Read(fmt.Sprintf("memory %d\n%s", memory, strings.ReplaceAll(text, "; ", "\n")))
	if e != api.OK {
		t.Fatal(e)
	}
	return p
}

// made is a machine, that must be.
func made(t testing.TB, p api.Program, input []int, q api.Params) *machine.Machine {
	t.Helper()
	m, e := machine.New(p, input, q)
	if e != api.OK || m == nil {
		t.Fatal(e)
	}
	return m
}

// plain are parameters of so many workers.
func plain(workers, throttle int) api.Params {
	return api.Params{Workers: workers, Throttle: throttle, Frames: 40, Deque: 40, Output: 100}
}

// Promise 27.1: what is wrong, and what there is at first.
func TestNew(t *testing.T) {
	p := read(t, 2, "function; ret")
	for i, x := range []struct {
		p     api.Program
		input []int
		q     api.Params
		want  api.Errno
	}{
		{api.Program{}, nil, plain(1, 1), api.ErrNone},
		{p, nil, plain(0, 1), api.ErrRange},
		{p, make([]int, 3), plain(1, 1), api.ErrLong},
		{p, make([]int, 3), plain(65, 1), api.ErrRange},
	} {
		if m, e := machine.New(x.p, x.input, x.q); m != nil || e != x.want {
			t.Error(i, e)
		}
	}
	m := made(t, p, []int{4}, plain(3, 1))
	if m.Ended() || m.Frames() != 1 || m.Kind(1) != api.Task || len(m.Events()) != 0 {
		t.Error(m.Frames(), m.Kind(1))
	}
	if got := m.Workers(); !slices.Equal(got, []worker.View{{State: worker.Running, Holds: 1}, {}, {}}) {
		t.Error(got)
	}
	if got := m.Result(); !reflect.DeepEqual(got, api.Result{Memory: []int{4, 0}, Stats: api.Stats{Peak: 1}}) && (len(got.Output) != 0 || got.Status != 0 || got.Stats.Peak != 1) {
		t.Error(got)
	}
}

// Promise 27.1: which worker steps; a run that has ended does nothing.
func TestStep(t *testing.T) {
	for _, x := range []struct{ pick, own int }{{0, 0}, {1, 1}, {2, 2}, {3, 0}, {7, 1}, {-1, 0}, {least, 0}, {most, most % 3}} {
		m := made(t, read(t, 0, "function; set 1 1; jump 0"), nil, plain(3, 1))
		if m.Step(api.Pick{Worker: x.pick, Victim: 1}) {
			t.Error("ended")
		}
		for own, v := range m.Workers() {
			probes := 0
			if own == x.own && own != 0 {
				probes = 1
			}
			if v.Probed != probes {
				t.Error(x, own, v)
			}
		}
		if s := m.Result().Stats; s.Steps != 1 {
			t.Error(s)
		}
	}
	m := made(t, read(t, 0, "function; emit 0; ret"), nil, plain(2, 1))
	if m.Step(api.Pick{}) || m.Ended() || !m.Step(api.Pick{}) || !m.Ended() {
		t.Error("when does it end?")
	}
	before := m.Result()
	if !m.Step(api.Pick{}) || !m.Step(api.Pick{Worker: 1}) || !reflect.DeepEqual(m.Result(), before) || before.Status != api.Done || before.Stats.Steps != 2 {
		t.Error(m.Result())
	}
}

// Promise 27.1: the victim is the pick's.
func TestVictim(t *testing.T) {
	for victim := -1; victim < 7; victim++ {
		m := made(t, read(t, 0, "function; set 1 1; jump 0"), nil, plain(3, 1))
		m.Step(api.Pick{Worker: 2, Victim: victim})
		want := worker.Stealing
		if max(victim, 0)%3 == 2 {
			want = worker.Seeking
		}
		if v := m.Workers()[2]; v.State != want {
			t.Error(victim, v)
		}
	}
}

// Promises 27.1, 27.2: all steps were done.
func TestMaxSteps(t *testing.T) {
	m := made(t, read(t, 0, "function; jump 0"), nil, plain(1, 1))
	n := 1
	for !m.Step(api.Pick{}) {
		n++
	}
	if n != api.MaxSteps || !m.Ended() || !m.Step(api.Pick{}) {
		t.Error(n)
	}
	if r := m.Result(); r.Status != api.Out || r.Why != 0 || r.Stats.Steps != api.MaxSteps {
		t.Error(r)
	}
}

// loop is a pipeline of so many iterations, each of two stages that wait.
func loop(iterations int) string {
	return fmt.Sprintf("function; pipe 1; emit 0; ret; function; set 1 1; add 0 0 1; set 2 %d; less 3 2 0; zero 3 6; break; wait 1; emit 0; set 4 2; wait 4; emit 0; ret", iterations)
}

// Promise 27.2: results, of each status.
func TestResult(t *testing.T) {
	for _, x := range []struct {
		text        string
		q           api.Params
		status, why int
		output      []int
		memory      []int
		peak        int
	}{
		{"function; set 1 5; store 0 1; emit 1; ret", plain(1, 1), api.Done, 0, []int{5}, []int{5, 8}, 1},
		{"function; emit 1; load 1 0; div 1 2 3; ret", plain(1, 1), api.Faulted, api.DivZero, []int{0}, []int{7, 8}, 1},
		{"function; spawn 0; ret", api.Params{Workers: 1, Throttle: 1, Frames: 40, Deque: 5}, api.Full, api.FullDeque, nil, []int{7, 8}, 6},
		{"function; spawn 0; ret", api.Params{Workers: 1, Throttle: 1, Frames: 2, Deque: 9}, api.Full, api.FullFrames, nil, []int{7, 8}, 2},
		{"function; emit 1; ret", api.Params{Workers: 1, Throttle: 1, Frames: 2, Deque: 9}, api.Full, api.FullOutput, nil, []int{7, 8}, 1},
	} {
		m := made(t, read(t, 2, x.text), []int{7, 8}, x.q)
		steps := 0
		for !m.Ended() {
			r := m.Result()
			if r.Status != api.Going || r.Why != 0 || r.Stats.Steps != steps {
				t.Error(r)
			}
			m.Step(api.Pick{})
			steps++
		}
		r := m.Result()
		if r.Status != x.status || r.Why != x.why || !slices.Equal(r.Output, x.output) || !slices.Equal(r.Memory, x.memory) || r.Stats.Peak != x.peak || r.Stats.Steps != steps {
			t.Error(x.text, r)
		}
		if len(r.Output) > 0 {
			r.Output[0] = 99
		}
		r.Memory[0] = 99
		if again := m.Result(); !slices.Equal(again.Output, x.output) || !slices.Equal(again.Memory, x.memory) {
			t.Error("what was handed out is the run's")
		}
	}
}

// Promise 27.2: frames, kinds, deques and events, as a run goes on.
func TestState(t *testing.T) {
	m := made(t, read(t, 0, loop(2)), nil, plain(2, 3))
	for m.Workers()[0].State != worker.Checking {
		m.Step(api.Pick{})
	}
	if m.Frames() != 3 || m.Kind(1) != api.Task || m.Kind(2) != api.Loop || m.Kind(3) != api.Iter {
		t.Error(m.Frames(), m.Kind(1), m.Kind(2), m.Kind(3))
	}
	for _, id := range []int{0, 4, -1, 41, 256, least, most} {
		if m.Kind(id) != 0 {
			t.Error(id)
		}
	}
	if got := m.Deques(); !reflect.DeepEqual(got, [][]int{{2}, nil}) && !reflect.DeepEqual(got, [][]int{{2}, {}}) {
		t.Error(got)
	}
	want := []api.Event{{Kind: api.Start, Loop: 1}, {Kind: api.Begin, Loop: 1}, {Kind: api.Advance, Loop: 1, Stage: 1}}
	if got := m.Events(); !slices.Equal(got, want) {
		t.Error(got)
	}
	m.Events()[0].Kind = 9
	m.Workers()[0].Holds = 9
	m.Deques()[0][0] = 9
	if !slices.Equal(m.Events(), want) || m.Workers()[0].Holds != 3 || m.Deques()[0][0] != 2 {
		t.Error("what was handed out is the run's")
	}
	for m.Workers()[1].State != worker.Looping {
		m.Step(api.Pick{Worker: 1})
	}
	if got := m.Deques(); len(got) != 2 || len(got[0]) != 0 || len(got[1]) != 0 {
		t.Error(got)
	}
}

// Promise 27.2: a deque goes round its slots, the first one first.
func TestDeques(t *testing.T) {
	m := made(t, read(t, 0, "function; spawn 0; ret"), nil, api.Params{Workers: 2, Throttle: 1, Frames: 60, Deque: 4})
	pushes := func(n int) {
		for len(m.Deques()[0]) != n {
			m.Step(api.Pick{})
		}
	}
	pushes(3)
	if got := m.Deques()[0]; !slices.Equal(got, []int{1, 2, 3}) {
		t.Error(got)
	}
	for m.Workers()[1].State != worker.Running {
		m.Step(api.Pick{Worker: 1})
	}
	if got := m.Deques()[0]; !slices.Equal(got, []int{2, 3}) {
		t.Error(got)
	}
	pushes(3)
	if got := m.Deques()[0]; !slices.Equal(got, []int{2, 3, 4}) {
		t.Error(got)
	}
	if m.Ended() {
		t.Error("ended")
	}
}

// Promises 27.1, 27.2: of nil, and of nothing.
func TestNil(t *testing.T) {
	for i, m := range []*machine.Machine{nil, new(machine.Machine)} {
		if !m.Step(api.Pick{Worker: 5}) || !m.Ended() || !reflect.DeepEqual(m.Result(), api.Result{}) || len(m.Events()) != 0 ||
			len(m.Workers()) != 0 || m.Frames() != 0 || len(m.Deques()) != 0 || m.Kind(1) != 0 {
			t.Error(i)
		}
	}
}

// Promise 27.3: how many iterations are active.
func TestActive(t *testing.T) {
	l := []api.Event{
		{Kind: api.Start, Loop: 1}, {Kind: api.Begin, Loop: 1}, {Kind: api.Start, Loop: 2}, {Kind: api.Start, Loop: 1, Iter: 1}, {Kind: api.Advance, Loop: 1},
		{Kind: api.Start, Loop: 1, Iter: 2}, {Kind: api.Finish, Loop: 1}, {Kind: api.Finish, Loop: 1, Iter: 1}, {Kind: api.Start, Loop: 2, Iter: 1},
		{Kind: api.Finish, Loop: 3}, {Kind: api.Ends, Loop: 1}, {Kind: api.Passes, Loop: 2}, {Kind: api.Start, Loop: 3},
	}
	for loop, want := range map[int]int{1: 1, 2: 2, 3: 0, 4: 0, -1: 0} {
		if got := machine.Active(l, loop); got != want {
			t.Error(loop, got)
		}
	}
	if got := machine.Active(l[:10], 3); got != 0 { // more have finished than started
		t.Error(got)
	}
	for n, want := range []int{0, 1, 1, 1, 2, 2, 3, 3, 3, 3, 3, 3, 3, 3} {
		if got := machine.Most(l[:n]); got != want {
			t.Error(n, got)
		}
	}
	if machine.Active(nil, 1) != 0 || machine.Most(nil) != 0 || machine.Most([]api.Event{{Kind: api.Finish, Loop: 1}}) != 0 {
		t.Error("of none")
	}
	// what has finished ahead of its start counts, too
	if got := machine.Most([]api.Event{{Kind: api.Finish, Loop: 1}, {Kind: api.Start, Loop: 1}, {Kind: api.Start, Loop: 1}}); got != 1 {
		t.Error(got)
	}
}

// Examples 2, 4: a pipeline's output is in order, whoever steps.
func TestPipeline(t *testing.T) {
	for workers := 1; workers <= 4; workers++ {
		for throttle := 1; throttle <= 4; throttle++ {
			for seed := range uint32(20) {
				q := plain(workers, throttle)
				q.Fold, q.Lazy = seed&1 != 0, seed&2 != 0
				text := "function; pipe 1; ret; function; set 1 1; add 0 0 1; set 2 3; less 3 2 0; zero 3 6; break; wait 1; emit 0; ret"
				m := made(t, read(t, 0, text), nil, q)
				x := seed
				for !m.Ended() {
					x = x*1664525 + 1013904223
					m.Step(api.Pick{Worker: int(x >> 9), Victim: int(x >> 20)})
				}
				if r := m.Result(); r.Status != api.Done || !slices.Equal(r.Output, []int{1, 2, 3}) {
					t.Fatal(workers, throttle, seed, r)
				}
			}
		}
	}
}

// Promise 27.4: never more iterations than the throttle lets; each starts behind the first stage of the one ahead; never more frames than there are.
func TestThrottle(t *testing.T) {
	p := read(t, 0, loop(7))
	for workers := 1; workers <= 4; workers++ {
		for throttle := 1; throttle <= 4; throttle++ {
			for seed := range uint32(12) {
				q := plain(workers, throttle)
				q.Fold, q.Lazy, q.Frames = seed&1 != 0, seed&2 != 0, throttle+2
				m := made(t, p, nil, q)
				x := seed
				for !m.Ended() {
					x = x*1664525 + 1013904223
					m.Step(api.Pick{Worker: int(x >> 9), Victim: int(x >> 20)})
					if m.Frames() > q.Frames {
						t.Fatal(m.Frames())
					}
				}
				checkEvents(t, m.Events(), throttle)
				if r := m.Result(); r.Status != api.Done && (r.Status != api.Full || r.Why != api.FullFrames) {
					t.Fatal(r)
				}
			}
		}
	}
}

// checkEvents holds events against promise 27.4.
func checkEvents(t *testing.T, l []api.Event, throttle int) {
	t.Helper()
	if got := machine.Most(l); got > throttle {
		t.Fatal(got, throttle)
	}
	past := map[int]bool{} // iterations that have ended their first stage
	for i, e := range l {
		if e.Kind == api.Start && e.Iter > 0 && !past[e.Iter-1] {
			t.Fatal(i, l)
		}
		if e.Kind == api.Advance || e.Kind == api.Finish {
			past[e.Iter] = true
		}
		if got := machine.Active(l[:i+1], 1); got > throttle {
			t.Fatal(got)
		}
	}
	if throttle > 1 {
		return
	}
	for i, e := range l { // one behind the other
		if i > 0 && e.Iter != l[i-1].Iter && e.Kind != api.Start && e.Kind != api.Ends {
			t.Fatal(i, l)
		}
	}
}
