package audit_test

import (
	"fmt"
	"strings"
	"testing"

	"forebay/api"
	"forebay/asm"
	"forebay/audit"
	"forebay/machine"
	"forebay/worker"
)

const (
	least = -1 << 63
	most  = 1<<63 - 1
)

// v is a worker in a state, holding a frame.
func v(state, holds int) worker.View {
	return worker.View{State: state, Holds: holds, Tail: 5, Probed: 6}
}

// The frames 1, 4 are tasks', 2 is a loop's, 3 an iteration's; 5 is not in use.
var kinds = []int{api.Task, api.Loop, api.Iter, api.Task, 0}

// empty are the states without a frame, loops those with a loop's.
var (
	empty = map[int]bool{
		worker.Seeking: true, worker.Stealing: true, worker.Popping: true, worker.Arriving: true, worker.Resuming: true, worker.Parking: true,
		worker.Finishing: true, worker.Napping: true,
	}
	loops = map[int]bool{
		worker.Completing: true, worker.Looping: true, worker.Starting: true, worker.Counting: true, worker.Naming: true, worker.Joining: true,
	}
)

// Promise 37.1: each state, with nothing, a task, a loop, an iteration, and what is none.
func TestStates(t *testing.T) {
	for state := range 25 {
		for holds := -1; holds <= 6; holds++ {
			want := api.OK
			switch {
			case state == worker.Pushing && holds == 0:
			case state != worker.Pushing && (holds != 0) == empty[state]:
				want = api.ErrState
			case empty[state]:
			case holds < 1 || holds > 4:
				want = api.ErrNone
			case state != worker.Pushing && (holds == 2) != loops[state]:
				want = api.ErrKind
			}
			if e := audit.Look([]worker.View{v(state, holds)}, nil, kinds); e != want {
				t.Error(state, holds, e, want)
			}
		}
	}
	for _, state := range []int{-1, 25, 99, least, most} {
		for _, holds := range []int{0, 1, 9} {
			if e := audit.Look([]worker.View{v(state, holds)}, nil, kinds); e != api.ErrRange {
				t.Error(state, holds, e)
			}
		}
	}
}

// Promise 37.1: frames that there are not, or in two hands; the first of what is wrong.
func TestLook(t *testing.T) {
	run := worker.Running
	for i, x := range []struct {
		views  []worker.View
		deques [][]int
		want   api.Errno
	}{
		{nil, nil, api.OK},
		{[]worker.View{v(run, 1)}, nil, api.OK},
		{[]worker.View{v(run, 1), v(run, 3), v(worker.Looping, 2)}, [][]int{{4}, nil, {}}, api.OK},
		{[]worker.View{v(run, 1), v(run, 1)}, nil, api.ErrTwice},
		{[]worker.View{v(run, 1)}, [][]int{{4, 1}}, api.ErrTwice},
		{nil, [][]int{{4}, {2, 4}}, api.ErrTwice},
		{nil, [][]int{{4, 4}}, api.ErrTwice},
		{nil, [][]int{{1, 2, 3, 4}}, api.OK},
		{nil, [][]int{{1, 5}}, api.ErrNone},
		{nil, [][]int{{0}}, api.ErrNone},
		{nil, [][]int{{-1}}, api.ErrNone},
		{nil, [][]int{{6}}, api.ErrNone},
		{nil, [][]int{{most}}, api.ErrNone},
		{nil, [][]int{{least}}, api.ErrNone},
		{nil, [][]int{nil, {4, 4, 9}}, api.ErrTwice},
		{nil, [][]int{nil, {4, 9, 4}}, api.ErrNone},
		{[]worker.View{v(run, 5)}, [][]int{{4, 4}}, api.ErrNone},
		{[]worker.View{v(run, 1), v(99, 0)}, [][]int{{4, 4}}, api.ErrRange},
		{[]worker.View{v(run, 2), v(99, 0)}, nil, api.ErrKind},
		{[]worker.View{v(run, 0), v(99, 0)}, nil, api.ErrState},
		{[]worker.View{v(99, 0), v(run, 0)}, nil, api.ErrRange},
		{[]worker.View{v(worker.Looping, 2), v(run, 2)}, nil, api.ErrTwice},
		{[]worker.View{v(run, 1), v(worker.Looping, 1)}, nil, api.ErrTwice},
		{[]worker.View{v(worker.Pushing, 1), v(worker.Pushing, 1)}, nil, api.ErrTwice},
		{[]worker.View{v(worker.Seeking, 1), v(run, 9)}, nil, api.ErrState},
	} {
		if e := audit.Look(x.views, x.deques, kinds); e != x.want {
			t.Error(i, e, x.want)
		}
	}
	if e := audit.Look([]worker.View{v(run, 4)}, [][]int{{3}}, kinds[:4]); e != api.OK {
		t.Error(e)
	}
	if e := audit.Look(nil, [][]int{{4}}, kinds[:3]); e != api.ErrNone {
		t.Error(e)
	}
	if e := audit.Look([]worker.View{v(run, 1)}, nil, nil); e != api.ErrNone {
		t.Error(e)
	}
}

// Promise 37.2: idle workers, and frames that wait.
func TestCounts(t *testing.T) {
	var views []worker.View
	for state := -1; state < 27; state++ {
		views = append(views, v(state, 0))
	}
	if audit.Idle(views) != 2 || audit.Idle(nil) != 0 || audit.Idle(append(views, views...)) != 4 {
		t.Error(audit.Idle(views))
	}
	if audit.Waiting(nil) != 0 || audit.Waiting([][]int{{1, 2}, nil, {9, 9, -1}}) != 5 {
		t.Error(audit.Waiting([][]int{{1, 2}, nil, {9, 9, -1}}))
	}
}

// Promise 37.1: as many frames as there may be.
func TestAllFrames(t *testing.T) {
	p := api.Program{Funcs: [][]api.Ins{{{Op: api.Spawn}, {Op: api.Ret}}}}
	m, e := machine.New(p, nil, api.Params{Workers: 1, Throttle: 1, Frames: 256, Deque: 256})
	if e != api.OK {
		t.Fatal(e)
	}
	for !m.Ended() {
		m.Step(api.Pick{})
		if e := audit.Check(m); e != api.OK {
			t.Fatal(m.Frames(), e)
		}
	}
	if m.Frames() != 256 || m.Workers()[0].Holds != 256 {
		t.Error(m.Frames(), m.Workers())
	}
}

// Promises 37.1, 37.3: each state of a run is sound.
func TestRuns(t *testing.T) {
	if e := audit.Check(nil); e != api.ErrNone {
		t.Error(e)
	}
	if e := audit.Check(new(machine.Machine)); e != api.OK {
		t.Error(e)
	}
	for i, text := range []string{
		"function; spawn 1; spawn 1; emit 0; sync; ret; function; spawn 2; spawn 2; ret; function; ret",
		"function; pipe 1; ret; function; set 1 1; add 0 0 1; set 2 6; less 3 2 0; zero 3 6; break; wait 1; spawn 2; set 4 3; cont 4; set 4 7; wait 4; pipe 3; ret; function; ret; function; set 1 1; cont 1; break",
		"function; pipe 1; ret; function; set 1 1; add 0 0 1; set 2 6; less 3 2 0; zero 3 6; break; wait 1; spawn 2; set 4 3; wait 4; set 4 7; wait 4; pipe 3; ret; function; ret; function; set 5 5; set 1 1; sub 0 0 1; less 6 0 5; zero 6 6; break; wait 1; ret",
	} {
		p, e := asm.Read(fmt.Sprintf("memory 0\n%s", strings.ReplaceAll(text, "; ", "\n")))
		if e != api.OK {
			t.Fatal(e)
		}
		for seed := range uint32(24) {
			q := api.Params{Workers: 1 + int(seed)%5, Throttle: 1 + int(seed/5)%3, Frames: 60, Deque: 60, Output: 9, Fold: seed&1 != 0, Lazy: seed&2 != 0}
			m, e := machine.New(p, nil, q)
			if e != api.OK {
				t.Fatal(e)
			}
			x := seed
			for n := 0; !m.Ended() && n < 50000; n++ {
				if e := audit.Check(m); e != api.OK {
					t.Fatal(i, seed, n, e, m.Workers(), m.Deques())
				}
				x = x*1664525 + 1013904223
				m.Step(api.Pick{Worker: int(x >> 9), Victim: int(x >> 20)})
			}
			if e := audit.Check(m); e != api.OK {
				t.Fatal(i, seed, e)
			}
		}
	}
}
