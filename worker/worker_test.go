package worker_test

import (
	"testing"

	"forebay/api"
	"forebay/core"
	"forebay/frame"
	"forebay/worker"
)

const (
	least = -1 << 63
	most  = 1<<63 - 1
)

// one is how one worker runs.
var one = api.Params{Workers: 1, Output: 9}

// two is how two do.
var two = api.Params{Workers: 2, Output: 9, Throttle: 3}

// The states' numbers.
func TestStates(t *testing.T) {
	for i, n := range []int{
		worker.Seeking, worker.Stealing, worker.Popping, worker.Pushing, worker.Running, worker.Joined, worker.Spawning, worker.Arriving, worker.Resuming,
		worker.Advancing, worker.Peeking, worker.Checking, worker.Looking, worker.Parking, worker.Ending, worker.Closing, worker.Dropping, worker.Finishing,
		worker.Completing, worker.Looping, worker.Napping, worker.Starting, worker.Counting, worker.Naming, worker.Joining,
	} {
		if i != n {
			t.Error(i, n)
		}
	}
}

// A worker at first, of nil, of no core, and of a run that has ended.
func TestNothing(t *testing.T) {
	w := worker.New(3)
	if v := w.View(); v != (worker.View{}) {
		t.Error(v)
	}
	w.Start(5)
	if v := w.View(); v != (worker.View{State: worker.Running, Holds: 5}) {
		t.Error(v)
	}
	w.Step(nil, 0)
	w.Step(new(core.Core), 0)
	if v := w.View(); v != (worker.View{State: worker.Running, Holds: 5}) {
		t.Error(v)
	}
	var none *worker.Worker
	none.Start(1)
	x := gather(t, 0, "function; emit 0; ret", one)
	none.Step(x.c, 0)
	if v := none.View(); v != (worker.View{}) || x.c.Stats().Steps != 0 {
		t.Error(v)
	}
	w.Step(x.c, 0) // there is no frame 5
	worker.New(-9).Step(x.c, least)
	worker.New(most).Step(x.c, most)
	x.status(api.Going, 0)
	x.c.Stop(api.Out, 0)
	x.expect(0, 0, "run 1, run 1")
	x.output()
}

// Example 1: ret of the root.
func TestRet(t *testing.T) {
	x := gather(t, 0, "function; ret", one)
	x.expect(0, 0, "run 1")
	x.status(api.Done, 0)
	x.expect(0, 0, "run 1, run 1")
	if x.c.Stats().Steps != 1 || x.c.Frames().Used() != 1 || x.c.Log().Len() != 0 {
		t.Error(*x.c.Stats())
	}
}

// Seeking: whom it would steal from, and when that is itself.
func TestSeek(t *testing.T) {
	for _, a := range []struct {
		own, victim int
		want        []bool // whether it steals, probe by probe
	}{
		{1, 0, []bool{true, false, true, true, false}},
		{1, 1, []bool{false, true, true, false}},
		{1, -5, []bool{true, false, true}},
		{1, least, []bool{true, false}},
		{2, 2, []bool{false, true, true, false}},
		{2, 7, []bool{true, false, true, true, false}},
		{2, most, []bool{true, false}}, // most is 1 modulo 3
	} {
		x := gather(t, 0, "function; ret", api.Params{Workers: 3})
		for i, steals := range a.want {
			asks := x.asks
			x.step(a.own, a.victim)
			v := x.ws[a.own].View()
			if v.Probed != i+1 || x.c.Stats().Probes != i+1 || v.Holds != 0 {
				t.Error(a, i, v)
			}
			if (v.State == worker.Stealing) != steals || (x.asks > asks) != steals || !steals && v.State != worker.Seeking {
				t.Error(a, i, v)
			}
			for x.ws[a.own].View().State == worker.Stealing {
				x.step(a.own, 99)
			}
		}
		x.stats(len(a.want), 0, 0, 0, 0)
	}
}

// Seeking: it steals from whom it would.
func TestSeekWhom(t *testing.T) {
	for own := range 3 {
		for victim := range 7 {
			x := gather(t, 0, "function; ret", api.Params{Workers: 3})
			w := worker.New(own)
			for probed := range 5 {
				if w.View().State != worker.Seeking {
					t.Fatal(w.View())
				}
				at := -1
				x.c.Words().Hook(func(n int, _ bool) { at = n })
				w.Step(x.c, victim)
				whom := (victim + probed) % 3
				if want := x.c.Plan().Base(whom) + 2; at != want && whom != own || at != -1 && whom == own {
					t.Error(own, victim, probed, at)
				}
				x.c.Words().Hook(nil)
				for w.View().State == worker.Stealing {
					w.Step(x.c, victim)
				}
			}
		}
	}
}

// Stealing: of nothing, and of a frame.
func TestSteal(t *testing.T) {
	x := gather(t, 0, "function; spawn 1; emit 0; sync; ret; function; ret", two)
	x.expect(1, 0, "steal 0, steal 0, steal 0, steal 0, steal 0, steal 0, seek 0")
	x.stats(1, 0, 0, 0, 0)
	x.till(0, 0, "run 2")
	x.expect(1, 1, "steal 0, steal 0, steal 0, steal 0, steal 0, steal 0, run 1") // probed once ahead of that: from 0
	x.stats(2, 1, 0, 0, 0)
	if v := x.ws[1].View(); v != (worker.View{State: worker.Running, Holds: 1, Probed: 2}) {
		t.Error(v)
	}
}

// Spawning, pushing, arriving and popping, by one worker alone.
func TestSpawnAlone(t *testing.T) {
	x := gather(t, 0, "function; set 1 5; spawn 1; set 1 6; emit 1; sync; ret; function; emit 1; set 1 9; ret", one)
	x.expect(0, 0, "run 1, spawn 1")
	root, child := x.c.Frames().At(1), x.c.Frames().At(2)
	if root.Pc != 2 || !root.Dirty || *child != (frame.Frame{Kind: api.Task, Fn: 1, Parent: 1, Regs: [8]int{1: 5}}) {
		t.Error(*root, *child)
	}
	x.expect(0, 0, "push 1, push 1, push 1, run 2")
	if n, _ := x.c.Words().Load(x.c.Plan().Frame(1)); n != 2 {
		t.Error(n)
	}
	if v := x.ws[0].View(); v.Tail != 1 {
		t.Error(v)
	}
	x.expect(0, 0, "run 2, run 2, arrive 0")
	if x.c.Frames().At(2) != nil {
		t.Error("not freed")
	}
	x.expect(0, 0, "pop 0, pop 0, pop 0, run 1")
	if v := x.ws[0].View(); v.Tail != 0 {
		t.Error(v)
	}
	x.expect(0, 0, "run 1, run 1, joined 1")
	if n, _ := x.c.Words().Load(x.c.Plan().Frame(1)); n != 0 || root.Pc != 4 || !root.Dirty {
		t.Error(n, *root)
	}
	x.expect(0, 0, "run 1")
	if n, _ := x.c.Words().Load(x.c.Plan().Frame(1)); n != 1 || root.Pc != 4 || root.Dirty {
		t.Error(n, *root)
	}
	x.expect(0, 0, "run 1, run 1")
	x.status(api.Done, 0)
	x.output(5, 6)
	x.stats(0, 0, 0, 0, 0)
}

// Arriving as the last one: resuming the parent, that has let go.
func TestResume(t *testing.T) {
	x := gather(t, 0, "function; spawn 1; emit 0; sync; emit 0; ret; function; ret", two)
	x.till(0, 0, "run 2")
	x.till(1, 0, "run 1")
	x.expect(1, 0, "run 1, pop 0") // emit, and sync, that must wait
	x.output(0)
	x.expect(1, 0, "pop 0, pop 0, pop 0, pop 0, pop 0, pop 0, pop 0, pop 0, seek 0")
	x.expect(0, 0, "arrive 0, resume 0")
	root := x.c.Frames().At(1)
	if !root.Dirty {
		t.Error(*root)
	}
	x.expect(0, 0, "run 1")
	if n, _ := x.c.Words().Load(x.c.Plan().Frame(1)); n != 1 || root.Dirty || root.Pc != 2 {
		t.Error(n, *root)
	}
	x.expect(0, 0, "run 1, run 1, run 1")
	x.status(api.Done, 0)
	x.output(0, 0)
}

// Meeting: each instruction at which all that was spawned must have returned, and each at which not.
func TestMeets(t *testing.T) {
	for _, op := range []string{"sync", "ret", "pipe 1", "wait 0", "cont 0", "break"} {
		x := gather(t, 9, "function; spawn 1; "+op+"; ret; function; ret", one)
		x.till(0, 0, "run 2")
		x.till(0, 0, "run 1")
		if got := x.walk(0, 0, 1); got != "joined 1" {
			t.Error(op, got)
		}
		x.status(api.Going, 0)
	}
	for _, op := range []string{"set 1 1", "emit 0", "load 1 0", "spawn 1", "jump 2"} {
		x := gather(t, 9, "function; spawn 1; "+op+"; ret; function; ret", one)
		x.till(0, 0, "run 2")
		x.till(0, 0, "run 1")
		if got := x.walk(0, 0, 1); got != "run 1" && got != "spawn 1" {
			t.Error(op, got)
		}
	}
	x := gather(t, 0, "function; sync; sync; ret; function; ret", one)
	x.expect(0, 0, "run 1, run 1, run 1")
	x.status(api.Done, 0)
}

// Memory: asked, and beyond.
func TestMemory(t *testing.T) {
	x := gather(t, 3, "function; set 1 2; set 2 7; store 1 2; load 3 1; fetch 4 1 2; load 5 1; swap 6 1 2; emit 6; move 6 5; swap 6 1 2; emit 6; load 7 1; emit 7; emit 3; emit 4; emit 5; ret", one)
	x.done(0, 0)
	x.output(0, 1, 7, 7, 7, 14)
	x.status(api.Done, 0)
	if x.asks != 0 || x.c.Data().All()[2] != 7 {
		t.Error(x.asks, x.c.Data().All())
	}
	for _, op := range []string{"load 2 1", "store 1 2", "fetch 2 1 2", "swap 2 1 2"} {
		for _, at := range []string{"3", "-1", "32767"} {
			x := gather(t, 3, "function; set 1 "+at+"; "+op+"; emit 1; ret", one)
			x.expect(0, 0, "run 1, run 1, run 1")
			x.status(api.Faulted, api.Bounds)
			if f := x.c.Frames().At(1); f.Pc != 1 || f.Regs[2] != 0 || x.c.Stats().Steps != 2 {
				t.Error(op, *f)
			}
		}
	}
}

// Jumps, numbers, and a fault of step.
func TestNumbers(t *testing.T) {
	x := gather(t, 0, "function; set 1 3; zero 0 3; emit 1; jump 5; emit 1; set 2 -4; mul 3 1 2; emit 3; zero 3 0; div 4 3 0; emit 3; ret", one)
	x.done(0, 0)
	x.output(-12)
	x.status(api.Faulted, api.DivZero)
	if f := x.c.Frames().At(1); f.Pc != 9 || f.Regs[4] != 0 {
		t.Error(*f)
	}
}

// Full: frames, deques and output.
func TestFull(t *testing.T) {
	x := gather(t, 0, "function; emit 0; emit 0; ret", api.Params{Workers: 1, Output: 1})
	x.expect(0, 0, "run 1, run 1, run 1")
	x.status(api.Full, api.FullOutput)
	if f := x.c.Frames().At(1); f.Pc != 1 {
		t.Error(*f)
	}
	x = gather(t, 0, "function; spawn 0; ret", api.Params{Workers: 1, Frames: 1})
	x.expect(0, 0, "run 1, run 1")
	x.status(api.Full, api.FullFrames)
	if f := x.c.Frames().At(1); f.Pc != 0 || f.Dirty {
		t.Error(*f)
	}
	x = gather(t, 0, "function; pipe 1; ret; function; break", api.Params{Workers: 1, Frames: 1})
	x.expect(0, 0, "run 1, run 1")
	x.status(api.Full, api.FullFrames)
	x = gather(t, 0, "function; pipe 1; ret; function; break", api.Params{Workers: 1, Frames: 2})
	x.expect(0, 0, "loop 2, loop 2, loop 2")
	x.status(api.Full, api.FullFrames)
	if f := x.c.Frames().At(2); f.Started != 0 {
		t.Error(*f)
	}
	x = gather(t, 0, "function; spawn 0; ret", api.Params{Workers: 1, Deque: 2})
	x.till(0, 0, "run 2")
	x.expect(0, 0, "spawn 2, push 2, push 2, push 2")
	x.status(api.Full, api.FullDeque)
	if v := x.ws[0].View(); v != (worker.View{State: worker.Pushing, Holds: 2, Tail: 1}) {
		t.Error(v)
	}
}

// What a task can't do; what it has spawned is met ahead of that.
func TestNotPipe(t *testing.T) {
	for _, op := range []string{"wait 1", "cont 1", "break"} {
		x := gather(t, 0, "function; set 1 1; "+op+"; ret", one)
		x.expect(0, 0, "run 1, run 1, run 1")
		x.status(api.Faulted, api.NotPipe)
		x = gather(t, 0, "function; spawn 1; ret; function; set 1 1; "+op+"; ret", one)
		x.done(0, 0)
		x.status(api.Faulted, api.NotPipe)
		x = gather(t, 0, "function; spawn 1; "+op+"; ret; function; emit 0; ret", one)
		x.done(0, 0)
		x.status(api.Faulted, api.NotPipe)
		x.output(0)
	}
}

// What an iteration can't do.
func TestBadStage(t *testing.T) {
	for _, op := range []string{"wait", "cont"} {
		for _, stages := range [][2]string{{"0", "0"}, {"-1", "0"}, {"3", "3"}, {"3", "2"}, {"32767", "32766"}} {
			x := gather(t, 0, "function; pipe 1; ret; function; set 1 "+stages[0]+"; "+op+" 1; set 1 "+stages[1]+"; "+op+" 1; ret", one)
			x.done(0, 0)
			x.status(api.Faulted, api.BadStage)
		}
		// 2^15 times 2^5 is 2^20
		x := gather(t, 0, "function; pipe 1; ret; function; set 1 1024; mul 1 1 1; set 2 1; sub 2 1 2; "+op+" 2; emit 2; "+op+" 1; ret", one)
		x.done(0, 0)
		x.status(api.Faulted, api.BadStage)
		x.output(1<<20 - 1)
	}
	for _, op := range []string{"wait", "cont"} {
		x := gather(t, 0, "function; pipe 1; ret; function; set 1 1; "+op+" 1; break", one)
		x.done(0, 0)
		x.status(api.Faulted, api.LateBreak)
		if n := x.c.Frames().Used(); n != 3 {
			t.Error(n)
		}
	}
}
