package worker_test

import (
	"testing"

	"forebay/api"
	"forebay/frame"
	"forebay/token"
	"forebay/worker"
)

// The head of an iteration: it counts in the register 0, and breaks behind so many. The register 1 is 1 then, and 2 is how many.
func iterations(many string) string {
	return "function; pipe 1; emit 0; ret; function; set 1 1; add 0 0 1; set 2 " + many + "; less 3 2 0; zero 3 6; break; "
}

// stages are two that wait, with an output in each.
const stages = "wait 1; emit 0; set 4 2; wait 4; emit 0; ret"

// A loop of two iterations, by one worker alone, step by step.
func TestLoopAlone(t *testing.T) {
	x := gather(t, 0, iterations("2")+"set 4 3; wait 4; emit 0; ret", one)
	x.expect(0, 0, "loop 2")
	if root, loop := x.c.Frames().At(1), x.c.Frames().At(2); root.Pc != 1 || *loop != (frame.Frame{Kind: api.Loop, Fn: 1, Parent: 1, Serial: 1}) {
		t.Error(*root, *loop)
	}
	x.expect(0, 0, "count 2, name 2, join 2, run 3") // Looping starts at once
	x.expect(0, 0, "run 3, run 3, run 3, run 3, run 3, run 3, advance 3, push 3, push 3, push 3, check 3")
	if f := x.c.Frames().At(3); f.Stage != 3 || f.Due || x.c.Frames().At(2).Regs != f.Regs || f.Pc != 8 {
		t.Error(*f)
	}
	x.expect(0, 0, "run 3")
	if !x.c.Frames().At(3).Due {
		t.Error("not due")
	}
	x.events("start1.0.0 begin1.0.0 advance1.0.3")
	x.expect(0, 0, "run 3, end 3, check 3, close 3, close 3, drop 3")
	x.events("start1.0.0 begin1.0.0 advance1.0.3 begin1.0.3 finish1.0.3")
	if x.c.Frames().At(3) == nil {
		t.Error("freed ahead of time")
	}
	x.expect(0, 0, "pop 0, pop 0, pop 0, loop 2")
	if x.c.Frames().At(3) != nil {
		t.Error("not freed")
	}
	x.expect(0, 0, "start 2, count 2, name 2, join 2, run 3") // with a throttle of 1 it asks first
	x.expect(0, 0, "run 3, run 3, run 3, run 3, run 3, run 3, advance 3, push 3, push 3, push 3, check 3, look 3, run 3, run 3, end 3")
	x.till(0, 0, "loop 2")
	x.expect(0, 0, "start 2, count 2, name 2, join 2, run 3, run 3, run 3, run 3, run 3, run 3, end 3, check 3, close 3, drop 3, finish 0, complete 2")
	x.expect(0, 0, "run 1, run 1, run 1")
	x.status(api.Done, 0)
	x.output(1, 2, 3)
	x.stats(0, 0, 0, 0, 0)
	x.events("start1.0.0 begin1.0.0 advance1.0.3 begin1.0.3 finish1.0.3 start1.1.0 begin1.1.0 advance1.1.3 begin1.1.3 finish1.1.3 start1.2.0 begin1.2.0 finish1.2.0 ends1.3.0")
	if n := x.c.Frames().Used(); n != 1 || x.c.Frames().Peak() != 3 {
		t.Error(n)
	}
}

// The words of a loop, as an iteration comes and goes.
func TestLoopWords(t *testing.T) {
	x := gather(t, 0, iterations("1")+"set 4 3; cont 4; emit 0; ret", one)
	p := x.c.Plan()
	word := func(at, want int) {
		t.Helper()
		if n, _ := x.c.Words().Load(at); n != want {
			t.Errorf("the word %d is %d; want %d", at, n, want)
		}
	}
	x.c.Words().Hook(nil)
	x.till(0, 0, "count 2")
	x.c.Words().Store(p.Counter(2, 0), 99)
	x.expect(0, 0, "name 2")
	word(p.Counter(2, 0), 0)
	word(p.Link(2, 0), 0)
	x.expect(0, 0, "join 2")
	word(p.Link(2, 0), 3)
	word(p.Frame(2), 1)
	x.expect(0, 0, "run 3")
	word(p.Frame(2), 2)
	x.till(0, 0, "push 3")
	word(p.Counter(2, 0), 3)
	x.till(0, 0, "check 3")
	x.till(0, 0, "end 3")
	x.till(0, 0, "check 3")
	word(p.Counter(2, 0), api.Past)
	x.till(0, 0, "drop 3")
	word(p.Done(2, 0), token.Of(1, 0, 0))
	x.till(0, 0, "pop 0")
	word(p.Frame(2), 1)
	x.till(0, 0, "finish 0")
	word(p.Frame(2), 1)
	x.till(0, 0, "complete 2")
	word(p.Frame(2), 0)
}

// A worker that steals the loop; an iteration that parks, and is let go on at an advance.
func TestParkAndAdvance(t *testing.T) {
	x := gather(t, 0, iterations("2")+stages, two)
	x.till(0, 0, "check 3")
	x.till(1, 0, "loop 2")
	x.expect(1, 0, "count 2, name 2, join 2, run 4, run 4, run 4, run 4, run 4, run 4, advance 4, push 4, push 4, push 4, check 4, look 4, park 0, park 0, pop 0")
	x.stats(1, 1, 1, 0, 0)
	if f := x.c.Frames().At(4); !f.Due || f.Stage != 1 || f.Fold != 1 {
		t.Error(*f)
	}
	x.expect(0, 0, "run 3, run 3, run 3, advance 3, check 3, check 3, check 3, push 3, push 3, push 3, run 3")
	if v := x.ws[0].View(); v.Tail != 2 { // the loop, that was stolen, and the iteration
		t.Error(v)
	}
	x.events("start1.0.0 begin1.0.0 advance1.0.1 start1.1.0 begin1.1.0 advance1.1.1 begin1.0.1 advance1.0.2")
	x.expect(0, 0, "run 3, end 3, check 3, close 3, close 3, drop 3, pop 0, pop 0, pop 0, run 4")
	x.expect(0, 0, "run 4")
	x.events("start1.0.0 begin1.0.0 advance1.0.1 start1.1.0 begin1.1.0 advance1.1.1 begin1.0.1 advance1.0.2 begin1.0.2 finish1.0.2 begin1.1.1")
	x.till(1, 0, "loop 2")
	x.both()
	x.status(api.Done, 0)
	x.output(1, 1, 2, 2, 3)
}

// both lets two workers step in turn; steps beyond the run's end are nothing.
func (x *team) both() {
	x.t.Helper()
	for range 3000 {
		x.step(0, 0)
		x.step(1, 0)
	}
}

// An iteration that is let go on at the end of the one ahead is taken.
func TestTakeRight(t *testing.T) {
	x := gather(t, 0, iterations("2")+stages, two)
	x.till(0, 0, "check 3")
	x.till(1, 0, "look 4")
	x.till(1, 0, "pop 0")
	x.till(1, 0, "loop 2")
	x.till(0, 0, "advance 3")
	x.till(0, 0, "push 3") // it pushes the iteration 1
	x.till(0, 0, "run 3")
	x.till(1, 0, "finish 0") // the iteration 2 breaks the loop
	x.till(1, 0, "pop 0")
	x.till(1, 0, "run 4") // stolen
	x.till(1, 0, "look 4")
	x.expect(1, 0, "park 0, park 0, pop 0")
	x.expect(0, 0, "run 3, end 3, check 3, check 3, check 3, close 3, close 3, drop 3, run 4")
	if x.c.Frames().At(3) != nil {
		t.Error("not freed")
	}
	x.expect(0, 0, "run 4, end 4, check 4, close 4, close 4, drop 4, complete 2, run 1, run 1, run 1")
	x.status(api.Done, 0)
	x.output(1, 2, 1, 2, 3)
	x.stats(x.c.Stats().Probes, 2, 2, 0, 0)
}

// An iteration that parks as the one ahead comes on is back by itself.
func TestParkBack(t *testing.T) {
	x := gather(t, 0, iterations("2")+stages, two)
	x.till(0, 0, "check 3")
	x.till(1, 0, "look 4")
	x.expect(1, 0, "park 0")
	x.till(0, 0, "advance 3")
	x.expect(0, 0, "check 3, run 3") // it looks ahead of the waiting
	x.expect(1, 0, "park 0, park 0, run 4, run 4")
	x.events("start1.0.0 begin1.0.0 advance1.0.1 start1.1.0 begin1.1.0 advance1.1.1 begin1.0.1 advance1.0.2 begin1.1.1")
	x = gather(t, 0, iterations("2")+stages, two)
	x.till(0, 0, "check 3")
	x.till(1, 0, "look 4")
	x.expect(1, 0, "park 0, park 0")
	x.till(0, 0, "advance 3")
	x.expect(0, 0, "check 3, check 3")
	x.expect(1, 0, "park 0")
	x.expect(0, 0, "check 3, push 3") // it was quicker
	x.expect(1, 0, "pop 0")
}

// A loop that naps is let go on by the iteration that ends: alone, it is taken.
func TestNapAndWake(t *testing.T) {
	q := two
	q.Throttle = 1
	x := gather(t, 0, iterations("2")+stages, q)
	x.till(0, 0, "check 3")
	x.till(1, 0, "loop 2")
	x.expect(1, 0, "nap 0, nap 0, pop 0")
	x.stats(1, 1, 0, 1, 0)
	x.till(0, 0, "close 3")
	x.expect(0, 0, "close 3, close 3, drop 3, loop 2, start 2, count 2, name 2, join 2, run 3")
	if f := x.c.Frames().At(2); f.Started != 2 || x.c.Frames().At(3).Index != 1 {
		t.Error(*f)
	}
	x.events("start1.0.0 begin1.0.0 advance1.0.1 begin1.0.1 advance1.0.2 begin1.0.2 finish1.0.2 start1.1.0 begin1.1.0")
	x.both()
	x.status(api.Done, 0)
	x.output(1, 1, 2, 2, 3)
}

// A loop that naps as the iteration ends is back by itself, or taken.
func TestNapBack(t *testing.T) {
	q := two
	q.Throttle = 1
	x := gather(t, 0, iterations("2")+stages, q)
	x.till(0, 0, "check 3")
	x.till(1, 0, "nap 0")
	x.till(0, 0, "pop 0") // nobody slept as yet
	x.expect(1, 0, "nap 0, nap 0, start 2, count 2")
	x.both()
	x.status(api.Done, 0)
	x.output(1, 1, 2, 2, 3)

	x = gather(t, 0, iterations("2")+stages, q)
	x.till(0, 0, "check 3")
	x.till(1, 0, "nap 0")
	x.till(0, 0, "close 3")
	x.expect(1, 0, "nap 0")
	x.expect(0, 0, "close 3, close 3, drop 3")
	x.expect(1, 0, "nap 0, pop 0")
	x.expect(0, 0, "loop 2")
	x.both()
	x.status(api.Done, 0)
	x.output(1, 1, 2, 2, 3)
}

// An iteration that lets both go on pushes the loop, and takes the next iteration.
func TestPushLoopTakeRight(t *testing.T) {
	q := two
	q.Throttle = 2
	x := gather(t, 0, iterations("3")+"set 4 3; wait 4; emit 0; ret", q)
	x.till(0, 0, "check 3")
	x.till(1, 0, "look 4")
	x.till(1, 0, "nap 0")
	x.till(1, 0, "pop 0")
	x.till(0, 0, "drop 3")
	tail := x.ws[0].View().Tail
	for range 3 {
		x.step(0, 0)
		if v := x.ws[0].View(); v.State != worker.Pushing {
			t.Error(v)
		}
	}
	x.expect(0, 0, "run 4")
	if v := x.ws[0].View(); v.Tail != tail+1 || x.c.Frames().At(3) != nil {
		t.Error(v)
	}
	x.stats(x.c.Stats().Probes, 1, 1, 1, 0)
	x.both()
	x.status(api.Done, 0)
	x.output(1, 2, 3, 4)
}

// Lazily: it looks behind itself at once only if its deque is empty, else when it waits.
func TestLazy(t *testing.T) {
	q := two
	q.Lazy = true
	x := gather(t, 0, iterations("2")+stages, q)
	x.till(0, 0, "peek 3")
	x.expect(0, 0, "run 3, run 3") // the loop stands in its deque; the iteration 0 never waits
	x.till(1, 0, "loop 2")
	x.till(0, 0, "advance 3")
	x.expect(0, 0, "peek 3, check 3, run 3") // the loop was stolen
	x.till(1, 0, "peek 4")
	x.expect(1, 0, "look 4, run 4") // the iteration 0 is past 1
	x.till(1, 0, "advance 4")
	x.expect(1, 0, "peek 4, look 4, check 4, park 0, park 0, pop 0") // but not past 2: it checks for the wait
	x.stats(1, 1, 1, 0, 0)
	x.both()
	x.status(api.Done, 0)
	x.output(1, 2, 1, 2, 3)

	x = gather(t, 0, iterations("2")+stages, q)
	x.till(0, 0, "peek 3")
	x.till(1, 0, "loop 2")
	x.expect(0, 0, "check 3, run 3")
	x.till(1, 0, "push 4")
	x.till(1, 0, "peek 4")
	x.expect(1, 0, "look 4, check 4, park 0") // its own deque has the loop
	x.both()
	x.status(api.Done, 0)
	x.output(1, 1, 2, 2, 3)
}

// Lazily, with an empty deque: it has looked, so it parks without looking again.
func TestLazyLooked(t *testing.T) {
	q := api.Params{Workers: 3, Output: 9, Throttle: 3, Lazy: true}
	x := gather(t, 0, iterations("2")+stages, q)
	x.till(0, 0, "peek 3")
	x.till(1, 0, "peek 4") // the loop stands in the deque of the worker 1
	x.till(2, 1, "loop 2")
	x.expect(1, 0, "check 4, look 4, park 0")
}

// With folding it need not look again; what it has seen last is what it knows.
func TestFold(t *testing.T) {
	for _, fold := range []bool{false, true} {
		q := two
		q.Fold = fold
		x := gather(t, 0, iterations("2")+stages, q)
		x.till(0, 0, "end 3")
		x.till(0, 0, "close 3") // it is past all
		x.till(1, 0, "look 4")
		x.expect(1, 0, "run 4")
		if f := x.c.Frames().At(4); f.Fold != api.Past {
			t.Error(*f)
		}
		x.till(1, 0, "advance 4")
		folds := 0
		if fold {
			x.expect(1, 0, "check 4, run 4")
			folds = 1
		} else {
			x.expect(1, 0, "check 4, look 4, run 4")
		}
		x.stats(1, 1, 0, 0, folds)
		x.events("start1.0.0 begin1.0.0 advance1.0.1 begin1.0.1 advance1.0.2 begin1.0.2 finish1.0.2 start1.1.0 begin1.1.0 advance1.1.1 begin1.1.1 advance1.1.2")
	}
}

// With folding, what it knows must be past the target.
func TestFoldShort(t *testing.T) {
	q := two
	q.Fold = true
	x := gather(t, 0, iterations("2")+stages, q)
	x.till(0, 0, "check 3")
	x.till(0, 0, "advance 3")
	x.till(0, 0, "check 3") // it has come to 2
	x.till(1, 0, "look 4")
	x.expect(1, 0, "run 4")
	x.till(1, 0, "advance 4")
	x.expect(1, 0, "check 4, look 4, park 0") // 2 is not past 2
	x.stats(1, 1, 1, 0, 0)
}

// The iteration 2 looks at the iteration 1, and waits for that.
func TestLookAtNext(t *testing.T) {
	x := gather(t, 0, iterations("3")+stages, two)
	p := x.c.Plan()
	x.till(0, 0, "check 3")
	x.till(1, 0, "look 4")
	x.till(1, 0, "pop 0") // the iteration 1 has come to 1, and waits there
	x.till(1, 0, "look 5")
	at := -1
	x.c.Words().Hook(func(n int, _ bool) { at = n })
	x.step(1, 0)
	if f := x.c.Frames().At(5); at != p.Counter(2, 1) || f.Fold != 1 || f.Index != 2 {
		t.Error(at, *f)
	}
	x.step(1, 0)
	if at != p.Status(2, 2) {
		t.Error(at)
	}
	x.step(1, 0)
	if at != p.Counter(2, 1) {
		t.Error(at)
	}
	x.c.Words().Hook(nil)
	x.both()
	x.status(api.Done, 0)
}

// cont does not wait, and is noted so.
func TestCont(t *testing.T) {
	x := gather(t, 0, iterations("2")+"cont 1; emit 0; set 4 2; cont 4; emit 0; ret", two)
	x.till(0, 0, "check 3")
	x.till(1, 0, "check 4")
	x.expect(1, 0, "run 4, run 4, run 4, advance 4, check 4, run 4")
	x.events("start1.0.0 begin1.0.0 pass1.0.1 start1.1.0 begin1.1.0 pass1.1.1 begin1.1.1 pass1.1.2")
	x.both()
	x.status(api.Done, 0)
}

// An iteration that returns at its first stage holds the loop, and lets it have its registers.
func TestReturnAtFirst(t *testing.T) {
	x := gather(t, 0, iterations("2")+"ret", two)
	x.till(0, 0, "end 3")
	if x.c.Frames().At(2).Regs != x.c.Frames().At(3).Regs || x.c.Frames().At(2).Regs[0] != 1 {
		t.Error(x.c.Frames().At(2).Regs)
	}
	x.expect(0, 0, "check 3, close 3, drop 3, loop 2, count 2, name 2, join 2, run 3")
	x.events("start1.0.0 begin1.0.0 finish1.0.0 start1.1.0 begin1.1.0")
	x.done(0, 0)
	x.output(3)
	x.stats(0, 0, 0, 0, 0)
}

// What an iteration does behind its first stage the loop's registers don't show.
func TestRegisters(t *testing.T) {
	x := gather(t, 0, "function; set 5 7; pipe 1; emit 0; emit 5; emit 6; ret; function; set 1 1; add 0 0 1; set 2 2; less 3 2 0; zero 3 7; set 6 9; break; cont 1; set 0 50; set 5 50; set 4 2; cont 4; set 0 60; ret", one)
	x.done(0, 0)
	x.status(api.Done, 0)
	x.output(3, 7, 9)
}

// A break while an iteration still runs: the last one that leaves completes the loop.
func TestFinishNotLast(t *testing.T) {
	x := gather(t, 0, iterations("1")+stages, two)
	x.till(0, 0, "check 3")
	x.till(1, 0, "end 4") // the iteration 1 breaks
	x.expect(1, 0, "check 4, close 4, drop 4, finish 0, pop 0")
	if x.c.Frames().At(4) != nil || x.c.Frames().At(2) == nil {
		t.Error("frames")
	}
	x.till(0, 0, "drop 3")
	x.expect(0, 0, "complete 2, run 1")
	if x.c.Frames().At(2) != nil || x.c.Frames().At(1).Regs[0] != 2 {
		t.Error(x.c.Frames().At(1))
	}
	x.events("start1.0.0 begin1.0.0 advance1.0.1 start1.1.0 begin1.1.0 finish1.1.0 begin1.0.1 advance1.0.2 begin1.0.2 finish1.0.2 ends1.2.0")
}

// A loop within an iteration has a serial number of its own.
func TestNested(t *testing.T) {
	x := gather(t, 0, "function; pipe 1; pipe 2; emit 0; ret; function; set 1 1; zero 0 3; break; add 0 0 1; wait 1; pipe 2; emit 0; ret; function; set 1 1; cont 1; ret", one)
	x.till(0, 0, "loop 2")
	x.till(0, 0, "loop 4")
	if f := x.c.Frames().At(4); f.Parent != 3 || f.Serial != 2 || f.Fn != 2 {
		t.Error(*f)
	}
	x = gather(t, 0, "function; pipe 1; pipe 2; emit 0; ret; function; set 1 1; zero 0 3; break; add 0 0 1; wait 1; pipe 2; emit 0; ret; function; break", one)
	x.done(0, 0)
	x.status(api.Done, 0)
	x.output(1, 1)
	x.events("start1.0.0 begin1.0.0 advance1.0.1 begin1.0.1 start2.0.0 begin2.0.0 finish2.0.0 ends2.1.0 finish1.0.1 start1.1.0 begin1.1.0 finish1.1.0 ends1.2.0 start3.0.0 begin3.0.0 finish3.0.0 ends3.1.0")
}

// An iteration that spawns meets its child ahead of its next stage.
func TestSpawnInStage(t *testing.T) {
	x := gather(t, 0, iterations("1")+"spawn 2; wait 1; emit 0; ret; function; emit 1; ret", one)
	x.done(0, 0)
	x.status(api.Done, 0)
	x.output(1, 1, 2)
	x = gather(t, 0, iterations("1")+"spawn 2; wait 1; emit 0; ret; function; emit 1; ret", two)
	x.till(0, 0, "spawn 3")
	x.till(0, 0, "run 4")
	x.till(1, 0, "run 3")
	x.expect(1, 0, "pop 0") // it must meet, and has not advanced
	x.events("start1.0.0 begin1.0.0")
	x.till(0, 0, "resume 0")
	x.expect(0, 0, "run 3, advance 3")
}

// The loop's frame is full of iterations: there is no frame for another one.
func TestStartingFull(t *testing.T) {
	x := gather(t, 0, iterations("9")+"cont 1; jump 7", api.Params{Workers: 2, Throttle: 1, Frames: 3, Output: 9})
	x.till(0, 0, "check 3")
	x.till(1, 0, "loop 2")
	x.expect(1, 0, "nap 0")
	x = gather(t, 0, iterations("9")+"cont 1; jump 7", api.Params{Workers: 2, Throttle: 2, Frames: 3, Output: 9})
	x.till(0, 0, "check 3")
	x.till(1, 0, "loop 2")
	x.expect(1, 0, "loop 2, loop 2")
	x.status(api.Full, api.FullFrames)
	if f := x.c.Frames().At(2); f.Started != 1 {
		t.Error(*f)
	}
}

// A state in which a frame is to be made, and none is left.
func TestStartFull(t *testing.T) {
	x := gather(t, 0, iterations("9")+"cont 1; emit 0; ret", api.Params{Workers: 1, Throttle: 1, Frames: 3, Output: 9})
	x.till(0, 0, "start 2")
	x.c.Frames().Make(frame.Root())
	x.expect(0, 0, "start 2, start 2")
	x.status(api.Full, api.FullFrames)
	if v := x.ws[0].View(); v.State != worker.Starting || x.c.Frames().At(2).Started != 1 {
		t.Error(v)
	}
}

// A push of the loop for which there is no room.
func TestPushFull(t *testing.T) {
	x := gather(t, 0, "function; spawn 1; sync; ret; function; pipe 2; ret; function; set 1 1; cont 1; ret", api.Params{Workers: 1, Throttle: 1, Deque: 2, Output: 9})
	x.till(0, 0, "push 4")
	x.expect(0, 0, "push 4, push 4")
	x.status(api.Full, api.FullDeque)
}
