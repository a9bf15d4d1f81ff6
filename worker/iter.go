package worker

import (
	"forebay/api"
	"forebay/core"
	"forebay/cross"
	"forebay/join"
	"forebay/stage"
	"forebay/throttle"
)

// For what a worker checks whether the next iteration waits.
const (
	forAdvance = iota
	forWait
	atEnd
)

// advance tells how far the iteration has come.
func (w *Worker) advance(c *core.Core) {
	f := w.frame(c)
	first := f.Stage == 0
	ringOf(c, f.Parent).Go(c.Words(), f.Index, w.target)
	f.Stage = w.target
	kind := api.Passes
	if w.waits {
		kind = api.Advance
	}
	note(c, kind, f)
	if first { // the loop may start the next iteration by now
		w.pushes(c, f.Parent, (*Worker).advanced)
		return
	}
	w.advanced(c)
}

// advanced looks behind itself, or first whether it has other things to do.
func (w *Worker) advanced(c *core.Core) {
	if c.Params().Lazy {
		w.view.State = Peeking
		return
	}
	w.checks(c, forAdvance, w.target)
}

// peek looks whether its deque is empty: only then it looks behind itself at once.
func (w *Worker) peek(c *core.Core) {
	head, _ := c.Words().Load(c.Plan().Base(w.own))
	if head >= w.view.Tail {
		w.checks(c, forAdvance, w.target)
		return
	}
	w.looked = false
	w.decide(c)
}

// checks begins to check whether the next iteration waits for that counter.
func (w *Worker) checks(c *core.Core, why, counter int) {
	f := w.frame(c)
	w.why = why
	w.right = cross.Look(ringOf(c, f.Parent), f.Index, counter)
	w.view.State = Checking
}

// checkRight does a step of the check.
func (w *Worker) checkRight(c *core.Core) {
	if !w.right.Step(c.Words()) {
		return
	}
	id, got := w.right.Got()
	if w.why == atEnd {
		w.rightOne, w.hasRight = id, got
		w.closes(c)
		return
	}
	next := (*Worker).decide
	if w.why == forWait {
		next = (*Worker).parkIt
	}
	if got {
		w.pushes(c, id, next)
		return
	}
	next(w, c)
}

// decide goes on, or looks whether the one ahead is far enough.
func (w *Worker) decide(c *core.Core) {
	f := w.frame(c)
	if !w.waits || f.Index == 0 {
		w.goOn(c)
		return
	}
	if c.Params().Fold && stage.Past(f.Fold, w.target) {
		c.Stats().Folds++
		w.goOn(c)
		return
	}
	w.view.State = Looking
}

// goOn runs the iteration, whose node begins.
func (w *Worker) goOn(c *core.Core) {
	w.frame(c).Due = true
	w.view.State = Running
}

// lookLeft looks whether the one ahead is far enough.
func (w *Worker) lookLeft(c *core.Core) {
	f := w.frame(c)
	f.Fold = ringOf(c, f.Parent).Come(c.Words(), f.Index-1)
	switch {
	case stage.Past(f.Fold, w.target):
		w.goOn(c)
	case c.Params().Lazy && !w.looked:
		w.checks(c, forWait, w.target)
	default:
		w.parkIt(c)
	}
}

// parkIt begins to park the iteration; from then on another one may run it.
func (w *Worker) parkIt(c *core.Core) {
	f := w.frame(c)
	w.parks = cross.Stop(ringOf(c, f.Parent), f.Index, w.target)
	c.Stats().Parks++
	f.Due = true
	w.keep(w.view.Holds, Parking)
}

// park does a step of the parking.
func (w *Worker) park(c *core.Core) {
	if !w.parks.Step(c.Words()) {
		return
	}
	if w.parks.Back() {
		w.hold(w.kept, Running)
		return
	}
	w.letGo(c)
}

// end tells that the iteration is past all stages.
func (w *Worker) end(c *core.Core) {
	f := w.frame(c)
	ringOf(c, f.Parent).Go(c.Words(), f.Index, api.Past)
	note(c, api.Finish, f)
	w.checks(c, atEnd, api.Past)
}

// closes begins to tell that the iteration has ended.
func (w *Worker) closes(c *core.Core) {
	f := w.frame(c)
	w.wakes = throttle.Close(ringOf(c, f.Parent), f.Index, !w.held)
	w.view.State = Closing
}

// close does a step of that.
func (w *Worker) close(c *core.Core) {
	if !w.wakes.Step(c.Words()) {
		return
	}
	w.gotLoop = w.wakes.Got()
	w.view.State = Dropping
}

// drop frees the iteration, and goes on with what it has let go on.
func (w *Worker) drop(c *core.Core) {
	loop := w.frame(c).Parent
	c.Frames().Free(w.view.Holds)
	w.view.Holds = 0
	last := join.Leave(c.Words(), joinWord(c, loop))
	switch {
	case w.held && w.breaks:
		w.keep(loop, Finishing)
	case w.held:
		w.hold(loop, Looping)
	case last:
		w.hold(loop, Completing)
	case w.hasRight && w.gotLoop:
		w.pushes(c, loop, (*Worker).takeRight)
	case w.hasRight:
		w.takeRight(c)
	case w.gotLoop:
		w.take(c, loop)
	default:
		w.letGo(c)
	}
}

// takeRight takes the next iteration.
func (w *Worker) takeRight(c *core.Core) { w.take(c, w.rightOne) }
