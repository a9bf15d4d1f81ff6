package worker

import (
	"forebay/api"
	"forebay/core"
	"forebay/join"
	"forebay/throttle"
)

// finish lets the loop, that starts no more iterations, leave.
func (w *Worker) finish(c *core.Core) {
	if join.Leave(c.Words(), joinWord(c, w.kept)) {
		w.hold(w.kept, Completing)
		return
	}
	w.letGo(c)
}

// complete ends the loop, and goes on with who runs it.
func (w *Worker) complete(c *core.Core) {
	f := w.frame(c)
	c.Log().Note(api.Event{Kind: api.Ends, Loop: f.Serial, Iter: f.Started})
	parent := f.Parent
	frameAt(c, parent).Regs = f.Regs
	c.Frames().Free(w.view.Holds)
	w.hold(parent, Running)
}

// loop looks whether another iteration may start.
func (w *Worker) loop(c *core.Core) {
	f, most := w.frame(c), c.Params().Throttle
	if throttle.May(f.Started, most, 0) { // as nothing has ended so far
		w.start(c)
		return
	}
	r, first := ringOf(c, w.view.Holds), f.Started-most
	if r.Ended(c.Words(), first) {
		w.view.State = Starting
		return
	}
	c.Stats().Naps++
	w.naps = throttle.Sleep(r, first)
	w.keep(w.view.Holds, Napping)
}

// nap does a step of the nap.
func (w *Worker) nap(c *core.Core) {
	if !w.naps.Step(c.Words()) {
		return
	}
	if w.naps.Back() {
		w.hold(w.kept, Starting)
		return
	}
	w.letGo(c)
}

// start makes the next iteration.
func (w *Worker) start(c *core.Core) {
	f := w.frame(c)
	id, ok := c.Frames().Make(f.Iter(w.view.Holds))
	if !ok {
		c.Stop(api.Full, api.FullFrames)
		return
	}
	f.Started++
	w.made = id
	w.view.State = Counting
}

// count tells that the iteration has come to its first stage.
func (w *Worker) count(c *core.Core) {
	ringOf(c, w.view.Holds).Go(c.Words(), frameAt(c, w.made).Index, 0)
	w.view.State = Naming
}

// name tells which frame the iteration's is.
func (w *Worker) name(c *core.Core) {
	ringOf(c, w.view.Holds).Link(c.Words(), frameAt(c, w.made).Index, w.made)
	w.view.State = Joining
}

// joinLoop lets the iteration be one of the loop's, and runs it.
func (w *Worker) joinLoop(c *core.Core) {
	join.Spawn(c.Words(), joinWord(c, w.view.Holds))
	f := frameAt(c, w.made)
	note(c, api.Start, f)
	note(c, api.Begin, f)
	w.hold(w.made, Running)
}
