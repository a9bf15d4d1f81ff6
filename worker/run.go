package worker

import (
	"forebay/api"
	"forebay/core"
	"forebay/frame"
	"forebay/join"
	"forebay/stage"
	"forebay/step"
)

// run does an instruction.
func (w *Worker) run(c *core.Core) {
	f := c.Frames().At(w.view.Holds)
	if f == nil { // it was told to hold a frame that there is not
		return
	}
	if f.Due {
		note(c, api.Begin, f)
		f.Due = false
	}
	pc, regs, e, fault := step.Do(c.Code(f.Fn, f.Pc), f.Pc, f.Regs)
	if step.Ends(e) && f.Dirty {
		w.meet(c)
		return
	}
	if fault != api.NoFault {
		c.Stop(api.Faulted, fault)
		return
	}
	switch e.Kind {
	case step.Tell:
		tell(c, f, pc, e.Value)
	case step.Fork:
		w.fork(c, f, pc, e.Value)
	case step.Meet:
		f.Pc = pc
	case step.Pipe:
		w.pipe(c, f, pc, e.Value)
	case step.Wait, step.Cont:
		w.goTo(c, f, pc, e)
	case step.Leave:
		w.leave(c, f)
	case step.Back:
		w.back(c, f)
	default:
		ask(c, f, pc, regs, e)
	}
}

// meet leaves the frame's join, behind which it goes on when all that it has spawned have left.
func (w *Worker) meet(c *core.Core) {
	if join.Leave(c.Words(), joinWord(c, w.view.Holds)) {
		w.view.State = Joined
		return
	}
	w.letGo(c)
}

// ask asks memory, if there is anything to ask.
func ask(c *core.Core, f *frame.Frame, pc int, regs [api.Regs]int, e step.Effect) {
	got := 0
	if step.Asks(e) {
		n, ok := c.Ask(e)
		if !ok {
			c.Stop(api.Faulted, api.Bounds)
			return
		}
		got = n
	}
	f.Regs, f.Pc = step.Took(regs, e, got), pc
}

// tell emits a number.
func tell(c *core.Core, f *frame.Frame, pc, n int) {
	if !c.Out().Emit(n) {
		c.Stop(api.Full, api.FullOutput)
		return
	}
	f.Pc = pc
}

// fork makes a child.
func (w *Worker) fork(c *core.Core, f *frame.Frame, pc, fn int) {
	id, ok := c.Frames().Make(f.Child(w.view.Holds, fn))
	if !ok {
		c.Stop(api.Full, api.FullFrames)
		return
	}
	f.Pc, f.Dirty = pc, true
	w.made = id
	w.view.State = Spawning
}

// pipe makes a loop.
func (w *Worker) pipe(c *core.Core, f *frame.Frame, pc, fn int) {
	id, ok := c.Frames().Make(f.Loop(w.view.Holds, fn, c.Serial()))
	if !ok {
		c.Stop(api.Full, api.FullFrames)
		return
	}
	f.Pc = pc
	w.hold(id, Looping)
}

// goTo lets an iteration go on to a stage.
func (w *Worker) goTo(c *core.Core, f *frame.Frame, pc int, e step.Effect) {
	if f.Kind != api.Iter {
		c.Stop(api.Faulted, api.NotPipe)
		return
	}
	if fault := stage.Go(f.Stage, e.Value); fault != api.NoFault {
		c.Stop(api.Faulted, fault)
		return
	}
	f.Pc = pc
	w.target, w.waits, w.looked = e.Value, e.Kind == step.Wait, true
	giveBack(c, f)
	w.view.State = Advancing
}

// giveBack lets the loop have the registers of an iteration that ends its first stage.
func giveBack(c *core.Core, f *frame.Frame) {
	if f.Stage == 0 {
		frameAt(c, f.Parent).Regs = f.Regs
	}
}

// leave breaks the loop.
func (w *Worker) leave(c *core.Core, f *frame.Frame) {
	if f.Kind != api.Iter {
		c.Stop(api.Faulted, api.NotPipe)
		return
	}
	if f.Stage != 0 {
		c.Stop(api.Faulted, api.LateBreak)
		return
	}
	giveBack(c, f)
	w.held, w.breaks = true, true
	w.view.State = Ending
}

// back returns.
func (w *Worker) back(c *core.Core, f *frame.Frame) {
	switch {
	case f.Kind == api.Iter:
		giveBack(c, f)
		w.held, w.breaks = f.Stage == 0, false
		w.view.State = Ending
	case f.Parent == 0:
		c.Stop(api.Done, 0)
	default:
		id, parent := w.view.Holds, f.Parent
		c.Frames().Free(id)
		w.keep(parent, Arriving)
	}
}
