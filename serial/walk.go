package serial

import (
	"forebay/api"
	"forebay/stage"
	"forebay/step"
	"forebay/store"
)

// frame is a task's, an iteration's or a loop's.
type frame struct {
	kind, fn, pc int
	regs         [api.Regs]int
	dirty        bool // whether it has spawned since it last met
	index, stage int  // of an iteration
	started      int  // of a loop: how many iterations have begun
	serial       int  // of a loop
}

// walk is a program that runs in order.
type walk struct {
	funcs   [][]api.Ins
	data    *store.Store
	stack   []*frame // each one's runner below it
	loops   int      // how many loops have begun
	stopped bool
	out     Outcome
	marks   []Mark
}

// play runs a program to its end, or till the fuel is done.
func play(p api.Program, input []int, fuel int) *walk {
	w := &walk{funcs: p.Funcs, data: store.New(p.Memory)}
	for at, n := range input {
		w.data.Store(at, n)
	}
	w.push(&frame{kind: api.Task})
	fuel = min(max(fuel, 0), mostFuel)
	for !w.stopped {
		if w.out.Steps == fuel {
			w.stop(api.Out, 0)
			break
		}
		w.out.Steps++
		w.instruction()
	}
	return w
}

// stop ends it all.
func (w *walk) stop(status, why int) {
	w.out.Status, w.out.Why, w.stopped = status, why, true
}

// mark marks that something happens.
func (w *walk) mark(kind, a int) { w.marks = append(w.marks, Mark{Kind: kind, A: a}) }

// push lets a frame begin.
func (w *walk) push(f *frame) {
	w.stack = append(w.stack, f)
	w.out.Frames++
	w.out.Deepest = max(w.out.Deepest, len(w.stack))
}

// pop lets the frame that runs end.
func (w *walk) pop() { w.stack = w.stack[:len(w.stack)-1] }

// top is the frame that runs.
func (w *walk) top() *frame { return w.stack[len(w.stack)-1] }

// runner is who runs the one that runs.
func (w *walk) runner() *frame { return w.stack[len(w.stack)-2] }

// instruction does the next one of the frame that runs.
func (w *walk) instruction() {
	f := w.top()
	pc, regs, e, fault := step.Do(w.funcs[f.fn][f.pc], f.pc, f.regs)
	if step.Ends(e) && f.dirty {
		w.mark(Meets, 0)
		f.dirty = false
	}
	if fault == api.NoFault {
		fault = w.faultOf(f, e)
	}
	if fault != api.NoFault {
		w.stop(api.Faulted, fault)
		return
	}
	f.regs, f.pc = regs, pc
	switch e.Kind {
	case step.Tell:
		w.mark(Tells, e.Value)
		w.out.Output = append(w.out.Output, e.Value)
	case step.Fork:
		f.dirty = true
		w.mark(Forks, 0)
		w.push(&frame{kind: api.Task, fn: e.Value, regs: f.regs})
	case step.Pipe:
		w.loop(f, e.Value)
	case step.Wait:
		w.goTo(f, Waits, e.Value)
	case step.Cont:
		w.goTo(f, Conts, e.Value)
	case step.Leave:
		w.leave(f)
	case step.Back:
		w.back(f)
	default:
		w.ask(f, e)
	}
}

// faultOf is the fault of what an instruction asks.
func (w *walk) faultOf(f *frame, e step.Effect) int {
	switch e.Kind {
	case step.Wait, step.Cont:
		if f.kind != api.Iter {
			return api.NotPipe
		}
		return stage.Go(f.stage, e.Value)
	case step.Leave:
		if f.kind != api.Iter {
			return api.NotPipe
		}
		if f.stage != 0 {
			return api.LateBreak
		}
	}
	if step.Asks(e) && (e.At < 0 || e.At >= w.data.Size()) {
		return api.Bounds
	}
	return api.NoFault
}

// ask asks memory, if there is anything to ask.
func (w *walk) ask(f *frame, e step.Effect) {
	got := 0
	switch e.Kind {
	case step.Read:
		got, _ = w.data.Load(e.At)
		w.mark(Reads, e.At)
	case step.Write:
		w.data.Store(e.At, e.Value)
		w.mark(Writes, e.At)
	case step.More:
		got, _ = w.data.Add(e.At, e.Value)
		w.mark(Writes, e.At)
	case step.Change:
		got, _ = w.data.Swap(e.At, e.Value, e.Other)
		w.mark(Writes, e.At)
	}
	f.regs = step.Took(f.regs, e, got)
}

// loop begins a loop, and its first iteration.
func (w *walk) loop(f *frame, fn int) {
	w.loops++
	l := &frame{kind: api.Loop, fn: fn, regs: f.regs, serial: w.loops}
	w.mark(Loops, l.serial)
	w.push(l)
	w.iterate(l)
}

// iterate begins a loop's next iteration.
func (w *walk) iterate(l *frame) {
	w.mark(Iters, l.started)
	w.push(&frame{kind: api.Iter, fn: l.fn, regs: l.regs, index: l.started})
	l.started++
}

// giveBack lets the loop have the registers of an iteration that ends its first stage.
func (w *walk) giveBack(f *frame) {
	if f.stage == 0 {
		w.runner().regs = f.regs
	}
}

// goTo lets an iteration go on to a stage.
func (w *walk) goTo(f *frame, kind, to int) {
	w.giveBack(f)
	f.stage = to
	w.mark(kind, to)
}

// leave ends the iteration, and its loop.
func (w *walk) leave(f *frame) {
	w.giveBack(f)
	w.mark(Done, f.index)
	w.pop()
	l := w.top()
	w.mark(Leaves, l.serial)
	w.pop()
	w.top().regs = l.regs
}

// back ends the frame that runs; behind an iteration comes the next one.
func (w *walk) back(f *frame) {
	switch {
	case f.kind == api.Iter:
		w.giveBack(f)
		w.mark(Done, f.index)
		w.pop()
		w.iterate(w.top())
	case len(w.stack) == 1:
		w.stop(api.Done, 0)
	default:
		w.mark(Returns, 0)
		w.pop()
	}
}
