package worker

import (
	"forebay/api"
	"forebay/core"
	"forebay/deque"
	"forebay/join"
)

// seek looks for a victim.
func (w *Worker) seek(c *core.Core) {
	workers := c.Params().Workers
	victim := (max(w.victim, 0)%workers + w.view.Probed%workers) % workers
	w.view.Probed++
	c.Stats().Probes++
	if victim == w.own {
		return
	}
	w.ends = deque.Steal(c.Plan(), victim)
	w.view.State = Stealing
	w.steal(c)
}

// steal does a step of the steal.
func (w *Worker) steal(c *core.Core) {
	if !w.ends.Step(c.Words()) {
		return
	}
	if id, ok := w.ends.Got(); ok {
		c.Stats().Steals++
		w.take(c, id)
		return
	}
	w.view.State = Seeking
}

// take holds a frame that it got.
func (w *Worker) take(c *core.Core, id int) {
	w.hold(id, Running)
	if frameAt(c, id).Kind == api.Loop {
		w.view.State = Looping
	}
}

// letGo holds nothing, and begins to pop.
func (w *Worker) letGo(c *core.Core) {
	w.ends = deque.Pop(c.Plan(), w.own, w.view.Tail)
	w.hold(0, Popping)
}

// pop does a step of the pop.
func (w *Worker) pop(c *core.Core) {
	if !w.ends.Step(c.Words()) {
		return
	}
	w.view.Tail = w.ends.Tail()
	if id, ok := w.ends.Got(); ok {
		w.take(c, id)
		return
	}
	w.view.State = Seeking
}

// pushes begins to push a frame, behind which something comes.
func (w *Worker) pushes(c *core.Core, id int, then action) {
	w.ends = deque.Push(c.Plan(), w.own, w.view.Tail, id)
	w.then = then
	w.view.State = Pushing
}

// push does a step of the push.
func (w *Worker) push(c *core.Core) {
	if !w.ends.Step(c.Words()) {
		return
	}
	w.view.Tail = w.ends.Tail()
	if w.ends.Full() {
		c.Stop(api.Full, api.FullDeque)
		return
	}
	w.then(w, c)
}

// join goes on behind all that the frame has spawned.
func (w *Worker) join(c *core.Core) {
	w.goOnWith(c, w.view.Holds)
}

// goOnWith runs a frame all of whose spawned ones have left.
func (w *Worker) goOnWith(c *core.Core, id int) {
	join.Again(c.Words(), joinWord(c, id))
	frameAt(c, id).Dirty = false
	w.hold(id, Running)
}

// spawn counts the child that was made, and leaves the frame to others.
func (w *Worker) spawn(c *core.Core) {
	join.Spawn(c.Words(), joinWord(c, w.view.Holds))
	w.pushes(c, w.view.Holds, (*Worker).runMade)
}

// runMade runs the frame that was made.
func (w *Worker) runMade(*core.Core) { w.hold(w.made, Running) }

// arrive tells the parent that the child has returned.
func (w *Worker) arrive(c *core.Core) {
	if join.Leave(c.Words(), joinWord(c, w.kept)) {
		w.view.State = Resuming
		return
	}
	w.letGo(c)
}

// resume goes on with the parent.
func (w *Worker) resume(c *core.Core) { w.goOnWith(c, w.kept) }
