package worker_test

import (
	"fmt"
	"strings"
	"testing"

	"forebay/api"
	"forebay/asm"
	"forebay/core"
	"forebay/worker"
)

// names are those of the states, in short.
var names = []string{
	"seek", "steal", "pop", "push", "run", "joined", "spawn", "arrive", "resume", "advance", "peek", "check", "look",
	"park", "end", "close", "drop", "finish", "complete", "loop", "nap", "start", "count", "name", "join",
}

// team is a core, and workers.
type team struct {
	t    *testing.T
	c    *core.Core
	ws   []*worker.Worker
	asks int // shared words that were asked
}

// gather lets a team run a program that is written without its first line: workers, throttle and what else q says.
func gather(t *testing.T, memory int, text string, q api.Params) *team {
	t.Helper()
	p, e := asm.Read(fmt.Sprintf("memory %d\n%s", memory, strings.ReplaceAll(text, "; ", "\n")))
	if e != api.OK {
		t.Fatal(e)
	}
	q.Throttle = max(q.Throttle, 1)
	if q.Frames == 0 {
		q.Frames = 20
	}
	if q.Deque == 0 {
		q.Deque = 8
	}
	c, e := core.New(p, nil, q)
	if e != api.OK {
		t.Fatal(e)
	}
	x := &team{t: t, c: c}
	for own := range q.Workers {
		x.ws = append(x.ws, worker.New(own))
	}
	x.ws[0].Start(1)
	c.Words().Hook(func(int, bool) { x.asks++ })
	return x
}

// step lets a worker step; it may ask one shared word at most.
func (x *team) step(own, victim int) {
	x.t.Helper()
	asks, steps := x.asks, x.c.Stats().Steps
	status, _ := x.c.Status()
	x.ws[own].Step(x.c, victim)
	if x.asks > asks+1 {
		x.t.Errorf("%d words were asked in one step", x.asks-asks)
	}
	if now := x.c.Stats().Steps; status == api.Going && now != steps+1 || status != api.Going && now != steps {
		x.t.Errorf("%d steps were counted", now)
	}
}

// like is what a worker is like.
func (x *team) like(own int) string {
	v := x.ws[own].View()
	return fmt.Sprintf("%s %d", names[v.State], v.Holds)
}

// walk lets a worker do so many steps, and tells what it is like behind each.
func (x *team) walk(own, victim, steps int) string {
	x.t.Helper()
	var l []string
	for range steps {
		x.step(own, victim)
		l = append(l, x.like(own))
	}
	return strings.Join(l, ", ")
}

// till lets a worker step till it is so.
func (x *team) till(own, victim int, like string) {
	x.t.Helper()
	for n := 0; x.like(own) != like; n++ {
		if n > 200 {
			x.t.Fatalf("it never is %s, but %s", like, x.like(own))
		}
		x.step(own, victim)
	}
}

// done lets a worker step till the run has ended.
func (x *team) done(own, victim int) {
	x.t.Helper()
	for n := 0; n < 2000; n++ {
		if status, _ := x.c.Status(); status != api.Going {
			return
		}
		x.step(own, victim)
	}
	x.t.Error("it has not ended")
}

// expect holds what a worker is like, step by step, against a list.
func (x *team) expect(own, victim int, want string) {
	x.t.Helper()
	if got := x.walk(own, victim, strings.Count(want, ",")+1); got != want {
		x.t.Errorf("worker %d:\n%s\nwant\n%s", own, got, want)
	}
}

// status holds the run's status against one.
func (x *team) status(status, why int) {
	x.t.Helper()
	if s, w := x.c.Status(); s != status || w != why {
		x.t.Errorf("status %d, %d; want %d, %d", s, w, status, why)
	}
}

// output holds what was emitted against a list.
func (x *team) output(want ...int) {
	x.t.Helper()
	if got := fmt.Sprint(x.c.Out().All()); got != fmt.Sprint(want) {
		x.t.Errorf("output %s; want %v", got, want)
	}
}

// events holds what happened against a list: of each kind, loop, iteration and stage.
func (x *team) events(want string) {
	x.t.Helper()
	var l []string
	for _, e := range x.c.Log().All() {
		l = append(l, fmt.Sprintf("%s%d.%d.%d", []string{"?", "start", "begin", "advance", "finish", "ends", "pass"}[e.Kind], e.Loop, e.Iter, e.Stage))
	}
	if got := strings.Join(l, " "); got != want {
		x.t.Errorf("events\n%s\nwant\n%s", got, want)
	}
}

// stats holds what was counted against numbers: probes, steals, parks, naps, folds.
func (x *team) stats(probes, steals, parks, naps, folds int) {
	x.t.Helper()
	s := *x.c.Stats()
	s.Steps = 0
	if want := (api.Stats{Probes: probes, Steals: steals, Parks: parks, Naps: naps, Folds: folds}); s != want {
		x.t.Errorf("counted %v; want %v", s, want)
	}
}
