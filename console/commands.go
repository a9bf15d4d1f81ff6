package console

import (
	"forebay/api"
	"forebay/asm"
	"forebay/machine"
	"forebay/run"
	"forebay/sched"
	"forebay/words"
)

const (
	mostTurns  = 100000
	mostEvents = 20 // that are told at once
)

// commands are what the first words of lines stand for.
func (c *Console) commands() map[string]command {
	return map[string]command{
		"code": {whole: func(rest string) (string, api.Errno) {
			c.code = append(c.code, rest)
			return good, api.OK
		}},
		"clear": plain("", func([]operand) (string, api.Errno) {
			c.clear()
			return good, api.OK
		}),
		"input": plain("L", func(a []operand) (string, api.Errno) {
			c.input = a[0].l
			return good, api.OK
		}),
		"workers":  number(&c.params.Workers),
		"throttle": number(&c.params.Throttle),
		"frames":   number(&c.params.Frames),
		"deque":    number(&c.params.Deque),
		"output":   c.output(),
		"fold":     onOff(&c.params.Fold),
		"lazy":     onOff(&c.params.Lazy),
		"begin":    plain("", func([]operand) (string, api.Errno) { return c.begin() }),
		"step": c.running("NN", func(a []operand) (string, api.Errno) {
			c.run.Step(api.Pick{Worker: a[0].n, Victim: a[1].n})
			return c.say(), api.OK
		}),
		"turns": c.running("NN", func(a []operand) (string, api.Errno) { return c.turns(a[0].n, a[1].n) }),
		"memory": c.running("", func([]operand) (string, api.Errno) {
			return words.List(c.run.Result().Memory), api.OK
		}),
		"stats": c.running("", func([]operand) (string, api.Errno) {
			s := c.run.Result().Stats
			return numbers(s.Steps, s.Probes, s.Steals, s.Parks, s.Naps, s.Folds, s.Peak), api.OK
		}),
		"worker": c.running("N", func(a []operand) (string, api.Errno) { return c.worker(a[0].n) }),
		"events": c.running("N", func(a []operand) (string, api.Errno) {
			return c.lastEvents(min(max(a[0].n, 0), mostEvents)), api.OK
		}),
	}
}

// plain is a command all of whose operands must be there.
func plain(form string, do func(a []operand) (string, api.Errno)) command {
	return command{form: form, least: len(form), do: do}
}

// number is a command that sets a number.
func number(at *int) command {
	return plain("N", func(a []operand) (string, api.Errno) {
		*at = a[0].n
		return good, api.OK
	})
}

// onOff is a command that sets what is on or off.
func onOff(at *bool) command {
	return plain("B", func(a []operand) (string, api.Errno) {
		*at = a[0].on
		return good, api.OK
	})
}

// running is a command that asks for a run.
func (c *Console) running(form string, do func(a []operand) (string, api.Errno)) command {
	return plain(form, func(a []operand) (string, api.Errno) {
		if c.run == nil {
			return "", api.ErrState
		}
		return do(a)
	})
}

// output is the command that sets how much output there may be, or, alone, tells what there is.
func (c *Console) output() command {
	set := number(&c.params.Output)
	tell := c.running("", func([]operand) (string, api.Errno) {
		return words.List(c.run.Result().Output), api.OK
	})
	return command{form: set.form, do: func(a []operand) (string, api.Errno) {
		if len(a) == 0 {
			return tell.do(a)
		}
		return set.do(a)
	}}
}

// begin begins a run.
func (c *Console) begin() (string, api.Errno) {
	p, e := asm.Read(c.text())
	if e != api.OK {
		return "", e
	}
	m, e := machine.New(p, c.input, c.params)
	if e != api.OK {
		return "", e
	}
	c.run = m
	return good, api.OK
}

// say is the run's status in writing.
func (c *Console) say() string { return run.Say(c.run.Result()) }

// turns lets each worker step in turn.
func (c *Console) turns(steps, victim int) (string, api.Errno) {
	if steps < 0 || steps > mostTurns {
		return "", api.ErrRange
	}
	for _, x := range sched.Round(c.params.Workers, victim, steps) {
		if c.run.Step(x) {
			break
		}
	}
	return c.say(), api.OK
}

// worker tells what a worker is like.
func (c *Console) worker(own int) (string, api.Errno) {
	l := c.run.Workers()
	if own < 0 || own >= len(l) {
		return "", api.ErrRange
	}
	v := l[own]
	return numbers(v.State, v.Holds, v.Tail, v.Probed), api.OK
}
