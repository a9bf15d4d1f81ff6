// Package whole has tests of the promises that all layers keep together.
package whole

import (
	"forebay/api"
	"forebay/build"
)

// dice are numbers that are drawn by a rule, so each test is the same each time.
type dice struct{ x uint64 }

// roll is a number from 0 to n less 1.
func (d *dice) roll(n int) int {
	d.x = d.x*6364136223846793005 + 1442695040888963407
	return int(d.x>>33) % n
}

// one is whether one of n is drawn.
func (d *dice) one(n int) bool { return d.roll(n) == 0 }

// instr is an instruction.
func instr(op int, l ...int) api.Ins {
	l = append(l, 0, 0, 0)
	return api.Ins{Op: op, A: l[0], B: l[1], C: l[2]}
}

// What registers are for: counters of loops (outer and inner), 1, how many, what is asked, a stage, a value, a word.
const (
	outer = 0
	one   = 1
	many  = 2
	asked = 3
	at    = 4
	value = 5
	word  = 6
	inner = 7
)

// maker makes programs of which many are clean.
type maker struct {
	dice
	b      *build.Builder
	memory int
	wild   bool // whether it cares little for what clashes
}

// program is a program that is drawn.
func program(seed int, wild bool) api.Program {
	m := &maker{dice: dice{uint64(seed)*2654435761 + 12345}, wild: wild}
	m.memory = 1 + m.roll(6)
	m.b = build.New(m.memory)
	m.root()
	m.pipe(outer, 1+m.roll(6), true)
	m.pipe(inner, m.roll(4), false)
	m.task(true)
	m.task(false)
	p, e := m.b.End()
	if e != api.OK {
		panic(e)
	}
	return p
}

// The functions' numbers.
const (
	outerPipe = 1
	innerPipe = 2
	parent    = 3
	leaf      = 4
)

// root is the function 0.
func (m *maker) root() {
	m.b.Func()
	for range 1 + m.roll(3) {
		m.plain(true)
		switch m.roll(5) {
		case 0:
			m.spawn(parent)
		case 1:
			m.b.Add(instr(api.Set, inner, 0), instr(api.Pipe, innerPipe))
		default:
			m.b.Add(instr(api.Set, outer, 0), instr(api.Pipe, outerPipe))
		}
	}
	m.plain(true)
	m.b.Add(instr(api.Ret))
}

// plain is some instructions that go straight on.
func (m *maker) plain(ordered bool) {
	for range m.roll(4) {
		switch m.roll(7) {
		case 0:
			m.b.Add(instr(api.Set, value, m.roll(9)-4))
		case 1:
			m.b.Add(instr(api.Add+m.roll(3), value, value, m.roll(8)))
		case 2, 3:
			if ordered || m.wild && m.one(3) {
				m.b.Add(instr(api.Emit, m.roll(8)))
			}
		case 4:
			m.b.Add(instr(api.Set, word, m.roll(m.memory)), instr(api.Load, value, word))
		case 5, 6:
			if ordered && m.one(2) || m.wild && m.one(3) {
				op := []int{api.Store, api.Fetch, api.Swap}[m.roll(3)]
				m.b.Add(instr(api.Set, word, m.roll(m.memory)))
				if op == api.Store {
					m.b.Add(instr(op, word, value))
				} else {
					m.b.Add(instr(op, value, word, value))
				}
			}
		}
	}
	if m.wild && m.one(40) {
		m.b.Add([]api.Ins{instr(api.Div, 1, 1, 3), instr(api.Load, 1, 2), instr(api.Break), instr(api.Wait, asked), instr(api.Sync)}[m.roll(5)])
	}
}

// spawn spawns a function, and mostly meets it soon.
func (m *maker) spawn(fn int) {
	for range 1 + m.roll(2) {
		m.b.Add(instr(api.Spawn, fn))
		if m.one(3) {
			m.plain(false)
		}
		if m.one(2) {
			m.b.Add(instr(api.Sync))
		}
	}
	if !m.one(3) {
		m.b.Add(instr(api.Sync))
	}
}

// pipe is the function of a loop, with a counter, of so many iterations.
func (m *maker) pipe(counter, iterations int, nests bool) {
	m.b.Func()
	m.b.Add(instr(api.Set, one, 1), instr(api.Add, counter, counter, one), instr(api.Set, many, iterations), instr(api.Less, asked, many, counter))
	m.b.IfZero(asked, "on")
	m.plain(true)
	m.b.Add(instr(api.Break))
	m.b.Label("on")
	m.plain(true) // the first stages come one behind the other
	if m.one(5) {
		m.spawn(leaf)
	}
	stage := 0
	for range m.roll(5) {
		stage += 1 + m.roll(3)
		m.b.Add(instr(api.Set, at, stage))
		waits := !m.one(3)
		if waits {
			m.b.Add(instr(api.Wait, at))
		} else {
			m.b.Add(instr(api.Cont, at))
		}
		m.plain(waits && m.one(2))
		if m.one(4) {
			m.spawn(leaf + m.roll(1))
		}
		if nests && m.one(4) {
			m.b.Add(instr(api.Set, inner, m.roll(2)), instr(api.Pipe, innerPipe))
		}
		if m.one(6) {
			m.later(counter, &stage)
		}
	}
	m.b.Add(instr(api.Ret))
}

// later goes on to a stage that is reckoned of the counter, so iterations have other ones.
func (m *maker) later(counter int, stage *int) {
	m.b.Add(instr(api.Set, at, *stage), instr(api.Set, one, 1), instr(api.Add, at, at, one), instr(api.Add, at, at, counter), instr([]int{api.Wait, api.Cont}[m.roll(2)], at))
	*stage += 12
}

// task is the function of a child.
func (m *maker) task(spawns bool) {
	m.b.Func()
	m.plain(m.one(4))
	if spawns {
		m.spawn(leaf)
	}
	m.plain(false)
	if m.one(3) {
		m.b.Add(instr(api.Set, value, 1+m.roll(5)), instr(api.Set, one, 1))
		again := m.b.Add(instr(api.Sub, value, value, one)) - 1
		m.b.IfZero(value, "out")
		m.b.Add(instr(api.Jump, again))
		m.b.Label("out")
	}
	m.b.Add(instr(api.Ret))
}

// random is a program of any instructions.
func random(seed int) api.Program {
	d := &dice{uint64(seed)*40503 + 999}
	p := api.Program{Memory: d.roll(4)}
	funcs := 1 + d.roll(4)
	for range funcs {
		n := 1 + d.roll(14)
		var l []api.Ins
		for range n {
			x := api.Ins{Op: d.roll(api.Ops)}
			switch x.Op {
			case api.Set:
				x.A, x.B = d.roll(8), d.roll(7)-1
			case api.Spawn, api.Pipe:
				x.A = d.roll(funcs)
			case api.Jump:
				x.A = d.roll(n + 1)
			case api.Zero:
				x.A, x.B = d.roll(4), d.roll(n+1)
			case api.Ret, api.Sync, api.Break:
			case api.Emit, api.Wait, api.Cont:
				x.A = d.roll(4)
			case api.Move, api.Load, api.Store:
				x.A, x.B = d.roll(4), d.roll(4)
			default:
				x.A, x.B, x.C = d.roll(4), d.roll(4), d.roll(4)
			}
			l = append(l, x)
		}
		last := []api.Ins{instr(api.Ret), instr(api.Break), instr(api.Jump, d.roll(n+1))}[d.roll(3)]
		p.Funcs = append(p.Funcs, append(l, last))
	}
	return p
}
