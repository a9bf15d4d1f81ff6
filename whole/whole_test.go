package whole

import (
	"reflect"
	"slices"
	"testing"

	"forebay/api"
	"forebay/audit"
	"forebay/bound"
	"forebay/compare"
	"forebay/machine"
	"forebay/race"
	"forebay/sched"
	"forebay/serial"
	"forebay/sink"
	"forebay/strand"
	"forebay/trace"
)

const fuel = 20000

// params are parameters that are drawn, with much room or little.
func (d *dice) params() api.Params {
	q := api.Params{Workers: 1 + d.roll(6), Throttle: 1 + d.roll(5), Frames: 256, Deque: 256, Output: 1000, Fold: d.one(2), Lazy: d.one(2)}
	if d.one(5) {
		q.Frames, q.Deque, q.Output = 2+d.roll(12), 2+d.roll(6), d.roll(20)
	}
	return q
}

// order is an order of turns.
func (d *dice) order() string {
	b := make([]byte, 1+d.roll(7))
	for i := range b {
		b[i] = byte(d.roll(256))
	}
	return string(b)
}

// bias is how picks are drawn: of all workers, or of few for long.
func (d *dice) bias(workers int) func() api.Pick {
	long, left, own := 1, 0, 0
	if d.one(2) {
		long = 1 + d.roll(60)
	}
	return func() api.Pick {
		if left == 0 {
			left, own = 1+d.roll(long), d.roll(workers)
		}
		left--
		return api.Pick{Worker: own, Victim: d.roll(workers)}
	}
}

// made is a machine, that must be.
func made(t testing.TB, p api.Program, q api.Params) *machine.Machine {
	t.Helper()
	m, e := machine.New(p, nil, q)
	if e != api.OK {
		t.Fatal(e)
	}
	return m
}

// TestOneWorker: one worker alone does what the program does in order, whatever it is: W1, and 29 against 26.
func TestOneWorker(t *testing.T) {
	statuses := map[int]int{}
	for seed := range 3000 {
		p := random(seed)
		if seed%3 > 0 {
			p = program(seed, seed%3 == 1)
		}
		d := &dice{uint64(seed)}
		q := api.Params{Workers: 1, Throttle: 1 + d.roll(5), Frames: 256, Deque: 256, Output: 1000, Fold: d.one(2), Lazy: d.one(2)}
		o, e := serial.Eval(p, nil, 3000)
		if e != api.OK {
			t.Fatal(seed, e)
		}
		m := made(t, p, q)
		for range 60000 {
			if m.Step(api.Pick{}) {
				break
			}
		}
		r := m.Result()
		if r.Status == api.Full && (o.Deepest > 250 || len(o.Output) > 990) || o.Status == api.Out {
			continue
		}
		statuses[r.Status]++
		if r.Status != o.Status || r.Why != o.Why || !slices.Equal(r.Output, o.Output) || !slices.Equal(r.Memory, o.Memory) || r.Stats.Peak != o.Deepest {
			t.Fatal(seed, r, o)
		}
	}
	if statuses[api.Done] < 300 || statuses[api.Faulted] < 100 {
		t.Error(statuses)
	}
}

// TestClean: W1: a clean program, however it is run, has no fault, and comes out as in order.
func TestClean(t *testing.T) {
	clean, done := 0, 0
	stats := api.Stats{}
	for seed := range 400 {
		p := program(seed, seed%4 == 0)
		verdict, o := race.Judge(p, nil, fuel)
		if verdict != race.Clean {
			continue
		}
		clean++
		for k := range 12 {
			d := &dice{uint64(seed*100 + k)}
			q := d.params()
			m := made(t, p, q)
			pick := d.bias(q.Workers)
			for range 100000 {
				if m.Step(pick()) {
					break
				}
			}
			r := m.Result()
			if r.Status == api.Faulted || !sink.Begins(r.Output, o.Output) {
				t.Fatal(seed, k, q, r, o)
			}
			if r.Status == api.Going || r.Status == api.Full && q.Frames == 256 {
				t.Fatal(seed, k, q, r)
			}
			if r.Status != api.Done {
				continue
			}
			done++
			if e := compare.Agrees(r, o); e != api.OK {
				t.Fatal(seed, k, e, r, o)
			}
			stats.Steals += r.Stats.Steals
			stats.Parks += r.Stats.Parks
			stats.Naps += r.Stats.Naps
			stats.Folds += r.Stats.Folds
		}
	}
	if clean < 60 || done < 400 || min(stats.Steals, stats.Parks, stats.Naps, stats.Folds) < 100 {
		t.Error(clean, done, stats)
	}
}

// TestInTime: W2: a clean program with enough room, where each worker steps in each window, is done in time.
func TestInTime(t *testing.T) {
	runs := 0
	for seed := range 300 {
		p := program(seed+5000, false)
		verdict, o := race.Judge(p, nil, fuel)
		if verdict != race.Clean {
			continue
		}
		for k := range 8 {
			d := &dice{uint64(seed*100 + k)}
			q, e := bound.Params(o, 1+d.roll(6), 1+d.roll(5))
			if e != api.OK {
				continue
			}
			q.Fold, q.Lazy = d.one(2), d.one(2)
			order := d.order()
			window := 2*q.Workers - 1
			most := min(bound.Steps(o.Steps, q.Workers, window), api.MaxSteps)
			m := made(t, p, q)
			for most > 0 && !m.Ended() {
				// turns in blocks: the order begins anew behind each thousand, which widens no window beyond twice the workers
				for _, x := range sched.Turns(q.Workers, q.Workers*len(order)*100, order) {
					if most == 0 || m.Step(x) {
						break
					}
					most--
				}
			}
			if r := m.Result(); compare.Agrees(r, o) != api.OK {
				t.Fatal(seed, k, q, r, o)
			}
			runs++
		}
	}
	if runs < 300 {
		t.Error(runs)
	}
}

// holdState holds a state against W3.
func holdState(t *testing.T, m *machine.Machine, what ...any) {
	t.Helper()
	if e := audit.Check(m); e != api.OK {
		t.Fatal(what, e, m.Workers(), m.Deques())
	}
}

// TestStates: W3: in each state, of whatever program, no frame is in two hands, and what happened could happen.
func TestStates(t *testing.T) {
	events := 0
	for seed := range 700 {
		p := random(seed)
		if seed%2 == 0 {
			p = program(seed, true)
		}
		d := &dice{uint64(seed) + 77}
		q := d.params()
		q.Frames, q.Deque = min(q.Frames, 60), min(q.Deque, 60)
		m := made(t, p, q)
		pick := d.bias(q.Workers)
		for n := range 4000 {
			before := len(m.Events())
			ended := m.Step(pick())
			if l := m.Events(); len(l) > before && machine.Most(l) > q.Throttle {
				t.Fatal(seed, n, l)
			}
			holdState(t, m, seed, n)
			if ended {
				break
			}
		}
		l := m.Events()
		events += len(l)
		if at, e := trace.Check(l); e != api.OK {
			t.Fatal(seed, at, e, l)
		}
		loops := map[int]int{}
		for _, e := range l {
			loops[e.Loop] = max(loops[e.Loop], e.Iter+1)
		}
		for loop, iterations := range loops {
			if rows := trace.Rows(l, loop); iterations <= 100 && !slices.ContainsFunc(rows, func(r []api.Cell) bool { return len(r) > 100 }) && !trace.Follows(l, loop) {
				t.Fatal(seed, loop)
			}
		}
		if q.Throttle == 1 {
			oneByOne(t, l)
		}
	}
	if events < 10000 {
		t.Error(events)
	}
}

// oneByOne holds events against a throttle of 1: of each loop one iteration runs behind the other.
func oneByOne(t *testing.T, l []api.Event) {
	t.Helper()
	last := map[int]int{}
	for i, e := range l {
		if e.Kind != api.Ends && e.Iter < last[e.Loop] {
			t.Fatal(i, l)
		}
		last[e.Loop] = max(last[e.Loop], e.Iter)
	}
}

// TestStrandsOfRuns: what comes ahead of what in order is a pipeline's grid, too: marks build strands without an error.
func TestStrandsOfRuns(t *testing.T) {
	for seed := range 600 {
		p := random(seed)
		if seed%2 == 0 {
			p = program(seed, true)
		}
		l := serial.Marks(p, nil, 600)
		d, e := strand.Build(l)
		if e != api.OK && e != api.ErrLong {
			t.Fatal(seed, e)
		}
		again, _ := strand.Build(l)
		if !reflect.DeepEqual(d, again) {
			t.Fatal(seed)
		}
	}
}
