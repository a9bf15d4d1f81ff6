package whole

import (
	"fmt"
	"slices"
	"strings"
	"testing"

	"forebay/api"
	"forebay/asm"
	"forebay/console"
	"forebay/machine"
	"forebay/prog"
	"forebay/race"
	"forebay/run"
	"forebay/sched"
	"forebay/trace"
)

// read is the program that is written, with semicolons between its lines.
func read(t testing.TB, text string) api.Program {
	t.Helper()
	p, e := asm.Read(strings.ReplaceAll(text, "; ", "\n"))
	if e != api.OK {
		t.Fatal(e)
	}
	return p
}

// put is a program as bytes.
func put(t testing.TB, p api.Program) string {
	t.Helper()
	s, e := prog.Put(p)
	if e != api.OK {
		t.Fatal(e)
	}
	return s
}

// plain are parameters of so many workers.
func plain(workers, throttle int) api.Params {
	return api.Params{Workers: workers, Throttle: throttle, Frames: 30, Deque: 30, Output: 30}
}

// three is a loop of three iterations that emit at a stage, to which they go by wait or cont.
func three(by string) string {
	return "memory 0; function; pipe 1; ret; function; set 1 1; add 0 0 1; set 2 3; less 3 2 0; zero 3 6; break; " + by + " 1; emit 0; ret"
}

// TestExamples: the examples of the whole, but those of loops.
func TestExamples(t *testing.T) {
	for i, x := range []struct {
		text   string
		frames int
		steps  int
		say    string
		output []int
	}{
		{"memory 0; function; set 1 4; emit 1; ret", 9, 3, "done", []int{4}},
		{"memory 0; function; pipe 1; ret; function; set 1 2; wait 1; wait 1; ret", 9, 99, "fault 3", nil},
		{"memory 0; function; pipe 1; ret; function; set 1 2; wait 1; break", 9, 99, "fault 5", nil},
		{"memory 3; function; set 1 3; load 0 1; ret", 9, 99, "fault 2", nil},
		{"memory 0; function; spawn 0; ret", 1, 99, "full 1", nil},
		{"memory 0; function; jump 0", 9, 1 << 20, "out", nil},
	} {
		q := plain(1, 1)
		q.Frames = x.frames
		r := run.Run(put(t, read(t, x.text)), nil, q, sched.Round(1, 0, x.steps))
		if run.Say(r) != x.say || !slices.Equal(r.Output, x.output) {
			t.Error(i, run.Say(r), r)
		}
	}
}

// TestLoopExamples: a loop emits in order where it waits, and may not where it does not.
func TestLoopExamples(t *testing.T) {
	if v, _ := race.Judge(read(t, three("wait")), nil, 999); v != race.Clean {
		t.Error(v)
	}
	if v, _ := race.Judge(read(t, three("cont")), nil, 999); v != race.Clashes {
		t.Error(v)
	}
	for _, by := range []string{"wait", "cont"} {
		outputs := map[string]int{}
		for workers := 1; workers < 5; workers++ {
			for k := range 60 {
				d := &dice{uint64(k)}
				m := made(t, read(t, three(by)), plain(workers, 3))
				pick := d.bias(workers)
				for !m.Step(pick()) {
				}
				r := m.Result()
				if r.Status != api.Done || len(r.Output) != 3 {
					t.Fatal(r)
				}
				outputs[fmt.Sprint(r.Output)]++
			}
		}
		if outputs["[1 2 3]"] == 0 || (len(outputs) == 1) != (by == "wait") {
			t.Error(by, outputs)
		}
	}
}

// TestThrottleOfOne: no iteration starts ahead of the end of the one ahead.
func TestThrottleOfOne(t *testing.T) {
	for workers := 1; workers < 5; workers++ {
		for _, victim := range []int{0, 1, 2} {
			l := run.Trace(put(t, read(t, three("wait"))), nil, plain(workers, 1), sched.Round(workers, victim, 9999))
			if at, e := trace.Check(l); e != api.OK || machine.Most(l) != 1 {
				t.Error(at, e)
			}
			oneByOne(t, l)
		}
	}
}

// TestLines: W4: whatever is run comes out the same, as bytes, as text, and by lines.
func TestLines(t *testing.T) {
	statuses := map[int]int{}
	for seed := range 500 {
		p := random(seed)
		if seed%2 == 0 {
			p = program(seed, true)
		}
		d := &dice{uint64(seed)}
		q := d.params()
		if d.one(9) {
			q.Workers = 0
		}
		steps, victim := d.roll(4000), d.roll(4)
		s := put(t, p)
		script := sched.Round(q.Workers, victim, steps)
		r := run.Run(s, nil, q, script)
		if again := run.Run(s, nil, q, script); run.Say(again) != run.Say(r) || !slices.Equal(again.Output, r.Output) || again.Stats != r.Stats {
			t.Fatal(seed, r, again)
		}
		statuses[r.Status]++
		text, e := asm.Text(p)
		if e != api.OK {
			t.Fatal(e)
		}
		c := console.New()
		for _, line := range strings.Split(strings.TrimSuffix(text, "\n"), "\n") {
			c.Do("code " + line)
		}
		for _, line := range []string{
			fmt.Sprint("workers ", q.Workers), fmt.Sprint("throttle ", q.Throttle), fmt.Sprint("frames ", q.Frames), fmt.Sprint("deque ", q.Deque), fmt.Sprint("output ", q.Output),
			fmt.Sprint("fold ", map[bool]string{true: "on", false: "off"}[q.Fold]), fmt.Sprint("lazy ", map[bool]string{true: "on", false: "off"}[q.Lazy]),
		} {
			if got := c.Do(line); got != "ok" {
				t.Fatal(line, got)
			}
		}
		begun := c.Do("begin") == "ok"
		if begun != (r.Status != api.BadParam) {
			t.Fatal(seed, r.Status)
		}
		if !begun {
			continue
		}
		say := c.Do(fmt.Sprint("turns ", steps, " ", victim))
		if want := run.Say(r); say != want && !(say == "going" && want == "out") {
			t.Fatal(seed, say, want)
		}
		stats := fmt.Sprint(r.Stats.Steps, r.Stats.Probes, r.Stats.Steals, r.Stats.Parks, r.Stats.Naps, r.Stats.Folds, r.Stats.Peak)
		if got := c.Do("stats"); got != stats {
			t.Fatal(seed, got, stats)
		}
	}
	for _, status := range []int{api.Done, api.BadParam, api.Faulted, api.Full, api.Out} {
		if statuses[status] < 10 {
			t.Error(statuses)
		}
	}
}

// TestMalformed: W4: Malformed just if the grammar refuses the bytes.
func TestMalformed(t *testing.T) {
	malformed := 0
	for seed := range 3000 {
		d := &dice{uint64(seed)}
		b := []byte(put(t, random(seed)))
		for range d.roll(3) {
			switch d.roll(3) {
			case 0:
				b[d.roll(len(b))] ^= byte(1 << d.roll(8))
			case 1:
				b = b[:d.roll(len(b))]
			case 2:
				b = append(b, byte(d.roll(256)))
			}
			if len(b) == 0 {
				break
			}
		}
		_, e := prog.Get(string(b))
		r := run.Run(string(b), nil, plain(2, 2), sched.Round(2, 0, 50))
		if (r.Status == api.Malformed) != (e != api.OK) || r.Status == api.BadParam || r.Status == api.Going {
			t.Fatal(seed, r, e)
		}
		if e != api.OK {
			malformed++
		}
	}
	if malformed < 500 || malformed > 2500 {
		t.Error(malformed)
	}
}
