package console_test

import (
	"fmt"
	"slices"
	"strings"
	"testing"

	"forebay/api"
	"forebay/asm"
	"forebay/console"
	"forebay/machine"
	"forebay/run"
)

// lead leads a console by lines, each with its answer behind an arrow.
func lead(t *testing.T, c *console.Console, lines ...string) {
	t.Helper()
	for _, x := range lines {
		line, want, ok := strings.Cut(x, " -> ")
		if !ok {
			want = "ok"
		}
		if got := c.Do(line); got != want {
			t.Errorf("%q: %q; want %q", line, got, want)
		}
	}
}

// written lets a console have a program, with semicolons between its lines.
func written(t *testing.T, c *console.Console, text string) {
	t.Helper()
	for _, line := range strings.Split(text, "; ") {
		lead(t, c, "code "+line)
	}
}

// The errors that are answered.
const (
	short   = " -> error 01"
	more    = " -> error 02"
	span    = " -> error 03"
	form    = " -> error 04"
	none    = " -> error 07"
	state   = " -> error 08"
	long    = " -> error 09"
	command = " -> error 70"
)

// Example 1.
func TestPlay(t *testing.T) {
	got := console.Play([]string{"code memory 0", "code function", "code ret", "begin", "turns 1 0"})
	if !slices.Equal(got, []string{"ok", "ok", "ok", "ok", "done"}) {
		t.Error(got)
	}
	if got := console.Play(nil); len(got) != 0 {
		t.Error(got)
	}
	lines := slices.Repeat([]string{"memory"}, 300)
	if got := console.Play(lines[:200]); len(got) != 200 || got[199] != "error 08" {
		t.Error(len(got))
	}
	if got := console.Play(lines); len(got) != 200 {
		t.Error(len(got))
	}
}

// Promise 39.1: lines that are no commands.
func TestNoCommands(t *testing.T) {
	c := console.New()
	lead(t, c, none, "   "+none, "what"+command, "Begin"+command, "begin,"+command, "code:"+command, "step1 2"+command, "\tbegin"+command)
	if got := c.Do("clear" + strings.Repeat(" ", 395)); got != "ok" {
		t.Error(got)
	}
	for _, line := range []string{"clear" + strings.Repeat(" ", 396), strings.Repeat(" ", 401), strings.Repeat("x", 401), "code " + strings.Repeat("x", 396)} {
		if got := c.Do(line); got != "error 09" {
			t.Error(got)
		}
	}
	if got := c.Do(strings.Repeat(" ", 400)); got != "error 07" {
		t.Error(got)
	}
}

// Promise 39.1: too few words, too many, and such as they are not to be: ahead of all else.
func TestWords(t *testing.T) {
	c := console.New()
	for _, name := range []string{"clear", "begin", "memory", "stats"} {
		lead(t, c, name+" 1"+more, name+" x y"+more)
	}
	for _, name := range []string{"workers", "throttle", "frames", "deque", "worker", "events", "input", "fold", "lazy"} {
		lead(t, c, name+short, name+" 1 2"+more, name+" ?"+form, name+" 01"+form)
	}
	for _, name := range []string{"step", "turns"} {
		lead(t, c, name+short, name+" 1"+short, name+" x"+short, name+" 1 2 3"+more, name+" x y z"+more, name+" 1 x"+form, name+" x 1"+form, name+" +1 1"+form)
	}
	lead(t, c, "output 1 2"+more, "output x"+form, "output 1,2"+form, "output"+state)
	lead(t, c, "input"+short, "input 1 2"+more, "input ,"+form, "input x"+form, "input 1,"+form, "input 1;2"+form, "input on"+form)
	for _, name := range []string{"fold", "lazy"} {
		lead(t, c, name+" On"+form, name+" 1"+form, name+" true"+form, name+" on off"+more, name+" on", name+" off", "  "+name+"   on ")
	}
	lead(t, c, "workers on"+form, "workers -"+form, "workers 1.5"+form, "workers 99999999999999999999"+form, "workers -5", "output -1", "frames 0")
}

// Promise 39.1: without a run.
func TestNoRun(t *testing.T) {
	c := console.New()
	lead(t, c, "step 0 0"+state, "turns 1 0"+state, "turns -1 0"+state, "output"+state, "memory"+state, "stats"+state, "worker 0"+state, "worker 99"+state, "events 5"+state)
	written(t, c, "memory 0; function; ret")
	lead(t, c, "output"+state, "begin", "output -> -", "clear", "output"+state, "begin"+form)
}

// Promise 39.1: writing is kept as it is, line by line.
func TestCode(t *testing.T) {
	c := console.New()
	lead(t, c, "begin"+form)
	lead(t, c, "code", "code ", "  code   memory    2  ", "code", "code function", "begin"+none)
	lead(t, c, "code  set  1  7 ", "code emit 1", "begin -> error 12", "code ret", "begin", "turns 9 0 -> done", "output -> 7", "memory -> 0,0")
	lead(t, c, "clear", "code memory 0", "code function", "code what", "begin"+command)
	lead(t, c, "clear", "code memory 0", "code ret", "begin"+state)
	lead(t, c, "clear", "code memory 0", "code function", "code jump 5", "begin -> error 11")
	lead(t, c, "clear", "code code", "begin"+form)
	lead(t, c, "clear", "code memory 300", "code function", "code ret", "begin"+span)
	// the blank behind code is left out, and nothing else
	c = console.New()
	line := "code " + strings.Repeat(" ", 392) + "ret" // a line of 395 bytes
	lead(t, c, "code memory 0", "code function", line, "begin", "turns 1 0 -> done")
	c = console.New()
	for range 155 { // 155 lines of 391 bytes, each with a line feed behind, are more than are read
		if got := c.Do("code " + strings.Repeat(" ", 390)); got != "ok" {
			t.Fatal(got)
		}
	}
	lead(t, c, "begin"+long)
}

// Promise 39.1: what begins must be sound; with an error all stays.
func TestBegin(t *testing.T) {
	c := console.New()
	written(t, c, "memory 2; function; emit 0; emit 0; ret")
	lead(t, c, "begin", "step 0 0 -> going", "output -> 0")
	lead(t, c, "workers 0", "begin"+span, "output -> 0", "workers 1", "input 1,2,3", "begin"+long, "output -> 0", "input 5", "begin", "output -> -", "memory -> 5,0")
	lead(t, c, "code what", "begin"+command, "memory -> 5,0", "turns 9 0 -> done", "output -> 0,0")
	for _, name := range []string{"workers", "throttle", "frames", "deque"} {
		c := console.New()
		written(t, c, "memory 0; function; ret")
		lead(t, c, name+" 999", "begin"+span, name+" 2", "begin")
	}
	c = console.New()
	written(t, c, "memory 0; function; ret")
	lead(t, c, "output 1001", "begin"+span, "output 1000", "begin", "output -1", "begin"+span, "output 0", "begin")
}

// Promise 39.1: the parameters at first, and as they are set.
func TestParameters(t *testing.T) {
	c := console.New()
	written(t, c, "memory 0; function; emit 0; jump 0")
	lead(t, c, "begin", "turns 100 0 -> going", "turns 99 0 -> going", "turns 100 0 -> full 3", "stats -> 201 0 0 0 0 0 1", "worker 0 -> 4 1 0 0", "worker 1"+span, "worker -1"+span)
	lead(t, c, "output 3", "begin", "turns 100 0 -> full 3", "output -> 0,0,0")
	c = console.New()
	written(t, c, "memory 0; function; spawn 0; ret")
	lead(t, c, "deque 200", "begin", "turns 5000 0 -> full 1", "stats -> 316 0 0 0 0 0 64", "frames 9", "begin", "turns 5000 0 -> full 1", "stats -> 41 0 0 0 0 0 9", "frames 200", "deque 64", "begin", "turns 5000 0 -> full 2", "deque 3", "begin", "turns 99 0 -> full 2", "stats -> 13 0 0 0 0 0 4")
	c = console.New()
	written(t, c, "memory 0; function; jump 0")
	lead(t, c, "workers 3", "begin", "worker 2 -> 0 0 0 0", "step 2 0 -> going", "worker 2 -> 1 0 0 1", "worker 3"+span, "step -1 0 -> going", "step 5 5 -> going", "stats -> 3 1 0 0 0 0 1")
}

// Promise 39.1: without having been set the parameters are those that the document names.
func TestDefaults(t *testing.T) {
	for _, text := range []string{loop, "memory 0; function; spawn 0; ret", "memory 0; function; emit 0; jump 0"} {
		for _, frames := range []int{64, 200} {
			p, e := asm.Read(strings.ReplaceAll(text, "; ", "\n"))
			if e != api.OK {
				t.Fatal(e)
			}
			q := api.Params{Workers: 1, Throttle: 1, Frames: frames, Deque: 64, Output: 100}
			c := console.New()
			written(t, c, text)
			if frames != 64 {
				lead(t, c, fmt.Sprint("frames ", frames))
			}
			m, _ := machine.New(p, nil, q)
			for range 3000 {
				m.Step(api.Pick{})
			}
			s := m.Result().Stats
			lead(t, c, "begin", "turns 3000 0 -> "+run.Say(m.Result()), fmt.Sprint("stats -> ", s.Steps, " ", s.Probes, " ", s.Steals, " ", s.Parks, " ", s.Naps, " ", s.Folds, " ", s.Peak))
		}
	}
}

// loop is a pipeline of three iterations, each of two stages that wait.
const loop = "memory 1; function; pipe 1; emit 0; ret; function; set 1 1; add 0 0 1; set 2 3; less 3 2 0; zero 3 6; break; wait 1; emit 0; set 4 2; wait 4; fetch 5 6 1; ret"

// Promise 39.1: throttle, fold and lazy are the run's; all that is told is that of a machine that is led so.
func TestAsMachine(t *testing.T) {
	p, e := asm.Read(strings.ReplaceAll(loop, "; ", "\n"))
	if e != api.OK {
		t.Fatal(e)
	}
	onOff := map[bool]string{false: "off", true: "on"}
	for i := range 24 {
		q := api.Params{Workers: 1 + i%3, Throttle: 1 + i/3%2, Frames: 64, Deque: 64, Output: 100, Fold: i/6%2 == 0, Lazy: i/12%2 == 0}
		c := console.New()
		written(t, c, loop)
		lead(t, c, fmt.Sprint("workers ", q.Workers), fmt.Sprint("throttle ", q.Throttle), "fold "+onOff[q.Fold], "lazy "+onOff[q.Lazy], "begin")
		m, _ := machine.New(p, nil, q)
		x := uint32(i)
		for n := range 120 {
			x = x*1664525 + 1013904223
			pick := api.Pick{Worker: int(x>>9) % 4, Victim: int(x>>20)%5 - 1}
			m.Step(pick)
			lead(t, c, fmt.Sprintf("step %d %d -> %s", pick.Worker, pick.Victim, run.Say(m.Result())))
			turns := int(x>>14) % 9
			for k := range turns {
				m.Step(api.Pick{Worker: k % q.Workers, Victim: n})
			}
			r := m.Result()
			lead(t, c, fmt.Sprintf("turns %d %d -> %s", turns, n, run.Say(r)))
			s := r.Stats
			lead(t, c, fmt.Sprint("stats -> ", s.Steps, " ", s.Probes, " ", s.Steals, " ", s.Parks, " ", s.Naps, " ", s.Folds, " ", s.Peak))
			for own, v := range m.Workers() {
				lead(t, c, fmt.Sprint("worker ", own, " -> ", v.State, " ", v.Holds, " ", v.Tail, " ", v.Probed))
			}
			lead(t, c, "output -> "+list(r.Output), "memory -> "+list(r.Memory))
			for _, many := range []int{-1, 0, 1, 3, 20, 21, 99} {
				lead(t, c, fmt.Sprintf("events %d -> %s", many, events(m.Events(), many)))
			}
		}
		if r := m.Result(); r.Status != api.Done {
			t.Error(r)
		}
	}
}

// list is numbers in writing.
func list(l []int) string {
	if len(l) == 0 {
		return "-"
	}
	return strings.ReplaceAll(strings.Trim(fmt.Sprint(l), "[]"), " ", ",")
}

// events are the last of events in writing, so many.
func events(l []api.Event, many int) string {
	many = min(max(many, 0), 20, len(l))
	if many == 0 {
		return "none"
	}
	var s []string
	for _, e := range l[len(l)-many:] {
		s = append(s, fmt.Sprintf("%d:%d:%d:%d", e.Kind, e.Loop, e.Iter, e.Stage))
	}
	return strings.Join(s, " ")
}

// Promise 39.1: turns, and how many may be.
func TestTurns(t *testing.T) {
	c := console.New()
	written(t, c, "memory 0; function; jump 0")
	lead(t, c, "begin", "turns -1 0"+span, "turns 100001 0"+span, "turns 0 0 -> going", "stats -> 0 0 0 0 0 0 1", "turns 100000 0 -> going", "stats -> 100000 0 0 0 0 0 1")
	for range 82 {
		lead(t, c, "turns 100000 0 -> going")
	}
	lead(t, c, "turns 88607 0 -> going", "turns 1 0 -> out", "turns 5 0 -> out", "step 0 0 -> out", "stats -> 8388608 0 0 0 0 0 1")
	c = console.New()
	written(t, c, "memory 0; function; div 0 0 0; ret")
	lead(t, c, "begin", "step 0 0 -> fault 1", "turns 5 0 -> fault 1", "stats -> 1 0 0 0 0 0 1")
}

// Promise 39.3: what is changed changes no run that has begun; clear lets the parameters be.
func TestStays(t *testing.T) {
	c := console.New()
	written(t, c, "memory 2; function; emit 0; load 1 0; emit 1; ret")
	lead(t, c, "input 7,8", "begin", "step 0 0 -> going")
	lead(t, c, "input 1", "throttle 0", "frames 0", "deque 0", "output 0", "fold on", "lazy on", "code what", "memory -> 7,8", "turns 9 0 -> done", "output -> 0,7", "memory -> 7,8", "worker 1"+span)
	lead(t, c, "clear", "memory"+state)
	written(t, c, "memory 2; function; emit 0; load 1 0; emit 1; ret")
	lead(t, c, "begin"+span, "throttle 1", "frames 1", "deque 2", "begin", "memory -> 0,0", "turns 9 0 -> full 3")
}

// Promise 39.1: of nil, and of nothing.
func TestNil(t *testing.T) {
	var c *console.Console
	for _, line := range []string{"", "begin", "what", "code ret", strings.Repeat("x", 500)} {
		if got := c.Do(line); got != "" {
			t.Error(got)
		}
	}
	z := new(console.Console)
	written(t, z, "memory 0; function; ret")
	lead(t, z, "begin"+span, "workers 1", "throttle 1", "frames 1", "deque 2", "begin", "step 0 0 -> done")
}
