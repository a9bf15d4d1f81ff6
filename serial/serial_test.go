package serial_test

import (
	"fmt"
	"reflect"
	"slices"
	"strings"
	"testing"

	"forebay/api"
	"forebay/asm"
	"forebay/serial"
)

const (
	least = -1 << 63
	most  = 1<<63 - 1
)

// read is the program of so many words of memory that is written, with semicolons between its lines.
func read(t testing.TB, memory int, text string) api.Program {
	t.Helper()
	p, e := asm.Read(fmt.Sprintf("memory %d\n%s", memory, strings.ReplaceAll(text, "; ", "\n")))
	if e != api.OK {
		t.Fatal(e, text)
	}
	return p
}

// marks are marks in short: a letter each, and its number.
func marks(l []serial.Mark) string {
	var s []string
	for _, m := range l {
		x := "?RWTfrmLlIdwc"[m.Kind : m.Kind+1]
		if !strings.Contains("frm", x) || m.A != 0 {
			x += fmt.Sprint(m.A)
		}
		if m.B != 0 {
			x += "!"
		}
		s = append(s, x)
	}
	return strings.Join(s, " ")
}

// holds holds a program's marks and outcome against what they are to be.
func holds(t *testing.T, p api.Program, input []int, fuel int, want serial.Outcome, wantMarks string) {
	t.Helper()
	before := slices.Clone(input)
	o, e := serial.Eval(p, input, fuel)
	if e != api.OK {
		t.Error(e)
	}
	if len(o.Output) == 0 {
		o.Output = nil
	}
	if len(o.Memory) == 0 {
		o.Memory = nil
	}
	if !reflect.DeepEqual(o, want) {
		t.Errorf("%+v; want %+v", o, want)
	}
	if got := marks(serial.Marks(p, input, fuel)); got != wantMarks {
		t.Errorf("marks\n%s\nwant\n%s", got, wantMarks)
	}
	if !slices.Equal(input, before) {
		t.Error("the input has changed")
	}
}

// The numbers of the kinds.
func TestKinds(t *testing.T) {
	for i, n := range []int{
		serial.Reads, serial.Writes, serial.Tells, serial.Forks, serial.Returns, serial.Meets, serial.Loops, serial.Leaves, serial.Iters, serial.Done, serial.Waits, serial.Conts,
	} {
		if n != i+1 {
			t.Error(i, n)
		}
	}
}

// Promise 29.1: what is wrong, the first of it.
func TestWrong(t *testing.T) {
	good := read(t, 2, "function; ret")
	for i, x := range []struct {
		p     api.Program
		input []int
		want  api.Errno
	}{
		{api.Program{}, nil, api.ErrNone},
		{api.Program{Memory: -1}, []int{1}, api.ErrRange},
		{api.Program{Funcs: [][]api.Ins{{{Op: api.Emit}}}}, []int{1}, api.ErrEnd},
		{good, []int{1, 2, 3}, api.ErrLong},
	} {
		o, e := serial.Eval(x.p, x.input, 10)
		if e != x.want || !reflect.DeepEqual(o, serial.Outcome{}) || len(serial.Marks(x.p, x.input, 10)) != 0 {
			t.Error(i, o, e)
		}
	}
	if o, e := serial.Eval(good, []int{1, 2}, 10); e != api.OK || !slices.Equal(o.Memory, []int{1, 2}) {
		t.Error(o, e)
	}
}

// Example 1: a child is met.
func TestChild(t *testing.T) {
	p := read(t, 0, "function; spawn 1; ret; function; set 1 7; emit 1; ret")
	holds(t, p, nil, 99, serial.Outcome{Status: api.Done, Output: []int{7}, Steps: 5, Frames: 2, Deepest: 2}, "f T7 r m")
}

// Promise 29.1: a child has its spawner's registers, and leaves these as they are; it goes ahead of what comes behind.
func TestChildRegisters(t *testing.T) {
	p := read(t, 0, "function; set 1 5; spawn 1; emit 1; spawn 1; sync; sync; emit 1; ret; function; emit 1; set 1 9; emit 1; spawn 2; ret; function; emit 1; ret")
	holds(t, p, nil, 99, serial.Outcome{Status: api.Done, Output: []int{5, 9, 9, 5, 5, 9, 9, 5}, Steps: 22, Frames: 5, Deepest: 3},
		"f T5 T9 f T9 r m r T5 f T5 T9 f T9 r m r m T5")
}

// Promise 29.1: memory, and its marks; fetch and swap write.
func TestMemory(t *testing.T) {
	p := read(t, 3, "function; set 1 2; set 2 7; store 1 2; load 3 1; fetch 4 1 2; swap 5 1 2; emit 5; load 6 1; move 5 6; swap 5 1 2; emit 5; emit 3; emit 4; emit 6; ret")
	holds(t, p, []int{4, 5}, 99, serial.Outcome{Status: api.Done, Output: []int{0, 1, 7, 7, 14}, Memory: []int{4, 5, 7}, Steps: 15, Frames: 1, Deepest: 1},
		"W2 R2 W2 W2 T0 R2 W2 T1 T7 T7 T14")
}

// A loop of two iterations.
const two = "function; pipe 1; emit 0; ret; function; set 1 1; add 0 0 1; set 2 2; less 3 2 0; zero 3 6; break; wait 1; emit 0; set 4 5; cont 4; set 0 70; ret"

// Promises 29.1, 29.2: a loop's iterations come one behind the other.
func TestLoop(t *testing.T) {
	p := read(t, 0, two)
	holds(t, p, nil, 999, serial.Outcome{Status: api.Done, Output: []int{1, 2, 3}, Steps: 31, Frames: 5, Deepest: 3},
		"L1 I0 w1 T1 c5 d0 I1 w1 T2 c5 d1 I2 d2 l1 T3")
}

// Promise 29.1: registers go from iteration to iteration at the end of the first stage alone.
func TestLoopRegisters(t *testing.T) {
	p := read(t, 0, "function; set 5 3; pipe 1; emit 5; emit 6; ret; function; emit 5; set 1 1; sub 5 5 1; zero 5 5; ret; set 6 8; break")
	holds(t, p, nil, 999, serial.Outcome{Status: api.Done, Output: []int{3, 2, 1, 0, 8}, Steps: 21, Frames: 5, Deepest: 3}, "L1 I0 T3 d0 I1 T2 d1 I2 T1 d2 l1 T0 T8")
	p = read(t, 0, "function; pipe 1; emit 5; ret; function; set 1 1; zero 5 3; break; set 5 1; cont 1; set 5 0; ret")
	holds(t, p, nil, 999, serial.Outcome{Status: api.Done, Output: []int{1}, Steps: 12, Frames: 4, Deepest: 3}, "L1 I0 c1 d0 I1 d1 l1 T1")
}

// Promises 29.1, 29.2: loops within iterations, children within stages, and what they meet.
func TestNested(t *testing.T) {
	p := read(t, 1, "function; spawn 3; pipe 1; ret; function; set 1 1; zero 0 3; break; add 0 0 1; spawn 3; wait 1; spawn 3; pipe 2; spawn 3; ret; function; spawn 3; break; function; fetch 7 2 1; ret")
	holds(t, p, nil, 999, serial.Outcome{Status: api.Done, Memory: []int{4}, Steps: 27, Frames: 11, Deepest: 6},
		"f W0 r m L1 I0 f W0 r m w1 f W0 r m L2 I0 f W0 r m d0 l2 f W0 r m d0 I1 d1 l1")
}

// Promise 29.1: faults: what the machine faults with; they mark nothing but what is met ahead of them.
func TestFaults(t *testing.T) {
	for i, x := range []struct {
		text   string
		why    int
		steps  int
		frames int
		marks  string
	}{
		{"function; div 1 2 3; ret", api.DivZero, 1, 1, ""},
		{"function; set 1 2; mod 1 1 3; ret", api.DivZero, 2, 1, ""},
		{"function; set 1 2; load 0 1; ret", api.Bounds, 2, 1, ""},
		{"function; set 1 -1; store 1 0; ret", api.Bounds, 2, 1, ""},
		{"function; set 1 2; fetch 0 1 1; ret", api.Bounds, 2, 1, ""},
		{"function; set 1 2; swap 0 1 1; ret", api.Bounds, 2, 1, ""},
		{"function; wait 1; ret", api.NotPipe, 1, 1, ""},
		{"function; cont 1; ret", api.NotPipe, 1, 1, ""},
		{"function; break", api.NotPipe, 1, 1, ""},
		{"function; spawn 1; wait 1; ret; function; ret", api.NotPipe, 3, 2, "f r m"},
		{"function; spawn 1; div 0 0 1; ret; function; ret", api.DivZero, 3, 2, "f r"},
		{"function; spawn 1; ret; function; break", api.NotPipe, 2, 2, "f"},
		{"function; pipe 1; ret; function; wait 0; ret", api.BadStage, 2, 3, "L1 I0"},
		{"function; pipe 1; ret; function; set 1 3; wait 1; cont 1; ret", api.BadStage, 4, 3, "L1 I0 w3"},
		{"function; pipe 1; ret; function; set 1 3; cont 1; spawn 2; break; function; ret", api.LateBreak, 6, 4, "L1 I0 c3 f r m"},
		{"function; pipe 1; ret; function; set 1 1024; mul 1 1 1; cont 1; ret", api.BadStage, 4, 3, "L1 I0"},
	} {
		p := read(t, 2, x.text)
		o, e := serial.Eval(p, nil, 999)
		if e != api.OK || o.Status != api.Faulted || o.Why != x.why || o.Steps != x.steps || o.Frames != x.frames {
			t.Errorf("%d: %+v", i, o)
		}
		if got := marks(serial.Marks(p, nil, 999)); got != x.marks {
			t.Errorf("%d: %s; want %s", i, got, x.marks)
		}
	}
}

// Promise 29.1: fuel, its bounds, and what begins although it is done.
func TestFuel(t *testing.T) {
	again := read(t, 0, "function; jump 0")
	for fuel, want := range map[int]int{0: 0, 1: 1, -1: 0, least: 0, 99999: 99999, 100000: 100000, 100001: 100000, most: 100000} {
		o, e := serial.Eval(again, nil, fuel)
		if e != api.OK || o.Status != api.Out || o.Why != 0 || o.Steps != want || o.Frames != 1 || o.Deepest != 1 {
			t.Error(fuel, o)
		}
	}
	ret := read(t, 0, "function; ret")
	if o, _ := serial.Eval(ret, nil, 0); o.Status != api.Out || o.Steps != 0 {
		t.Error(o)
	}
	if o, _ := serial.Eval(ret, nil, 1); o.Status != api.Done || o.Steps != 1 {
		t.Error(o)
	}
	child := read(t, 0, "function; spawn 1; sync; ret; function; ret")
	holds(t, child, nil, 1, serial.Outcome{Status: api.Out, Steps: 1, Frames: 2, Deepest: 2}, "f")
	holds(t, child, nil, 2, serial.Outcome{Status: api.Out, Steps: 2, Frames: 2, Deepest: 2}, "f r") // what is met is the next instruction's
	holds(t, child, nil, 3, serial.Outcome{Status: api.Out, Steps: 3, Frames: 2, Deepest: 2}, "f r m")
	holds(t, child, nil, 4, serial.Outcome{Status: api.Done, Steps: 4, Frames: 2, Deepest: 2}, "f r m")
	loop := read(t, 0, "function; pipe 1; ret; function; ret")
	holds(t, loop, nil, 1, serial.Outcome{Status: api.Out, Steps: 1, Frames: 3, Deepest: 3}, "L1 I0")
	holds(t, loop, nil, 3, serial.Outcome{Status: api.Out, Steps: 3, Frames: 5, Deepest: 3}, "L1 I0 d0 I1 d1 I2")
}

// Promise 29.1: as much output as there is.
func TestOutput(t *testing.T) {
	o, _ := serial.Eval(read(t, 0, "function; emit 0; jump 0"), nil, 6000)
	if len(o.Output) != 3000 {
		t.Error(len(o.Output))
	}
}

// Promise 29.1: children in children.
func TestDeep(t *testing.T) {
	o, _ := serial.Eval(read(t, 0, "function; spawn 0; ret"), nil, 100000)
	if o.Status != api.Out || o.Frames != 100001 || o.Deepest != 100001 {
		t.Error(o.Status, o.Frames, o.Deepest)
	}
}

// Promise 29.3: with more fuel nothing that was done is done otherwise.
func TestMoreFuel(t *testing.T) {
	p := read(t, 1, "function; spawn 3; pipe 1; ret; function; set 1 1; zero 0 3; break; add 0 0 1; spawn 3; wait 1; emit 0; spawn 3; pipe 2; spawn 3; ret; function; spawn 3; break; function; fetch 7 2 1; ret")
	all := serial.Marks(p, nil, 999)
	end, _ := serial.Eval(p, nil, 999)
	last := 0
	for fuel := range 40 {
		l := serial.Marks(p, nil, fuel)
		o, _ := serial.Eval(p, nil, fuel)
		if len(l) < last || len(l) > len(all) || !slices.Equal(l, all[:len(l)]) {
			t.Error(fuel, marks(l))
		}
		last = len(l)
		if o.Steps != min(fuel, end.Steps) || (o.Status == api.Done) != (fuel >= end.Steps) || len(o.Output) > len(end.Output) || !slices.Equal(o.Output, end.Output[:len(o.Output)]) {
			t.Error(fuel, o)
		}
	}
}
