package whole

import (
	"errors"
	"fmt"
	"math"
	"reflect"
	"testing"

	"forebay/api"
	"forebay/arena"
	"forebay/asm"
	"forebay/audit"
	"forebay/bits"
	"forebay/bound"
	"forebay/build"
	"forebay/compare"
	"forebay/console"
	"forebay/core"
	"forebay/cross"
	"forebay/deque"
	"forebay/fault"
	"forebay/frame"
	"forebay/grid"
	"forebay/ins"
	"forebay/join"
	"forebay/layout"
	"forebay/log"
	"forebay/machine"
	"forebay/model"
	"forebay/picture"
	"forebay/prog"
	"forebay/race"
	"forebay/reach"
	"forebay/replay"
	"forebay/ring"
	"forebay/run"
	"forebay/sched"
	"forebay/serial"
	"forebay/sink"
	"forebay/span"
	"forebay/stage"
	"forebay/step"
	"forebay/store"
	"forebay/strand"
	"forebay/sweep"
	"forebay/throttle"
	"forebay/ticket"
	"forebay/tidy"
	"forebay/token"
	"forebay/trace"
	"forebay/words"
	"forebay/worker"
	"forebay/wrap"
)

// calls are all functions that the chapters list.
var calls = []any{
	wrap.Known, wrap.Do, wrap.Sum, wrap.Power, bits.Put, bits.Signed, bits.Fits, bits.New, ins.Name, ins.Of, ins.Form, ins.Check, ins.Put, ins.Get,
	prog.Check, prog.Put, prog.Get, words.Fields, words.Join, words.Lines, words.Of, words.Num, words.List, words.Nums, asm.Line, asm.Parse, asm.Text, asm.Read,
	build.New, step.Do, step.Took, step.Asks, step.Ends, store.New, arena.New, ticket.Ask, deque.Push, deque.Pop, deque.Steal, model.New[int], model.Equal[int], model.New[any], model.Equal[any],
	token.Of, token.Loop, token.Iter, token.Stage, token.Is, token.Next, frame.Root, frame.New, ring.New, join.Spawn, join.Leave, join.Again, cross.Look, cross.Stop,
	throttle.Sleep, throttle.Close, throttle.May, stage.Go, stage.Past, stage.Row, sink.New, sink.Begins, sink.Differ, fault.Name, fault.Of, fault.Kind, fault.At, fault.Line, fault.Back,
	log.New, core.Check, core.New, worker.New, machine.New, machine.Active, machine.Most, run.Run, run.Trace, run.Statuses, run.Say, serial.Eval, serial.Marks, strand.Build,
	reach.New, reach.Longest, reach.Order, race.Find, race.Judge, grid.Node, grid.Iter, grid.Stage, grid.Check, grid.Edges, grid.Before, grid.Step, grid.Mirror,
	trace.Check, trace.Rows, trace.Begun, trace.Follows, bound.Frames, bound.Deque, bound.Steps, bound.Params, sched.Round, sched.Turns, sched.Window, sched.Fair, sched.Count, sched.Bytes, sched.Read,
	audit.Look, audit.Check, audit.Idle, audit.Waiting, picture.Text, picture.Read, picture.Chart, console.New, console.Play, compare.Agrees, compare.Add, compare.Spread, compare.Least,
	span.Weights, span.Work, span.Span, span.Levels, span.Widest, span.Greedy, span.Plan, tidy.Reached, tidy.Useless, tidy.Round, tidy.Program,
	replay.Pack, replay.Unpack, replay.Ended, replay.Part, replay.Loops, sweep.Orders, sweep.Sweep, sweep.Verdict,
	layout.Plan{}, stage.Left{}, ticket.Turn{}, ring.Ring{}, frame.Frame{}, // whose methods are called, too
}

// anything draws values of any type.
type anything struct {
	dice
	found map[reflect.Type][]reflect.Value // what was answered, that may be handed in again
}

var numbers = []int{0, 0, 1, 1, 2, 3, 4, 5, 7, 8, 16, 64, 65, 200, 255, 256, 257, -1, -2, 1000, 1001, 1 << 20, 1<<20 - 1, 1 << 31, 1 << 40, 1 << 60, math.MaxInt, math.MinInt, math.MaxInt - 1, math.MinInt + 1}

// number is a number, mostly a small one.
func (a *anything) number() int {
	if !a.one(3) {
		return a.roll(12) - 1
	}
	return numbers[a.roll(len(numbers))]
}

var texts = []string{
	"", " ", "ret", "set 1 2", "jump 0", "memory 3", "function", "memory 0\nfunction\nret\n", "code memory 0", "code function", "code ret", "begin", "turns 50 0", "step 1 1", "stats",
	"worker 0", "events 30", "output", "output 5", "0 >2 -5\n0\n", "1,-2,3", "-", "9223372036854775808", "HR\x01\x01\x00\x00\x00\x01\x00\x00\x00\x00", "HR\x01", "\xff\xfe", "ab", "ä\x80", "x y z", "fold on", "input 1,2",
}

// value is a value of a type.
func (a *anything) value(t reflect.Type, deep int) reflect.Value {
	if l := a.found[t]; len(l) > 0 && !a.one(4) {
		return l[a.roll(len(l))]
	}
	v := reflect.New(t).Elem()
	switch t.Kind() {
	case reflect.Int:
		v.SetInt(int64(a.number()))
	case reflect.Uint64:
		v.SetUint(uint64(a.number()))
	case reflect.Bool:
		v.SetBool(a.one(2))
	case reflect.String:
		v.SetString(texts[a.roll(len(texts))])
	case reflect.Complex128:
		parts := []float64{0, 1, 2.5, -1, math.NaN(), math.Inf(1), math.Inf(-1), 1e300}
		v.SetComplex(complex(parts[a.roll(8)], parts[a.roll(8)]))
	case reflect.Slice:
		if deep > 0 && !a.one(5) {
			for range a.roll(5) {
				v = reflect.Append(v, a.value(t.Elem(), deep-1))
			}
		}
	case reflect.Array:
		for i := range t.Len() {
			v.Index(i).Set(a.value(t.Elem(), deep-1))
		}
	case reflect.Struct:
		for i := range t.NumField() {
			if t.Field(i).IsExported() {
				v.Field(i).Set(a.value(t.Field(i).Type, deep))
			}
		}
	case reflect.Pointer:
		if a.one(3) {
			v.Set(reflect.New(t.Elem()))
		}
	case reflect.Func:
		if !a.one(3) {
			v.Set(reflect.MakeFunc(t, func([]reflect.Value) []reflect.Value {
				var l []reflect.Value
				for i := range t.NumOut() {
					l = append(l, reflect.Zero(t.Out(i)))
				}
				return l
			}))
		}
	case reflect.Interface:
		l := []any{nil, 1, "a", []int{1}, api.ErrRange, fault.Of(3, 1, 2), errors.New("divide")}
		if x := reflect.ValueOf(l[a.roll(len(l))]); x.IsValid() && x.Type().Implements(t) {
			v.Set(x)
		}
	}
	return v
}

// call calls a function with anything, and keeps what it answers.
func (a *anything) call(t *testing.T, name string, f reflect.Value) {
	var in []reflect.Value
	for i := range f.Type().NumIn() {
		in = append(in, a.value(f.Type().In(i), 4))
	}
	defer func() {
		if x := recover(); x != nil {
			t.Fatalf("%s of %v: %v", name, in, x)
		}
	}()
	var out []reflect.Value
	if f.Type().IsVariadic() {
		out = f.CallSlice(in)
	} else {
		out = f.Call(in)
	}
	for _, v := range out {
		a.keep(v)
	}
}

// keep keeps what was answered.
func (a *anything) keep(v reflect.Value) {
	switch v.Kind() {
	case reflect.Pointer, reflect.Struct, reflect.Slice, reflect.String:
		if (v.Kind() == reflect.Slice || v.Kind() == reflect.String) && v.Len() > 3000 {
			return
		}
		l := a.found[v.Type()]
		if len(l) < 12 {
			l = append(l, v)
		} else {
			l[a.roll(12)] = v
		}
		a.found[v.Type()] = l
	}
}

// methods calls some methods of what was found.
func (a *anything) methods(t *testing.T, many int) {
	var kinds []reflect.Type
	for kind := range a.found {
		if kind.NumMethod() > 0 {
			kinds = append(kinds, kind)
		}
	}
	for _, kind := range kinds {
		for range many {
			m := a.roll(kind.NumMethod())
			v := a.value(kind, 2)
			if kind.Kind() == reflect.Pointer && v.IsNil() && kind.Elem().NumMethod() > 0 {
				continue // a method of a value, of which there is none
			}
			a.call(t, fmt.Sprint(kind, ".", kind.Method(m).Name), v.Method(m))
		}
	}
}

// TestAnything: P1: no call panics, and each ends, at all arguments.
func TestAnything(t *testing.T) {
	for seed := range 6 {
		a := &anything{dice{uint64(seed)}, map[reflect.Type][]reflect.Value{}}
		for i := range 30 {
			a.keep(reflect.ValueOf(program(seed*100+i, i%2 == 0)))
			a.keep(reflect.ValueOf(put(t, random(seed*100+i))))
			a.keep(reflect.ValueOf(a.params()))
			a.keep(reflect.ValueOf(serial.Marks(program(i, true), nil, 300)))
		}
		for range 40 {
			for _, f := range calls {
				v := reflect.ValueOf(f)
				if v.Kind() == reflect.Func {
					a.call(t, v.Type().String(), v)
				} else {
					a.keep(v)
				}
			}
			a.methods(t, 12)
		}
	}
}
