package step_test

import (
	"testing"

	"forebay/api"
	"forebay/step"
	"forebay/wrap"
)

const (
	least = -1 << 63
	most  = 1<<63 - 1
)

type registers = [api.Regs]int

// filled are registers that are all apart, some of them great.
var filled = registers{10, -11, 0, 13, most, 15, least, 17}

// with is regs with one register changed.
func with(regs registers, reg, n int) registers {
	regs[reg] = n
	return regs
}

// Promise 8.1: each operation's effect, registers and place.
func TestDo(t *testing.T) {
	for _, x := range []struct {
		in   api.Ins
		pc   int
		regs registers
		e    step.Effect
	}{
		{api.Ins{Op: api.Set, A: 2, B: 5}, 8, with(filled, 2, 5), step.Effect{}},
		{api.Ins{Op: api.Set, A: 7, B: most}, 8, with(filled, 7, most), step.Effect{}},
		{api.Ins{Op: api.Move, A: 1, B: 3}, 8, with(filled, 1, 13), step.Effect{}},
		{api.Ins{Op: api.Move, A: 3, B: 1, C: 9}, 8, with(filled, 3, -11), step.Effect{}},
		{api.Ins{Op: api.Load, A: 2, B: 3}, 8, filled, step.Effect{Kind: step.Read, At: 13, Reg: 2}},
		{api.Ins{Op: api.Store, A: 3, B: 5}, 8, filled, step.Effect{Kind: step.Write, At: 13, Value: 15}},
		{api.Ins{Op: api.Fetch, A: 4, B: 3, C: 7}, 8, filled, step.Effect{Kind: step.More, At: 13, Value: 17, Reg: 4}},
		{api.Ins{Op: api.Swap, A: 5, B: 3, C: 7}, 8, filled, step.Effect{Kind: step.Change, At: 13, Value: 15, Other: 17, Reg: 5}},
		{api.Ins{Op: api.Emit, A: 6}, 8, filled, step.Effect{Kind: step.Tell, Value: least}},
		{api.Ins{Op: api.Jump, A: 3}, 3, filled, step.Effect{}},
		{api.Ins{Op: api.Jump, A: -9}, -9, filled, step.Effect{}},
		{api.Ins{Op: api.Zero, A: 2, B: 99}, 99, filled, step.Effect{}},
		{api.Ins{Op: api.Zero, A: 2, B: most}, most, filled, step.Effect{}},
		{api.Ins{Op: api.Zero, A: 1, B: 99}, 8, filled, step.Effect{}},
		{api.Ins{Op: api.Spawn, A: 5}, 8, filled, step.Effect{Kind: step.Fork, Value: 5}},
		{api.Ins{Op: api.Spawn, A: 15}, 8, filled, step.Effect{Kind: step.Fork, Value: 15}},
		{api.Ins{Op: api.Sync}, 8, filled, step.Effect{Kind: step.Meet}},
		{api.Ins{Op: api.Pipe, A: 12}, 8, filled, step.Effect{Kind: step.Pipe, Value: 12}},
		{api.Ins{Op: api.Wait, A: 3}, 8, filled, step.Effect{Kind: step.Wait, Value: 13}},
		{api.Ins{Op: api.Cont, A: 7}, 8, filled, step.Effect{Kind: step.Cont, Value: 17}},
		{api.Ins{Op: api.Break}, 8, filled, step.Effect{Kind: step.Leave}},
		{api.Ins{Op: api.Ret}, 8, filled, step.Effect{Kind: step.Back}},
		{api.Ins{Op: api.Ops, A: 1, B: 2, C: 3}, 8, filled, step.Effect{}},
		{api.Ins{Op: -1, A: 1, B: 2, C: 3}, 8, filled, step.Effect{}},
		{api.Ins{Op: least, A: least, B: most}, 8, filled, step.Effect{}},
	} {
		pc, regs, e, fault := step.Do(x.in, 7, filled)
		if pc != x.pc || regs != x.regs || e != x.e || fault != 0 {
			t.Errorf("%v: %d, %v, %v, %d", x.in, pc, regs, e, fault)
		}
	}
}

// Promise 8.1: operands that name a register are held.
func TestHeld(t *testing.T) {
	for _, x := range []struct {
		in   api.Ins
		regs registers
		e    step.Effect
	}{
		{api.Ins{Op: api.Set, A: 99, B: 1}, with(filled, 7, 1), step.Effect{}},
		{api.Ins{Op: api.Set, A: least, B: 1}, with(filled, 0, 1), step.Effect{}},
		{api.Ins{Op: api.Move, A: -1, B: 8}, with(filled, 0, 17), step.Effect{}},
		{api.Ins{Op: api.Add, A: 8, B: -5, C: 9}, with(filled, 7, 27), step.Effect{}},
		{api.Ins{Op: api.Load, A: 9, B: -1}, filled, step.Effect{Kind: step.Read, At: 10, Reg: 7}},
		{api.Ins{Op: api.Load, A: -2, B: most}, filled, step.Effect{Kind: step.Read, At: 17}},
		{api.Ins{Op: api.Store, A: -2, B: 8}, filled, step.Effect{Kind: step.Write, At: 10, Value: 17}},
		{api.Ins{Op: api.Fetch, A: 8, B: -1, C: 8}, filled, step.Effect{Kind: step.More, At: 10, Value: 17, Reg: 7}},
		{api.Ins{Op: api.Swap, A: 8, B: -1, C: -1}, filled, step.Effect{Kind: step.Change, At: 10, Value: 17, Other: 10, Reg: 7}},
		{api.Ins{Op: api.Emit, A: 8}, filled, step.Effect{Kind: step.Tell, Value: 17}},
		{api.Ins{Op: api.Wait, A: 100}, filled, step.Effect{Kind: step.Wait, Value: 17}},
		{api.Ins{Op: api.Cont, A: -100}, filled, step.Effect{Kind: step.Cont, Value: 10}},
		{api.Ins{Op: api.Spawn, A: 100}, filled, step.Effect{Kind: step.Fork, Value: 100}},
		{api.Ins{Op: api.Pipe, A: -100}, filled, step.Effect{Kind: step.Pipe, Value: -100}},
	} {
		pc, regs, e, fault := step.Do(x.in, -3, filled)
		if pc != -2 || regs != x.regs || e != x.e || fault != 0 {
			t.Errorf("%v: %d, %v, %v, %d", x.in, pc, regs, e, fault)
		}
	}
	regs := with(filled, 7, 0)
	if pc, _, _, _ := step.Do(api.Ins{Op: api.Zero, A: 50, B: 4}, 0, regs); pc != 4 {
		t.Error(pc)
	}
	if pc, _, _, _ := step.Do(api.Ins{Op: api.Set}, most, regs); pc != least {
		t.Error(pc)
	}
}

// Promise 8.1: operations of two numbers are wrap's; with a fault the place and the registers stay.
func TestTwo(t *testing.T) {
	for op := api.Add; op <= api.Xor; op++ {
		for b := range api.Regs {
			for c := range api.Regs {
				pc, regs, e, fault := step.Do(api.Ins{Op: op, A: 5, B: b, C: c}, 7, filled)
				n, want := wrap.Do(op, filled[b], filled[c])
				if want != 0 {
					if pc != 7 || regs != filled || e != (step.Effect{}) || fault != api.DivZero {
						t.Error(op, b, c, pc, regs, e, fault)
					}
				} else if pc != 8 || regs != with(filled, 5, n) || e != (step.Effect{}) || fault != 0 {
					t.Error(op, b, c, pc, regs, e, fault)
				}
			}
		}
	}
}

// Promise 8.2: what comes back stands in the register.
func TestTook(t *testing.T) {
	for _, x := range []struct {
		e    step.Effect
		got  int
		want registers
	}{
		{step.Effect{Kind: step.Read, Reg: 3}, 44, with(filled, 3, 44)},
		{step.Effect{Kind: step.More, Reg: 0}, -44, with(filled, 0, -44)},
		{step.Effect{Kind: step.Read, Reg: 99}, 44, with(filled, 7, 44)},
		{step.Effect{Kind: step.More, Reg: -1}, 44, with(filled, 0, 44)},
		{step.Effect{Kind: step.Change, Reg: 2, Value: 6, Other: 9}, 6, with(filled, 2, 1)},
		{step.Effect{Kind: step.Change, Reg: 5, Value: 6, Other: 9}, 9, with(filled, 5, 0)},
		{step.Effect{Kind: step.Change, Reg: 8, Value: 6, Other: 9}, 6, with(filled, 7, 1)},
		{step.Effect{Kind: step.Change, Reg: -8}, 3, with(filled, 0, 0)},
		{step.Effect{Kind: step.Write, Reg: 3}, 44, filled},
		{step.Effect{Kind: step.None, Reg: 3}, 44, filled},
		{step.Effect{Kind: step.Tell, Reg: 3}, 44, filled},
		{step.Effect{Kind: step.Back, Reg: 3}, 44, filled},
		{step.Effect{Kind: 99, Reg: 3}, 44, filled},
		{step.Effect{Kind: -1, Reg: 3}, 44, filled},
	} {
		if got := step.Took(filled, x.e, x.got); got != x.want {
			t.Errorf("%v: %v", x.e, got)
		}
	}
}

// Promise 8.2: which effects ask memory, and which need that all has returned.
func TestKinds(t *testing.T) {
	asks := map[int]bool{step.Read: true, step.Write: true, step.More: true, step.Change: true}
	ends := map[int]bool{step.Meet: true, step.Pipe: true, step.Wait: true, step.Cont: true, step.Leave: true, step.Back: true}
	for kind := -2; kind < 20; kind++ {
		e := step.Effect{Kind: kind, At: 1, Value: 2, Other: 3, Reg: 4}
		if step.Asks(e) != asks[kind] || step.Ends(e) != ends[kind] {
			t.Error(kind, step.Asks(e), step.Ends(e))
		}
	}
	for i, kind := range []int{
		step.None, step.Read, step.Write, step.More, step.Change, step.Tell, step.Fork, step.Meet, step.Pipe, step.Wait, step.Cont, step.Leave, step.Back,
	} {
		if i != kind {
			t.Error(i, kind)
		}
	}
}

// Promise 8.3: registers that an instruction does not name stay.
func TestStays(t *testing.T) {
	for op := range api.Ops {
		for a := range api.Regs {
			_, regs, e, _ := step.Do(api.Ins{Op: op, A: a, B: 3, C: 4}, 0, filled)
			took := step.Took(regs, e, 1234)
			for i := range api.Regs {
				if i != a && (regs[i] != filled[i] || took[i] != filled[i]) {
					t.Error(op, a, i, regs, took)
				}
			}
		}
	}
}
