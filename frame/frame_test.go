package frame_test

import (
	"slices"
	"testing"

	"forebay/api"
	"forebay/frame"
	"forebay/layout"
	"forebay/store"
)

const (
	least = -1 << 63
	most  = 1<<63 - 1
)

// full is a frame of which nothing is zero.
var full = frame.Frame{
	Kind: 9, Fn: 8, Pc: 7, Regs: [api.Regs]int{1, 2, 3, 4, 5, 6, 7, 8}, Parent: 6, Dirty: true, Due: true,
	Index: 5, Stage: 4, Fold: 3, Started: 2, Serial: 1,
}

// Promise 16.1: frames of frames.
func TestFrames(t *testing.T) {
	if f := frame.Root(); f != (frame.Frame{Kind: 1}) {
		t.Error(f)
	}
	if f := full.Child(11, 3); f != (frame.Frame{Kind: 1, Fn: 3, Regs: full.Regs, Parent: 11}) {
		t.Error(f)
	}
	if f := full.Loop(11, 3, 44); f != (frame.Frame{Kind: 3, Fn: 3, Regs: full.Regs, Parent: 11, Serial: 44}) {
		t.Error(f)
	}
	if f := full.Iter(11); f != (frame.Frame{Kind: 2, Fn: 8, Regs: full.Regs, Parent: 11, Index: 2}) {
		t.Error(f)
	}
	if f := frame.Root().Child(1, 3); f != (frame.Frame{Kind: api.Task, Fn: 3, Parent: 1}) {
		t.Error(f)
	}
	if f := frame.Root().Child(least, most); f.Parent != least || f.Fn != most {
		t.Error(f)
	}
	if full.Kind != 9 || full.Regs[7] != 8 {
		t.Error("what was handed over has changed")
	}
}

// plan has two frames of 14 words each, from 5 on.
var plan = layout.Plan{Workers: 1, Frames: 2, Throttle: 2, Deque: 2}

// Promise 16.2: frames are made, found, freed and counted.
func TestTable(t *testing.T) {
	s := store.New(plan.Size())
	tab := frame.New(plan, s)
	if tab.Used() != 0 || tab.Peak() != 0 || tab.At(1) != nil || tab.Free(1) {
		t.Error("not empty")
	}
	if id, ok := tab.Make(full); id != 1 || !ok {
		t.Error(id, ok)
	}
	if id, ok := tab.Make(frame.Root()); id != 2 || !ok {
		t.Error(id, ok)
	}
	if id, ok := tab.Make(full); id != 0 || ok {
		t.Error(id, ok)
	}
	if *tab.At(1) != full || *tab.At(2) != frame.Root() || tab.Used() != 2 || tab.Peak() != 2 {
		t.Error(tab.At(1), tab.At(2), tab.Used(), tab.Peak())
	}
	tab.At(1).Pc = 99 // the frame itself
	if tab.At(1).Pc != 99 || full.Pc != 7 || tab.At(2).Pc != 0 {
		t.Error(tab.At(1), full.Pc)
	}
	for _, id := range []int{0, -1, 3, 256, least, most} {
		if tab.At(id) != nil || tab.Free(id) {
			t.Error(id)
		}
	}
	if !tab.Free(1) || tab.Free(1) || tab.At(1) != nil || tab.Used() != 1 || tab.Peak() != 2 {
		t.Error("not freed")
	}
	if id, ok := tab.Make(frame.Frame{}); id != 1 || !ok || *tab.At(1) != (frame.Frame{}) {
		t.Error(id, ok)
	}
	tab.Free(1)
	tab.Free(2)
	if id, _ := tab.Make(full); id != 2 { // the one that was given back last
		t.Error(id)
	}
}

// Promise 16.2: the words of a frame that is made: all 0, but its Join, that is 1; a hook sees none of that.
func TestWords(t *testing.T) {
	s := store.New(plan.Size())
	s.Fill(0, plan.Size(), 8)
	seen := 0
	s.Hook(func(int, bool) { seen++ })
	tab := frame.New(plan, s)
	if !slices.Equal(s.All(), slices.Repeat([]int{8}, plan.Size())) {
		t.Error(s.All())
	}
	tab.Make(full)
	want := slices.Repeat([]int{8}, plan.Size())
	at := plan.Frame(1)
	clear(want[at : at+plan.Room()])
	want[at] = 1
	if !slices.Equal(s.All(), want) || seen != 0 {
		t.Error(s.All(), seen)
	}
	tab.Make(full)
	at = plan.Frame(2)
	clear(want[at : at+plan.Room()])
	want[at] = 1
	if !slices.Equal(s.All(), want) || seen != 0 {
		t.Error(s.All(), seen)
	}
	s.Fill(0, plan.Size(), 5)
	tab.Free(1)
	if !slices.Equal(s.All(), slices.Repeat([]int{5}, plan.Size())) || seen != 0 {
		t.Error(s.All())
	}
	tab.Make(full)
	if n, _ := s.Load(plan.Frame(1)); n != 1 {
		t.Error(n)
	}
	if n, _ := s.Load(plan.Done(1, 2)); n != 0 {
		t.Error(n)
	}
	if n, _ := s.Load(plan.Frame(2)); n != 5 {
		t.Error(n)
	}
}

// Promise 16.2: of nil, of a plan that may not be, of no words.
func TestNone(t *testing.T) {
	for i, tab := range []*frame.Table{nil, new(frame.Table), frame.New(layout.Plan{}, store.New(9)), frame.New(layout.Plan{Workers: 1, Frames: 300, Throttle: 1, Deque: 2}, nil)} {
		id, ok := tab.Make(full)
		if id != 0 || ok || tab.At(1) != nil || tab.Free(1) || tab.Used() != 0 || tab.Peak() != 0 {
			t.Error(i)
		}
	}
	tab := frame.New(plan, nil)
	if id, ok := tab.Make(full); id != 1 || !ok || *tab.At(1) != full {
		t.Error(id, ok)
	}
}

// Promise 16.3: what is done to one frame changes no other.
func TestApart(t *testing.T) {
	s := store.New(plan.Size())
	tab := frame.New(plan, s)
	tab.Make(frame.Root())
	tab.Make(frame.Root())
	old := tab.At(1)
	old.Regs[3] = 4
	if *tab.At(2) != frame.Root() {
		t.Error(*tab.At(2))
	}
	tab.Free(1)
	tab.Make(full)
	old.Pc = 1234 // a frame that is none any more
	if *tab.At(1) != full {
		t.Error(*tab.At(1))
	}
}
