package model_test

import (
	"slices"
	"testing"

	"forebay/deque"
	"forebay/layout"
	"forebay/model"
	"forebay/store"
)

const (
	least = -1 << 63
	most  = 1<<63 - 1
)

// in holds what is in a deque against a list.
func in[T comparable](t *testing.T, d *model.Deque[T], want ...T) {
	t.Helper()
	if got := slices.Collect(d.All()); !slices.Equal(got, want) || d.Len() != len(want) {
		t.Errorf("%v, %d; want %v", got, d.Len(), want)
	}
}

// Promise 14.1: both ends.
func TestEnds(t *testing.T) {
	d := model.New[string](4)
	in(t, d)
	if x, ok := d.Pop(); x != "" || ok {
		t.Error(x, ok)
	}
	if x, ok := d.Steal(); x != "" || ok {
		t.Error(x, ok)
	}
	for _, x := range []string{"a", "b", "c", "d"} {
		if !d.Push(x) {
			t.Error(x)
		}
	}
	if d.Push("e") {
		t.Error("pushed one too many")
	}
	in(t, d, "a", "b", "c", "d")
	if x, ok := d.Steal(); x != "a" || !ok {
		t.Error(x, ok)
	}
	if x, ok := d.Pop(); x != "d" || !ok {
		t.Error(x, ok)
	}
	in(t, d, "b", "c")
	if !d.Push("f") || !d.Push("g") || d.Push("h") {
		t.Error("push")
	}
	in(t, d, "b", "c", "f", "g")
	for _, want := range []string{"g", "f", "c", "b"} {
		if x, ok := d.Pop(); x != want || !ok {
			t.Error(x, ok)
		}
	}
	in(t, d)
	if x, ok := d.Steal(); x != "" || ok {
		t.Error(x, ok)
	}
}

// Promise 14.1: how many there may be.
func TestMost(t *testing.T) {
	for n, want := range map[int]int{0: 0, 1: 1, -3: 0, least: 0, 1000: 1000, 1001: 1000, most: 1000} {
		d := model.New[int](n)
		pushed := 0
		for range 1100 {
			if d.Push(7) {
				pushed++
			}
		}
		if pushed != want || d.Len() != want {
			t.Error(n, pushed, d.Len())
		}
	}
}

// Promise 14.1: things are told as long as they are asked for, and may be changed meanwhile.
func TestAll(t *testing.T) {
	d := model.New[int](9)
	for i := range 6 {
		d.Push(i)
	}
	var l []int
	for x := range d.All() {
		l = append(l, x)
		if x == 3 {
			break
		}
	}
	if !slices.Equal(l, []int{0, 1, 2, 3}) {
		t.Error(l)
	}
	n := 0
	for range d.All() {
		d.Push(9)
		n++
	}
	if n != 6 || d.Len() != 9 {
		t.Error(n, d.Len())
	}
}

// Promise 14.2: what is the same.
func TestEqual(t *testing.T) {
	of := func(most int, l ...int) *model.Deque[int] {
		d := model.New[int](most)
		for _, x := range l {
			d.Push(x)
		}
		return d
	}
	moved := of(3, 9, 1, 2)
	moved.Steal()
	for i, x := range []struct {
		a, b *model.Deque[int]
		want bool
	}{
		{of(3), of(4), true},
		{of(3, 1), of(4, 1), true},
		{of(3, 1, 2), of(4, 1, 2), true},
		{of(3, 1, 2), of(4, 2, 1), false},
		{of(3, 1, 2), of(4, 1), false},
		{of(3, 1), of(4, 1, 2), false},
		{of(3, 1), of(4, 2), false},
		{of(3, 1, 2), of(3, 3, 2), false},
		{moved, of(2, 1, 2), true},
		{nil, nil, true},
		{nil, of(3), true},
		{of(3), nil, true},
		{of(3, 1), nil, false},
		{nil, of(3, 0), false},
	} {
		if got := model.Equal(x.a, x.b); got != x.want {
			t.Error(i, got)
		}
	}
}

// Promise P1: things that turn out not to be comparable are not the same.
func TestEqualOfAny(t *testing.T) {
	a, b := model.New[any](2), model.New[any](2)
	a.Push([]int{1})
	b.Push([]int{1})
	if model.Equal(a, b) {
		t.Error("the same")
	}
	a, b = model.New[any](2), model.New[any](2)
	a.Push(1)
	b.Push(1)
	if !model.Equal(a, b) {
		t.Error("not the same")
	}
}

// Promise 14.1: of nil, and of nothing.
func TestNil(t *testing.T) {
	var d *model.Deque[int]
	_, a := d.Pop()
	_, b := d.Steal()
	if d.Push(1) || a || b || d.Len() != 0 {
		t.Error("of nil")
	}
	in(t, d)
	z := new(model.Deque[int])
	_, a = z.Pop()
	_, b = z.Steal()
	if z.Push(1) || a || b {
		t.Error("of nothing")
	}
	z.All()(nil)
}

// end lets a walk come to its end.
func end(s *store.Store, w *deque.Walk) *deque.Walk {
	for !w.Step(s) {
	}
	return w
}

// Promise 14.3: walks one behind the other are pushes, pops and steals of a deque of one fewer things than slots.
func TestWalks(t *testing.T) {
	for slots := 2; slots < 7; slots++ {
		plan := layout.Plan{Workers: 2, Frames: 1, Throttle: 1, Deque: slots}
		s := store.New(plan.Size())
		d := model.New[int](slots - 1)
		tail := 0
		seed := uint32(slots)
		for i := range 2000 {
			seed = seed*1664525 + 1013904223
			var n, m int
			var ok, is bool
			switch int(seed>>9) % 5 {
			case 0, 1:
				w := end(s, deque.Push(plan, 1, tail, i))
				tail = w.Tail()
				ok, is = !w.Full(), d.Push(i)
			case 2, 3:
				w := end(s, deque.Pop(plan, 1, tail))
				tail = w.Tail()
				n, ok = w.Got()
				m, is = d.Pop()
			case 4:
				n, ok = end(s, deque.Steal(plan, 1)).Got()
				m, is = d.Steal()
			}
			if n != m || ok != is {
				t.Fatal(slots, i, n, ok, m, is)
			}
		}
	}
}
