package deque_test

import (
	"fmt"
	"slices"
	"strings"
	"testing"

	"forebay/deque"
	"forebay/layout"
	"forebay/store"
)

const (
	least = -1 << 63
	most  = 1<<63 - 1
)

// plan has deques of 4 slots: that of the worker 1 begins at 8, its slots at 12.
var plan = layout.Plan{Workers: 2, Frames: 1, Throttle: 1, Deque: 4}

// looks notes the accesses to a store: a word, and w behind it, if it is written.
func looks(s *store.Store) *[]string {
	l := new([]string)
	s.Hook(func(at int, write bool) {
		x := fmt.Sprint(at)
		if write {
			x += "w"
		}
		*l = append(*l, x)
	})
	return l
}

// steps lets a walk step till it has ended, and tells what it has asked, access by access.
func steps(t *testing.T, s *store.Store, w *deque.Walk, want string) {
	t.Helper()
	l := looks(s)
	defer s.Hook(nil)
	for i := 0; !w.Ended(); i++ {
		if n, ok := w.Got(); n != 0 || ok || w.Full() {
			t.Error("it got something, ahead of its end")
		}
		if w.Step(s) != w.Ended() || len(*l) != i+1 || i > 20 {
			t.Fatalf("step %d: %v", i, *l)
		}
	}
	if !w.Step(s) {
		t.Error("it has not ended")
	}
	if got := strings.Join(*l, " "); got != want {
		t.Errorf("asked %s; want %s", got, want)
	}
}

// got holds what a walk got against what it is to get; 0: nothing.
func got(t *testing.T, w *deque.Walk, want, tail int) {
	t.Helper()
	if n, ok := w.Got(); n != want || ok != (want != 0) || w.Tail() != tail {
		t.Errorf("%d, %v, tail %d; want %d, %d", n, ok, w.Tail(), want, tail)
	}
}

// set lets the deque of the worker 1 have this head and tail.
func set(s *store.Store, head, tail int) {
	s.Store(8, head)
	s.Store(9, tail)
}

// Promises 13.1, 13.2: a push, access by access, and where there is no room.
func TestPush(t *testing.T) {
	s := store.New(plan.Size())
	w := deque.Push(plan, 1, 0, 7)
	got(t, w, 0, 0)
	steps(t, s, w, "8 12w 9w")
	got(t, w, 0, 1)
	if !slices.Equal(s.All()[8:16], []int{0, 1, 0, 0, 7, 0, 0, 0}) || w.Full() {
		t.Error(s.All(), w.Full())
	}
	for tail := 1; tail < 3; tail++ {
		w = deque.Push(plan, 1, tail, tail+7)
		steps(t, s, w, fmt.Sprintf("8 %dw 9w", 12+tail))
		got(t, w, 0, tail+1)
	}
	w = deque.Push(plan, 1, 3, 99)
	steps(t, s, w, "8")
	got(t, w, 0, 3)
	if !w.Full() || !slices.Equal(s.All()[8:16], []int{0, 3, 0, 0, 7, 8, 9, 0}) {
		t.Error(s.All(), w.Full())
	}
	s.Store(8, 1)
	w = deque.Push(plan, 1, 3, 10)
	steps(t, s, w, "8 15w 9w")
	s.Store(8, 2)
	w = deque.Push(plan, 1, 4, 11)
	steps(t, s, w, "8 12w 9w") // round and round
	if !slices.Equal(s.All()[8:16], []int{2, 5, 0, 0, 11, 8, 9, 10}) || w.Full() {
		t.Error(s.All())
	}
}

// Promise 13.1: a pop that finds one, access by access.
func TestPop(t *testing.T) {
	s := store.New(plan.Size())
	steps(t, s, deque.Push(plan, 0, 0, 5), "0 4w 1w")
	steps(t, s, deque.Push(plan, 0, 1, 6), "0 5w 1w")
	w := deque.Pop(plan, 0, 2)
	got(t, w, 0, 2)
	steps(t, s, w, "1w 0 5")
	got(t, w, 6, 1)
	w = deque.Pop(plan, 0, 1)
	steps(t, s, w, "1w 0 4")
	got(t, w, 5, 0)
	if !slices.Equal(s.All()[:4], []int{0, 0, 0, 0}) {
		t.Error(s.All())
	}
}

// Promise 13.1: a pop that finds none asks for its turn.
func TestPopEmpty(t *testing.T) {
	s := store.New(plan.Size())
	set(s, 3, 3)
	w := deque.Pop(plan, 1, 3)
	steps(t, s, w, "9w 8 9w 10w 11 9w 8 9w 11w")
	got(t, w, 0, 3)
	if !slices.Equal(s.All()[8:12], []int{3, 3, 1, 1}) || w.Full() {
		t.Error(s.All())
	}
}

// Promise 13.1: a pop that finds a thief at it waits for its turn, and gets what the thief leaves.
func TestPopBehindThief(t *testing.T) {
	s := store.New(plan.Size())
	deque.Push(plan, 1, 0, 7)
	set(s, 1, 1) // a thief has claimed the only one
	s.Store(10, 1)
	s.Store(12, 7)
	w := deque.Pop(plan, 1, 1)
	l := looks(s)
	for range 8 { // the thief has its turn
		w.Step(s)
	}
	if strings.Join(*l, " ") != "9w 8 9w 10w 11 11 11 11" || w.Ended() {
		t.Error(*l)
	}
	if n, _ := s.Load(9); n != 1 {
		t.Error(n)
	}
	s.Store(8, 0) // it gives it up, and leaves
	s.Store(11, 1)
	*l = nil
	for !w.Step(s) {
	}
	if strings.Join(*l, " ") != "11 9w 8 11w 12" {
		t.Error(*l)
	}
	got(t, w, 7, 0)
	if !slices.Equal(s.All()[8:12], []int{0, 0, 2, 2}) {
		t.Error(s.All())
	}
}

// Promise 13.1: a steal, access by access, of something and of nothing.
func TestSteal(t *testing.T) {
	s := store.New(plan.Size())
	set(s, 5, 7)
	s.Store(13, 77)
	w := deque.Steal(plan, 1)
	got(t, w, 0, 0)
	steps(t, s, w, "10w 11 8 8w 9 13 11w")
	got(t, w, 77, 0)
	if !slices.Equal(s.All()[8:12], []int{6, 7, 1, 1}) {
		t.Error(s.All())
	}
	set(s, 7, 7)
	w = deque.Steal(plan, 1)
	steps(t, s, w, "10w 11 8 8w 9 8w 11w")
	got(t, w, 0, 0)
	if !slices.Equal(s.All()[8:12], []int{7, 7, 2, 2}) || w.Full() {
		t.Error(s.All())
	}
}

// Promise 13.1: two thieves take turns.
func TestTwoThieves(t *testing.T) {
	s := store.New(plan.Size())
	set(s, 0, 2)
	s.Store(12, 71)
	s.Store(13, 72)
	a, b := deque.Steal(plan, 1), deque.Steal(plan, 1)
	b.Step(s)
	a.Step(s)
	for range 9 {
		if a.Step(s) {
			t.Error("out of turn")
		}
	}
	for !b.Step(s) {
	}
	for !a.Step(s) {
	}
	got(t, b, 71, 0)
	got(t, a, 72, 0)
}

// Promise 13.1: what is held, and words that there are not.
func TestHeld(t *testing.T) {
	s := store.New(plan.Size())
	w := deque.Push(plan, -4, least, 9)
	got(t, w, 0, 0)
	steps(t, s, w, "0 4w 1w")
	got(t, w, 0, 1)
	w = deque.Push(plan, most, most, 9)
	got(t, w, 0, 1<<40)
	steps(t, s, w, "8")
	if !w.Full() {
		t.Error("not full")
	}
	got(t, deque.Pop(plan, 0, most), 0, 1<<40)
	got(t, deque.Pop(plan, 0, -1), 0, 0)
	w = deque.Pop(plan, 0, 1)
	for range 3 {
		w.Step(nil)
	}
	if n, ok := w.Got(); n != 0 || !ok || w.Tail() != 0 {
		t.Error(n, ok, w.Tail())
	}
	w = deque.Push(plan, 0, 1, 4)
	for range 3 {
		w.Step(nil)
	}
	if !w.Ended() || w.Full() || w.Tail() != 2 {
		t.Error("a push over no words")
	}
	w = deque.Steal(plan, 0)
	for range 50 {
		w.Step(nil) // it is never its turn
	}
	if w.Ended() {
		t.Error("a steal over no words")
	}
	var wrong layout.Plan
	for _, w := range []*deque.Walk{deque.Push(wrong, 1, 2, 3), deque.Pop(wrong, 1, 2), deque.Steal(wrong, 3)} {
		for range 50 {
			w.Step(s)
		}
	}
}

// Promise 13.2: of nil, and of nothing.
func TestNil(t *testing.T) {
	var w *deque.Walk
	got(t, w, 0, 0)
	if !w.Ended() || w.Full() || !w.Step(store.New(9)) {
		t.Error("of nil")
	}
	z := new(deque.Walk)
	got(t, z, 0, 0)
	if !z.Ended() || z.Full() || !z.Step(store.New(9)) {
		t.Error("of nothing")
	}
}

// party is an owner and thieves, and what they got.
type party struct {
	t      *testing.T
	s      *store.Store
	owner  *deque.Walk
	thief  []*deque.Walk
	popped bool  // whether the owner's walk is a pop
	tail   int   // the owner's
	pushed int   // how many were pushed: the numbers 1 and on
	in     []int // what is in the owner's hands to be popped, as it knows
	got    map[int]int
	stolen int // the last one that was stolen
}

// own lets the owner step.
func (p *party) own(pop bool) {
	if p.owner == nil {
		p.popped = pop
		p.owner = deque.Push(plan, 1, p.tail, p.pushed+1)
		if pop {
			p.owner = deque.Pop(plan, 1, p.tail)
		}
	}
	if !p.owner.Step(p.s) {
		return
	}
	p.tail = p.owner.Tail()
	n, ok := p.owner.Got()
	switch {
	case ok:
		if len(p.in) == 0 || p.in[len(p.in)-1] != n {
			p.t.Fatal("popped", n, p.in)
		}
		p.in = p.in[:len(p.in)-1]
		p.got[n]++
	case !p.popped && !p.owner.Full():
		p.pushed++
		p.in = append(p.in, p.pushed)
	case p.popped: // nothing: thieves have all that the owner knows of
		p.in = nil
	}
	p.owner = nil
}

// steal lets a thief step.
func (p *party) steal(i int) {
	if p.thief[i] == nil {
		p.thief[i] = deque.Steal(plan, 1)
	}
	if !p.thief[i].Step(p.s) {
		return
	}
	if n, ok := p.thief[i].Got(); ok {
		p.got[n]++
		if n <= p.stolen {
			p.t.Fatal("stolen", n, "behind", p.stolen)
		}
		p.stolen = n
	}
	p.thief[i] = nil
}

// Promise 13.3: in whatever order they step, each is got once, in order, and nothing is lost.
func TestRaces(t *testing.T) {
	all := 0
	for seed := range uint32(300) {
		p := &party{t: t, s: store.New(plan.Size()), thief: make([]*deque.Walk, 3), got: map[int]int{}}
		x := seed * 77777
		for range 600 {
			x = x*1664525 + 1013904223
			n := int(x >> 9)
			if n%2 == 0 {
				p.own(n/2%5 < 2+int(seed%2))
			} else {
				p.steal(n / 2 % 3)
			}
		}
		for p.owner != nil || slices.ContainsFunc(p.thief, func(w *deque.Walk) bool { return w != nil }) {
			if p.owner != nil {
				p.own(true)
			}
			for i, w := range p.thief {
				if w != nil {
					p.steal(i)
				}
			}
		}
		head, _ := p.s.Load(8)
		tail, _ := p.s.Load(9)
		if tail != p.tail {
			t.Fatal(tail, p.tail)
		}
		for n := head; n < tail; n++ {
			x, _ := p.s.Load(plan.Slot(1, n))
			p.got[x]++
		}
		for n := 1; n <= p.pushed; n++ {
			if p.got[n] != 1 {
				t.Fatalf("seed %d: %d was got %d times", seed, n, p.got[n])
			}
		}
		if len(p.got) != p.pushed {
			t.Fatal(len(p.got), p.pushed)
		}
		all += p.pushed
	}
	if all < 3000 {
		t.Error(all)
	}
}
