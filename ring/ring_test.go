package ring_test

import (
	"fmt"
	"slices"
	"strings"
	"testing"

	"forebay/api"
	"forebay/layout"
	"forebay/ring"
	"forebay/store"
	"forebay/token"
)

const (
	least = -1 << 63
	most  = 1<<63 - 1
	top   = 1<<20 - 1
)

// plan has, in its frame 2, the Nap at 22 and three slots from 23 on.
var plan = layout.Plan{Workers: 1, Frames: 3, Throttle: 2, Deque: 3}

// asked is what f asks of a store: words, and w behind those that it writes.
func asked(s *store.Store, f func()) string {
	var l []string
	s.Hook(func(at int, write bool) {
		x := fmt.Sprint(at)
		if write {
			x += "w"
		}
		l = append(l, x)
	})
	f()
	s.Hook(nil)
	return strings.Join(l, " ")
}

// holds holds a word against a number.
func holds(t *testing.T, s *store.Store, at, want int) {
	t.Helper()
	if n, _ := s.Load(at); n != want {
		t.Errorf("the word %d is %d; want %d", at, n, want)
	}
}

// Promises 17.1, 17.2: each is one access, to one word of the slot of its iteration.
func TestAccesses(t *testing.T) {
	if plan.Nap(2) != 22 {
		t.Fatal(plan.Nap(2))
	}
	s := store.New(plan.Size())
	r := ring.New(plan, 2, 7)
	for iter := -2; iter < 8; iter++ {
		slot := 23 + max(iter, 0)%3*4
		for _, x := range []struct {
			f    func()
			want string
		}{
			{func() { r.Come(s, iter) }, fmt.Sprint(slot)},
			{func() { r.Go(s, iter, 1) }, fmt.Sprintf("%dw", slot)},
			{func() { r.Waits(s, iter) }, fmt.Sprint(slot + 1)},
			{func() { r.Wait(s, iter, 1) }, fmt.Sprintf("%dw", slot+1)},
			{func() { r.Free(s, iter, 1) }, fmt.Sprintf("%dw", slot+1)},
			{func() { r.May(1<<40, iter, 1) }, ""},
			{func() { r.Frame(s, iter) }, fmt.Sprint(slot + 2)},
			{func() { r.Link(s, iter, 1) }, fmt.Sprintf("%dw", slot+2)},
			{func() { r.End(s, iter) }, fmt.Sprintf("%dw", slot+3)},
			{func() { r.Ended(s, iter) }, fmt.Sprint(slot + 3)},
			{func() { r.Sleep(s, iter) }, "22w"},
			{func() { r.Sleeps(s, iter) }, "22"},
			{func() { r.Rouse(s, iter) }, "22w"},
		} {
			if got := asked(s, x.f); got != x.want {
				t.Errorf("%d: asked %s; want %s", iter, got, x.want)
			}
		}
	}
}

// Promise 17.1: counters.
func TestCounter(t *testing.T) {
	s := store.New(plan.Size())
	r := ring.New(plan, 2, 7)
	if n := r.Come(s, 4); n != 0 {
		t.Error(n)
	}
	r.Go(s, 4, 99)
	r.Go(s, 5, api.Past)
	if r.Come(s, 4) != 99 || r.Come(s, 5) != api.Past || r.Come(s, 3) != 0 || r.Come(s, 7) != 99 || r.Come(s, 1) != 99 {
		t.Error(s.All())
	}
	r.Go(s, 4, -1)
	holds(t, s, plan.Counter(2, 4), -1)
}

// Promise 17.1: who waits does so with a token, that is freed once.
func TestWait(t *testing.T) {
	s := store.New(plan.Size())
	r := ring.New(plan, 2, 7)
	r.Wait(s, 3, 5)
	holds(t, s, plan.Status(2, 3), token.Of(7, 3, 5))
	if n := r.Waits(s, 3); n != token.Of(7, 3, 5) {
		t.Error(n)
	}
	if r.Free(s, 3, 4) || r.Free(s, 6, 5) || r.Free(s, 2, 5) || ring.New(plan, 2, 8).Free(s, 3, 5) || ring.New(plan, 1, 7).Free(s, 3, 5) {
		t.Error("freed what waits otherwise")
	}
	holds(t, s, plan.Status(2, 3), token.Of(7, 3, 5))
	if !r.Free(s, 3, 5) {
		t.Error("not freed")
	}
	holds(t, s, plan.Status(2, 3), 0)
	if r.Free(s, 3, 5) || r.Waits(s, 3) != 0 {
		t.Error("freed twice")
	}
}

// Promise 17.1: who may go on.
func TestMay(t *testing.T) {
	r := ring.New(plan, 2, 7)
	for _, x := range []struct {
		t, iter, counter, stage int
		may                     bool
	}{
		{token.Of(7, 3, 5), 3, 6, 5, true},
		{token.Of(7, 3, 5), 3, 5, 0, false},
		{token.Of(7, 3, 5), 3, most, 5, true},
		{token.Of(7, 3, 0), 3, 1, 0, true},
		{token.Of(7, 3, 0), 3, 0, 0, false},
		{token.Of(7, 3, top), 3, api.Past, top, true},
		{token.Of(7, 3, 5), 4, 6, 0, false},
		{token.Of(7, 3, 5), 2, 6, 0, false},
		{token.Of(7, 6, 5), 3, 6, 0, false},
		{token.Of(8, 3, 5), 3, 6, 0, false},
		{token.Of(6, 3, 5), 3, 6, 0, false},
		{token.Of(7, 0, 5), 0, 6, 5, true},
		{token.Of(7, 0, 5), -4, 6, 5, true}, // the token of an iteration below 0 is that of 0
		{token.Of(7, top, 5), most, 6, 5, true},
		{0, 3, 6, 0, false},
		{5, 3, 6, 0, false},
		{-1, 3, most, 0, false},
		{1<<60 + token.Of(7, 3, 5), 3, most, 0, false},
		{most, top, most, 0, false},
		{least, 0, most, 0, false},
	} {
		if stage, may := r.May(x.t, x.iter, x.counter); stage != x.stage || may != x.may {
			t.Error(x, stage, may)
		}
	}
	if stage, may := ring.New(plan, 2, top).May(most, top, most); stage != 0 || may {
		t.Error("what is no token may not go on")
	}
	for _, n := range []int{0, token.Of(0, 3, 5), 3<<20 + 5} {
		if stage, may := ring.New(plan, 2, 0).May(n, token.Iter(n), most); stage != 0 || may {
			t.Error("what is no token may not go on", n)
		}
	}
}

// Promise 17.2: links and ends.
func TestLinkAndEnd(t *testing.T) {
	s := store.New(plan.Size())
	r := ring.New(plan, 2, 7)
	r.Link(s, 3, 44)
	if r.Frame(s, 3) != 44 || r.Frame(s, 4) != 0 || r.Frame(s, 6) != 44 {
		t.Error(s.All())
	}
	if r.Ended(s, 3) {
		t.Error("ended")
	}
	r.End(s, 3)
	holds(t, s, plan.Done(2, 3), token.Of(7, 3, 0))
	if !r.Ended(s, 3) || r.Ended(s, 6) || r.Ended(s, 0) || r.Ended(s, 2) || ring.New(plan, 2, 8).Ended(s, 3) || ring.New(plan, 3, 7).Ended(s, 3) {
		t.Error("which one has ended?")
	}
	r.End(s, 6)
	if r.Ended(s, 3) || !r.Ended(s, 6) {
		t.Error("which one has ended?")
	}
}

// Promise 17.2: the loop's sleep.
func TestSleep(t *testing.T) {
	s := store.New(plan.Size())
	r := ring.New(plan, 2, 7)
	if r.Sleeps(s, 3) || r.Rouse(s, 3) {
		t.Error("it does not sleep")
	}
	r.Sleep(s, 3)
	holds(t, s, plan.Nap(2), token.Of(7, 3, 0))
	if !r.Sleeps(s, 3) || r.Sleeps(s, 4) || r.Rouse(s, 4) || ring.New(plan, 2, 8).Sleeps(s, 3) || ring.New(plan, 2, 8).Rouse(s, 3) || ring.New(plan, 1, 7).Sleeps(s, 3) {
		t.Error("for which one does it sleep?")
	}
	holds(t, s, plan.Nap(2), token.Of(7, 3, 0))
	if !r.Rouse(s, 3) || r.Rouse(s, 3) || r.Sleeps(s, 3) {
		t.Error("it is roused once")
	}
	holds(t, s, plan.Nap(2), 0)
}

// Promise 17.2: what has no token, a word that nothing was stored into has.
func TestNoToken(t *testing.T) {
	s := store.New(plan.Size())
	r := ring.New(plan, 2, 0)
	if !r.Ended(s, 0) || !r.Sleeps(s, 0) || !r.Rouse(s, 0) || !r.Free(s, 0, 0) || !r.Ended(s, -5) {
		t.Error("0 is not found")
	}
	if r.Ended(s, 1) || r.Sleeps(s, 1) || r.Rouse(s, 1) || r.Free(s, 0, 1) || r.Free(s, 1, 0) {
		t.Error("0 is found where it is not")
	}
}

// Promises 17.1, 17.2: frames and plans that there are not.
func TestNone(t *testing.T) {
	s := store.New(plan.Size())
	r := ring.New(plan, 99, 7)
	r.Go(s, 1, 5)
	holds(t, s, plan.Counter(3, 1), 5) // the nearest frame's
	r = ring.New(plan, least, 7)
	r.Go(s, least, 6)
	holds(t, s, plan.Counter(1, 0), 6)
	r = ring.New(layout.Plan{}, 1, 7)
	r.Go(s, 1, 8)
	holds(t, s, 0, 8)
	var zero ring.Ring
	zero.Sleep(nil, 1)
	zero.End(nil, 1)
	zero.Wait(nil, 1, 1)
	zero.Link(nil, 1, 1)
	if zero.Come(nil, 1) != 0 || zero.Waits(nil, 1) != 0 || zero.Frame(nil, 1) != 0 || zero.Free(nil, 0, 0) || zero.Rouse(nil, 0) || zero.Sleeps(nil, 0) || zero.Ended(nil, 0) {
		t.Error("of no words")
	}
}

// Promise 17.3: what one loop, iteration or stage has told is not taken for another one's.
func TestApart(t *testing.T) {
	s := store.New(plan.Size())
	for serial := 1; serial < 4; serial++ {
		for iter := range 7 {
			for stage := range 4 {
				r := ring.New(plan, 2, serial)
				r.Wait(s, iter, stage)
				var freed []int
				for serial2 := 1; serial2 < 4; serial2++ {
					for iter2 := range 7 {
						for stage2 := range 4 {
							q := ring.New(plan, 2, serial2)
							want := serial2 == serial && iter2 == iter
							if at, may := q.May(r.Waits(s, iter), iter2, stage+1); may != want && len(freed) == 0 || may && at != stage {
								t.Fatal(serial, iter, stage, serial2, iter2, stage2, at, may)
							}
							if q.Free(s, iter2, stage2) {
								freed = append(freed, serial2, iter2, stage2)
							}
						}
					}
				}
				if !slices.Equal(freed, []int{serial, iter, stage}) {
					t.Fatal(freed, serial, iter, stage)
				}
			}
		}
	}
}
