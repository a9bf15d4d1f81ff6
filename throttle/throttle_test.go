package throttle_test

import (
	"fmt"
	"strings"
	"testing"

	"forebay/layout"
	"forebay/ring"
	"forebay/store"
	"forebay/throttle"
	"forebay/token"
)

const (
	least = -1 << 63
	most  = 1<<63 - 1
)

// plan has, in its frame 1, the Nap at 7 and three slots from 8 on: of the iteration 3 the words 8 to 11.
var plan = layout.Plan{Workers: 1, Frames: 1, Throttle: 2, Deque: 2}

// walk is what both walks are.
type walk interface{ Step(s *store.Store) bool }

// fresh is a ring of the serial number 7, and its words.
func fresh() (ring.Ring, *store.Store) { return ring.New(plan, 1, 7), store.New(plan.Size()) }

// asks lets a walk step till it has ended, and holds what it has asked against a list.
func asks(t *testing.T, s *store.Store, w walk, want string) {
	t.Helper()
	var l []string
	s.Hook(func(at int, write bool) {
		x := fmt.Sprint(at)
		if write {
			x += "w"
		}
		l = append(l, x)
	})
	defer s.Hook(nil)
	for n := 1; ; n++ {
		ended := w.Step(s)
		if len(l) != n || n > 9 {
			t.Fatal(l)
		}
		if ended {
			break
		}
	}
	if got := strings.Join(l, " "); got != want {
		t.Errorf("asked %s; want %s", got, want)
	}
	if !w.Step(s) || len(l) != len(strings.Fields(want)) {
		t.Error("it has not ended")
	}
}

// Promise 20.1: the walk Nap, where the iteration has not ended, has, and has roused the loop.
func TestNap(t *testing.T) {
	r, s := fresh()
	w := throttle.Sleep(r, 3)
	asks(t, s, w, "7w 11")
	if w.Back() || !r.Sleeps(s, 3) {
		t.Error("it sleeps")
	}
	r, s = fresh()
	r.End(s, 3)
	w = throttle.Sleep(r, 3)
	w.Step(s)
	w.Step(s)
	if w.Back() {
		t.Error("back ahead of its end")
	}
	w = throttle.Sleep(r, 3)
	asks(t, s, w, "7w 11 7w")
	if !w.Back() || r.Sleeps(s, 3) {
		t.Error("it is back")
	}
	w = throttle.Sleep(r, 3)
	w.Step(s)
	w.Step(s)
	if !r.Rouse(s, 3) || !w.Step(s) || w.Back() {
		t.Error("taken by another one")
	}
	r.End(s, 4)
	w = throttle.Sleep(r, 1) // another one has ended in its slot
	asks(t, s, w, "7w 15")
	if w.Back() {
		t.Error("it sleeps")
	}
}

// Promise 20.1: the walk Wake, where the loop sleeps for it, for another one, and not.
func TestWake(t *testing.T) {
	r, s := fresh()
	r.Sleep(s, 3)
	w := throttle.Close(r, 3, true)
	if w.Got() {
		t.Error("got ahead of its end")
	}
	asks(t, s, w, "11w 7 7w")
	if n, _ := s.Load(7); !w.Got() || n != 0 {
		t.Error("not got")
	}
	if n, _ := s.Load(11); n != token.Of(7, 3, 0) {
		t.Error(n)
	}
	r, s = fresh()
	r.Sleep(s, 4)
	w = throttle.Close(r, 3, true)
	asks(t, s, w, "11w 7")
	if w.Got() || !r.Sleeps(s, 4) || !r.Ended(s, 3) {
		t.Error("got")
	}
	r.Sleep(s, 3)
	w = throttle.Close(r, 3, true)
	w.Step(s)
	w.Step(s)
	r.Rouse(s, 3)
	if !w.Step(s) || w.Got() {
		t.Error("taken by the loop itself")
	}
}

// Promise 20.1: without looking.
func TestBlind(t *testing.T) {
	r, s := fresh()
	r.Sleep(s, 3)
	w := throttle.Close(r, 3, false)
	asks(t, s, w, "11w")
	if w.Got() || !r.Sleeps(s, 3) || !r.Ended(s, 3) {
		t.Error("it has looked")
	}
}

// Promise 20.1: of nil, of nothing, of no words.
func TestNil(t *testing.T) {
	var n *throttle.Nap
	var w *throttle.Wake
	if !n.Step(nil) || n.Back() || !w.Step(nil) || w.Got() {
		t.Error("of nil")
	}
	n, w = new(throttle.Nap), new(throttle.Wake)
	for range 9 {
		n.Step(nil)
		w.Step(nil)
	}
	r, s := fresh()
	for range 9 {
		throttle.Sleep(r, least).Step(s)
		throttle.Close(r, most, true).Step(s)
	}
}

// Promise 20.2: whether another iteration may start.
func TestMay(t *testing.T) {
	for _, x := range []struct {
		started, throttle, ended int
		want                     bool
	}{
		{0, 1, 0, true}, {1, 1, 0, false}, {1, 1, 1, true}, {2, 1, 1, false}, {2, 1, 2, true},
		{3, 4, 0, true}, {4, 4, 0, false}, {4, 4, 1, true}, {9, 4, 5, false}, {9, 4, 6, true},
		{0, 0, 0, true}, {1, 0, 0, false}, {1, -5, 1, true}, {1, least, 0, false}, {0, least, 0, true},
		{-3, 1, 0, true}, {least, 1, least, true}, {most, most, 0, false}, {most, most, 1, true}, {most - 1, most, least, true},
		{most, 1, most, true}, {most, 1, most - 1, false}, {5, 2, -1, false},
	} {
		if got := throttle.May(x.started, x.throttle, x.ended); got != x.want {
			t.Error(x, got)
		}
	}
}

// Promise 20.3: in whatever order both step, the loop goes on just once.
func TestOrders(t *testing.T) {
	for n := range 1 << 8 {
		r, s := fresh()
		nap, wake := throttle.Sleep(r, 3), throttle.Close(r, 3, true)
		napEnded, wakeEnded, order := false, false, n
		for !napEnded || !wakeEnded {
			if wakeEnded || !napEnded && order&1 == 0 {
				napEnded = nap.Step(s)
				if nap.Back() && !r.Ended(s, 3) {
					t.Fatal("ahead of time")
				}
			} else {
				wakeEnded = wake.Step(s)
			}
			order >>= 1
		}
		if nap.Back() == wake.Got() {
			t.Fatalf("order %b: by itself %v, by the iteration %v", n, nap.Back(), wake.Got())
		}
		if r.Sleeps(s, 3) {
			t.Fatal("it still sleeps")
		}
	}
}
