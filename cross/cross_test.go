package cross_test

import (
	"fmt"
	"strings"
	"testing"

	"forebay/api"
	"forebay/cross"
	"forebay/layout"
	"forebay/ring"
	"forebay/store"
	"forebay/token"
)

// plan has, in its frame 1, three slots from 8 on: of the iteration 3 the words 8 to 11, of 4 those from 12 on.
var plan = layout.Plan{Workers: 1, Frames: 1, Throttle: 2, Deque: 2}

// walk is what both walks are.
type walk interface{ Step(s *store.Store) bool }

// fresh is a ring of the serial number 7, and its words.
func fresh() (ring.Ring, *store.Store) { return ring.New(plan, 1, 7), store.New(plan.Size()) }

// asks lets a walk step till it has ended, and holds what it has asked against a list.
func asks(t *testing.T, s *store.Store, w walk, want string) {
	t.Helper()
	var l []string
	s.Hook(func(at int, write bool) {
		x := fmt.Sprint(at)
		if write {
			x += "w"
		}
		l = append(l, x)
	})
	defer s.Hook(nil)
	for n := 1; ; n++ {
		ended := w.Step(s)
		if len(l) != n || n > 9 {
			t.Fatal(l)
		}
		if ended {
			break
		}
	}
	if got := strings.Join(l, " "); got != want {
		t.Errorf("asked %s; want %s", got, want)
	}
	if !w.Step(s) || len(l) != len(strings.Fields(want)) {
		t.Error("it has not ended")
	}
}

// Promise 19.1: the walk Right, of a next iteration that waits, and may go on.
func TestRightGot(t *testing.T) {
	for _, iter := range []int{3, 0} { // 3 stands at 8, 4 at 12; 0 at 8, 1 at 12
		r, s := fresh()
		r.Wait(s, iter+1, 5)
		r.Link(s, iter+1, 44)
		w := cross.Look(r, iter, 6)
		if n, ok := w.Got(); n != 0 || ok {
			t.Error(n, ok)
		}
		asks(t, s, w, "13 13w 14")
		if n, ok := w.Got(); n != 44 || !ok || r.Waits(s, iter+1) != 0 {
			t.Error(n, ok)
		}
		w = cross.Look(r, iter, 6)
		asks(t, s, w, "13")
		if n, ok := w.Got(); n != 0 || ok {
			t.Error(n, ok)
		}
	}
}

// Promise 19.1: the walk Right, where nobody may go on.
func TestRightNothing(t *testing.T) {
	for i, f := range []func(r ring.Ring, s *store.Store){
		func(r ring.Ring, s *store.Store) {},
		func(r ring.Ring, s *store.Store) { r.Wait(s, 4, 6) },
		func(r ring.Ring, s *store.Store) { r.Wait(s, 4, 7) },
		func(r ring.Ring, s *store.Store) { r.Wait(s, 1, 5) },
		func(r ring.Ring, s *store.Store) { r.Wait(s, 7, 5) },
		func(r ring.Ring, s *store.Store) { r.Wait(s, 3, 5) },
		func(r ring.Ring, s *store.Store) { ring.New(plan, 1, 8).Wait(s, 4, 5) },
	} {
		r, s := fresh()
		f(r, s)
		was := r.Waits(s, 4)
		w := cross.Look(r, 3, 6)
		asks(t, s, w, "13")
		if n, ok := w.Got(); n != 0 || ok || r.Waits(s, 4) != was {
			t.Error(i, n, ok)
		}
	}
}

// Promise 19.1: the walk Right, where the next one is freed by others between.
func TestRightLate(t *testing.T) {
	r, s := fresh()
	r.Wait(s, 4, 5)
	w := cross.Look(r, 3, api.Past)
	if w.Step(s) {
		t.Error("ended")
	}
	r.Free(s, 4, 5)
	if !w.Step(s) {
		t.Error("not ended")
	}
	if n, ok := w.Got(); n != 0 || ok {
		t.Error(n, ok)
	}
	w = cross.Look(r, 3, api.Past)
	r.Wait(s, 4, 5)
	w.Step(s)
	r.Wait(s, 4, 9) // it waits otherwise by now
	if !w.Step(s) || r.Waits(s, 4) != token.Of(7, 4, 9) {
		t.Error("not ended")
	}
}

// Promise 19.2: the walk Park, where the one ahead is not far enough, is, and has freed it.
func TestPark(t *testing.T) {
	for _, come := range []int{0, 4, 5} {
		r, s := fresh()
		r.Go(s, 3, come)
		w := cross.Stop(r, 4, 5)
		asks(t, s, w, "13w 8")
		if w.Back() || r.Waits(s, 4) != token.Of(7, 4, 5) {
			t.Error(come, w.Back())
		}
	}
	for _, come := range []int{6, api.Past} {
		r, s := fresh()
		r.Go(s, 3, come)
		w := cross.Stop(r, 4, 5)
		w.Step(s)
		w.Step(s)
		if w.Back() {
			t.Error("back ahead of its end")
		}
		w = cross.Stop(r, 4, 5)
		asks(t, s, w, "13w 8 13w")
		if !w.Back() || r.Waits(s, 4) != 0 {
			t.Error(come, w.Back())
		}
	}
	r, s := fresh()
	r.Go(s, 3, 6)
	w := cross.Stop(r, 4, 5)
	w.Step(s)
	w.Step(s)
	r.Free(s, 4, 5)
	if !w.Step(s) || w.Back() {
		t.Error("taken by another one")
	}
}

// Promises 19.1, 19.2: of nil, of nothing, of no words.
func TestNil(t *testing.T) {
	var r *cross.Right
	var p *cross.Park
	if n, ok := r.Got(); n != 0 || ok || !r.Step(nil) || !p.Step(nil) || p.Back() {
		t.Error("of nil")
	}
	r, p = new(cross.Right), new(cross.Park)
	for range 9 {
		r.Step(nil)
		p.Step(nil)
	}
	const most = 1<<63 - 1
	ring, s := fresh()
	for range 9 {
		cross.Look(ring, most, most).Step(s)
		cross.Stop(ring, -1<<63, -1<<63).Step(s)
	}
}

// both lets two walks step in the order that the bits of n say, each to its end.
func both(s *store.Store, n int, a, b func() bool) {
	aEnded, bEnded := false, false
	for !aEnded || !bEnded {
		if bEnded || !aEnded && n&1 == 0 {
			aEnded = a()
		} else {
			bEnded = b()
		}
		n >>= 1
	}
}

// Promise 19.3: in whatever order both step, who waits goes on just once, and not ahead of time.
func TestOrders(t *testing.T) {
	for _, stage := range []int{0, 4, 5, 6, 9} {
		for n := range 1 << 10 {
			r, s := fresh()
			r.Link(s, 4, 44)
			right, park := cross.Look(r, 3, 6), cross.Stop(r, 4, stage)
			told := false
			both(s, n, func() bool {
				if !told { // first the one ahead tells how far it has come
					told = true
					r.Go(s, 3, 6)
					return false
				}
				return right.Step(s)
			}, func() bool { return park.Step(s) })
			id, ok := right.Got()
			on := 0
			if ok {
				on++
				if id != 44 {
					t.Fatal(id)
				}
			}
			if park.Back() {
				on++
			}
			want := 0
			if stage < 6 {
				want = 1
			}
			if on != want {
				t.Fatalf("stage %d, order %b: it went on %d times", stage, n, on)
			}
			if waits := r.Waits(s, 4) != 0; waits != (want == 0) {
				t.Fatalf("stage %d, order %b: does it wait? %v", stage, n, waits)
			}
		}
	}
}
