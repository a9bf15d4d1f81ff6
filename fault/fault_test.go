package fault_test

import (
	"errors"
	"fmt"
	"testing"

	"forebay/api"
	"forebay/fault"
)

const (
	least = -1 << 63
	most  = 1<<63 - 1
)

// names are those of the kinds, from 0 on.
var names = []string{"none", "divide", "bounds", "stage", "pipe", "break"}

// Promise 23.1: names.
func TestName(t *testing.T) {
	for kind, want := range names {
		if got := fault.Name(kind); got != want {
			t.Error(kind, got)
		}
	}
	for _, kind := range []int{-1, 6, 99, least, most} {
		if got := fault.Name(kind); got != "unknown" {
			t.Error(kind, got)
		}
	}
}

// Promises 23.1, 23.3: errors, and what they wrap.
func TestOf(t *testing.T) {
	if err := fault.Of(api.NoFault, 2, 7); err != nil {
		t.Error(err)
	}
	if s := fault.Line(api.NoFault, 2, 7); s != "" {
		t.Error(s)
	}
	for _, x := range []struct {
		kind, worker, pc int
		want, name       string
	}{
		{api.DivZero, 2, 7, "divide at worker 2 pc 7", "divide"},
		{api.Bounds, 0, 4, "bounds at worker 0 pc 4", "bounds"},
		{api.BadStage, 63, 199, "stage at worker 63 pc 199", "stage"},
		{api.NotPipe, -1, 0, "pipe at worker -1 pc 0", "pipe"},
		{api.LateBreak, 0, -20, "break at worker 0 pc -20", "break"},
		{6, 1, 1, "unknown at worker 1 pc 1", "unknown"},
		{-1, least, most, "unknown at worker -9223372036854775808 pc 9223372036854775807", "unknown"},
	} {
		err := fault.Of(x.kind, x.worker, x.pc)
		if err == nil || err.Error() != x.want {
			t.Fatal(x, err)
		}
		if s := fault.Line(x.kind, x.worker, x.pc); s != x.want {
			t.Error(x, s)
		}
		inner := errors.Unwrap(err)
		if inner == nil || inner.Error() != x.name {
			t.Fatal(x, inner)
		}
		other := errors.Unwrap(fault.Of(x.kind, 5, 6))
		if other == nil || other != inner || !errors.Is(err, other) {
			t.Error(x, "what it wraps is another one each time")
		}
		if n := fault.Kind(inner); n != 0 {
			t.Error(x, n)
		}
	}
	for a := 1; a < 6; a++ {
		for b := 1; b < 6; b++ {
			is := errors.Is(fault.Of(a, 1, 2), errors.Unwrap(fault.Of(b, 1, 2)))
			if is != (a == b) {
				t.Error(a, b, is)
			}
		}
	}
}

// bad is an error that panics when it is asked what it wraps.
type bad struct{}

func (bad) Error() string { return "bad" }
func (bad) Unwrap() error { panic("no") }

// Promise 23.2: the kind and the place of an error, however deep it is wrapped.
func TestKind(t *testing.T) {
	for _, kind := range []int{1, 2, 3, 4, 5, 6, -9} {
		err := fault.Of(kind, 3, 8)
		for i := range 60 {
			w, p := fault.At(err)
			if n := fault.Kind(err); n != kind || w != 3 || p != 8 {
				t.Fatal(kind, i, n, w, p)
			}
			switch i % 3 {
			case 0:
				err = fmt.Errorf("round %d: %w", i, err)
			case 1:
				err = errors.Join(errors.New("another one"), err)
			case 2:
				err = fmt.Errorf("%w and %w", err, fault.Of(5, 1, 1))
			}
		}
	}
	for i, err := range []error{nil, errors.New("divide"), errors.New("divide at worker 2 pc 7"), fmt.Errorf("%w", api.ErrRange), bad{}, errors.Join(nil)} {
		w, p := fault.At(err)
		if n := fault.Kind(err); n != 0 || w != 0 || p != 0 {
			t.Error(i, n, w, p)
		}
	}
}

// Promise 23.3: what is found of a fault that was wrapped.
func TestBack(t *testing.T) {
	for _, deep := range []int{0, 1, 2, 49, 50, 51, -1, least, most} {
		for kind := -1; kind < 8; kind++ {
			n, w, p := fault.Back(kind, 6, 9, deep)
			if kind == 0 && (n != 0 || w != 0 || p != 0) || kind != 0 && (n != kind || w != 6 || p != 9) {
				t.Error(kind, deep, n, w, p)
			}
		}
	}
}
