package ticket_test

import (
	"slices"
	"testing"

	"forebay/store"
	"forebay/ticket"
)

const (
	least = -1 << 63
	most  = 1<<63 - 1
)

// Promise 12.1: numbers count up, and turns come in their order.
func TestTurns(t *testing.T) {
	s := store.New(5)
	a, b := ticket.Ask(s, 2), ticket.Ask(s, 2)
	if a.Number() != 0 || b.Number() != 1 || !slices.Equal(s.All(), []int{0, 0, 2, 0, 0}) {
		t.Error(a.Number(), b.Number(), s.All())
	}
	if !a.Mine(s) || b.Mine(s) {
		t.Error("whose turn is it?")
	}
	if !a.Leave(s) || !slices.Equal(s.All(), []int{0, 0, 2, 1, 0}) {
		t.Error(s.All())
	}
	if a.Mine(s) || !b.Mine(s) {
		t.Error("whose turn is it?")
	}
	if !b.Leave(s) || a.Mine(s) || b.Mine(s) || !slices.Equal(s.All(), []int{0, 0, 2, 2, 0}) {
		t.Error(s.All())
	}
	if c := ticket.Ask(s, 2); c.Number() != 2 || !c.Mine(s) {
		t.Error(c.Number())
	}
	s.Store(2, most)
	s.Store(3, most)
	if c := ticket.Ask(s, 2); c.Number() != most || !c.Mine(s) || !c.Leave(s) {
		t.Error(c.Number())
	}
	if n, _ := s.Load(3); n != least {
		t.Error(n)
	}
}

// Promise 12.1: each is one access, to its own word.
func TestAccesses(t *testing.T) {
	s := store.New(4)
	type look struct {
		at    int
		write bool
	}
	var l []look
	s.Hook(func(at int, write bool) { l = append(l, look{at, write}) })
	x := ticket.Ask(s, 1)
	x.Mine(s)
	x.Leave(s)
	x.Number()
	if !slices.Equal(l, []look{{1, true}, {2, false}, {2, true}}) {
		t.Error(l)
	}
}

// Promise 12.1: words that there are not, and the turn that is zero.
func TestNoWords(t *testing.T) {
	s := store.New(2)
	s.Store(0, 8)
	for _, at := range []int{2, 9, -2, least, most} {
		x := ticket.Ask(s, at)
		if x.Number() != 0 || x.Mine(s) || x.Leave(s) {
			t.Error(at, x.Number())
		}
	}
	x := ticket.Ask(s, 1) // Next is there, Serving is not
	if x.Number() != 0 || x.Mine(s) || x.Leave(s) || !slices.Equal(s.All(), []int{8, 1}) {
		t.Error(x.Number(), s.All())
	}
	x = ticket.Ask(nil, 0)
	if x.Number() != 0 || x.Mine(nil) || x.Leave(nil) {
		t.Error(x.Number())
	}
	var zero ticket.Turn
	s = store.New(2)
	if zero.Number() != 0 || !zero.Mine(s) || !zero.Leave(s) || zero.Mine(s) || !slices.Equal(s.All(), []int{0, 1}) {
		t.Error(zero.Number(), s.All())
	}
}

// Promise 12.2: of many, in whatever order they look, it is one's turn at once, in the order in which they asked.
func TestOrder(t *testing.T) {
	s := store.New(2)
	seed := uint32(3)
	var waiting []ticket.Turn
	asked, left := 0, 0
	for range 3000 {
		seed = seed*1664525 + 1013904223
		n := int(seed >> 8)
		if n%3 == 0 && len(waiting) < 9 {
			waiting = append(waiting, ticket.Ask(s, 0))
			asked++
			continue
		}
		mine := 0
		for _, x := range waiting {
			if x.Mine(s) {
				mine++
			}
		}
		if mine > 1 || mine == 0 && len(waiting) > 0 {
			t.Fatal(mine, len(waiting))
		}
		if len(waiting) == 0 {
			continue
		}
		if i := n / 3 % len(waiting); waiting[i].Mine(s) {
			if waiting[i].Number() != left || i != 0 {
				t.Fatal(waiting[i].Number(), left)
			}
			waiting[i].Leave(s)
			waiting = slices.Delete(waiting, i, i+1)
			left++
		}
	}
	if asked-left != len(waiting) || left < 100 {
		t.Error(asked, left)
	}
}
