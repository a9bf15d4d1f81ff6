package wrap_test

import (
	"math/big"
	"testing"

	"forebay/api"
	"forebay/wrap"
)

const (
	least = -1 << 63
	most  = 1<<63 - 1
)

// edges are numbers at which arithmetic turns.
var edges = []int{least, least + 1, -1 << 32, -8, -7, -3, -2, -1, 0, 1, 2, 3, 7, 8, 1 << 31, 1 << 32, 1 << 62, most - 1, most}

// round is a number of any size, as one of 64 bits.
func round(x *big.Int) int {
	m := new(big.Int).Lsh(big.NewInt(1), 64)
	r := new(big.Int).Mod(x, m)
	if r.Bit(63) == 1 {
		r.Sub(r, m)
	}
	return int(r.Int64())
}

// want is what an operation is to answer, reckoned without bounds.
func want(op, a, b int) (int, int) {
	x, y := big.NewInt(int64(a)), big.NewInt(int64(b))
	switch op {
	case api.Add:
		return round(new(big.Int).Add(x, y)), 0
	case api.Sub:
		return round(new(big.Int).Sub(x, y)), 0
	case api.Mul:
		return round(new(big.Int).Mul(x, y)), 0
	case api.Div, api.Mod:
		if b == 0 {
			return 0, api.DivZero
		}
		q, r := new(big.Int).QuoRem(x, y, new(big.Int))
		if op == api.Div {
			return round(q), 0
		}
		return round(r), 0
	case api.Less:
		if x.Cmp(y) < 0 {
			return 1, 0
		}
	case api.Same:
		if x.Cmp(y) == 0 {
			return 1, 0
		}
	case api.And:
		return round(new(big.Int).And(x, y)), 0
	case api.Or:
		return round(new(big.Int).Or(x, y)), 0
	case api.Xor:
		return round(new(big.Int).Xor(x, y)), 0
	}
	return 0, 0
}

// Promise 1.1: each operation, of all edges, and of no operation.
func TestDo(t *testing.T) {
	for op := -2; op <= api.Ops+2; op++ {
		for _, a := range edges {
			for _, b := range edges {
				n, f := wrap.Do(op, a, b)
				if wn, wf := want(op, a, b); n != wn || f != wf {
					t.Errorf("Do(%d, %d, %d) = %d, %d; want %d, %d", op, a, b, n, f, wn, wf)
				}
			}
		}
	}
}

// Promise 1.1: the answers that the document writes out.
func TestDoAsWritten(t *testing.T) {
	for _, x := range [][5]int{
		{api.Add, most, 1, least, 0},
		{api.Sub, least, 1, most, 0},
		{api.Div, -7, 2, -3, 0},
		{api.Mod, -7, 2, -1, 0},
		{api.Mod, 7, -2, 1, 0},
		{api.Div, least, -1, least, 0},
		{api.Mod, least, -1, 0, 0},
		{api.Div, 3, 0, 0, api.DivZero},
		{api.Mod, 3, 0, 0, api.DivZero},
		{api.Less, 1, 1, 0, 0},
		{api.Less, 0, 1, 1, 0},
		{api.Same, 1, 1, 1, 0},
		{api.Load, 9, 9, 0, 0},
		{least, 9, 0, 0, 0},
	} {
		if n, f := wrap.Do(x[0], x[1], x[2]); n != x[3] || f != x[4] {
			t.Errorf("%v: %d, %d", x, n, f)
		}
	}
}

// Promise 1.1: which operations are known.
func TestKnown(t *testing.T) {
	for op := -3; op < api.Ops+3; op++ {
		if is := wrap.Known(op); is != (op >= 3 && op <= 12) {
			t.Errorf("Known(%d) = %v", op, is)
		}
	}
	if wrap.Known(least) || wrap.Known(most) {
		t.Error("known, of no operation")
	}
}

// Promise 1.2: sums of none, one and many.
func TestSum(t *testing.T) {
	if n := wrap.Sum(); n != 0 {
		t.Error(n)
	}
	if n := wrap.Sum(5); n != 5 {
		t.Error(n)
	}
	if n := wrap.Sum(most, 1, 1); n != least+1 {
		t.Error(n)
	}
	l := []int{1, -2, 3}
	if n := wrap.Sum(l...); n != 2 || l[0] != 1 || l[1] != -2 || l[2] != 3 {
		t.Error(n, l)
	}
}

// Promise 1.2: powers, with what is held.
func TestPower(t *testing.T) {
	for _, x := range [][3]int{
		{3, 4, 81}, {2, 63, least}, {2, 64, 0}, {7, 0, 1}, {7, -2, 1}, {7, least, 1}, {0, 0, 1}, {0, 1, 0},
		{-1, 999, -1}, {-1, 1000, 1}, {-1, 1001, 1}, {-1, most, 1},
	} {
		if n := wrap.Power(x[0], x[1]); n != x[2] {
			t.Errorf("Power(%d, %d) = %d", x[0], x[1], n)
		}
	}
	three := big.NewInt(3)
	if n, w := wrap.Power(3, 5000), round(new(big.Int).Exp(three, big.NewInt(1000), nil)); n != w {
		t.Error(n, w)
	}
}

// Promise 1.3: there and back.
func TestBack(t *testing.T) {
	for _, a := range edges {
		for _, b := range edges {
			s, _ := wrap.Do(api.Add, a, b)
			if n, _ := wrap.Do(api.Sub, s, b); n != a {
				t.Error("added and taken away", a, b, n)
			}
			if b == 0 {
				continue
			}
			q, _ := wrap.Do(api.Div, a, b)
			r, _ := wrap.Do(api.Mod, a, b)
			p, _ := wrap.Do(api.Mul, q, b)
			if n := wrap.Sum(p, r); n != a {
				t.Error("divided and multiplied", a, b, n)
			}
		}
	}
}
