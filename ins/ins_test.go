package ins_test

import (
	"strings"
	"testing"

	"forebay/api"
	"forebay/ins"
)

const (
	least = -1 << 63
	most  = 1<<63 - 1
)

// table is what the document says of each operation, from 0 on.
var table = [api.Ops][2]string{
	{"ret", ""}, {"set", "rn"}, {"move", "rr"}, {"add", "rrr"}, {"sub", "rrr"}, {"mul", "rrr"}, {"div", "rrr"}, {"mod", "rrr"},
	{"less", "rrr"}, {"same", "rrr"}, {"and", "rrr"}, {"or", "rrr"}, {"xor", "rrr"}, {"load", "rr"}, {"store", "rr"},
	{"fetch", "rrr"}, {"swap", "rrr"}, {"emit", "r"}, {"jump", "t"}, {"zero", "rt"}, {"spawn", "f"}, {"sync", ""}, {"pipe", "f"},
	{"wait", "r"}, {"cont", "r"}, {"break", ""},
}

// bounds are the least and the greatest number of a letter.
var bounds = map[rune][2]int{'r': {0, 7}, 'f': {0, 15}, 'n': {-32768, 32767}, 't': {0, 199}}

// Promise 3.1: names and forms, of operations and of others.
func TestNames(t *testing.T) {
	for op, x := range table {
		if ins.Name(op) != x[0] || ins.Form(op) != x[1] {
			t.Error(op, ins.Name(op), ins.Form(op))
		}
		if got, ok := ins.Of(x[0]); got != op || !ok {
			t.Error(x[0], got, ok)
		}
	}
	for _, op := range []int{-1, api.Ops, api.Ops + 1, 255, least, most} {
		if ins.Name(op) != "" || ins.Form(op) != "" {
			t.Error(op, ins.Name(op), ins.Form(op))
		}
	}
	for _, name := range []string{"", "Ret", "ret ", " ret", "set1", "breaks", "function"} {
		if op, ok := ins.Of(name); op != 0 || ok {
			t.Error(name, op, ok)
		}
	}
}

// with is an instruction with its operand i set.
func with(x api.Ins, i, n int) api.Ins {
	*[]*int{&x.A, &x.B, &x.C}[i] = n
	return x
}

// Promise 3.2: each operand at its edges, and beyond.
func TestCheck(t *testing.T) {
	for op, x := range table {
		base := api.Ins{Op: op}
		if e := ins.Check(base); e != api.OK {
			t.Error(base, e)
		}
		for i := range 3 {
			if i >= len(x[1]) {
				for _, n := range []int{1, -1, least, most} {
					if e := ins.Check(with(base, i, n)); e != api.ErrForm {
						t.Error(with(base, i, n), e)
					}
				}
				continue
			}
			b := bounds[rune(x[1][i])]
			for _, n := range []int{b[0], b[1], (b[0] + b[1]) / 2} {
				if e := ins.Check(with(base, i, n)); e != api.OK {
					t.Error(with(base, i, n), e)
				}
			}
			for _, n := range []int{b[0] - 1, b[1] + 1, least, most} {
				if e := ins.Check(with(base, i, n)); e != api.ErrRange {
					t.Error(with(base, i, n), e)
				}
			}
		}
	}
}

// Promise 3.2: of several errors the first one.
func TestCheckFirst(t *testing.T) {
	for _, x := range []struct {
		in   api.Ins
		want api.Errno
	}{
		{api.Ins{Op: 26}, api.ErrKind},
		{api.Ins{Op: -1, A: 99}, api.ErrKind},
		{api.Ins{Op: most}, api.ErrKind},
		{api.Ins{Op: api.Move, A: 8, C: 1}, api.ErrRange},
		{api.Ins{Op: api.Move, B: -1, C: 1}, api.ErrRange},
		{api.Ins{Op: api.Move, C: 1}, api.ErrForm},
		{api.Ins{Op: api.Jump, A: 200, B: 3}, api.ErrRange},
	} {
		if e := ins.Check(x.in); e != x.want {
			t.Error(x.in, e)
		}
		if s, e := ins.Put(x.in); s != "" || e != x.want {
			t.Errorf("%v: %q, %v", x.in, s, e)
		}
	}
}

// Promise 3.2: the bytes, as they are written out.
func TestPut(t *testing.T) {
	for _, x := range []struct {
		in   api.Ins
		want string
	}{
		{api.Ins{Op: api.Set, A: 2, B: -1}, "\x01\x02\xff\xff"},
		{api.Ins{Op: api.Set, A: 7, B: -32768}, "\x01\x07\x80\x00"},
		{api.Ins{Op: api.Set, A: 7, B: 300}, "\x01\x07\x01\x2c"},
		{api.Ins{}, "\x00\x00\x00\x00"},
		{api.Ins{Op: api.Add, A: 1, B: 2, C: 3}, "\x03\x01\x02\x03"},
		{api.Ins{Op: api.Load, A: 1, B: 2}, "\x0d\x01\x02\x00"},
		{api.Ins{Op: api.Emit, A: 5}, "\x11\x05\x00\x00"},
		{api.Ins{Op: api.Jump, A: 199}, "\x12\x00\xc7\x00"},
		{api.Ins{Op: api.Zero, A: 4, B: 130}, "\x13\x04\x00\x82"},
		{api.Ins{Op: api.Spawn, A: 15}, "\x14\x0f\x00\x00"},
		{api.Ins{Op: api.Break}, "\x19\x00\x00\x00"},
	} {
		s, e := ins.Put(x.in)
		if s != x.want || e != api.OK {
			t.Errorf("%v: %q, %v", x.in, s, e)
		}
		if back, e := ins.Get(x.want); back != x.in || e != api.OK {
			t.Errorf("%q: %v, %v", x.want, back, e)
		}
	}
}

// Promise 3.2: bytes that are no instruction, and why.
func TestGetWrong(t *testing.T) {
	for s, want := range map[string]api.Errno{
		"":                     api.ErrShort,
		"\x00\x00\x00":         api.ErrShort,
		"\xff":                 api.ErrShort,
		"\x00\x00\x00\x00\x00": api.ErrMore,
		"\xff\x00\x00\x00\x00": api.ErrMore,
		"\x1a\x00\x00\x00":     api.ErrKind,
		"\xff\xff\xff\xff":     api.ErrKind,
		"\x01\x08\x00\x00":     api.ErrRange,
		"\x02\x00\x08\x01":     api.ErrRange,
		"\x02\x00\x07\x01":     api.ErrForm,
		"\x03\x00\x00\x08":     api.ErrRange,
		"\x12\x00\xc8\x00":     api.ErrRange,
		"\x12\xff\xff\x01":     api.ErrRange,
		"\x12\x00\xc7\x01":     api.ErrForm,
		"\x13\x00\x01\x00":     api.ErrRange,
		"\x14\x10\x00\x00":     api.ErrRange,
		"\x14\x00\x01\x00":     api.ErrForm,
		"\x14\x00\x00\x01":     api.ErrForm,
		"\x00\x01\x00\x00":     api.ErrForm,
		"\x00\x00\x00\x01":     api.ErrForm,
		"\x11\x00\x00\x01":     api.ErrForm,
		"\x16\x10\x00\x01":     api.ErrRange,
	} {
		if x, e := ins.Get(s); x != (api.Ins{}) || e != want {
			t.Errorf("%q: %v, %v; want %v", s, x, e, want)
		}
	}
}

// Promise 3.3: there and back, from instructions.
func TestBack(t *testing.T) {
	for op, x := range table {
		for k := range 60 {
			in := api.Ins{Op: op}
			for i, letter := range x[1] {
				b := bounds[letter]
				in = with(in, i, b[0]+(k*k*31+i*7+k)%(b[1]-b[0]+1))
			}
			s, e := ins.Put(in)
			if len(s) != 4 || e != api.OK {
				t.Fatal(in, len(s), e)
			}
			if back, e := ins.Get(s); back != in || e != api.OK {
				t.Fatal(in, back, e)
			}
		}
	}
}

// Promise 3.3: there and back, from bytes: what is got has no other bytes.
func TestBackFromBytes(t *testing.T) {
	some := []byte{0, 1, 7, 8, 15, 16, 127, 128, 199, 200, 255}
	got := 0
	for op := range 28 {
		for _, a := range some {
			for _, b := range some {
				for _, c := range some {
					s := string([]byte{byte(op), a, b, c})
					x, e := ins.Get(s)
					if e != api.OK {
						continue
					}
					got++
					if back, e := ins.Put(x); back != s || e != api.OK || ins.Check(x) != api.OK {
						t.Fatalf("%q: %v, %q", s, x, back)
					}
				}
			}
		}
	}
	if got == 0 || strings.Contains(ins.Name(0), " ") {
		t.Error(got)
	}
}
