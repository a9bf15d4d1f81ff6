package bits_test

import (
	"testing"

	"forebay/api"
	"forebay/bits"
)

const (
	least = -1 << 63
	most  = 1<<63 - 1
)

// Promise 2.1: bytes, the higher one ahead, of sizes that there are and that are held.
func TestPut(t *testing.T) {
	for _, x := range []struct {
		s       string
		n, size int
		want    string
	}{
		{"a", -2, 2, "a\xff\xfe"},
		{"", 0x01020304, 4, "\x01\x02\x03\x04"},
		{"", 0x01020304, 3, "\x02\x03\x04"},
		{"", 0x01020304, 2, "\x03\x04"},
		{"", 0x01020304, 1, "\x04"},
		{"xy", 0x01020304, 0, "xy\x04"},
		{"", 0x01020304, -9, "\x04"},
		{"", 0x0102030405, 5, "\x02\x03\x04\x05"},
		{"", 0x01020304, most, "\x01\x02\x03\x04"},
		{"", 0x01020304, least, "\x04"},
		{"", -1, 4, "\xff\xff\xff\xff"},
		{"", least, 4, "\x00\x00\x00\x00"},
		{"", most, 4, "\xff\xff\xff\xff"},
		{"", 0, 2, "\x00\x00"},
		{"\xff", 256, 1, "\xff\x00"},
	} {
		if got := bits.Put(x.s, x.n, x.size); got != x.want {
			t.Errorf("Put(%q, %d, %d) = %q", x.s, x.n, x.size, got)
		}
	}
}

// Promise 2.1: numbers with their sign.
func TestSigned(t *testing.T) {
	for _, x := range [][3]int{
		{65534, 2, -2}, {127, 1, 127}, {128, 1, -128}, {255, 1, -1}, {256, 1, 0}, {-1, 1, -1}, {-129, 1, 127},
		{32767, 2, 32767}, {32768, 2, -32768}, {1 << 23, 3, -1 << 23}, {1<<23 - 1, 3, 1<<23 - 1},
		{1 << 31, 4, -1 << 31}, {1<<31 - 1, 4, 1<<31 - 1}, {1 << 32, 4, 0}, {least, 4, 0}, {most, 4, -1},
		{128, 0, -128}, {128, -5, -128}, {1 << 31, 9, -1 << 31}, {least, 1, 0}, {most, 2, -1},
	} {
		if got := bits.Signed(x[0], x[1]); got != x[2] {
			t.Errorf("Signed(%d, %d) = %d, want %d", x[0], x[1], got, x[2])
		}
	}
}

// Promise 2.1: what fits.
func TestFits(t *testing.T) {
	for size := -1; size <= 6; size++ {
		half := 1 << (8*min(max(size, 1), 4) - 1)
		for n, want := range map[int]bool{
			0: true, -1: true, half - 1: true, half: false, -half: true, -half - 1: false, least: false, most: false,
		} {
			if got := bits.Fits(n, size); got != want {
				t.Errorf("Fits(%d, %d) = %v", n, size, got)
			}
		}
	}
}

// Promise 2.2: a cut is read from the front on.
func TestCut(t *testing.T) {
	c := bits.New("\x01\x02\x03\x04\x05\xff\xfe\xfd\xfc\x07")
	if c.Left() != 10 || c.Done() != api.ErrMore {
		t.Error(c.Left(), c.Done())
	}
	for i, x := range []struct{ size, want, left int }{
		{1, 1, 9}, {2, 0x0203, 7}, {-3, 4, 6}, {0, 5, 5}, {4, 0xfffefdfc, 1}, {1, 7, 0},
	} {
		if n := c.Num(x.size); n != x.want || c.Left() != x.left {
			t.Errorf("%d: %d, %d left", i, n, c.Left())
		}
	}
	if c.Done() != api.OK {
		t.Error(c.Done())
	}
	if n := c.Num(1); n != 0 || c.Left() != 0 || c.Done() != api.ErrShort {
		t.Error(n, c.Left(), c.Done())
	}
}

// Promise 2.2: sizes above four are held.
func TestCutHeld(t *testing.T) {
	c := bits.New("\x00\x00\x01\x02\x03")
	if n := c.Num(most); n != 258 || c.Left() != 1 || c.Done() != api.ErrMore {
		t.Error(n, c.Left(), c.Done())
	}
}

// Promise 2.2: what has failed reads nothing more, whatever is left.
func TestCutShort(t *testing.T) {
	c := bits.New("\x01\x02\x03")
	if n := c.Num(4); n != 0 || c.Left() != 3 || c.Done() != api.ErrShort {
		t.Error(n, c.Left(), c.Done())
	}
	if n := c.Num(1); n != 0 || c.Left() != 3 || c.Done() != api.ErrShort {
		t.Error(n, c.Left(), c.Done())
	}
	e := bits.New("")
	if e.Left() != 0 || e.Done() != api.OK {
		t.Error(e.Left(), e.Done())
	}
	if n := e.Num(1); n != 0 || e.Done() != api.ErrShort {
		t.Error(n, e.Done())
	}
}

// Promise 2.2: of nil.
func TestNil(t *testing.T) {
	var c *bits.Cut
	if c.Num(1) != 0 || c.Left() != 0 || c.Done() != api.ErrState {
		t.Error(c.Num(1), c.Left(), c.Done())
	}
	if z := new(bits.Cut); z.Left() != 0 || z.Num(2) != 0 {
		t.Error("a cut of nothing")
	}
}

// Promise 2.3: there and back.
func TestBack(t *testing.T) {
	for size := 1; size <= 4; size++ {
		for _, n := range []int{0, 1, -1, 127, -128, 32767, -32768, 1<<23 - 1, -1 << 23, 1<<31 - 1, -1 << 31, 99, -1000} {
			if !bits.Fits(n, size) {
				continue
			}
			c := bits.New(bits.Put("", n, size))
			if got := bits.Signed(c.Num(size), size); got != n || c.Done() != api.OK {
				t.Errorf("%d in %d: %d", n, size, got)
			}
		}
	}
}
