package words_test

import (
	"slices"
	"testing"

	"forebay/words"
)

const (
	least = -1 << 63
	most  = 1<<63 - 1
)

// Promise 5.1: the words of a line.
func TestFields(t *testing.T) {
	for _, x := range []struct {
		line string
		want []string
	}{
		{"", nil},
		{" ", nil},
		{"    ", nil},
		{"a", []string{"a"}},
		{" a", []string{"a"}},
		{"a ", []string{"a"}},
		{"a b", []string{"a", "b"}},
		{"  set   2 -1  ", []string{"set", "2", "-1"}},
		{"a\tb\nc\rd", []string{"a\tb\nc\rd"}},
		{"\t \n", []string{"\t", "\n"}},
		{"a\u00a0b\u2003c", []string{"a\u00a0b\u2003c"}},
		{"\xff\xfe \x80", []string{"\xff\xfe", "\x80"}},
		{"a\x00b c", []string{"a\x00b", "c"}},
		{"äö ü", []string{"äö", "ü"}},
	} {
		if got := words.Fields(x.line); !slices.Equal(got, x.want) {
			t.Errorf("Fields(%q) = %q", x.line, got)
		}
	}
}

// Promise 5.1: words as a line.
func TestJoin(t *testing.T) {
	for _, x := range []struct {
		l    []string
		want string
	}{
		{nil, ""}, {[]string{"a"}, "a"}, {[]string{"a", "b", "c"}, "a b c"}, {[]string{"", ""}, " "}, {[]string{"a ", " b"}, "a   b"},
	} {
		before := slices.Clone(x.l)
		if got := words.Join(x.l...); got != x.want || !slices.Equal(x.l, before) {
			t.Errorf("Join(%q) = %q", x.l, got)
		}
	}
}

// Promise 5.1: the lines of a text.
func TestLines(t *testing.T) {
	for _, x := range []struct {
		text string
		want []string
	}{
		{"", nil},
		{"\n", []string{""}},
		{"\n\n", []string{"", ""}},
		{"a", []string{"a"}},
		{"a\n", []string{"a"}},
		{"a\nb", []string{"a", "b"}},
		{"a\n\nb\n", []string{"a", "", "b"}},
		{"\na", []string{"", "a"}},
		{"a\n ", []string{"a", " "}},
		{"a\r\nb", []string{"a\r", "b"}},
	} {
		if got := words.Lines(x.text); !slices.Equal(got, x.want) {
			t.Errorf("Lines(%q) = %q", x.text, got)
		}
	}
}

// Promise 5.2: numbers in writing.
func TestOf(t *testing.T) {
	for n, want := range map[int]string{
		0: "0", 7: "7", 10: "10", -1: "-1", -120: "-120", 65535: "65535", least: "-9223372036854775808", most: "9223372036854775807",
	} {
		if got := words.Of(n); got != want {
			t.Error(n, got)
		}
		if got, ok := words.Num(want); got != n || !ok {
			t.Error(want, got, ok)
		}
	}
}

// Promise 5.2: what is no number in writing.
func TestNumWrong(t *testing.T) {
	for _, s := range []string{
		"", "-", "+1", "01", "-01", "00", "-0", "+0", " 1", "1 ", "1_000", "0x1", "1e3", "1.0", "a", "--1", "1,2",
		"9223372036854775808", "-9223372036854775809", "99999999999999999999999", "١", "0b1", "1\n",
	} {
		if n, ok := words.Num(s); n != 0 || ok {
			t.Errorf("Num(%q) = %d, %v", s, n, ok)
		}
	}
}

// Promise 5.3: lists in writing.
func TestList(t *testing.T) {
	for _, x := range []struct {
		l    []int
		want string
	}{
		{nil, "-"}, {[]int{}, "-"}, {[]int{1, -2}, "1,-2"}, {[]int{0}, "0"}, {[]int{-1}, "-1"},
		{[]int{least, 0, most}, "-9223372036854775808,0,9223372036854775807"},
	} {
		if got := words.List(x.l); got != x.want {
			t.Error(x.l, got)
		}
		if got, ok := words.Nums(x.want); !slices.Equal(got, x.l) || !ok {
			t.Error(x.want, got, ok)
		}
	}
}

// Promise 5.3: what is no list in writing.
func TestNumsWrong(t *testing.T) {
	for _, s := range []string{"", ",", "1,", ",1", "1,,2", "1, 2", "--", "-,-", "1,-", "-,1", "+1", "01,2", "1;2", " -", "1,9223372036854775808"} {
		if l, ok := words.Nums(s); len(l) != 0 || ok {
			t.Errorf("Nums(%q) = %v, %v", s, l, ok)
		}
	}
}

// Promise 5.4: there and back.
func TestBack(t *testing.T) {
	var l []int
	for k := range 200 {
		n := (k*k*k - 50*k*k) << (k % 40)
		l = append(l, n)
		if got, ok := words.Num(words.Of(n)); got != n || !ok {
			t.Error(n, got)
		}
		if got, ok := words.Nums(words.List(l)); !slices.Equal(got, l) || !ok {
			t.Error(got)
		}
	}
	line := []string{"a", "bc", "d-1"}
	if got := words.Fields(words.Join(line...)); !slices.Equal(got, line) {
		t.Error(got)
	}
}
