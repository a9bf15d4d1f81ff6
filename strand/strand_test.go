package strand_test

import (
	"fmt"
	"reflect"
	"slices"
	"strings"
	"testing"

	"forebay/api"
	"forebay/asm"
	"forebay/serial"
	"forebay/strand"
)

// read are marks that are written in short: a letter each, and its number.
func read(t *testing.T, s string) []serial.Mark {
	t.Helper()
	var l []serial.Mark
	for _, x := range strings.Fields(s) {
		m := serial.Mark{Kind: strings.Index("?RWTfrmLlIdwc", x[:1])}
		if len(x) > 1 {
			if _, err := fmt.Sscan(x[1:], &m.A); err != nil {
				t.Fatal(x, err)
			}
		}
		l = append(l, m)
	}
	return l
}

// preds are predecessors in short: strand by strand those ahead of it.
func preds(d strand.Dag) string {
	var l []string
	for _, p := range d.Preds {
		l = append(l, strings.ReplaceAll(strings.Trim(fmt.Sprint(p), "[]"), " ", ","))
	}
	return strings.Join(l, "|")
}

// nodes are nodes in short: of strands that are an iteration's its loop, itself, and its stage.
func nodes(d strand.Dag) string {
	var l []string
	for _, n := range d.Nodes {
		if n == (strand.Node{}) {
			l = append(l, "")
			continue
		}
		l = append(l, fmt.Sprintf("%d.%d.%d", n.Loop, n.Iter, n.Stage))
	}
	return strings.Join(l, "|")
}

// Promise 30.1: strands, and those ahead of them.
func TestBuild(t *testing.T) {
	for _, x := range []struct{ marks, preds, nodes string }{
		{"", "", ""},
		{"R1 W2 T3", "", ""},
		{"f r m", "|0|0|2,1", "|||"},
		{"f r f r m", "|0|0|2|2|4,1,3", "|||||"},
		{"f r m m", "|0|0|2,1|3", "||||"},
		{"m", "|0", "|"},
		{"f r m f r m", "|0|0|2,1|3|3|5,4", "||||||"},
		{"f f r m r m", "|0|1|1|3,2|0|5,4", "||||||"}, // a child of a child
		{"f f r r m", "|0|1|1|0|4,3", "|||||"},        // that is not met
		{"L1 I0 d0 l1", "|0|1", "|1.0.0|"},
		{"L1 I0 d0 I1 d1 l1", "|0|1|1,2", "|1.0.0|1.1.0|"},
		{"L1 I0 w1 w2 d0 I1 w1 w2 d1 I2 d2 l1", "|0|1|2|1|4,2|5,3|4|3,6,7", "|1.0.0|1.0.1|1.0.2|1.1.0|1.1.1|1.1.2|1.2.0|"},
		{"L1 I0 c1 c2 d0 I1 c1 c2 d1 I2 d2 l1", "|0|1|2|1|4|5|4|3,6,7", "|1.0.0|1.0.1|1.0.2|1.1.0|1.1.1|1.1.2|1.2.0|"},
		{"L1 I0 w2 w5 d0 I1 w1 w3 w5 w9 d1 I2 d2 l1", "|0|1|2|1|4,1|5,2|6,3|7,3|4|3,8,9", "|1.0.0|1.0.2|1.0.5|1.1.0|1.1.1|1.1.3|1.1.5|1.1.9|1.2.0|"},
		{"L1 I0 d0 I1 w7 d1 l1", "|0|1|2,1|1,3", "|1.0.0|1.1.0|1.1.7|"},
		// what is spawned in a stage is part of it; the last strand of a stage counts
		{"L1 I0 f r m w1 f r m d0 I1 w1 d1 l1", "|0|1|1|3,2|4|5|5|7,6|4|9,8|8,10", "|1.0.0||1.0.0|1.0.0|1.0.1||1.0.1|1.0.1|1.1.0|1.1.1|"},
		// a loop in a stage, and behind another one
		{"L1 I0 w1 L2 I0 d0 l2 d0 I1 d1 l1 L3 I0 d0 l3", "|0|1|2|3|1|4,5|6|7", "|1.0.0|1.0.1|2.0.0|1.0.1|1.1.0||3.0.0|"},
		// a loop in a child
		{"f L4 I0 d0 l4 r m", "|0|1|2|0|4,3", "||4.0.0|||"},
		{"L-7 I0 d0 l-7", "|0|1", "|-7.0.0|"},
		{"L1", "", ""},
		{"L1 I0 w5", "|0|1", "|1.0.0|1.0.5"},
	} {
		before := read(t, x.marks)
		l := slices.Clone(before)
		d, e := strand.Build(l)
		if e != api.OK || preds(d) != x.preds || nodes(d) != x.nodes || len(d.Preds) != len(d.Nodes) {
			t.Errorf("%s: %v\n%s\n%s\nwant\n%s\n%s", x.marks, e, preds(d), nodes(d), x.preds, x.nodes)
		}
		if !slices.Equal(l, before) {
			t.Error("what was handed in has changed")
		}
	}
}

// Promise 30.1: accesses, in order, of their strands.
func TestAccesses(t *testing.T) {
	d, e := strand.Build(read(t, "R5 W6 f T7 R1 r W2 m T-1 L1 I0 W3 w1 R4 d0 l1 R8"))
	want := []api.Access{
		{Strand: 0, Word: 5}, {Strand: 0, Word: 6, Write: true}, {Strand: 1, Word: -1, Write: true}, {Strand: 1, Word: 1}, {Strand: 2, Word: 2, Write: true},
		{Strand: 3, Word: -1, Write: true}, {Strand: 4, Word: 3, Write: true}, {Strand: 5, Word: 4}, {Strand: 6, Word: 8},
	}
	if e != api.OK || !slices.Equal(d.Accesses, want) {
		t.Error(d.Accesses, e)
	}
}

// Promise 30.1: what a frame can't do, and what is no mark.
func TestWrong(t *testing.T) {
	for marks, want := range map[string]api.Errno{
		"r":               api.ErrForm,
		"f r r":           api.ErrForm,
		"I0":              api.ErrForm,
		"f I0":            api.ErrForm,
		"l1":              api.ErrForm,
		"l0":              api.ErrForm,
		"w1":              api.ErrForm,
		"c1":              api.ErrForm,
		"d0":              api.ErrForm,
		"f w1":            api.ErrForm,
		"f d0":            api.ErrForm,
		"L1 R1":           api.ErrForm,
		"L1 W1":           api.ErrForm,
		"L1 T1":           api.ErrForm,
		"L1 f":            api.ErrForm,
		"L1 r":            api.ErrForm,
		"L1 m":            api.ErrForm,
		"L1 L2":           api.ErrForm,
		"L1 w1":           api.ErrForm,
		"L1 d0":           api.ErrForm,
		"L1 l1":           api.ErrForm, // without iterations
		"L1 I1":           api.ErrForm,
		"L1 I-1":          api.ErrForm,
		"L1 I0 r":         api.ErrForm,
		"L1 I0 I1":        api.ErrForm,
		"L1 I0 l1":        api.ErrForm,
		"L1 I0 d1":        api.ErrForm,
		"L1 I0 d0 I0":     api.ErrForm,
		"L1 I0 d0 I2":     api.ErrForm,
		"L1 I0 d0 l2":     api.ErrForm,
		"L1 I0 d0 d0":     api.ErrForm,
		"L1 I0 w0":        api.ErrForm,
		"L1 I0 w-1":       api.ErrForm,
		"L1 I0 c0":        api.ErrForm,
		"L1 I0 w3 w3":     api.ErrForm,
		"L1 I0 w3 c2":     api.ErrForm,
		"L1 I0 c3 w3":     api.ErrForm,
		"L1 I0 d0 l1 l1":  api.ErrForm,
		"L1 I0 f d0":      api.ErrForm,
		"L1 I0 d0 I1 d0":  api.ErrForm,
		"?":               api.ErrKind,
		"L1 ?":            api.ErrKind,
		"f r r ?":         api.ErrForm,
		"L1 I0 w99999999": api.OK,
	} {
		d, e := strand.Build(read(t, marks))
		if e != want || e != api.OK && (d.Preds != nil || d.Nodes != nil || d.Accesses != nil) {
			t.Errorf("%s: %v, %v", marks, d, e)
		}
	}
	for _, kind := range []int{-1, 0, 13, 99, -1 << 63, 1<<63 - 1} {
		if _, e := strand.Build([]serial.Mark{{Kind: kind}}); e != api.ErrKind {
			t.Error(kind, e)
		}
	}
}

// Promise 30.1: as many strands as may be, and one more, by each kind of mark.
func TestLong(t *testing.T) {
	full := strings.Repeat("m ", 999)
	for _, more := range []string{"", "R1", "T1", "L1", strings.Repeat("W1 ", 5000)} {
		if d, e := strand.Build(read(t, full+more)); e != api.OK || len(d.Preds) != 1000 {
			t.Error(more, e)
		}
	}
	for _, more := range []string{"m", "f", "L1 I0", "?", "r", "L1 R1"} {
		want := map[string]api.Errno{"?": api.ErrKind, "r": api.ErrForm, "L1 R1": api.ErrForm}[more]
		if want == 0 {
			want = api.ErrLong
		}
		if d, e := strand.Build(read(t, full+more)); e != want || d.Preds != nil {
			t.Error(more, e)
		}
	}
	full = strings.Repeat("m ", 998)
	for _, more := range []string{"f r", "L1 I0 w1", "L1 I0 c1", "L1 I0 d0 I1", "L1 I0 d0 l1"} {
		if _, e := strand.Build(read(t, full+more)); e != api.ErrLong {
			t.Error(more, e)
		}
	}
	for _, more := range []string{"f", "L1 I0", "L1 I0 d0"} {
		if d, e := strand.Build(read(t, full+more)); e != api.OK || len(d.Preds) != 1000 {
			t.Error(more, e)
		}
	}
}

// Promise 30.1: the lists of an answer share nothing.
func TestApart(t *testing.T) {
	d, _ := strand.Build(read(t, "L1 I0 f r m w1 d0 I1 w1 d1 I2 d2 l1"))
	want := preds(d)
	for _, p := range d.Preds {
		_ = append(p, 77)
		for i := range p {
			p[i] += 1000
		}
	}
	for _, p := range d.Preds {
		for i := range p {
			p[i] -= 1000
		}
	}
	if got := preds(d); got != want {
		t.Error(got, want)
	}
}

// Promise 30.2: predecessors have lower numbers; all strands but the first one have some.
func TestLower(t *testing.T) {
	text := "memory 16\nfunction\nspawn 3\npipe 1\nret\nfunction\nset 1 1\nadd 0 0 1\nset 2 9\nless 3 2 0\nzero 3 6\nbreak\nspawn 3\nwait 1\nspawn 3\nemit 0\npipe 2\nset 1 5\ncont 1\nret\nfunction\nspawn 3\nbreak\nfunction\nfetch 7 2 1\nret\n"
	p, e := asm.Read(text)
	if e != api.OK {
		t.Fatal(e)
	}
	l := serial.Marks(p, nil, 100000)
	d, e := strand.Build(l)
	if e != api.OK || len(d.Preds) < 60 {
		t.Fatal(len(d.Preds), e)
	}
	again, _ := strand.Build(l)
	if !reflect.DeepEqual(d, again) {
		t.Error("not the same again")
	}
	for i, p := range d.Preds {
		if (len(p) == 0) != (i == 0) {
			t.Error(i, p)
		}
		for _, n := range p {
			if n < 0 || n >= i {
				t.Error(i, p)
			}
		}
	}
}
