package race_test

import (
	"fmt"
	"reflect"
	"slices"
	"strings"
	"testing"

	"forebay/api"
	"forebay/asm"
	"forebay/race"
	"forebay/reach"
	"forebay/serial"
	"forebay/strand"
)

// read is the program of so many words of memory that is written, with semicolons between its lines.
func read(t testing.TB, memory int, text string) api.Program {
	t.Helper()
	p, e := asm.Read(fmt.Sprintf("memory %d\n%s", memory, strings.ReplaceAll(text, "; ", "\n")))
	if e != api.OK {
		t.Fatal(e, text)
	}
	return p
}

// R and W are accesses of a strand to a word.
func R(strand, word int) api.Access { return api.Access{Strand: strand, Word: word} }
func W(strand, word int) api.Access { return api.Access{Strand: strand, Word: word, Write: true} }

// fork is two strands that are apart, behind one, and ahead of one.
var fork = [][]int{nil, {0}, {0}, {1, 2}}

// Promise 32.1: the first clash.
func TestFind(t *testing.T) {
	for i, x := range []struct {
		l    []api.Access
		want race.Clash
		is   bool
	}{
		{nil, race.Clash{}, false},
		{[]api.Access{W(0, 5), W(1, 5), W(1, 5), R(3, 5), W(3, 5)}, race.Clash{}, false},
		{[]api.Access{R(1, 5), R(2, 5), R(1, 5)}, race.Clash{}, false},
		{[]api.Access{W(1, 5), W(2, 6)}, race.Clash{}, false},
		{[]api.Access{W(1, 5), R(2, 5)}, race.Clash{First: 0, Second: 1, Word: 5}, true},
		{[]api.Access{R(1, 5), W(2, 5)}, race.Clash{First: 0, Second: 1, Word: 5}, true},
		{[]api.Access{W(1, -1), W(2, -1)}, race.Clash{First: 0, Second: 1, Word: -1}, true},
		{[]api.Access{W(2, 5), W(1, 5)}, race.Clash{First: 0, Second: 1, Word: 5}, true},
		{[]api.Access{R(0, 5), R(1, 5), W(1, 5), W(1, 5), R(2, 5)}, race.Clash{First: 2, Second: 4, Word: 5}, true},
		{[]api.Access{R(0, 5), R(1, 5), W(1, 5), W(1, 5), W(2, 5)}, race.Clash{First: 1, Second: 4, Word: 5}, true},
		{[]api.Access{W(0, 5), W(1, 6), W(1, 5), W(2, 5), W(2, 6)}, race.Clash{First: 2, Second: 3, Word: 5}, true},
		{[]api.Access{W(1, 7), W(1, 8), R(2, 8), W(2, 7)}, race.Clash{First: 1, Second: 2, Word: 8}, true},
		{[]api.Access{R(2, 5), R(1, 5), R(1, 5), W(1, 5)}, race.Clash{First: 0, Second: 3, Word: 5}, true},
		{[]api.Access{W(3, 0), W(0, 0)}, race.Clash{}, false},
	} {
		c, is, e := race.Find(strand.Dag{Preds: fork, Accesses: x.l})
		if c != x.want || is != x.is || e != api.OK {
			t.Error(i, c, is, e)
		}
	}
}

// Promise 32.1: among many strands the first one that it clashes with.
func TestFindMany(t *testing.T) {
	for seed := range uint32(400) {
		x := seed
		next := func(n int) int {
			x = x*1664525 + 1013904223
			return int(x>>9) % n
		}
		d := strand.Dag{Preds: make([][]int, 9)}
		for b := 1; b < 9; b++ {
			for range next(3) {
				d.Preds[b] = append(d.Preds[b], next(b))
			}
		}
		for range 12 {
			d.Accesses = append(d.Accesses, api.Access{Strand: next(9), Word: next(6), Write: next(4) == 0})
		}
		r, _ := reach.New(d.Preds)
		var want race.Clash
		found := false
		for second, b := range d.Accesses {
			for first, a := range d.Accesses[:second] {
				if !found && a.Word == b.Word && (a.Write || b.Write) && r.Apart(a.Strand, b.Strand) {
					want, found = race.Clash{First: first, Second: second, Word: a.Word}, true
				}
			}
		}
		if c, is, e := race.Find(d); c != want || is != found || e != api.OK {
			t.Fatal(seed, c, is, want, found)
		}
	}
}

// Promise 32.1: what is wrong.
func TestFindWrong(t *testing.T) {
	for i, x := range []struct {
		d    strand.Dag
		want api.Errno
	}{
		{strand.Dag{}, api.OK},
		{strand.Dag{Preds: make([][]int, 1001), Accesses: []api.Access{R(-1, 0)}}, api.ErrLong},
		{strand.Dag{Preds: [][]int{{0}}, Accesses: []api.Access{R(-1, 0)}}, api.ErrRange},
		{strand.Dag{Preds: fork, Accesses: []api.Access{R(0, 0), R(4, 0)}}, api.ErrRange},
		{strand.Dag{Preds: fork, Accesses: []api.Access{R(-1, 0)}}, api.ErrRange},
		{strand.Dag{Accesses: []api.Access{R(0, 0)}}, api.ErrRange},
		{strand.Dag{Preds: fork, Accesses: []api.Access{W(1, 0), W(2, 0), R(9, 0)}}, api.ErrRange},
	} {
		if c, is, e := race.Find(x.d); c != (race.Clash{}) || is || e != x.want {
			t.Error(i, c, is, e)
		}
	}
}

// Promise 32.2, examples 1 and 3: verdicts.
func TestJudge(t *testing.T) {
	head := "function; pipe 1; ret; function; set 1 1; add 0 0 1; set 2 3; less 3 2 0; zero 3 6; break; "
	for i, x := range []struct {
		memory int
		text   string
		input  []int
		fuel   int
		want   int
	}{
		{0, "function; ret", nil, 9, race.Clean},
		{1, "function; spawn 1; spawn 1; sync; ret; function; store 0 1; ret", nil, 99, race.Clashes},
		{1, "function; spawn 1; spawn 1; sync; ret; function; load 0 1; ret", nil, 99, race.Clean},
		{1, "function; spawn 1; sync; spawn 1; sync; ret; function; store 0 1; ret", nil, 99, race.Clean},
		{1, "function; spawn 1; load 1 2; sync; ret; function; store 0 1; ret", nil, 99, race.Clashes},
		{1, "function; spawn 1; sync; load 1 2; ret; function; fetch 1 2 3; ret", nil, 99, race.Clean},
		{0, "function; spawn 1; emit 0; ret; function; emit 0; ret", nil, 99, race.Clashes},
		{0, "function; spawn 1; ret; function; emit 0; ret", nil, 99, race.Clean},
		{0, head + "wait 1; emit 0; ret", nil, 999, race.Clean},
		{0, head + "cont 1; emit 0; ret", nil, 999, race.Clashes},
		{0, "function; div 0 0 0; ret", nil, 9, race.Faulty},
		{0, "function; jump 0", nil, 9, race.Endless},
		{0, "function; emit 0; ret", nil, 1, race.Endless},
		{0, "function; ret", []int{1}, 9, race.Wrong},
		{0, "function; spawn 1; spawn 1; set 1 400; less 2 3 1; set 4 1; add 3 3 4; spawn 1; sync; zero 2 10; jump 3; ret; function; emit 0; ret", nil, 99999, race.Great},
	} {
		p := read(t, x.memory, x.text)
		verdict, o := race.Judge(p, x.input, x.fuel)
		want, _ := serial.Eval(p, x.input, x.fuel)
		if verdict != x.want || !reflect.DeepEqual(o, want) {
			t.Error(i, verdict, o)
		}
	}
	if verdict, o := race.Judge(api.Program{}, nil, 9); verdict != race.Wrong || !reflect.DeepEqual(o, serial.Outcome{}) {
		t.Error(verdict, o)
	}
}

// Promise 32.2: more accesses than are judged.
func TestGreat(t *testing.T) {
	// 100 rounds of n stores each, and some alone
	text := func(alone int) string {
		return "function; set 1 100; set 2 1; zero 1 35; " + strings.Repeat("store 0 2; ", 30) + "sub 1 1 2; jump 2; " + strings.Repeat("store 0 2; ", alone) + "ret"
	}
	for alone, want := range map[int]int{0: race.Clean, 1: race.Great} {
		p := read(t, 1, text(alone))
		d, _ := strand.Build(serial.Marks(p, nil, 99999))
		if len(d.Accesses) != 3000+alone {
			t.Fatal(len(d.Accesses))
		}
		if got, o := race.Judge(p, nil, 99999); got != want || o.Status != api.Done {
			t.Error(alone, got)
		}
	}
}

// Promise 32.3: where all strands come one behind the other nothing clashes; nor where nobody writes.
func TestLine(t *testing.T) {
	line := make([][]int, 40)
	var l []api.Access
	for i := range line {
		if i > 0 {
			line[i] = []int{i - 1}
		}
		l = append(l, api.Access{Strand: i, Word: i % 3, Write: i%2 == 0})
	}
	if c, is, e := race.Find(strand.Dag{Preds: line, Accesses: l}); is || e != api.OK {
		t.Error(c, e)
	}
	slices.Reverse(l)
	if c, is, e := race.Find(strand.Dag{Preds: line, Accesses: l}); is || e != api.OK {
		t.Error(c, e)
	}
	for i := range l {
		l[i].Write = false
	}
	if c, is, e := race.Find(strand.Dag{Preds: make([][]int, 40), Accesses: l}); is || e != api.OK {
		t.Error(c, e)
	}
}

// The verdicts' numbers.
func TestVerdicts(t *testing.T) {
	for i, n := range []int{race.Clean, race.Clashes, race.Faulty, race.Endless, race.Wrong, race.Great} {
		if i != n {
			t.Error(i, n)
		}
	}
}
