package picture_test

import (
	"reflect"
	"strings"
	"testing"

	"forebay/api"
	"forebay/picture"
)

// row is a row of stages; those below 0 wait, at what they are with the other sign.
func row(stages ...int) []api.Cell {
	var l []api.Cell
	for _, n := range stages {
		if n < 0 {
			l = append(l, api.Cell{Stage: -n, Wait: true})
		} else {
			l = append(l, api.Cell{Stage: n})
		}
	}
	return l
}

// wrong are rows that are none, and why.
var wrong = []struct {
	rows [][]api.Cell
	want api.Errno
}{
	{make([][]api.Cell, 101), api.ErrLong},
	{[][]api.Cell{row(0), {}}, api.ErrNone},
	{[][]api.Cell{row(1)}, api.ErrForm},
	{[][]api.Cell{row(0, 1<<20)}, api.ErrForm},
	{[][]api.Cell{row(0, 300), row(0, 5, 5)}, api.ErrForm},
}

// Promise 38.1: rows in writing.
func TestText(t *testing.T) {
	for i, x := range []struct {
		rows [][]api.Cell
		want string
	}{
		{nil, ""},
		{[][]api.Cell{row(0)}, "0\n"},
		{[][]api.Cell{row(0, -2, 5)}, "0 >2 -5\n"},
		{[][]api.Cell{row(0), row(0, 1, -7, -1048575), row(0, -1)}, "0\n0 -1 >7 >1048575\n0 >1\n"},
	} {
		if s, e := picture.Text(x.rows); s != x.want || e != api.OK {
			t.Errorf("%d: %q, %v", i, s, e)
		}
		if rows, e := picture.Read(x.want); e != api.OK || len(rows) != len(x.rows) || len(rows) > 0 && !reflect.DeepEqual(rows, x.rows) {
			t.Error(i, rows, e)
		}
	}
	for i, x := range wrong {
		if s, e := picture.Text(x.rows); s != "" || e != x.want {
			t.Error(i, s, e)
		}
	}
}

// Promise 38.1: rows that are read, written otherwise.
func TestRead(t *testing.T) {
	for s, want := range map[string][][]api.Cell{
		"":                    nil,
		"0":                   {row(0)},
		"-0":                  {row(0)},
		"   0    >2  -5 \n0":  {row(0, -2, 5), row(0)},
		"0 -3\n-0 >9 -1000\n": {row(0, 3), row(0, -9, 1000)},
	} {
		if rows, e := picture.Read(s); e != api.OK || len(rows) != len(want) || len(rows) > 0 && !reflect.DeepEqual(rows, want) {
			t.Errorf("%q: %v, %v", s, rows, e)
		}
	}
}

// Promise 38.1: what is no writing of rows, and why.
func TestReadWrong(t *testing.T) {
	for s, want := range map[string]api.Errno{
		strings.Repeat(" ", 200001):          api.ErrLong,
		strings.Repeat(" ", 200000):          api.ErrNone,
		"0" + strings.Repeat(" ", 199999):    api.OK,
		"0" + strings.Repeat(" ", 200000):    api.ErrLong,
		"\n":                                 api.ErrNone,
		"0\n\n0":                             api.ErrNone,
		"0\n   \n":                           api.ErrNone,
		"0 5":                                api.ErrForm,
		"0 >":                                api.ErrForm,
		"0 -":                                api.ErrForm,
		">":                                  api.ErrForm,
		"-":                                  api.ErrForm,
		"0 <5":                               api.ErrForm,
		"0 >+5":                              api.ErrForm,
		"0 >05":                              api.ErrForm,
		"0 > 5":                              api.ErrForm,
		"0 >5x":                              api.ErrForm,
		"0 >\t5":                             api.ErrForm,
		"00":                                 api.ErrForm,
		"x":                                  api.ErrForm,
		">0":                                 api.ErrForm,
		"1":                                  api.ErrForm,
		"-1":                                 api.ErrForm,
		"--1":                                api.ErrForm,
		"0 --1":                              api.ErrForm,
		"0 >-1":                              api.ErrForm,
		"0 >3 -3":                            api.ErrForm,
		"0 >3 -2":                            api.ErrForm,
		"0 >1048576":                         api.ErrForm,
		"0 >99999999999999999999":            api.ErrForm,
		strings.Repeat("\n", 101) + "x":      api.ErrForm, // words ahead of rows
		strings.Repeat("\n", 101):            api.ErrLong,
		"0 5\n" + strings.Repeat("0\n", 100): api.ErrForm,
		strings.Repeat("0\n", 100):           api.OK,
		strings.Repeat("0\n", 101):           api.ErrLong,
	} {
		rows, e := picture.Read(s)
		if e != want || e != api.OK && len(rows) != 0 {
			t.Errorf("%.20q: %v", s, e)
		}
	}
}

// Promise 38.2: pictures.
func TestChart(t *testing.T) {
	for i, x := range []struct {
		rows [][]api.Cell
		want string
	}{
		{nil, ""},
		{[][]api.Cell{row(0, -2, 5)}, "o.<..o\n"},
		{[][]api.Cell{row(0), row(0, -1, 2, -3, 7)}, "o\no<o<...o\n"},
		{[][]api.Cell{row(0, 199), row(0, -1)}, "o" + strings.Repeat(".", 198) + "o\no<\n"},
	} {
		if s, e := picture.Chart(x.rows); s != x.want || e != api.OK {
			t.Errorf("%d: %q, %v", i, s, e)
		}
	}
	for i, x := range wrong {
		if s, e := picture.Chart(x.rows); s != "" || e != x.want {
			t.Error(i, s, e)
		}
	}
	for _, rows := range [][][]api.Cell{{row(0, 200)}, {row(0), row(0, 3, -1000), row(0)}} {
		if s, e := picture.Chart(rows); s != "" || e != api.ErrRange {
			t.Error(s, e)
		}
	}
}

// Promise 38.3: what is written is read as it was.
func TestBack(t *testing.T) {
	for seed := range uint32(80) {
		x := seed
		next := func(n int) int {
			x = x*1664525 + 1013904223
			return int(x>>9) % n
		}
		var rows [][]api.Cell
		for range 1 + next(100) {
			cells, stage := row(0), 0
			for range next(100) {
				stage += 1 + next(9999)
				cells = append(cells, api.Cell{Stage: stage, Wait: next(2) == 0})
			}
			rows = append(rows, cells)
		}
		s, e := picture.Text(rows)
		if e != api.OK {
			t.Fatal(e)
		}
		back, e := picture.Read(s)
		if e != api.OK || !reflect.DeepEqual(back, rows) {
			t.Fatal(seed, e)
		}
		if again, _ := picture.Text(back); again != s {
			t.Fatal(seed)
		}
	}
}
