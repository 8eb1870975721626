package lex

import (
	"math"
	"strings"
	"testing"

	"feria/api"
)

// wrong looks for what is wrong with a reader.
func wrong(t *testing.T, r *Reader, at int, e api.Errno) {
	t.Helper()
	if where, what := r.Wrong(); where != at || what != e {
		t.Errorf("wrong at %d: %v; want %d: %v", where, what, at, e)
	}
}

func TestReader(t *testing.T) { // 11.1
	r := New("ab")
	if r.At() != 0 || r.Done() || r.Peek() != 'a' {
		t.Error("at first")
	}
	wrong(t, r, 0, api.OK)
	r.Fail(7, api.OK)
	wrong(t, r, 0, api.OK)
	r.Is('a')
	r.Fail(1, api.ErrName)
	r.Fail(0, api.ErrArg)
	wrong(t, r, 1, api.ErrName)
	if !r.Done() || r.At() != 1 || r.Peek() != 0 {
		t.Error("where something is wrong")
	}
	if e := New(""); !e.Done() || e.Peek() != 0 {
		t.Error("an empty text")
	}
	wrong(t, New(strings.Repeat("x", api.MaxText)), 0, api.OK)
	wrong(t, New(strings.Repeat("x", api.MaxText+1)), api.MaxText, api.ErrLong)
	if !New(strings.Repeat("1", api.MaxText+1)).Done() {
		t.Error("of a text that is too long nothing is taken")
	}
}

func TestBytesAndTexts(t *testing.T) { // 11.2
	r := New("ab\x00c")
	if r.Is() || r.Is('b', 'c') || !r.Is('b', 'a') || r.At() != 1 {
		t.Error("Is")
	}
	if r.Must('x', 'b') != 'b' || r.Must(0) != 0 || r.At() != 3 {
		t.Error("Must")
	}
	wrong(t, r, 0, api.OK)
	if r.Text("") || r.Text("cd") || r.Text("b") || !r.Text("c") || !r.Done() || r.Text("c") || r.Is('c') {
		t.Error("Text")
	}
	if r.Must('c') != 0 {
		t.Error("Must at the end")
	}
	wrong(t, r, 4, api.ErrEnd)
	r = New("ab")
	if r.Must('b') != 0 || r.At() != 0 {
		t.Error("Must of another byte")
	}
	wrong(t, r, 0, api.ErrForm)
	if r.Is('a') || r.Text("a") || r.Must('a') != 0 || r.Word() != "" || r.At() != 0 {
		t.Error("nothing is taken any more")
	}
}

func TestRuns(t *testing.T) { // 11.2
	r := New("12 ab")
	if n, ok := r.Number(2); n != 12 || !ok || r.Blanks() != 1 || r.Word() != "ab" || !r.Done() {
		t.Error("the example")
	}
	r = New(" \t \nAz{")
	if New("AZaz5").Word() != "AZaz" || New("@A").Word() != "" || New("[a").Word() != "" || New("`a").Word() != "" {
		t.Error("letters")
	}
	if r.Blanks() != 3 || r.Blanks() != 0 || r.Word() != "" || !r.Is('\n') || r.Word() != "Az" || r.Word() != "" || r.Peek() != '{' {
		t.Error("Blanks, Word")
	}
	wrong(t, r, 0, api.OK)
	r.End()
	wrong(t, r, 6, api.ErrForm)
	r = New("x")
	r.Is('x')
	r.End()
	wrong(t, r, 0, api.OK)
}

func TestNumber(t *testing.T) { // 11.2
	for _, c := range []struct {
		s    string
		most int
		n    int64
		e    api.Errno
	}{
		{"", 2, 0, api.ErrEnd}, {"x", 2, 0, api.ErrForm}, {"-1", 2, 0, api.ErrForm}, {"007", 3, 7, api.OK}, {"007", 2, 0, api.ErrRange},
		{"123", 2, 0, api.ErrRange}, {"5", 0, 0, api.ErrRange}, {"5", -1, 0, api.ErrRange}, {"5", 19, 0, api.ErrRange}, {"5", math.MaxInt, 0, api.ErrRange},
		{"999999999999999999", 18, 999999999999999999, api.OK}, {"9999999999999999999", 18, 0, api.ErrRange}, {"x", 0, 0, api.ErrForm}, {"", 99, 0, api.ErrEnd},
	} {
		r := New("a" + c.s)
		r.Is('a')
		n, ok := r.Number(c.most)
		at, e := r.Wrong()
		if n != c.n || ok != (c.e == api.OK) || e != c.e || e != api.OK && at != 1 {
			t.Errorf("Number of %q, %d: %d, %v, %d, %v", c.s, c.most, n, ok, at, e)
		}
	}
}

func TestWhatWasTaken(t *testing.T) { // 11.3
	r := New("07 \tmonK5,x")
	got := "0"
	r.Is('0')
	if _, ok := r.Number(1); ok {
		got += "7"
	}
	got += " \t"[:r.Blanks()] + r.Word()
	if got != "07 \tmonK" || r.At() != len(got) {
		t.Errorf("taken: %q, at %d", got, r.At())
	}
}

func TestNil(t *testing.T) { // 11.3
	var r *Reader
	r.Fail(3, api.ErrArg)
	r.End()
	n, ok := r.Number(3)
	if r.At() != 0 || !r.Done() || r.Peek() != 0 || r.Is('x') || r.Must('x') != 0 || r.Text("x") || r.Blanks() != 0 || n != 0 || ok || r.Word() != "" {
		t.Error("a nil reader")
	}
	wrong(t, r, 0, api.OK)
}
