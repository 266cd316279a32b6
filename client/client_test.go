package client

import (
	"bytes"
	"fmt"
	"maps"
	"math"
	"math/rand/v2"
	"slices"
	"strings"
	"testing"

	"icebox/api"
	"icebox/far"
)

const (
	fine  = api.Fine
	fails = api.Fails
	lies  = api.Lies
	tries = api.MaxTries
)

func text(n int) string {
	return strings.Repeat("x", n)
}

// most is an object of as many bytes as there may be, no two ends of it alike.
func most() string {
	return "first" + text(api.MaxFile-9) + "last"
}

func ok(t *testing.T, l ...api.Errno) {
	t.Helper()
	for i, e := range l {
		if e != api.OK {
			t.Fatalf("call %d: error %d", i, e)
		}
	}
}

func is(t *testing.T, what string, got, want api.Errno) {
	t.Helper()
	if got != want {
		t.Errorf("%s: error %d, not %d", what, got, want)
	}
}

// told is the objects of f, each with its bytes.
func told(f *far.Far) string {
	var l []string
	for _, o := range f.Objects() {
		l = append(l, o.Name+"="+o.Data)
	}
	return strings.Join(l, " ")
}

func has(t *testing.T, what string, f *far.Far, want string) {
	t.Helper()
	if got := told(f); got != want {
		t.Errorf("%s: it has %.99q, not %.99q", what, got, want)
	}
}

// counts asks how many calls there were behind those of with, and how many outcomes are left.
func counts(t *testing.T, what string, f *far.Far, calls, left int) {
	t.Helper()
	if got := f.Calls() - start; got != calls || f.Left() != left {
		t.Errorf("%s: %d calls, %d left, not %d, %d", what, got, f.Left(), calls, left)
	}
}

// with is a store with the objects a, b and e, behind as many calls as start says; these outcomes befall what follows.
func with(t *testing.T, next ...int) *far.Far {
	t.Helper()
	f := far.New()
	ok(t, f.Put("e", nil), f.Put("b", []byte("bytes")), f.Put("a", []byte("ab")))
	f.Next(next)
	return f
}

const (
	start = 3
	there = "a=ab b=bytes e=" // what with has
)

// andC is what with has, and an object c.
func andC(s string) string {
	return "a=ab b=bytes c=" + s + " e="
}

// deed is one call of this package; what it answers beside its error is told as a text, which is "nil" of a nil list.
type deed struct {
	kind  int
	name  string
	b     string
	at, n int
}

const (
	up = iota
	down
	piece
	names
	drop
)

func (d deed) String() string {
	switch d.kind {
	case up:
		return fmt.Sprintf("Up %.50q of %d bytes %.20q", d.name, len(d.b), d.b)
	case down:
		return fmt.Sprintf("Down %.50q", d.name)
	case piece:
		return fmt.Sprintf("Piece %.50q %d %d", d.name, d.at, d.n)
	case names:
		return "Names"
	}
	return fmt.Sprintf("Drop %.50q", d.name)
}

func (d deed) do(f *far.Far) (string, api.Errno) {
	switch d.kind {
	case up:
		return "nil", Up(f, d.name, []byte(d.b))
	case down:
		return bytesTold(Down(f, d.name))
	case piece:
		return bytesTold(Piece(f, d.name, d.at, d.n))
	case names:
		l, e := Names(f)
		if len(l) == 0 {
			return "nil", e
		}
		return strings.Join(l, " "), e
	}
	return "nil", Drop(f, d.name)
}

func bytesTold(b []byte, e api.Errno) (string, api.Errno) {
	if len(b) == 0 {
		return "nil", e
	}
	return string(b), e
}

// one is a deed upon what with makes: what it tells, what the store has behind it, and how often it was called, where
// every call is Fine.
type one struct {
	deed
	e      api.Errno
	answer string
	behind string
	calls  int
}

// all are deeds of each call: done, with nothing to do, and with each error.
func all() []one {
	return []one{
		{deed{kind: up, name: "c", b: "new"}, api.OK, "nil", andC("new"), 1},
		{deed{kind: up, name: "c"}, api.OK, "nil", andC(""), 1},
		{deed{kind: up, name: "b", b: "bytes"}, api.OK, "nil", there, 2},
		{deed{kind: up, name: "e"}, api.OK, "nil", there, 2},
		{deed{kind: up, name: "b", b: "bytez"}, api.ErrHave, "nil", there, 2},
		{deed{kind: up, name: "b", b: "byte"}, api.ErrHave, "nil", there, 2},
		{deed{kind: up, name: "b", b: "bytes "}, api.ErrHave, "nil", there, 2},
		{deed{kind: up, name: "b"}, api.ErrHave, "nil", there, 2},
		{deed{kind: up, name: "e", b: "\x00"}, api.ErrHave, "nil", there, 2},
		{deed{kind: up, name: "", b: "new"}, api.ErrArg, "nil", there, 1},
		{deed{kind: up, name: "B", b: "bytes"}, api.ErrArg, "nil", there, 1},
		{deed{kind: up, name: text(api.MaxName + 1)}, api.ErrArg, "nil", there, 1},
		{deed{kind: down, name: "b"}, api.OK, "bytes", there, 1},
		{deed{kind: down, name: "e"}, api.OK, "nil", there, 1},
		{deed{kind: down, name: "c"}, api.ErrNone, "nil", there, 1},
		{deed{kind: down, name: ""}, api.ErrNone, "nil", there, 1},
		{deed{kind: piece, name: "b", at: 1, n: 3}, api.OK, "yte", there, 1},
		{deed{kind: piece, name: "b", at: 5, n: 1}, api.OK, "nil", there, 1},
		{deed{kind: piece, name: "b", at: 6, n: 1}, api.ErrArg, "nil", there, 1},
		{deed{kind: piece, name: "b", at: -1, n: 1}, api.ErrArg, "nil", there, 1},
		{deed{kind: piece, name: "b", at: 1, n: -1}, api.ErrArg, "nil", there, 1},
		{deed{kind: piece, name: "c", at: 0, n: 1}, api.ErrNone, "nil", there, 1},
		{deed{kind: names}, api.OK, "a b e", there, 1},
		{deed{kind: drop, name: "b"}, api.OK, "nil", "a=ab e=", 1},
		{deed{kind: drop, name: "e"}, api.OK, "nil", "a=ab b=bytes", 1},
		{deed{kind: drop, name: "c"}, api.OK, "nil", there, 1},
		{deed{kind: drop, name: ""}, api.OK, "nil", there, 1},
	}
}

// 6.1: each call where every try is answered: what it tells, what is done, how often the store was called.
func TestFine(t *testing.T) {
	for _, c := range all() {
		for _, next := range [][]int{nil, {fine, fine, fine, fine, fine}, {9, -1, 3, math.MaxInt, math.MinInt}} {
			f := with(t, next...)
			what := fmt.Sprint(c.deed, next)
			answer, e := c.do(f)
			if is(t, what, e, c.e); answer != c.answer {
				t.Errorf("%s: %q, not %q", what, answer, c.answer)
			}
			has(t, what, f, c.behind)
			counts(t, what, f, c.calls, max(0, len(next)-c.calls))
		}
	}
}

// 6.1, 6.2: none, one, MaxTries - 1, MaxTries and MaxTries + 1 calls in a row fail, and each number between.
func TestFailsInARow(t *testing.T) {
	for _, c := range all() {
		for n := range tries + 2 {
			next := append(slices.Repeat([]int{fails}, n), fine, fine, fine, fine)
			f := with(t, next...)
			what := fmt.Sprint(c.deed, next)
			e, answer, behind, calls := c.e, c.answer, c.behind, n+c.calls
			if n >= tries {
				e, answer, behind, calls = api.ErrRemote, "nil", there, tries
			}
			got, g := c.do(f)
			if is(t, what, g, e); got != answer {
				t.Errorf("%s: %q, not %q", what, got, answer)
			}
			has(t, what, f, behind)
			counts(t, what, f, calls, len(next)-calls)
		}
	}
}

// 6.1, 6.2: none, one, MaxTries - 1, MaxTries and MaxTries + 1 calls in a row lie: what they do is done, and done once.
func TestLiesInARow(t *testing.T) {
	for _, c := range all() {
		for n := range tries + 2 {
			next := append(slices.Repeat([]int{lies}, n), fine, fine, fine, fine)
			f := with(t, next...)
			what := fmt.Sprint(c.deed, next)
			e, answer, calls := c.e, c.answer, n+c.calls
			if n > 0 && c.kind == up && c.e == api.OK && c.calls == 1 {
				calls++ // what lied stands there, and is held against what was handed in
			}
			if n >= tries {
				e, answer, calls = api.ErrRemote, "nil", tries
			}
			got, g := c.do(f)
			if is(t, what, g, e); got != answer {
				t.Errorf("%s: %q, not %q", what, got, answer)
			}
			has(t, what, f, c.behind)
			counts(t, what, f, calls, len(next)-calls)
		}
	}
}

// 6.1: where a try is answered nothing is tried again, whatever it answers: what is left stays there.
func TestNotAgain(t *testing.T) {
	for _, c := range all() {
		for n := range tries {
			next := slices.Repeat([]int{fails}, n)
			next = append(next, slices.Repeat([]int{fine}, c.calls)...)
			f := with(t, append(next, fails, lies, fails)...)
			what := fmt.Sprint(c.deed, next)
			_, e := c.do(f)
			is(t, what, e, c.e)
			has(t, what, f, c.behind)
			counts(t, what, f, len(next), 3)
		}
	}
}

// 6.1: Up of bytes of each kind, of none and of as many as there may be, and of more.
func TestUp(t *testing.T) {
	for _, s := range []string{"", "x", "\x00", "\x00\xff\xc3 \n", text(1000), most()} {
		for _, next := range [][]int{nil, {fails}, {lies}, {fails, lies, fails}, {lies, fine, lies, fails, lies}} {
			f := with(t, next...)
			is(t, fmt.Sprint("Up ", len(s), next), Up(f, "c", []byte(s)), api.OK)
			has(t, fmt.Sprint("Up ", len(s), next), f, andC(s))
		}
	}
	large := []byte(most() + "x")
	for _, next := range [][]int{nil, {fails}, {lies}, {lies, fails, lies}, {fails, fails, fails, fails}} {
		f := with(t, next...)
		want, calls := api.ErrLarge, len(next)+1
		if len(next) == tries {
			want, calls = api.ErrRemote, tries
		}
		is(t, fmt.Sprint("Up of too many ", next), Up(f, "c", large), want)
		has(t, fmt.Sprint("Up of too many ", next), f, there)
		counts(t, fmt.Sprint("Up of too many ", next), f, calls, 0)
	}
}

// 6.1: the error that a Put names first counts.
func TestUpFirstError(t *testing.T) {
	f := with(t)
	large := []byte(most() + "x")
	is(t, "no name, too many", Up(f, "", large), api.ErrArg)
	is(t, "no name, too many", Up(f, "a/b", large), api.ErrArg)
	is(t, "a long name, too many", Up(f, text(api.MaxName+1), large), api.ErrArg)
	is(t, "too many, taken", Up(f, "a", large), api.ErrLarge)
	is(t, "taken", Up(f, "a", large[1:]), api.ErrHave)
	has(t, "errors", f, there)
	counts(t, "errors", f, 6, 0)
	ok(t, Up(f, text(api.MaxName), nil), Up(f, "-", nil), Up(f, ".", nil), Up(f, "0", nil))
}

// 6.1: under a name that is taken: by the same bytes, and by others, which differ at any place or in their number.
func TestUpTaken(t *testing.T) {
	great := most()
	for _, c := range []struct {
		s    string
		same []string
		not  []string
	}{
		{"", []string{""}, []string{"x", "\x00", great}},
		{"x", []string{"x"}, []string{"", "y", "X", "xx", "x\x00"}},
		{"bytes", []string{"bytes"}, []string{"", "b", "byte", "ytes", "bytes\x00", "bytesbytes", "Bytes", "bytez", "byxes", "setyb"}},
		{"\xff\x00", []string{"\xff\x00"}, []string{"\xff", "\x00", "\xff\x01", "\xfe\x00", "\uFFFD\x00"}},
		{"\xff", []string{"\xff"}, []string{"\xfe", "\uFFFD"}},
		{great, []string{great}, []string{"", "first", great[:len(great)-1], great[1:], "F" + great[1:], great[:len(great)-1] + "T", great[:1<<19] + "y" + great[1<<19+1:]}},
	} {
		for i, s := range append(c.same, c.not...) {
			want := api.ErrHave
			if i < len(c.same) {
				want = api.OK
			}
			for _, next := range [][]int{nil, {fails}, {lies, lies, lies}} {
				f := far.New()
				ok(t, f.Put("a", []byte(c.s)))
				f.Next(next)
				what := fmt.Sprintf("Up %.20q (%d), there %.20q (%d), %v", s, len(s), c.s, len(c.s), next)
				is(t, what, Up(f, "a", []byte(s)), want)
				has(t, what, f, "a="+c.s)
				if f.Left() != 0 || f.Calls() != 1+len(next)+2 {
					t.Errorf("%s: %d calls, %d left", what, f.Calls(), f.Left())
				}
			}
		}
	}
}

// 6.1: the Down behind a name that is taken is tried by itself: MaxTries times, however often the Put was.
func TestUpTakenDownFails(t *testing.T) {
	for first := range tries {
		for then := range tries + 2 {
			for _, o := range []int{fails, lies} {
				next := slices.Repeat([]int{o}, first)
				next = append(next, fine)
				next = append(next, slices.Repeat([]int{o}, then)...)
				next = append(next, fine, fine)
				want, calls := api.OK, first+1+then+1
				if then >= tries {
					want, calls = api.ErrRemote, first+1+tries
				}
				for _, s := range []string{"bytes", "others"} {
					f := with(t, next...)
					if s == "others" && want == api.OK {
						want = api.ErrHave
					}
					is(t, fmt.Sprint("Up ", s, next), Up(f, "b", []byte(s)), want)
					has(t, fmt.Sprint("Up ", s, next), f, there)
					counts(t, fmt.Sprint("Up ", s, next), f, calls, len(next)-calls)
				}
			}
		}
	}
}

// 6.1: an Up of which a try lied finds its own object, and holds it against its bytes.
func TestUpLied(t *testing.T) {
	for _, c := range []struct {
		next  []int
		want  api.Errno
		there bool
		calls int
	}{
		{[]int{lies}, api.OK, true, 3},
		{[]int{lies, lies, lies}, api.OK, true, 5},
		{[]int{lies, lies, lies, lies}, api.ErrRemote, true, 4},
		{[]int{fails, lies}, api.OK, true, 4},
		{[]int{lies, fails}, api.OK, true, 4},
		{[]int{fails, fails, lies}, api.OK, true, 5},
		{[]int{fails, fails, fails, lies}, api.ErrRemote, true, 4},
		{[]int{lies, fails, fails, fails}, api.ErrRemote, true, 4},
		{[]int{fails, fails, fails, fails}, api.ErrRemote, false, 4},
		{[]int{fails, fails, fails, fails, fails}, api.ErrRemote, false, 4},
		{[]int{lies, fine, fails}, api.OK, true, 4},
		{[]int{lies, fine, lies, fails, lies}, api.OK, true, 6},
		{[]int{lies, fine, lies, fails, lies, fails}, api.ErrRemote, true, 6},
		{[]int{lies, lies, lies, fine, lies, lies, lies}, api.OK, true, 8},
		{[]int{lies, lies, lies, fine, fails, fails, fails, fails}, api.ErrRemote, true, 8},
		{[]int{fine, lies}, api.OK, true, 1},
	} {
		f := with(t, c.next...)
		is(t, fmt.Sprint("Up ", c.next), Up(f, "c", []byte("new")), c.want)
		want := there
		if c.there {
			want = andC("new")
		}
		has(t, fmt.Sprint("Up ", c.next), f, want)
		counts(t, fmt.Sprint("Up ", c.next), f, c.calls, max(0, len(c.next)-c.calls))
		f.Next(nil)
		is(t, fmt.Sprint("Up again ", c.next), Up(f, "c", []byte("new")), api.OK)
		is(t, fmt.Sprint("Up of others ", c.next), Up(f, "c", []byte("old")), api.ErrHave)
		has(t, fmt.Sprint("Up again ", c.next), f, andC("new"))
	}
}

// 6.1: Down tells all, of an object of no bytes and of a great one, with one call.
func TestDown(t *testing.T) {
	great := most()
	f := far.New()
	ok(t, f.Put("great", []byte(great)), f.Put("none", nil), f.Put("odd", []byte("\x00\xff\xc3 \n")))
	for name, want := range map[string]string{"great": great, "none": "", "odd": "\x00\xff\xc3 \n"} {
		for _, next := range [][]int{nil, {fails}, {lies, lies, fails}} {
			f.Next(next)
			calls := f.Calls()
			if b, e := Down(f, name); string(b) != want || e != api.OK || f.Calls() != calls+len(next)+1 {
				t.Errorf("Down %s %v: %d bytes, error %d, %d calls", name, next, len(b), e, f.Calls()-calls)
			}
		}
	}
	for _, name := range []string{"", "grea", "greatt", "Great", "a/b", text(api.MaxName + 1), text(1 << 16)} {
		if b, e := Down(f, name); len(b) != 0 || e != api.ErrNone {
			t.Errorf("Down %.50q: %q, %d", name, b, e)
		}
	}
}

// 6.1: Piece at each place, of each number of bytes.
func TestPiece(t *testing.T) {
	for _, c := range []struct {
		name  string
		at, n int
		want  string
		e     api.Errno
	}{
		{"b", 0, 5, "bytes", api.OK},
		{"b", 0, 6, "bytes", api.OK},
		{"b", 0, math.MaxInt, "bytes", api.OK},
		{"b", 0, 4, "byte", api.OK},
		{"b", 0, 1, "b", api.OK},
		{"b", 0, 0, "", api.OK},
		{"b", 1, 3, "yte", api.OK},
		{"b", 1, 9, "ytes", api.OK},
		{"b", 1, math.MaxInt, "ytes", api.OK},
		{"b", 4, 1, "s", api.OK},
		{"b", 4, 2, "s", api.OK},
		{"b", 5, 0, "", api.OK},
		{"b", 5, 1, "", api.OK},
		{"b", 5, -1, "", api.ErrArg},
		{"b", 6, 0, "", api.ErrArg},
		{"b", 6, 1, "", api.ErrArg},
		{"b", math.MaxInt, math.MaxInt, "", api.ErrArg},
		{"b", -1, 0, "", api.ErrArg},
		{"b", -1, 2, "", api.ErrArg},
		{"b", -5, 5, "", api.ErrArg},
		{"b", math.MinInt, math.MinInt, "", api.ErrArg},
		{"b", 0, -1, "", api.ErrArg},
		{"b", 0, math.MinInt, "", api.ErrArg},
		{"e", 0, 0, "", api.OK},
		{"e", 0, 1, "", api.OK},
		{"e", 1, 0, "", api.ErrArg},
		{"e", 0, -1, "", api.ErrArg},
		{"c", 0, 1, "", api.ErrNone},
		{"c", -1, -1, "", api.ErrNone},
		{"", 9, 9, "", api.ErrNone},
		{"B", 0, 1, "", api.ErrNone},
	} {
		for n := range tries + 1 {
			f := with(t, slices.Repeat([]int{lies}, n)...)
			want, fault := c.want, c.e
			if n == tries {
				want, fault = "", api.ErrRemote
			}
			b, e := Piece(f, c.name, c.at, c.n)
			if string(b) != want || e != fault {
				t.Errorf("Piece %s %d %d behind %d lies: %q, %d", c.name, c.at, c.n, n, b, e)
			}
			has(t, "Piece", f, there)
			counts(t, "Piece", f, min(n+1, tries), 0)
		}
	}
	f := far.New()
	great := most()
	ok(t, f.Put("great", []byte(great)))
	for _, at := range []int{0, 1, api.MaxFile / 2, api.MaxFile - 4, api.MaxFile} {
		for _, n := range []int{0, 1, 512, api.MaxFile, api.MaxFile + 1} {
			if b, e := Piece(f, "great", at, n); string(b) != great[at:min(at+n, len(great))] || e != api.OK {
				t.Errorf("Piece of a great one, %d %d: %d bytes, error %d", at, n, len(b), e)
			}
		}
	}
}

// 6.1: Names of nothing, and of many, rising.
func TestNames(t *testing.T) {
	f := far.New()
	for n := range tries + 1 {
		f.Next(slices.Repeat([]int{fails}, n))
		l, e := Names(f)
		want := api.OK
		if n == tries {
			want = api.ErrRemote
		}
		if is(t, fmt.Sprint("Names of nothing ", n), e, want); len(l) != 0 {
			t.Error("Names of nothing:", l)
		}
	}
	f.Next(nil)
	want := []string{"-", ".", "0", "10", "9", "a", "a-b", "a0", "ab", "z", text(api.MaxName)}
	slices.Sort(want)
	for _, i := range rand.New(rand.NewPCG(6, 1)).Perm(len(want)) {
		ok(t, Up(f, want[i], nil))
	}
	for n := range tries {
		f.Next(slices.Repeat([]int{lies}, n))
		if l, e := Names(f); !slices.Equal(l, want) || e != api.OK {
			t.Error("Names:", l, e)
		}
	}
	for _, name := range want {
		ok(t, Drop(f, name))
	}
	if l, e := Names(f); len(l) != 0 || e != api.OK {
		t.Error("all dropped:", l, e)
	}
}

// 6.1: a Drop of what there is not, and of what a try ahead took away and said that it failed.
func TestDrop(t *testing.T) {
	for _, name := range []string{"c", "bb", "", "B", "a/b", text(api.MaxName + 1), text(1 << 16)} {
		for n := range tries + 1 {
			f := with(t, slices.Repeat([]int{fails}, n)...)
			want := api.OK
			if n == tries {
				want = api.ErrRemote
			}
			is(t, fmt.Sprintf("Drop %.50q behind %d", name, n), Drop(f, name), want)
			has(t, "Drop of none", f, there)
			counts(t, "Drop of none", f, min(n+1, tries), 0)
		}
	}
	for _, c := range []struct {
		next []int
		want api.Errno
		gone bool
	}{
		{nil, api.OK, true},
		{[]int{lies}, api.OK, true},
		{[]int{lies, fails, lies}, api.OK, true},
		{[]int{fails, lies}, api.OK, true},
		{[]int{fails, fails, fails}, api.OK, true},
		{[]int{lies, fails, fails, fails}, api.ErrRemote, true},
		{[]int{fails, fails, fails, lies}, api.ErrRemote, true},
		{[]int{fails, fails, fails, fails}, api.ErrRemote, false},
	} {
		f := with(t, c.next...)
		what := fmt.Sprint("Drop ", c.next)
		is(t, what, Drop(f, "b"), c.want)
		behind := there
		if c.gone {
			behind = "a=ab e="
		}
		has(t, what, f, behind)
		counts(t, what, f, min(len(c.next)+1, tries), 0)
		f.Next(nil)
		is(t, what+" again", Drop(f, "b"), api.OK)
		is(t, what+", Up anew", Up(f, "b", []byte("anew")), api.OK)
		has(t, what+", Up anew", f, "a=ab b=anew e=")
	}
}

// 6.1: of nil each call tells ErrNone, a Drop too, whatever else is wrong.
func TestNil(t *testing.T) {
	for range 2 {
		for _, c := range all() {
			answer, e := c.do(nil)
			if is(t, fmt.Sprint(c.deed, " of nil"), e, api.ErrNone); answer != "nil" {
				t.Errorf("%s of nil: %q", c.deed, answer)
			}
		}
	}
	is(t, "Up of too many, of nil", Up(nil, "a", make([]byte, api.MaxFile+1)), api.ErrNone)
	b, e := Piece(nil, "a", math.MinInt, math.MinInt)
	if is(t, "Piece of nil", e, api.ErrNone); b != nil {
		t.Error("Piece of nil:", b)
	}
}

// R1: of a store that far.New did not make no call panics.
func TestZero(t *testing.T) {
	for _, c := range all() {
		c.do(new(far.Far))
	}
}

// R3: what is handed in is neither changed nor kept, spare room too, however often it is tried.
func TestHandedIn(t *testing.T) {
	for _, next := range [][]int{nil, {fails, fails}, {lies}, {lies, fails, lies, fine, fails, lies}, {lies, lies, lies, lies}} {
		f := with(t, next...)
		b := append(make([]byte, 0, 9), "new......"...)[:3]
		e := Up(f, "c", b)
		if string(b[:9]) != "new......" {
			t.Errorf("Up %v changes what is handed in: %q", next, b[:9])
		}
		copy(b[:9], "#########")
		has(t, fmt.Sprint("Up keeps what is handed in ", next, e), f, andC("new"))
		b = append(b[:0], "bytes...."...)[:5]
		f.Next(next[:min(len(next), 1)])
		ok(t, Up(f, "b", b))
		is(t, "Up of others", Up(f, "b", b[:4]), api.ErrHave)
		if string(b[:9]) != "bytes...." {
			t.Errorf("Up of what is there changes what is handed in: %q", b[:9])
		}
		copy(b[:9], "#########")
		has(t, "Up of what is there", f, andC("new"))
	}
}

// R3: what is told is new memory, spare room too.
func TestTold(t *testing.T) {
	for _, next := range [][]int{nil, {fails}, {lies, lies, lies}} {
		f := with(t, next...)
		asks := []func() ([]byte, api.Errno){
			func() ([]byte, api.Errno) { return Down(f, "b") },
			func() ([]byte, api.Errno) { return Piece(f, "b", 1, 3) },
			func() ([]byte, api.Errno) { return Piece(f, "b", 0, 99) },
			func() ([]byte, api.Errno) { return Piece(f, "b", 5, 0) },
			func() ([]byte, api.Errno) { return Down(f, "e") },
		}
		for i, ask := range asks {
			first, e := ask()
			f.Next(next)
			second, g := ask()
			ok(t, e, g)
			want := string(second)
			_ = append(first, "###"...)
			for j := range first[:cap(first)] {
				first[:cap(first)][j] = '#'
			}
			third, _ := ask()
			if string(second) != want || string(third) != want {
				t.Errorf("ask %d, %v: what was told shares memory: %q, %q", i, next, second, third)
			}
			has(t, "what was told is written into", f, there)
		}
		f.Next(next)
		first, _ := Names(f)
		second, _ := Names(f)
		_ = append(first[:1], "#")
		for j := range first[:cap(first)] {
			first[:cap(first)][j] = "#"
		}
		third, _ := Names(f)
		if want := []string{"a", "b", "e"}; !slices.Equal(second, want) || !slices.Equal(third, want) {
			t.Error("names that were told share memory:", second, third)
		}
		b, _ := Down(f, "b")
		ok(t, Drop(f, "b"), Up(f, "b", []byte("#####")))
		if string(b) != "bytes" || !slices.Equal(second, []string{"a", "b", "e"}) {
			t.Errorf("what was told changes: %q, %v", b, second)
		}
	}
}

// R5: two stores do not touch one another, and what befalls one is not tried at the other.
func TestTwo(t *testing.T) {
	for _, c := range all() {
		f, g := with(t, fails, lies, fails, fails), with(t)
		_, e := c.do(f)
		is(t, fmt.Sprint(c.deed), e, api.ErrRemote)
		has(t, "the other", g, there)
		counts(t, "the other", g, 0, 0)
		answer, e := c.do(g)
		if is(t, fmt.Sprint(c.deed), e, c.e); answer != c.answer {
			t.Errorf("%s: %q, not %q", c.deed, answer, c.answer)
		}
	}
}

// The rest holds the calls against what the chapter says, told in another way: not try by try, but by how many outcomes
// of those that are left no answer comes with, and whether one of those lied.

type slow struct {
	objects map[string]string
	left    []int
	calls   int
}

// tried takes the outcomes of one call that is tried: whether it was answered, and whether it was done ahead of that.
func (s *slow) tried() (answered, lied bool) {
	isAnswer := func(o int) bool { return o != fails && o != lies }
	n := slices.IndexFunc(append(slices.Clone(s.left), fine), isAnswer)
	lied = slices.Contains(s.left[:min(n, tries)], lies)
	taken := min(n+1, tries)
	s.calls += taken
	s.left = s.left[min(taken, len(s.left)):]
	return n < tries, lied
}

func isName(name string) bool {
	n := strings.Map(func(r rune) rune {
		if r >= 'a' && r <= 'z' || r >= '0' && r <= '9' || r == '-' || r == '.' {
			return 'x'
		}
		return 'X'
	}, name)
	return n != "" && n == text(len(name)) && len(n) <= 40
}

func (s *slow) up(d deed) api.Errno {
	had, taken := s.objects[d.name]
	may := isName(d.name)
	answered, lied := s.tried()
	if may && !taken && (answered || lied) {
		s.objects[d.name] = d.b
	}
	switch {
	case !answered:
		return api.ErrRemote
	case !may:
		return api.ErrArg
	case !taken && !lied:
		return api.OK
	}
	if answered, _ = s.tried(); !answered {
		return api.ErrRemote
	}
	if taken && had != d.b {
		return api.ErrHave
	}
	return api.OK
}

func (s *slow) piece(name string, at, n int) (string, api.Errno) {
	answered, _ := s.tried()
	b, taken := s.objects[name]
	switch {
	case !answered:
		return "", api.ErrRemote
	case !taken:
		return "", api.ErrNone
	case at < 0 || n < 0 || at > len(b):
		return "", api.ErrArg
	}
	return b[at:min(at+n, len(b))], api.OK
}

func (s *slow) do(d deed) (string, api.Errno) {
	switch d.kind {
	case up:
		return "", s.up(d)
	case down:
		return s.piece(d.name, 0, 1<<30)
	case piece:
		return s.piece(d.name, d.at, d.n)
	}
	answered, lied := s.tried()
	if d.kind == drop && (answered || lied) {
		delete(s.objects, d.name)
	}
	if !answered {
		return "", api.ErrRemote
	}
	if d.kind == drop {
		return "", api.OK
	}
	return strings.Join(slices.Sorted(maps.Keys(s.objects)), " "), api.OK
}

func (s *slow) tell() string {
	var l []string
	for _, name := range slices.Sorted(maps.Keys(s.objects)) {
		l = append(l, name+"="+s.objects[name])
	}
	return strings.Join(l, " ")
}

// alike does d at both, and holds all that is to be seen behind it against each other.
func alike(t *testing.T, what string, d deed, f *far.Far, s *slow) {
	t.Helper()
	answer, e := d.do(f)
	want, fault := s.do(d)
	if answer == "nil" {
		answer = ""
	}
	if answer != want || e != fault {
		t.Errorf("%s, %s: %q, %d, not %q, %d", what, d, answer, e, want, fault)
	}
	if told(f) != s.tell() || f.Calls() != s.calls || f.Left() != len(s.left) {
		t.Errorf("%s, %s: %q, %d calls, %d left, not %q, %d, %d", what, d, told(f), f.Calls(), f.Left(), s.tell(), s.calls, len(s.left))
	}
}

// 6.1, 6.2: each call under each row of outcomes: more than one Up takes of them, so that some are left.
func TestEachRow(t *testing.T) {
	rows := [][]int{nil}
	for i := 0; len(rows[i]) < 2*tries; i++ {
		for _, o := range []int{fine, fails, lies} {
			rows = append(rows, append(slices.Clone(rows[i]), o))
		}
	}
	for _, c := range all() {
		for _, next := range rows {
			s := &slow{map[string]string{"a": "ab", "b": "bytes", "e": ""}, append(slices.Clone(next), lies), start}
			alike(t, fmt.Sprint(s.left), c.deed, with(t, s.left...), s)
		}
		if t.Failed() {
			return
		}
	}
}

func someDeed(r *rand.Rand) deed {
	d := deed{kind: r.IntN(5), name: []string{"a", "b", "c", "-", "0.x"}[r.IntN(5)], at: r.IntN(5) - 1, n: r.IntN(5) - 1}
	if r.IntN(30) == 0 {
		d.name = []string{"", "A", text(41), text(40), "a/b"}[r.IntN(5)]
	}
	d.b = []string{"", "x", "y", "xy", "yx"}[r.IntN(5)]
	return d
}

// 6.1, 6.2: long rows of calls upon one store, whatever befalls them.
func TestAgainstSlow(t *testing.T) {
	for i := range 1000 {
		r := rand.New(rand.NewPCG(6, uint64(i)))
		f, s := far.New(), &slow{objects: map[string]string{}}
		for range 60 {
			if r.IntN(4) == 0 {
				s.left = nil
				for range r.IntN(20) {
					s.left = append(s.left, r.IntN(4))
				}
				f.Next(s.left)
			}
			alike(t, fmt.Sprint("run ", i), someDeed(r), f, s)
		}
		if t.Failed() {
			return
		}
	}
}

// 6.2: where fewer than MaxTries calls in a row fail or lie, a store is as one where none does: what is told and what is
// there.
func TestFewer(t *testing.T) {
	for i := range 500 {
		r := rand.New(rand.NewPCG(7, uint64(i)))
		f, g := far.New(), far.New()
		var next []int
		for range 60 {
			for range r.IntN(tries) {
				next = append(next, fails+r.IntN(2))
			}
			next = append(next, fine)
		}
		f.Next(next)
		for range 40 {
			d := someDeed(r)
			answer, e := d.do(f)
			if want, fault := d.do(g); answer != want || e != fault {
				t.Fatalf("run %d, %s: %q, %d, not %q, %d", i, d, answer, e, want, fault)
			}
			if told(f) != told(g) {
				t.Fatalf("run %d, %s: %q, not %q", i, d, told(f), told(g))
			}
		}
	}
}

// 6.1: what befalls a Put is not tried with other bytes: each try hands on all of them.
func TestEachTryWhole(t *testing.T) {
	b := []byte(most())
	for n := range tries {
		f := far.New()
		f.Next(slices.Repeat([]int{fails}, n))
		ok(t, Up(f, "a", b))
		if got, e := f.Get("a", 0, api.MaxFile); !bytes.Equal(got, b) || e != api.OK {
			t.Errorf("behind %d: %d bytes, error %d", n, len(got), e)
		}
	}
}
