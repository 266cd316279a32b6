package far

import (
	"fmt"
	"math"
	"math/rand/v2"
	"slices"
	"strings"
	"testing"
	"unsafe"

	"icebox/api"
)

func text(n int) string {
	return strings.Repeat("x", n)
}

func ok(t *testing.T, l ...api.Errno) {
	t.Helper()
	for i, e := range l {
		if e != api.OK {
			t.Fatalf("call %d: error %d", i, e)
		}
	}
}

func is(t *testing.T, what string, got, want api.Errno) {
	t.Helper()
	if got != want {
		t.Errorf("%s: error %d, not %d", what, got, want)
	}
}

// told is the objects of f, each with its bytes; none of them may have loose ones.
func told(f *Far) string {
	var l []string
	for _, o := range f.Objects() {
		s := o.Name + "=" + o.Data
		if o.Loose != 0 {
			s += fmt.Sprint("/", o.Loose)
		}
		l = append(l, s)
	}
	return strings.Join(l, " ")
}

func has(t *testing.T, what string, f *Far, want string) {
	t.Helper()
	if got := told(f); got != want {
		t.Errorf("%s: %q, not %q", what, got, want)
	}
}

// counts asks how many calls there were, and how many outcomes are left.
func counts(t *testing.T, what string, f *Far, calls, left int) {
	t.Helper()
	if f.Calls() != calls || f.Left() != left {
		t.Errorf("%s: Calls %d, Left %d, not %d, %d", what, f.Calls(), f.Left(), calls, left)
	}
}

// with is a store with the objects a and b, behind two calls.
func with(t *testing.T) *Far {
	t.Helper()
	f := New()
	ok(t, f.Put("b", []byte("bytes")), f.Put("a", []byte("ab")))
	return f
}

const start = "a=ab b=bytes" // what with has

// call is a Put, Get, List or Drop; what it answers beside its error is told as a text, which is "nil" of a nil list.
type call struct {
	what string
	do   func(*Far) (string, api.Errno)
}

func puts(name, s string) call {
	return call{fmt.Sprintf("Put %.50q %.20q", name, s), func(f *Far) (string, api.Errno) {
		return "nil", f.Put(name, []byte(s))
	}}
}

func gets(name string, at, n int) call {
	return call{fmt.Sprintf("Get %.50q %d %d", name, at, n), func(f *Far) (string, api.Errno) {
		b, e := f.Get(name, at, n)
		if b == nil {
			return "nil", e
		}
		return string(b), e
	}}
}

func lists() call {
	return call{"List", func(f *Far) (string, api.Errno) {
		l, e := f.List()
		if l == nil {
			return "nil", e
		}
		return strings.Join(l, " "), e
	}}
}

func drops(name string) call {
	return call{fmt.Sprintf("Drop %.50q", name), func(f *Far) (string, api.Errno) {
		return "nil", f.Drop(name)
	}}
}

// deed is a call of a store that with made: what it tells where it is Fine, and what the store has where it is done.
type deed struct {
	call
	e      api.Errno
	answer string
	behind string
}

// deeds are all calls, both where they are done and where they tell an error, each of their errors.
func deeds() []deed {
	large := text(api.MaxFile + 1)
	return []deed{
		{puts("c", "new"), api.OK, "nil", "a=ab b=bytes c=new"},
		{puts("0", ""), api.OK, "nil", "0= a=ab b=bytes"},
		{puts("", "new"), api.ErrArg, "nil", start},
		{puts("C", "new"), api.ErrArg, "nil", start},
		{puts("c", large), api.ErrLarge, "nil", start},
		{puts("a", "new"), api.ErrHave, "nil", start},
		{puts("a", "ab"), api.ErrHave, "nil", start},
		{gets("b", 0, 9), api.OK, "bytes", start},
		{gets("b", 1, 3), api.OK, "yte", start},
		{gets("c", 0, 9), api.ErrNone, "nil", start},
		{gets("b", 6, 1), api.ErrArg, "nil", start},
		{gets("b", -1, 1), api.ErrArg, "nil", start},
		{gets("b", 0, -1), api.ErrArg, "nil", start},
		{lists(), api.OK, "a b", start},
		{drops("a"), api.OK, "nil", "b=bytes"},
		{drops("b"), api.OK, "nil", "a=ab"},
		{drops("c"), api.ErrNone, "nil", start},
		{drops(""), api.ErrNone, "nil", start},
	}
}

// 5.1 and 4: each byte that may be in a name, at each end and between, and each length.
func TestNames(t *testing.T) {
	const may = "abcdefghijklmnopqrstuvwxyz0123456789-."
	for i := range 256 {
		c := string([]byte{byte(i)})
		want := api.OK
		if !strings.Contains(may, c) {
			want = api.ErrArg
		}
		for _, name := range []string{c, "z" + c, c + "z", "z" + c + "9", c + c, text(39) + c, c + text(39), text(20) + c + text(19)} {
			f := New()
			is(t, fmt.Sprintf("Put %q", name), f.Put(name, []byte("x")), want)
			if l := f.Objects(); len(l) == 1 != (want == api.OK) || len(l) == 1 && l[0].Name != name {
				t.Errorf("Put %q: %v", name, l)
			}
		}
	}
	for n, want := range map[int]api.Errno{0: api.ErrArg, 1: api.OK, 2: api.OK, api.MaxName - 1: api.OK, api.MaxName: api.OK, api.MaxName + 1: api.ErrArg, 2 * api.MaxName: api.ErrArg, 1 << 16: api.ErrArg} {
		is(t, fmt.Sprint("a name of ", n), New().Put(text(n), nil), want)
		is(t, fmt.Sprint("no name of ", n), New().Put(strings.Repeat("X", n), nil), api.ErrArg)
	}
	is(t, "bytes are counted, not letters", New().Put(strings.Repeat("é", 20), nil), api.ErrArg)
	is(t, "all that may be", New().Put(may, nil), api.OK)
	is(t, "a name of a dot", New().Put(".", nil), api.OK)
	is(t, "a name of hyphens", New().Put("--", nil), api.OK)
}

// 5.1: what is put is there, byte by byte, of no bytes too.
func TestPut(t *testing.T) {
	f := New()
	ok(t, f.Put("nil", nil), f.Put("none", []byte{}), f.Put("bytes", []byte("\x00\xff\xc3 \n")))
	has(t, "Put", f, "bytes=\x00\xff\xc3 \n nil= none=")
	for name, want := range map[string]string{"nil": "", "none": "", "bytes": "\x00\xff\xc3 \n"} {
		if b, e := f.Get(name, 0, 9); string(b) != want || e != api.OK {
			t.Errorf("Get %s: %q, %d", name, b, e)
		}
	}
	counts(t, "Put", f, 6, 0)
}

// 5.1: up to MaxFile bytes, and beyond it; that is no bound of all objects together.
func TestPutLarge(t *testing.T) {
	f := New()
	most := []byte(text(api.MaxFile - 1))
	most = append(most, 'z')
	for _, name := range []string{"a", "b", "c"} {
		ok(t, f.Put(name, most))
		if b, e := f.Get(name, 0, api.MaxFile); string(b) != string(most) || e != api.OK {
			t.Error("Get of all:", len(b), e)
		}
		if b, e := f.Get(name, api.MaxFile-1, 9); string(b) != "z" || e != api.OK {
			t.Errorf("Get of the last byte: %q, %d", b, e)
		}
	}
	ok(t, f.Put("less", most[1:]))
	for _, n := range []int{1, 2, api.MaxFile} {
		is(t, fmt.Sprint("MaxFile and ", n), f.Put("more", make([]byte, api.MaxFile+n)), api.ErrLarge)
	}
	if l, e := f.List(); strings.Join(l, " ") != "a b c less" || e != api.OK {
		t.Error("List:", l, e)
	}
}

// 5.1, 5.2: an object never changes: whatever is put under its name, it is as it was.
func TestPutTaken(t *testing.T) {
	f := with(t)
	for i, s := range []string{"bytes", "bytes", "BYTES", "byte", "bytes and more", ""} {
		is(t, fmt.Sprintf("Put %q", s), f.Put("b", []byte(s)), api.ErrHave)
		has(t, fmt.Sprintf("Put %q", s), f, start)
		counts(t, s, f, 3+i, 0)
	}
	ok(t, f.Put("empty", nil))
	is(t, "Put under a name of no bytes", f.Put("empty", []byte("x")), api.ErrHave)
	is(t, "Put of no bytes under it", f.Put("empty", nil), api.ErrHave)
	has(t, "the empty one", f, start+" empty=")
}

// 5.1: a name that was dropped may be put anew.
func TestPutDropped(t *testing.T) {
	f := with(t)
	for _, s := range []string{"one", "", "one", "two", "bytes"} {
		ok(t, f.Drop("b"))
		has(t, "Drop", f, "a=ab")
		ok(t, f.Put("b", []byte(s)))
		has(t, "Put", f, "a=ab b="+s)
		is(t, "Put again", f.Put("b", []byte("x")), api.ErrHave)
	}
	counts(t, "Put", f, 2+5*3, 0)
}

// 5.1: the error that the chapter names first counts.
func TestFirstError(t *testing.T) {
	f := with(t)
	large := make([]byte, api.MaxFile+1)
	is(t, "Put: no name, too long", f.Put("", large), api.ErrArg)
	is(t, "Put: no name, too long", f.Put("A", large), api.ErrArg)
	is(t, "Put: a long name, too long", f.Put(text(api.MaxName+1), large), api.ErrArg)
	is(t, "Put: too long, taken", f.Put("a", large), api.ErrLarge)
	is(t, "Put: taken", f.Put("a", large[1:]), api.ErrHave)
	for _, name := range []string{"c", "", "A", "a ", text(api.MaxName + 1), text(1 << 16)} {
		for _, c := range []struct{ at, n int }{{0, 1}, {1, 1}, {-1, 1}, {0, -1}, {-1, -1}, {math.MaxInt, math.MaxInt}, {math.MinInt, math.MinInt}} {
			b, e := f.Get(name, c.at, c.n)
			if is(t, fmt.Sprintf("Get %.50q %v", name, c), e, api.ErrNone); b != nil {
				t.Errorf("Get %.50q %v: %q", name, c, b)
			}
		}
		is(t, fmt.Sprintf("Drop %.50q", name), f.Drop(name), api.ErrNone)
	}
	has(t, "behind errors", f, start)
}

// 5.1: where a Get may be, and what it tells.
func TestGet(t *testing.T) {
	f := New()
	ok(t, f.Put("a", []byte("hello")), f.Put("empty", nil), f.Put("aa", []byte("other")))
	for i, c := range []struct {
		name  string
		at, n int
		want  string
		e     api.Errno
	}{
		{"a", 0, 5, "hello", api.OK},
		{"a", 0, 6, "hello", api.OK},
		{"a", 0, api.MaxFile, "hello", api.OK},
		{"a", 0, math.MaxInt, "hello", api.OK},
		{"a", 0, 4, "hell", api.OK},
		{"a", 0, 1, "h", api.OK},
		{"a", 0, 0, "", api.OK},
		{"a", 2, 2, "ll", api.OK},
		{"a", 2, 3, "llo", api.OK},
		{"a", 2, 4, "llo", api.OK},
		{"a", 2, math.MaxInt, "llo", api.OK},
		{"a", 4, 1, "o", api.OK},
		{"a", 4, 2, "o", api.OK},
		{"a", 4, 0, "", api.OK},
		{"a", 5, 0, "", api.OK},
		{"a", 5, 1, "", api.OK},
		{"a", 5, math.MaxInt, "", api.OK},
		{"a", 5, -1, "", api.ErrArg},
		{"a", 6, 0, "", api.ErrArg},
		{"a", 6, 1, "", api.ErrArg},
		{"a", math.MaxInt, 0, "", api.ErrArg},
		{"a", math.MaxInt, math.MaxInt, "", api.ErrArg},
		{"a", -1, 0, "", api.ErrArg},
		{"a", -1, 1, "", api.ErrArg},
		{"a", -5, 5, "", api.ErrArg},
		{"a", math.MinInt, 1, "", api.ErrArg},
		{"a", 0, -1, "", api.ErrArg},
		{"a", 2, -1, "", api.ErrArg},
		{"a", 0, math.MinInt, "", api.ErrArg},
		{"empty", 0, 0, "", api.OK},
		{"empty", 0, 1, "", api.OK},
		{"empty", 1, 0, "", api.ErrArg},
		{"empty", 0, -1, "", api.ErrArg},
		{"empty", -1, 0, "", api.ErrArg},
		{"aa", 0, 9, "other", api.OK},
		{"aaa", 0, 9, "", api.ErrNone},
	} {
		b, e := f.Get(c.name, c.at, c.n)
		if string(b) != c.want || e != c.e {
			t.Errorf("Get %s %d %d: %q, %d", c.name, c.at, c.n, b, e)
		}
		if e != api.OK && b != nil {
			t.Errorf("Get %s %d %d: beside an error stands %q", c.name, c.at, c.n, b)
		}
		counts(t, "Get", f, 4+i, 0)
	}
	has(t, "Get", f, "a=hello aa=other empty=")
}

// 5.1: names rising byte by byte, whatever the order in which they came.
func TestRising(t *testing.T) {
	names := []string{"-", ".", "..", ".a", "0", "10", "9", "a", "a-", "a.", "a0", "aa", "ab", "b", "z", text(39), text(40)}
	slices.Sort(names)
	for turn := range uint64(20) {
		f := New()
		for _, i := range rand.New(rand.NewPCG(5, turn)).Perm(len(names)) {
			ok(t, f.Put(names[i], []byte("of "+names[i])))
		}
		if l, e := f.List(); !slices.Equal(l, names) || e != api.OK {
			t.Fatal("List:", l, e)
		}
		l := f.Objects()
		for i, name := range names {
			if len(l) != len(names) || l[i] != (api.File{Name: name, Data: "of " + name}) {
				t.Fatal("Objects:", l)
			}
		}
	}
}

// 5.1: a new store has nothing, nor has one where all is dropped; Objects is no call.
func TestNothing(t *testing.T) {
	f := New()
	for i := range 3 {
		for range 4 {
			if l := f.Objects(); len(l) != 0 {
				t.Error("Objects:", l)
			}
		}
		if l, e := f.List(); len(l) != 0 || e != api.OK {
			t.Error("List:", l, e)
		}
		counts(t, "of nothing", f, i+1, 0)
	}
	ok(t, f.Put("a", nil), f.Put("b", nil), f.Drop("b"), f.Drop("a"))
	if l, e := f.List(); len(l) != 0 || len(f.Objects()) != 0 || e != api.OK {
		t.Error("all dropped:", l, e)
	}
	counts(t, "all dropped", f, 8, 0)
	f.Next([]int{api.Fails, api.Lies})
	for range 3 {
		f.Objects()
		f.Copy()
		counts(t, "Objects", f, 8, 2)
	}
}

// 5.1: a Drop takes that one away, and once.
func TestDrop(t *testing.T) {
	f := with(t)
	ok(t, f.Put("ab", nil), f.Put("aa", []byte("x")))
	for _, name := range []string{"c", "abc", "", "-", "A", "a ", text(99)} {
		is(t, "Drop "+name, f.Drop(name), api.ErrNone)
	}
	has(t, "of what is not there", f, "a=ab aa=x ab= b=bytes")
	ok(t, f.Drop("a"))
	has(t, "Drop", f, "aa=x ab= b=bytes")
	is(t, "Drop again", f.Drop("a"), api.ErrNone)
	if b, e := f.Get("a", 0, 1); b != nil || e != api.ErrNone {
		t.Error("Get of what was dropped:", b, e)
	}
	ok(t, f.Drop("ab"), f.Drop("b"))
	if l, e := f.List(); !slices.Equal(l, []string{"aa"}) || e != api.OK {
		t.Error("List:", l, e)
	}
	counts(t, "Drop", f, 4+7+6, 0)
}

// 5.1: each outcome at each call, where it is done and where it tells an error. Calls and Left count each one.
func TestOutcomes(t *testing.T) {
	others := []int{api.Fine, api.Lies + 1, api.Fails - 2, -api.Lies, 7, 1 << 32, 1<<32 | api.Fails, 1<<32 | api.Lies, 1<<8 | api.Fails, math.MaxInt, math.MinInt}
	for _, d := range deeds() {
		fails, lies := with(t), with(t)
		fails.Next([]int{api.Fails})
		answer, e := d.do(fails)
		if is(t, d.what+" Fails", e, api.ErrRemote); answer != "nil" {
			t.Errorf("%s Fails: beside the error stands %q", d.what, answer)
		}
		has(t, d.what+" Fails", fails, start)
		counts(t, d.what+" Fails", fails, 3, 0)
		lies.Next([]int{api.Lies, api.Fine})
		answer, e = d.do(lies)
		if is(t, d.what+" Lies", e, api.ErrRemote); answer != "nil" {
			t.Errorf("%s Lies: beside the error stands %q", d.what, answer)
		}
		has(t, d.what+" Lies", lies, d.behind)
		counts(t, d.what+" Lies", lies, 3, 1)
		for _, o := range others {
			fine := with(t)
			fine.Next([]int{o, api.Fails, api.Fails})
			answer, e = d.do(fine)
			if is(t, fmt.Sprint(d.what, ", outcome ", o), e, d.e); answer != d.answer {
				t.Errorf("%s, outcome %d: %q, not %q", d.what, o, answer, d.answer)
			}
			has(t, fmt.Sprint(d.what, ", outcome ", o), fine, d.behind)
			counts(t, fmt.Sprint(d.what, ", outcome ", o), fine, 3, 2)
		}
	}
}

// 5.1: a call that failed, or lied, is not done later; what lied is done once.
func TestOnce(t *testing.T) {
	f := New()
	f.Next([]int{api.Fails, api.Lies})
	is(t, "Fails", f.Put("a", []byte("x")), api.ErrRemote)
	is(t, "Lies", f.Put("b", []byte("y")), api.ErrRemote)
	is(t, "what lied", f.Put("b", []byte("y")), api.ErrHave)
	ok(t, f.Drop("b"))
	has(t, "what was dropped", f, "")
	ok(t, f.Put("a", []byte("z")))
	has(t, "what failed", f, "a=z")
	f.Next([]int{api.Fails, api.Lies})
	is(t, "Fails", f.Drop("a"), api.ErrRemote)
	has(t, "a Drop that failed", f, "a=z")
	is(t, "Lies", f.Drop("a"), api.ErrRemote)
	has(t, "a Drop that lied", f, "")
	is(t, "what lied", f.Drop("a"), api.ErrNone)
	ok(t, f.Put("a", nil))
	has(t, "put anew", f, "a=")
}

// 5.1: an outcome is taken in turn, whichever call takes it.
func TestInTurn(t *testing.T) {
	l := []int{api.Fails, api.Fine, api.Lies, api.Fails, 9, api.Lies, api.Fine, api.Fails, api.Fails, api.Lies, -1, api.Lies}
	for first := range deeds() {
		f := with(t)
		f.Next(l)
		all := deeds()
		for i, o := range l {
			d := all[(first+i)%len(all)]
			fine := f.Copy()
			fine.Next(nil)
			ahead := told(f)
			want, fault := d.do(fine)
			behind := told(fine)
			switch o {
			case api.Fails:
				want, fault, behind = "nil", api.ErrRemote, ahead
			case api.Lies:
				want, fault = "nil", api.ErrRemote
			}
			answer, e := d.do(f)
			if is(t, d.what, e, fault); answer != want {
				t.Errorf("%s, outcome %d: %q, not %q", d.what, o, answer, want)
			}
			has(t, d.what, f, behind)
			counts(t, d.what, f, 3+i, len(l)-i-1)
		}
	}
}

// 5.1: of fewer outcomes than calls those behind them are Fine; of none all are.
func TestNextFewer(t *testing.T) {
	for n := range 6 {
		f := New()
		f.Next(slices.Repeat([]int{api.Fails}, n))
		counts(t, "Next", f, 0, n)
		for i := range 9 {
			want := api.OK
			if i < n {
				want = api.ErrRemote
			}
			_, e := f.List()
			is(t, fmt.Sprintf("call %d behind Next of %d", i, n), e, want)
			counts(t, "a call", f, i+1, max(0, n-i-1))
		}
		f.Next([]int{api.Lies})
		counts(t, "Next again", f, 9, 1)
		is(t, "used up, and then Next", f.Put("a", nil), api.ErrRemote)
		has(t, "used up, and then Next", f, "a=")
		ok(t, f.Drop("a"))
	}
}

// 5.1: Next is instead of what was left, of none too, and more than there are calls may be left.
func TestNextAgain(t *testing.T) {
	for _, taken := range []int{0, 1, 3} {
		for _, l := range [][]int{nil, {}, {api.Fine}, {api.Lies}, {api.Fine, api.Lies}, {api.Lies, 5, api.Lies, api.Fine, api.Lies, api.Lies}} {
			f := New()
			f.Next([]int{api.Fails, api.Fails, api.Fails, api.Fails})
			for range taken {
				_, e := f.List()
				is(t, "ahead", e, api.ErrRemote)
			}
			counts(t, "ahead", f, taken, 4-taken)
			f.Next(l)
			counts(t, "Next again", f, taken, len(l))
			for i := range 4 {
				name, want := fmt.Sprint(i), api.OK
				if i < len(l) && l[i] == api.Lies {
					want = api.ErrRemote
				}
				is(t, fmt.Sprint("behind it ", l, i), f.Put(name, nil), want)
				if n := len(f.Objects()); n != i+1 {
					t.Error("behind it", l, i, ":", n)
				}
				counts(t, "behind it", f, taken+i+1, max(0, len(l)-i-1))
			}
		}
	}
	f := New()
	f.Next([]int{api.Fails, api.Fails})
	f.Next([]int{api.Lies})
	f.Next([]int{api.Fine, api.Fails})
	counts(t, "Next, Next, Next", f, 0, 2)
	is(t, "Fine", f.Drop("a"), api.ErrNone)
	f.Next(nil)
	f.Next(nil)
	counts(t, "Next of none", f, 1, 0)
	is(t, "Next of none", f.Drop("a"), api.ErrNone)
}

// 5.1: a copy is the same: objects, outcomes, calls; and each goes its own way.
func TestCopy(t *testing.T) {
	for turn := range 2 {
		f := with(t)
		f.Next([]int{api.Fails, api.Fails, api.Lies})
		_, e := f.List()
		is(t, "Fails", e, api.ErrRemote)
		c := f.Copy()
		has(t, "Copy", c, start)
		counts(t, "Copy", c, 3, 2)
		if turn == 1 {
			c, f = f, c
		}
		is(t, "Fails in one", c.Put("c", nil), api.ErrRemote)
		is(t, "Lies in one", c.Put("c", nil), api.ErrRemote)
		ok(t, c.Drop("a"), c.Drop("b"), c.Put("b", []byte("anew")))
		c.Next([]int{api.Lies, api.Lies, api.Lies})
		has(t, "one", c, "b=anew c=")
		counts(t, "one", c, 8, 3)
		has(t, "the other", f, start)
		counts(t, "the other", f, 3, 2)
		is(t, "Fails in the other", f.Put("d", nil), api.ErrRemote)
		has(t, "Fails in the other", f, start)
		is(t, "Lies in the other", f.Put("d", []byte("d")), api.ErrRemote)
		ok(t, f.Put("e", nil))
		has(t, "the other", f, start+" d=d e=")
		has(t, "one", c, "b=anew c=")
		counts(t, "one", c, 8, 3)
	}
}

// 5.1, R5: copies of one that is empty, of a copy, and of one that goes on behind it.
func TestCopies(t *testing.T) {
	f := New()
	a, b := f.Copy(), f.Copy()
	ok(t, f.Put("f", nil), a.Put("a", nil), b.Put("b", nil))
	c := b.Copy()
	ok(t, b.Put("c", []byte("b")), c.Put("c", []byte("c")), b.Drop("b"))
	for _, x := range []struct {
		f    *Far
		want string
	}{{f, "f="}, {a, "a="}, {b, "c=b"}, {c, "b= c=c"}} {
		has(t, "each its own", x.f, x.want)
	}
	if f == a || a == b || b == c {
		t.Error("Copy tells the same one")
	}
}

// R5: two that were made do not touch one another, and the same calls on both tell the same.
func TestTwo(t *testing.T) {
	f, g := New(), New()
	f.Next([]int{api.Fails, api.Lies})
	counts(t, "the other", g, 0, 0)
	ok(t, g.Put("g", nil))
	counts(t, "the one", f, 0, 2)
	has(t, "the one", f, "")
	f, g = New(), New()
	for _, x := range []*Far{f, g} {
		x.Next([]int{api.Lies, api.Fails, api.Fine, api.Lies})
	}
	for range 2 {
		for _, d := range deeds() {
			first, e := d.do(f)
			second, h := d.do(g)
			if first != second || e != h {
				t.Errorf("%s: %q, %d, and %q, %d", d.what, first, e, second, h)
			}
			has(t, d.what, f, told(g))
			counts(t, d.what, f, g.Calls(), g.Left())
		}
	}
}

// R3: what is handed in is neither changed nor kept: bytes, outcomes, names.
func TestHandedIn(t *testing.T) {
	f := New()
	b := append(make([]byte, 0, 9), "abc......"...)[:3]
	ok(t, f.Put("a", b))
	b[0] = 'X'
	c := f.Copy()
	ok(t, f.Put("b", b))
	_ = append(b, "UVW"...)
	copy(b, "###")
	for _, x := range []*Far{f, c} {
		if got, e := x.Get("a", 0, 9); string(got) != "abc" || e != api.OK {
			t.Errorf("Put keeps what is handed in: %q, %d", got, e)
		}
	}
	has(t, "Put", f, "a=abc b=Xbc")
	if b = b[:9]; string(b) != "###UVW..." {
		t.Errorf("Put changes what is handed in: %q", b)
	}
	l := append(make([]int, 0, 9), api.Lies, api.Fails, api.Lies)
	f.Next(l)
	d := f.Copy()
	for range 3 {
		f.List()
	}
	if !slices.Equal(l, []int{api.Lies, api.Fails, api.Lies}) {
		t.Error("outcomes that are handed in change:", l)
	}
	f.Next(l[:2])
	_ = append(l[:2], api.Fine, api.Fine)
	l[0], l[1] = api.Fine, api.Fine
	for _, x := range []*Far{f, d} {
		is(t, "Lies", x.Put("c", nil), api.ErrRemote)
		is(t, "Fails", x.Put("d", nil), api.ErrRemote)
		has(t, "Lies, Fails", x, "a=abc b=Xbc c=")
	}
	counts(t, "the one", f, 8, 0)
	is(t, "Lies, the third", d.Put("d", nil), api.ErrRemote)
	has(t, "Lies, the third", d, "a=abc b=Xbc c= d=")
	counts(t, "the copy", d, 6, 0)
}

// R3: of a great text that a name is a piece of nothing is kept.
func TestNameOfGreatText(t *testing.T) {
	f := New()
	name := strings.Clone("a/name")[2:]
	ok(t, f.Put(name, nil))
	l, _ := f.List()
	if len(l) != 1 || l[0] != "name" || f.Objects()[0].Name != "name" {
		t.Fatal("List:", l)
	}
	if unsafe.StringData(l[0]) == unsafe.StringData(name) {
		t.Error("a name that is handed in is kept")
	}
}

// R3: what is told is new memory, spare room too, of a copy as well.
func TestTold(t *testing.T) {
	f := with(t)
	c := f.Copy()
	spoil := func(b []byte) {
		b = b[:cap(b)]
		for i := range b {
			b[i] = '#'
		}
	}
	for _, x := range []*Far{f, c, f} {
		for _, n := range []int{0, 1, 4, 5, 99} {
			for _, at := range []int{0, 1, 4, 5} {
				first, _ := x.Get("b", at, n)
				second, _ := x.Get("b", at, n)
				want := string(second)
				_ = append(first, "###"...)
				spoil(first)
				if string(second) != want {
					t.Errorf("two that were told share memory: %q", second)
				}
				spoil(second)
			}
		}
		first, _ := x.List()
		second, _ := x.List()
		_ = append(first[:1], "#")
		for i := range first[:cap(first)] {
			first[:cap(first)][i] = "#"
		}
		if !slices.Equal(second, []string{"a", "b"}) {
			t.Error("two that were told share memory:", second)
		}
		files, others := x.Objects(), x.Objects()
		_ = append(files[:1], api.File{Name: "#"})
		for i := range files[:cap(files)] {
			files[:cap(files)][i] = api.File{Name: "#", Data: "#", Loose: 99}
		}
		if !slices.Equal(others, []api.File{{Name: "a", Data: "ab"}, {Name: "b", Data: "bytes"}}) {
			t.Error("two that were told share memory:", others)
		}
		has(t, "written into", f, start)
		has(t, "written into, a copy", c, start)
		if l, e := x.List(); !slices.Equal(l, []string{"a", "b"}) || e != api.OK {
			t.Error("List:", l, e)
		}
	}
	b, _ := f.Get("b", 0, 9)
	l, _ := f.List()
	o := f.Objects()
	ok(t, f.Drop("b"), f.Drop("a"), f.Put("b", []byte("#####")), f.Put("c", nil))
	if string(b) != "bytes" || !slices.Equal(l, []string{"a", "b"}) || !slices.Equal(o, []api.File{{Name: "a", Data: "ab"}, {Name: "b", Data: "bytes"}}) {
		t.Errorf("what was told changes: %q, %v, %v", b, l, o)
	}
}

// 5.1: methods of nil: ErrNone, zero values.
func TestNil(t *testing.T) {
	var f *Far
	for range 2 {
		for _, d := range deeds() {
			answer, e := d.do(f)
			if is(t, d.what, e, api.ErrNone); answer != "nil" {
				t.Errorf("%s: %q", d.what, answer)
			}
		}
		if l := f.Objects(); l != nil {
			t.Error("Objects:", l)
		}
		counts(t, "nil", f, 0, 0)
		if c := f.Copy(); c != nil {
			t.Error("Copy:", c)
		}
		f.Next([]int{api.Fails, api.Lies})
		f.Next(nil)
	}
}

// R1: a Far that New did not make does not panic: it is as New's.
func TestZero(t *testing.T) {
	var f Far
	c := f.Copy()
	for _, x := range []*Far{&f, c} {
		has(t, "Objects", x, "")
		is(t, "Drop", x.Drop("a"), api.ErrNone)
		x.Next([]int{api.Lies})
		is(t, "Put", x.Put("a", []byte("x")), api.ErrRemote)
		has(t, "Put", x, "a=x")
		counts(t, "Put", x, 2, 0)
	}
}

// 5.2: an object is, till it is dropped, what was put, whatever calls there are.
func TestNeverChanges(t *testing.T) {
	f := with(t)
	l := []call{puts("b", "BYTES"), puts("b", ""), puts("bb", "x"), gets("b", 0, 9), lists(), drops("a"), drops("bb"), puts("a", "x")}
	for _, o := range [][]int{nil, {api.Fails}, {api.Lies}, {7}} {
		for _, c := range l {
			f.Next(o)
			c.do(f)
			if b, e := f.Get("b", 0, api.MaxFile); string(b) != "bytes" || e != api.OK {
				t.Errorf("behind %s, %v: %q, %d", c.what, o, b, e)
			}
		}
	}
}

// The rest holds the store against another one that is made in another way: a list of objects as they came, of which the
// others stay behind as gone, and outcomes that are told by the number of a call.

type slowObject struct {
	name string
	b    []byte
	gone bool
}

type slow struct {
	objects []slowObject
	next    []int
	from    int // the calls ahead of next
	calls   int
}

func (s *slow) find(name string) *slowObject {
	for i := range s.objects {
		if o := &s.objects[i]; !o.gone && o.name == name {
			return o
		}
	}
	return nil
}

func (s *slow) names() []string {
	var l []string
	for _, o := range s.objects {
		if !o.gone {
			l = append(l, o.name)
		}
	}
	slices.Sort(l)
	return l
}

func (s *slow) tell() string {
	var l []string
	for _, name := range s.names() {
		l = append(l, name+"="+string(s.find(name).b))
	}
	return strings.Join(l, " ")
}

func (s *slow) left() int {
	return max(0, s.from+len(s.next)-s.calls)
}

func (s *slow) copyOf() *slow {
	c := &slow{next: slices.Clone(s.next), from: s.from, calls: s.calls}
	for _, o := range s.objects {
		c.objects = append(c.objects, slowObject{o.name, slices.Clone(o.b), o.gone})
	}
	return c
}

func (s *slow) isName(name string) bool {
	for i := range len(name) {
		if !strings.ContainsRune("abcdefghijklmnopqrstuvwxyz0123456789-.", rune(name[i])) {
			return false
		}
	}
	return len(name) > 0 && len(name) <= 40
}

// step is one call: Put, Get, List, Drop.
type step struct {
	kind int
	name string
	b    string
	at   int
	n    int
}

func (c step) call() call {
	switch c.kind {
	case 0:
		return puts(c.name, c.b)
	case 1:
		return gets(c.name, c.at, c.n)
	case 2:
		return lists()
	}
	return drops(c.name)
}

func (s *slow) fault(c step) api.Errno {
	o := s.find(c.name)
	switch {
	case c.kind == 0 && !s.isName(c.name):
		return api.ErrArg
	case c.kind == 0 && o != nil:
		return api.ErrHave
	case (c.kind == 1 || c.kind == 3) && o == nil:
		return api.ErrNone
	case c.kind == 1 && (c.at < 0 || c.at > len(o.b) || c.n < 0):
		return api.ErrArg
	}
	return api.OK
}

func (s *slow) do(c step) (string, api.Errno) {
	outcome := api.Fine
	if s.left() > 0 {
		outcome = s.next[s.calls-s.from]
	}
	s.calls++
	e := s.fault(c)
	if outcome == api.Fails {
		return "", api.ErrRemote
	}
	var answer []string
	if e == api.OK {
		switch c.kind {
		case 0:
			s.objects = append(s.objects, slowObject{name: c.name, b: []byte(c.b)})
		case 1:
			for i, b := range s.find(c.name).b {
				if i >= c.at && i-c.at < c.n {
					answer = append(answer, string(rune(b)))
				}
			}
			answer = []string{strings.Join(answer, "")}
		case 2:
			answer = s.names()
		case 3:
			s.find(c.name).gone = true
		}
	}
	if outcome == api.Lies {
		return "", api.ErrRemote
	}
	return strings.Join(answer, " "), e
}

func someStep(r *rand.Rand) step {
	c := step{kind: r.IntN(4), name: []string{"a", "b", "c", "-", "0.x"}[r.IntN(5)], at: r.IntN(9) - 1, n: r.IntN(9) - 1}
	if r.IntN(30) == 0 {
		c.name = []string{"", "A", text(41), text(40), "a/b"}[r.IntN(5)]
	}
	for range r.IntN(7) {
		c.b += string(rune('a' + r.IntN(26)))
	}
	return c
}

func someOutcomes(r *rand.Rand) []int {
	var l []int
	for range r.IntN(12) {
		l = append(l, r.IntN(5)-1)
	}
	return l
}

func alike(t *testing.T, run int, f *Far, s *slow) {
	t.Helper()
	has(t, fmt.Sprint("run ", run), f, s.tell())
	counts(t, fmt.Sprint("run ", run), f, s.calls, s.left())
}

func steps(t *testing.T, run, n int, r *rand.Rand, f *Far, s *slow) {
	t.Helper()
	for range n {
		if r.IntN(9) == 0 {
			l := someOutcomes(r)
			f.Next(l)
			s.next, s.from = l, s.calls
			alike(t, run, f, s)
		}
		c := someStep(r)
		answer, e := c.call().do(f)
		if answer == "nil" {
			answer = ""
		}
		if want, fault := s.do(c); answer != want || e != fault {
			t.Errorf("run %d, %s: %q, %d, not %q, %d", run, c.call().what, answer, e, want, fault)
		}
		alike(t, run, f, s)
	}
}

// 5.1, 5.2: long rows of calls, outcomes and copies, held against the other one at each step.
func TestAgainstSlow(t *testing.T) {
	for i := range 1000 {
		r := rand.New(rand.NewPCG(5, uint64(i)))
		f, s := New(), &slow{}
		for range 8 {
			steps(t, i, 10, r, f, s)
			c, u := f.Copy(), s.copyOf()
			if r.IntN(2) == 0 {
				c, u, f, s = f, s, c, u
			}
			steps(t, i, 5, r, c, u)
			alike(t, i, f, s)
		}
		if t.Failed() {
			return
		}
	}
}
