package batch

import (
	"bytes"
	"encoding/binary"
	"fmt"
	"math"
	"math/rand/v2"
	"slices"
	"strings"
	"testing"

	"icebox/api"
	"icebox/key"
	"icebox/num"
)

const (
	top      = 1 << 53 // the greatest Seq
	mostOps  = 32
	mostKey  = 64
	mostVal  = 512
	overlong = "\x80\x00" // 0 in more bytes than it takes
)

func put(key, val string) api.Op { return api.Op{Kind: api.Put, Key: key, Val: val} }

func del(key string) api.Op { return api.Op{Kind: api.Del, Key: key} }

func of(seq int, l ...api.Op) api.Batch { return api.Batch{Seq: seq, Ops: l} }

func text(n int) string { return strings.Repeat("t", n) }

// rising is n operations of keys that rise, Puts and Dels by turns.
func rising(n int) []api.Op {
	l := make([]api.Op, n)
	for i := range l {
		l[i] = put(fmt.Sprintf("k%05d", i), fmt.Sprint(i))
		if i%3 == 2 {
			l[i] = del(l[i].Key)
		}
	}
	return l
}

// number is n as layer 1 tells it, by other means.
func number(n int) []byte { return binary.AppendUvarint(nil, uint64(n)) }

// worded is s behind its length.
func worded(s string) []byte { return append(number(len(s)), s...) }

// bare is o as bytes, whether it may be or not; a Val stands there where withVal says so.
func bare(o api.Op, withVal bool) []byte {
	b := append(number(o.Kind), worded(o.Key)...)
	if withVal {
		b = append(b, worded(o.Val)...)
	}
	return b
}

// row is b as bytes, whether it may be or not, with a count of its own.
func row(seq, count int, l ...api.Op) []byte {
	b := append(number(seq), number(count)...)
	for _, o := range l {
		b = append(b, bare(o, o.Kind == api.Put)...)
	}
	return b
}

// rightly is b as bytes, whether it may be or not.
func rightly(b api.Batch) []byte { return row(b.Seq, len(b.Ops), b.Ops...) }

// brief is v as a text that is not too long to be read.
func brief(v any) string {
	s := fmt.Sprintf("%q", fmt.Sprint(v))
	return s[:min(len(s), 200)]
}

func same(a, b api.Batch) bool { return a.Seq == b.Seq && slices.Equal(a.Ops, b.Ops) }

func none(t *testing.T, what string, b []byte) {
	t.Helper()
	if got, ok := Get(b); ok || got.Seq != 0 || got.Ops != nil {
		t.Errorf("%s: Get(%.60q) = %s, %v", what, b, brief(got), ok)
	}
}

func one(t *testing.T, what string, b []byte, want api.Batch) {
	t.Helper()
	if got, ok := Get(b); !ok || !same(got, want) {
		t.Errorf("%s: Get(%.60q) = %s, %v, not %s", what, b, brief(got), ok, brief(want))
	}
}

func putsNothing(t *testing.T, what string, b api.Batch) {
	t.Helper()
	if got := Put(b); got != nil {
		t.Errorf("%s: Put(%s) = %.60q", what, brief(b), got)
	}
}

func norms(t *testing.T, what string, l, want []api.Op) {
	t.Helper()
	if got := Norm(l); !slices.Equal(got, want) {
		t.Errorf("%s: Norm(%s) = %s, not %s", what, brief(l), brief(got), brief(want))
	}
}

// batches is ones that may be: of one operation, of several, of as many as there may be, as long as they may be.
func batches() []api.Batch {
	high := []api.Op{put("", ""), del("\x00"), put("\x7f", "\x80"), put("\x80", "\xff\xfe"), del("\xff"), put("\xff\xff", "é")}
	l := []api.Batch{
		of(1, put("", "")),
		of(1, del("")),
		of(2, put("a", "")),
		of(127, put("a", "b")),
		of(128, del("a")),
		of(300, put("", "x"), put("a", ""), del("bc")),
		of(top-1, del("a"), put("aa", "1"), del("aaa"), put("ab", "2")),
		of(top, high...),
		of(16384, put(text(mostKey), text(mostVal))),
		of(5, put(text(mostKey-1), text(mostVal-1)), del(text(mostKey))),
		of(6, put("a", text(127)), put("b", text(128)), put("c", text(129))),
		of(7, rising(mostOps-1)...),
		of(8, rising(mostOps)...),
	}
	longest := rising(mostOps)
	for i := range longest {
		longest[i] = put(longest[i].Key+text(mostKey-6), text(mostVal))
	}
	return append(l, of(top, longest...))
}

// fault is an operation that may not be, and what is told of it.
type fault struct {
	o    api.Op
	want api.Errno
}

var faults = faulty()

func faulty() []fault {
	long, wide := text(mostKey+1), text(mostVal+1)
	return []fault{
		{api.Op{}, api.ErrArg},
		{api.Op{Kind: 0, Key: "a", Val: "b"}, api.ErrArg},
		{api.Op{Kind: 3, Key: "a"}, api.ErrArg},
		{api.Op{Kind: -1, Key: "a"}, api.ErrArg},
		{api.Op{Kind: -2, Key: "a"}, api.ErrArg},
		{api.Op{Kind: 4, Key: "a"}, api.ErrArg},
		{api.Op{Kind: 257, Key: "a"}, api.ErrArg},
		{api.Op{Kind: 1<<32 + 1, Key: "a"}, api.ErrArg},
		{api.Op{Kind: math.MaxInt, Key: "a"}, api.ErrArg},
		{api.Op{Kind: math.MinInt, Key: "a"}, api.ErrArg},
		{put(long, ""), api.ErrLarge},
		{put(long, "b"), api.ErrLarge},
		{del(long), api.ErrLarge},
		{put(text(1000), ""), api.ErrLarge},
		{put(strings.Repeat("é", mostKey/2+1), ""), api.ErrLarge},
		{put(strings.Repeat("é", mostKey/2)+"k", ""), api.ErrLarge},
		{put("a", wide), api.ErrLarge},
		{put("", wide), api.ErrLarge},
		{put("a", strings.Repeat("é", mostVal/2)+"v"), api.ErrLarge},
		{put("a", text(1<<20)), api.ErrLarge},
		{api.Op{Kind: api.Del, Key: "a", Val: "x"}, api.ErrArg},
		{api.Op{Kind: api.Del, Key: "", Val: "\x00"}, api.ErrArg},
		{api.Op{Kind: api.Del, Key: "a", Val: wide[1:]}, api.ErrArg},
		// Two faults in one operation: the one that is named first counts.
		{api.Op{Kind: api.Del, Key: "a", Val: wide}, api.ErrLarge},
		{api.Op{Kind: api.Del, Key: long, Val: "x"}, api.ErrLarge},
		{api.Op{Kind: 0, Key: long}, api.ErrArg},
		{api.Op{Kind: 3, Key: long}, api.ErrArg},
		{api.Op{Kind: 0, Val: wide}, api.ErrArg},
		{api.Op{Kind: 3, Key: "a", Val: wide}, api.ErrArg},
		{put(long, wide), api.ErrLarge},
		{api.Op{Kind: 3, Key: long, Val: wide}, api.ErrArg},
		{api.Op{Kind: api.Del, Key: long, Val: wide}, api.ErrLarge},
	}
}

// 8.1: operations that may be, up to each end, in any order, of keys that come several times too.
func TestMay(t *testing.T) {
	for _, l := range [][]api.Op{
		{put("", "")},
		{del("")},
		{put("a", "b"), del("a")},
		{del("b"), put("a", ""), put("a", ""), del("b")},
		{put(text(mostKey), text(mostVal))},
		{del(text(mostKey))},
		{put("", text(mostVal))},
		{put(strings.Repeat("é", mostKey/2), strings.Repeat("é", mostVal/2))},
		{put(strings.Repeat("\xff", mostKey), strings.Repeat("\x80", mostVal))},
		{put(strings.Repeat("\x00", mostKey), strings.Repeat("\x00", mostVal))},
		rising(mostOps - 1),
		rising(mostOps),
		slices.Repeat([]api.Op{put("a", "b")}, mostOps),
		slices.Repeat([]api.Op{put(text(mostKey), text(mostVal))}, mostOps),
	} {
		if e := May(l); e != api.OK {
			t.Errorf("May(%s) = %d", brief(l), e)
		}
	}
	for _, b := range batches() {
		if e := May(b.Ops); e != api.OK {
			t.Errorf("May(%s) = %d", brief(b.Ops), e)
		}
	}
}

// 8.1: none is ErrArg, a nil list as an empty one, whatever stands in its spare room.
func TestMayNone(t *testing.T) {
	for _, l := range [][]api.Op{nil, {}, make([]api.Op, 0, 40), rising(5)[2:2]} {
		if e := May(l); e != api.ErrArg {
			t.Errorf("May of none = %d", e)
		}
	}
}

// 8.1: more than there may be is ErrLarge, whatever they are.
func TestMayMany(t *testing.T) {
	if api.MaxOps != mostOps || api.MaxKey != mostKey || api.MaxVal != mostVal {
		t.Fatal("limits:", api.MaxOps, api.MaxKey, api.MaxVal)
	}
	for _, n := range []int{mostOps + 1, mostOps + 2, 2 * mostOps, 255, 256, 257, 1 << 16} {
		for _, l := range [][]api.Op{rising(n), make([]api.Op, n), slices.Repeat([]api.Op{{Kind: api.Del, Val: "x"}}, n)} {
			if e := May(l); e != api.ErrLarge {
				t.Errorf("May of %d = %d", n, e)
			}
		}
	}
	if e := May(make([]api.Op, mostOps+1)[:mostOps]); e != api.ErrArg {
		t.Errorf("May of as many wrong ones as there may be = %d", e)
	}
	if e := May(rising(mostOps + 1)[:mostOps]); e != api.OK {
		t.Errorf("May of as many as there may be, and one in the spare room = %d", e)
	}
}

// 8.1: each fault by itself, and two of them in one operation.
func TestMayFaults(t *testing.T) {
	for _, c := range faults {
		if e := May([]api.Op{c.o}); e != c.want {
			t.Errorf("May of %d, %d bytes, %d bytes = %d, not %d", c.o.Kind, len(c.o.Key), len(c.o.Val), e, c.want)
		}
	}
}

// 8.1: a fault at each place of a list, and two of them at two: the first that is wrong counts.
func TestMayFirst(t *testing.T) {
	for _, n := range []int{1, 2, 3, mostOps} {
		for i, c := range faults {
			for at := range n {
				l := rising(n)
				l[at] = c.o
				if e := May(l); e != c.want {
					t.Errorf("fault %d at %d of %d: May = %d, not %d", i, at, n, e, c.want)
				}
				for k, d := range faults {
					other := (at + 1 + k%n) % n
					l := rising(n)
					l[other] = d.o
					l[at] = c.o
					want := c.want
					if other < at {
						want = d.want
					}
					if e := May(l); e != want {
						t.Errorf("faults %d at %d, %d at %d of %d: May = %d, not %d", i, at, k, other, n, e, want)
					}
				}
			}
		}
	}
}

// 8.1: Norm of nothing, of one, of keys that come once and several times.
func TestNorm(t *testing.T) {
	norms(t, "nil", nil, nil)
	norms(t, "nothing", []api.Op{}, nil)
	norms(t, "nothing ahead of others", rising(4)[1:1], nil)
	norms(t, "one", []api.Op{put("a", "b")}, []api.Op{put("a", "b")})
	norms(t, "one of the empty key", []api.Op{del("")}, []api.Op{del("")})
	norms(t, "falling", []api.Op{put("c", "1"), del("b"), put("a", "2")}, []api.Op{put("a", "2"), del("b"), put("c", "1")})
	norms(t, "one key", []api.Op{put("a", "1"), put("a", "2"), put("a", "3")}, []api.Op{put("a", "3")})
	norms(t, "one key, a Del last", []api.Op{put("a", "1"), del("a")}, []api.Op{del("a")})
	norms(t, "one key, a Put last", []api.Op{del("a"), put("a", "")}, []api.Op{put("a", "")})
	norms(t, "the same thing twice", []api.Op{put("a", "1"), put("a", "1")}, []api.Op{put("a", "1")})
	norms(t, "the greater Val is not the last", []api.Op{put("a", "9"), put("a", "1")}, []api.Op{put("a", "1")})
	norms(t, "the greater Kind is not the last", []api.Op{del("a"), put("a", "1"), put("b", ""), del("b")}, []api.Op{put("a", "1"), del("b")})
	norms(t, "mixed", []api.Op{put("b", "1"), del("a"), put("b", "2"), put("", "x"), put("a", "3"), del("b")},
		[]api.Op{put("", "x"), put("a", "3"), del("b")})
	norms(t, "all twice, the other way round", []api.Op{put("a", "1"), put("b", "1"), put("c", "1"), put("c", "2"), put("b", "2"), put("a", "2")},
		[]api.Op{put("a", "2"), put("b", "2"), put("c", "2")})
}

// 8.1: keys by each of their bytes, from 128 on as below; a key that begins another is ahead of it.
func TestNormOrder(t *testing.T) {
	keys := []string{"", "\x00", "\x00\x00", "\x00\x01", "\x01", "A", "Z", "a", "a\x00", "a\x00\xff", "a ", "aa", "aaa", "ab", "a\x7f", "a\x80", "a\xff", "b", "ba", text(63), text(64), text(65), "z", "\x7f", "\x80", "\xbf\xbf", "\xc3", "\xc3\xa9", "é\x00", "\xed\xa0\x80", "\uffff", "\U00010000", "\xff", "\xff\x00", "\xff\xff"}
	var want []api.Op
	for i, k := range keys {
		want = append(want, put(k, fmt.Sprint(i)))
	}
	r := rand.New(rand.NewPCG(1, 2))
	norms(t, "rising", want, want)
	back := slices.Clone(want)
	slices.Reverse(back)
	norms(t, "falling", back, want)
	for range 300 {
		mixed := append(slices.Clone(want), want...)
		r.Shuffle(len(mixed), func(i, j int) { mixed[i], mixed[j] = mixed[j], mixed[i] })
		norms(t, "mixed", mixed, want)
	}
	for i := range 256 {
		for j := range i {
			a, b := put(string([]byte{'k', byte(j), 255}), "1"), del(string([]byte{'k', byte(i)}))
			norms(t, "two bytes", []api.Op{b, a}, []api.Op{a, b})
		}
	}
}

// 8.1: two keys that differ by one byte, or by how long they are, are two; bytes that are no text are not one another.
func TestNormTwoKeys(t *testing.T) {
	for _, c := range [][2]string{{"", "\x00"}, {"a", "a\x00"}, {"A", "a"}, {"\x80", "\x81"}, {"\xff", "\ufffd"}, {"\xff", "\xff\xff"}, {text(64), text(65)}, {"e\u0301", "é"}, {text(5000), text(5000) + "t"}} {
		l := []api.Op{put(c[0], "1"), del(c[1]), put(c[0], "2"), del(c[1])}
		want := []api.Op{put(c[0], "2"), del(c[1])}
		if c[0] > c[1] {
			slices.Reverse(want)
		}
		norms(t, "two keys", l, want)
	}
}

// 8.1: Norm takes operations that may not be as they come, and asks nothing of them but their keys.
func TestNormOfMayNot(t *testing.T) {
	for _, c := range faults {
		norms(t, "may not be", []api.Op{c.o}, []api.Op{c.o})
		fine := put(c.o.Key, "fine")
		norms(t, "may not be, behind", []api.Op{fine, c.o}, []api.Op{c.o})
		norms(t, "may not be, ahead", []api.Op{c.o, fine}, []api.Op{fine})
	}
	norms(t, "two that may not be", []api.Op{{Kind: 9, Key: "b"}, {Kind: -9, Key: "a", Val: "x"}, {Kind: api.Del, Key: "b", Val: "y"}},
		[]api.Op{{Kind: -9, Key: "a", Val: "x"}, {Kind: api.Del, Key: "b", Val: "y"}})
	norms(t, "nothing but zero values", make([]api.Op, 50), make([]api.Op, 1))
}

// 8.1: many more operations than a batch may have.
func TestNormMany(t *testing.T) {
	want := rising(100000)
	var l []api.Op
	for round := range 3 {
		for i := range want {
			o := want[i*7919%len(want)]
			if round < 2 {
				o = put(o.Key, fmt.Sprint("round ", round))
			}
			l = append(l, o)
		}
	}
	norms(t, "many", l, want)
	norms(t, "many of one key", slices.Repeat([]api.Op{del("a"), put("a", "b")}, 200000), []api.Op{put("a", "b")})
}

// someOps is up to n operations of few keys, so that keys come several times; they may be, but not always if mayNot says so.
func someOps(r *rand.Rand, n int, mayNot bool) []api.Op {
	keys := []string{"", "\x00", "a", "a\x00", "aa", "ab", "b", "\x80", "\xff", "\xff\xff", text(mostKey)}
	l := make([]api.Op, r.IntN(n+1))
	for i := range l {
		l[i] = put(keys[r.IntN(len(keys))], text(r.IntN(3)))
		if r.IntN(3) == 0 {
			l[i] = del(l[i].Key)
		}
		if mayNot && r.IntN(8) == 0 {
			l[i] = faults[r.IntN(len(faults))].o
		}
	}
	return l
}

// slowMay is May told in another way.
func slowMay(l []api.Op) api.Errno {
	if len(l) < 1 || len(l) > 32 {
		return map[bool]api.Errno{true: api.ErrArg, false: api.ErrLarge}[len(l) < 1]
	}
	wrong := []struct {
		is   func(api.Op) bool
		told api.Errno
	}{
		{func(o api.Op) bool { return o.Kind < 1 || o.Kind > 2 }, api.ErrArg},
		{func(o api.Op) bool { return len(o.Key) > 64 }, api.ErrLarge},
		{func(o api.Op) bool { return len(o.Val) > 512 }, api.ErrLarge},
		{func(o api.Op) bool { return o.Kind == 2 && len(o.Val) > 0 }, api.ErrArg},
	}
	for i := range l {
		for _, w := range wrong {
			if w.is(l[i]) {
				return w.told
			}
		}
	}
	return api.OK
}

// slowNorm is Norm told in another way: the least key above the one ahead, over and over, and the last operation that has it.
func slowNorm(l []api.Op) (told []api.Op) {
	for {
		var next *api.Op
		for i := range l {
			if len(told) > 0 && bytes.Compare([]byte(l[i].Key), []byte(told[len(told)-1].Key)) <= 0 {
				continue
			}
			if next == nil || bytes.Compare([]byte(l[i].Key), []byte(next.Key)) <= 0 {
				next = &l[i]
			}
		}
		if next == nil {
			return told
		}
		told = append(told, *next)
	}
}

// slowPut is Put told in another way.
func slowPut(b api.Batch) []byte {
	if b.Seq < 1 || b.Seq > top || slowMay(b.Ops) != api.OK || !slices.Equal(slowNorm(b.Ops), b.Ops) {
		return nil
	}
	return rightly(b)
}

func slowEntries(b api.Batch) (l []api.Entry) {
	for _, o := range slowNorm(b.Ops) {
		var e api.Entry
		e.Key.User, e.Key.Seq, e.Key.Kind, e.Val = o.Key, b.Seq, o.Kind, o.Val
		l = append(l, e)
	}
	return l
}

// 8.1, 8.2: all but Get against the chapter told in another way, of lists of all kinds.
func TestAsTold(t *testing.T) {
	r := rand.New(rand.NewPCG(3, 4))
	seqs := []int{-1, 0, 1, 2, 127, 128, top - 1, top, top + 1, math.MaxInt, math.MinInt}
	told := 0
	for i := range 30000 {
		l := someOps(r, 1+i%40, i%3 == 0)
		if i%2 == 0 {
			l = slowNorm(l)
		}
		b := of(seqs[r.IntN(len(seqs))], l...)
		if e, want := May(l), slowMay(l); e != want {
			t.Fatalf("May(%v) = %d, not %d", l, e, want)
		}
		norms(t, "as told", l, slowNorm(l))
		got, want := Put(b), slowPut(b)
		if !bytes.Equal(got, want) {
			t.Fatalf("Put(%v) = %q, not %q", b, got, want)
		}
		if l, want := Entries(b), slowEntries(b); !slices.Equal(l, want) {
			t.Fatalf("Entries(%v) = %v, not %v", b, l, want)
		}
		if len(got) > 0 {
			one(t, "Get of Put", got, b)
			told++
		}
	}
	if told < 3000 {
		t.Error("too few batches that may be:", told)
	}
}

// 8.2: the bytes of Put, known ones.
func TestPut(t *testing.T) {
	for _, c := range []struct {
		b    api.Batch
		want string
	}{
		{of(300, put("", "x"), put("a", ""), del("bc")), "\xac\x02\x03\x01\x00\x01x\x01\x01a\x00\x02\x02bc"},
		{of(1, put("", "")), "\x01\x01\x01\x00\x00"},
		{of(1, del("")), "\x01\x01\x02\x00"},
		{of(127, del("a")), "\x7f\x01\x02\x01a"},
		{of(128, del("a")), "\x80\x01\x01\x02\x01a"},
		{of(2, put("a", "né")), "\x02\x01\x01\x01a\x03n\xc3\xa9"},
		{of(top, put("\xff", "\x00")), "\x80\x80\x80\x80\x80\x80\x80\x10\x01\x01\x01\xff\x01\x00"},
		{of(top-1, del("\x00")), "\xff\xff\xff\xff\xff\xff\xff\x0f\x01\x02\x01\x00"},
		{of(3, put(text(64), text(512))), "\x03\x01\x01\x40" + text(64) + "\x80\x04" + text(512)},
		{of(3, put("a", text(127)), put("b", text(128))), "\x03\x02\x01\x01a\x7f" + text(127) + "\x01\x01b\x80\x01" + text(128)},
	} {
		if got := Put(c.b); string(got) != c.want {
			t.Errorf("Put(%s) = %q, not %q", brief(c.b), got, c.want)
		}
	}
	for _, b := range batches() {
		if got := Put(b); !bytes.Equal(got, rightly(b)) || len(got) == 0 {
			t.Errorf("Put(%s) = %.80q", brief(b), got)
		}
	}
}

// 8.2: Seq from 1 to 2^53.
func TestPutSeq(t *testing.T) {
	for _, l := range [][]api.Op{{put("a", "b")}, {del("")}, rising(mostOps)} {
		for _, seq := range []int{1, 2, 3, 127, 128, 255, 256, 1 << 31, 1 << 32, 1 << 52, 1<<52 + 1, top - 1, top} {
			one(t, "a Seq", Put(of(seq, l...)), of(seq, l...))
		}
		for _, seq := range []int{0, -1, -2, -top, top + 1, top + 2, 1 << 54, 1 << 62, math.MaxInt, math.MinInt} {
			putsNothing(t, "no Seq", of(seq, l...))
		}
	}
}

// 8.2: nothing of operations that may not be, at each place, and of none, and of too many.
func TestPutOfMayNot(t *testing.T) {
	putsNothing(t, "nil", of(1))
	putsNothing(t, "nothing", of(1, []api.Op{}...))
	putsNothing(t, "zero value", api.Batch{})
	putsNothing(t, "too many", of(1, rising(mostOps+1)...))
	putsNothing(t, "far too many", of(1, rising(1000)...))
	for _, c := range faults {
		putsNothing(t, "may not be", of(1, c.o))
		for _, n := range []int{2, mostOps} {
			for at := range n {
				l := rising(n)
				l[at].Kind, l[at].Val = c.o.Kind, c.o.Val
				if len(c.o.Key) > mostKey {
					l[at].Key += c.o.Key
				}
				putsNothing(t, "one may not be", of(1, l...))
			}
		}
	}
}

// 8.2: nothing of operations that are not what Norm tells of them: a key twice, or another order.
func TestPutOfNotNorm(t *testing.T) {
	for _, l := range [][]api.Op{
		{put("b", ""), put("a", "")},
		{put("a", ""), put("", "")},
		{put("a\x00", ""), put("a", "")},
		{put("aa", ""), del("a")},
		{put("\x80", ""), put("\x7f", "")},
		{put("\xff", ""), del("a")},
		{put("a", ""), put("a", "")},
		{del("a"), del("a")},
		{del(""), put("", "x")},
		{put("a", "1"), put("a", "2")},
		{put("a", ""), del("a")},
		{put("a", ""), put("b", ""), put("a", "")},
		{put("a", ""), put("c", ""), put("b", "")},
		{put("b", ""), put("c", ""), put("a", "")},
	} {
		putsNothing(t, "not Norm's", of(1, l...))
		if b := of(1, Norm(l)...); !bytes.Equal(Put(b), rightly(b)) {
			t.Errorf("Put(%v) = %q", b, Put(b))
		}
	}
	whole := rising(mostOps)
	for i := range mostOps - 1 {
		turned := slices.Clone(whole)
		turned[i], turned[i+1] = turned[i+1], turned[i]
		putsNothing(t, "two the other way round", of(1, turned...))
		twice := slices.Clone(whole)
		twice[i+1] = twice[i]
		putsNothing(t, "one twice", of(1, twice...))
	}
}

// 8.3: Get of Put is the batch.
func TestGetOfPut(t *testing.T) {
	for _, b := range batches() {
		one(t, "Get of Put", Put(b), b)
		one(t, "Get of the bytes", rightly(b), b)
	}
}

// 8.2: bytes that were cut at every place, and bytes behind, are no batch's.
func TestGetCut(t *testing.T) {
	none(t, "nil", nil)
	none(t, "nothing", []byte{})
	for _, b := range batches() {
		whole := rightly(b)
		for n := range whole {
			none(t, "cut", whole[:n])
			if len(whole) < 1000 {
				none(t, "cut, nothing behind it", slices.Clip(slices.Clone(whole[:n])))
				asRead(t, "without its beginning", whole[n+1:])
			}
		}
		for _, behind := range []string{"\x00", "\x01", "\x02\x00", "\x80", "\xff", "\x01\x02zz\x00", overlong} {
			none(t, "with more behind", append(slices.Clone(whole), behind...))
		}
		none(t, "twice", append(slices.Clone(whole), whole...))
		one(t, "with more in its spare room", append(slices.Clone(whole), "more"...)[:len(whole)], b)
	}
}

// parts is b as bytes, each number, and each text, by itself; which of them are numbers.
func parts(b api.Batch) (l [][]byte, numbers []bool) {
	add := func(p []byte, isNumber bool) { l, numbers = append(l, p), append(numbers, isNumber) }
	add(number(b.Seq), true)
	add(number(len(b.Ops)), true)
	for _, o := range b.Ops {
		add(number(o.Kind), true)
		add(number(len(o.Key)), true)
		add([]byte(o.Key), false)
		if o.Kind == api.Put {
			add(number(len(o.Val)), true)
			add([]byte(o.Val), false)
		}
	}
	return l, numbers
}

// 8.2: no number stands in more bytes than it needs, whichever it is.
func TestGetLongerNumbers(t *testing.T) {
	for _, b := range batches() {
		l, numbers := parts(b)
		for i, p := range l {
			if !numbers[i] {
				continue
			}
			for more := 1; more <= 10; more++ {
				long := slices.Clone(p)
				long[len(long)-1] |= 0x80
				long = append(append(long, bytes.Repeat([]byte{0x80}, more-1)...), 0)
				c := slices.Clone(l)
				c[i] = long
				none(t, "a number in more bytes", slices.Concat(c...))
			}
			c := slices.Clone(l)
			c[i] = append(bytes.Repeat([]byte{0xff}, 9), 0x7f)
			none(t, "a number of too many bytes", slices.Concat(c...))
		}
		one(t, "the parts", slices.Concat(l...), b)
	}
}

// 8.2: each number above and below what it is, and great ones, that do not wrap round.
func TestGetOtherNumbers(t *testing.T) {
	great := []int{32, 33, 34, 64, 65, 127, 128, 512, 513, 1 << 20, 1 << 31, 1<<32 + 1, 1<<32 + 2, top + 1, 1 << 62, math.MaxInt - 1, math.MaxInt}
	for _, b := range batches() {
		l, numbers := parts(b)
		for i, p := range l[1:] {
			if !numbers[i+1] {
				continue
			}
			is, _ := binary.Uvarint(p)
			for _, n := range append([]int{0, 1, 2, 3, int(is) - 1, int(is) + 1}, great...) {
				if n == int(is) || n < 0 {
					continue
				}
				c := slices.Clone(l)
				c[i+1] = number(n)
				asRead(t, "another number", slices.Concat(c...))
			}
		}
	}
}

// 8.2: a Seq that may not be, by bytes that are else right.
func TestGetSeq(t *testing.T) {
	for _, l := range [][]api.Op{{put("a", "b")}, {del("")}, rising(mostOps)} {
		for _, seq := range []int{0, top + 1, top + 2, 1 << 54, 1 << 62, math.MaxInt} {
			none(t, "no Seq", rightly(of(seq, l...)))
		}
		for _, seq := range []int{1, top - 1, top} {
			one(t, "a Seq", rightly(of(seq, l...)), of(seq, l...))
		}
		b := binary.AppendUvarint(nil, 1<<63)
		none(t, "a Seq of 64 bits", append(b, rightly(of(1, l...))[1:]...))
		b = binary.AppendUvarint(nil, math.MaxUint64)
		none(t, "a Seq of all ones", append(b, rightly(of(1, l...))[1:]...))
	}
}

// 8.2: a count that may not be, or is not how many there are.
func TestGetCount(t *testing.T) {
	none(t, "a count of 0", row(1, 0))
	none(t, "a count of 0, and one", row(1, 0, del("a")))
	for _, n := range []int{1, 2, 3, mostOps - 1, mostOps, mostOps + 1, mostOps + 2, 200, 300} {
		l := rising(n)
		for _, count := range []int{0, n - 2, n - 1, n + 1, n + 2, n + 128, n + 256, n + 1<<32, 1 << 62, math.MaxInt - n, math.MaxInt} {
			if count >= 0 {
				none(t, "another count", row(1, count, l...))
			}
		}
		if n > mostOps {
			none(t, "too many", row(1, n, l...))
		} else {
			one(t, "its count", row(1, n, l...), of(1, l...))
		}
	}
}

// 8.2: a count, or a length, that long bytes do fill is refused all the same.
func TestGetLongBytes(t *testing.T) {
	n := 1 << 20
	none(t, "noughts", make([]byte, n))
	none(t, "all ones", bytes.Repeat([]byte{0xff}, n))
	none(t, "ones", bytes.Repeat([]byte{1}, n))
	none(t, "Dels of the empty key", append(row(1, n), bytes.Repeat([]byte{api.Del, 0}, n)...))
	none(t, "many that rise", rightly(of(1, rising(50000)...)))
	none(t, "a long key", rightly(of(1, del(text(n)))))
	none(t, "a long Val", rightly(of(1, put("a", text(n)))))
}

// 8.2: operations that may not be, by bytes that tell them; a Del with a Val's bytes, a Put without.
func TestGetOfMayNot(t *testing.T) {
	for _, c := range faults {
		if c.o.Kind < 0 {
			continue
		}
		for _, withVal := range []bool{false, true} {
			b := append(row(1, 1), bare(c.o, withVal)...)
			// A Del's Val has no bytes of its own: without them there is no fault to be seen.
			if c.o.Kind == api.Del && !withVal && len(c.o.Key) <= mostKey {
				one(t, "a Del, its Val not told", b, of(1, del(c.o.Key)))
				continue
			}
			none(t, "may not be", b)
		}
	}
	for _, k := range []int{0, 3, 4, 127, 128, 255, 257, 258, 1 << 32, 1<<32 + 1, 1<<32 + 2, 1 << 62, math.MaxInt} {
		for _, withVal := range []bool{false, true} {
			none(t, "no Kind", append(row(1, 1), bare(api.Op{Kind: k, Key: "a", Val: "b"}, withVal)...))
			none(t, "no Kind, behind another", append(append(row(1, 2), bare(del("a"), false)...), bare(api.Op{Kind: k, Key: "b"}, withVal)...))
		}
	}
	none(t, "a Del with an empty Val", append(row(1, 1), bare(del("a"), true)...))
	none(t, "a Put without Val", append(row(1, 1), bare(put("a", ""), false)...))
}

// 8.2: as long as they may be, and a byte longer, at each place.
func TestGetLengths(t *testing.T) {
	for at := range 3 {
		l := rising(3)
		for i := range l {
			l[i] = put(l[i].Key, "v")
		}
		l[at].Key += text(mostKey - len(l[at].Key))
		l[at].Val = text(mostVal)
		one(t, "as long as may be", rightly(of(1, l...)), of(1, l...))
		l[at].Key += "t"
		none(t, "a longer key", rightly(of(1, l...)))
		l[at].Key = l[at].Key[:mostKey]
		l[at].Val += "t"
		none(t, "a longer Val", rightly(of(1, l...)))
		l[at] = del(l[at].Key)
		one(t, "a Del as long as may be", rightly(of(1, l...)), of(1, l...))
		l[at].Key += "t"
		none(t, "a longer Del", rightly(of(1, l...)))
	}
}

// 8.2: keys that do not rise.
func TestGetNotRising(t *testing.T) {
	for _, keys := range [][]string{{"b", "a"}, {"a", "a"}, {"", ""}, {"a", ""}, {"a\x00", "a"}, {"aa", "a"}, {"\x80", "\x7f"}, {"\xff", "a"}, {"a", "b", "a"}, {"a", "c", "b"}, {"a", "b", "b"}, {"b", "c", "a"}, {"a", "a", "b"}} {
		for kinds := range 1 << len(keys) {
			var l []api.Op
			for i, k := range keys {
				l = append(l, put(k, fmt.Sprint(i)))
				if kinds>>i&1 == 1 {
					l[i] = del(k)
				}
			}
			none(t, "not rising", rightly(of(1, l...)))
		}
	}
}

// plain is num.Get told in another way: it tells the number with which b begins, and the bytes behind it.
func plain(b []byte) (int, []byte, bool) {
	n, size := binary.Uvarint(b)
	if size <= 0 || n > math.MaxInt || !bytes.Equal(binary.AppendUvarint(nil, n), b[:size]) {
		return 0, nil, false
	}
	return int(n), b[size:], true
}

func plainText(b []byte) (string, []byte, bool) {
	n, rest, ok := plain(b)
	if !ok || n > len(rest) {
		return "", nil, false
	}
	return string(rest[:n]), rest[n:], true
}

// slowGet is Get told in another way: it asks of each thing whether it may be as it comes.
func slowGet(b []byte) (told api.Batch, ok bool) {
	seq, rest, ok := plain(b)
	if !ok || seq == 0 || seq > top {
		return api.Batch{}, false
	}
	count, rest, ok := plain(rest)
	if !ok || count == 0 || count > 32 {
		return api.Batch{}, false
	}
	told.Seq = seq
	for i := range count {
		var o api.Op
		o.Kind, rest, ok = plain(rest)
		if !ok || o.Kind != 1 && o.Kind != 2 {
			return api.Batch{}, false
		}
		o.Key, rest, ok = plainText(rest)
		if !ok || len(o.Key) > 64 || i > 0 && bytes.Compare([]byte(told.Ops[i-1].Key), []byte(o.Key)) >= 0 {
			return api.Batch{}, false
		}
		if o.Kind == 1 {
			o.Val, rest, ok = plainText(rest)
		}
		if !ok || len(o.Val) > 512 {
			return api.Batch{}, false
		}
		told.Ops = append(told.Ops, o)
	}
	if len(rest) > 0 {
		return api.Batch{}, false
	}
	return told, true
}

// asRead holds Get of b against slowGet, and what it tells against its Put; it tells whether there is a batch.
func asRead(t *testing.T, what string, b []byte) bool {
	t.Helper()
	want, ok := slowGet(b)
	if !ok {
		none(t, what, b)
		return false
	}
	one(t, what, b, want)
	if got := Put(want); !bytes.Equal(got, b) {
		t.Errorf("%s: Put of Get(%.60q) = %.60q", what, b, got)
	}
	return true
}

// 8.2: all bytes of few kinds, up to eight of them, against Get told in another way.
func TestGetAllShort(t *testing.T) {
	kinds := []byte{0, 1, 2, 3, 'a', 0x80}
	told := 0
	for n := range 9 {
		all := 1
		for range n {
			all *= len(kinds)
		}
		b := make([]byte, n)
		for i := range all {
			for k := range b {
				b[k] = kinds[i%len(kinds)]
				i /= len(kinds)
			}
			if asRead(t, "short", b) {
				told++
			}
		}
	}
	if told < 100 {
		t.Error("too few batches:", told)
	}
}

// 8.2: each byte of a batch turned in each way, missing, or another one put in.
func TestGetTurned(t *testing.T) {
	told := 0
	count := func(is bool) {
		if is {
			told++
		}
	}
	for _, b := range batches() {
		whole := rightly(b)
		if len(whole) > 1000 {
			continue
		}
		// Of long batches a few ways only, as most of their bytes are alike.
		step := 1 + len(whole)/10
		for i := range whole {
			for mask := 1; mask < 256; mask += step {
				c := slices.Clone(whole)
				c[i] ^= byte(mask)
				count(asRead(t, "turned", c))
			}
			count(asRead(t, "missing", slices.Delete(slices.Clone(whole), i, i+1)))
			for _, more := range []byte{0, 1, 2, 'a', 0x80, 0xff} {
				count(asRead(t, "put in", slices.Insert(slices.Clone(whole), i, more)))
			}
		}
	}
	if told < 1000 {
		t.Error("too few batches:", told)
	}
}

// 8.2: rows of operations, whether they may be or not, and bytes changed in several places.
func TestGetAsTold(t *testing.T) {
	r := rand.New(rand.NewPCG(5, 6))
	seqs := []int{0, 1, 2, 127, 128, top, top + 1}
	told, not := 0, 0
	for i := range 30000 {
		l := someOps(r, 1+i%36, i%4 == 0)
		if i%4 != 1 {
			l = slowNorm(l)
		}
		b := rightly(of(seqs[r.IntN(len(seqs))], l...))
		for range r.IntN(4) * (i % 2) {
			b[r.IntN(len(b))] = byte(r.IntN(5))
		}
		if asRead(t, "a row", b) {
			told++
		} else {
			not++
		}
	}
	if told < 5000 || not < 5000 {
		t.Errorf("%d batches, %d others: too few", told, not)
	}
}

// 8.2: Entries of nothing, of operations as Norm tells them, and of others.
func TestEntries(t *testing.T) {
	for _, seq := range []int{-1, 0, 1, top} {
		if l := Entries(of(seq)); len(l) != 0 {
			t.Errorf("Entries of nothing = %v", l)
		}
		if l := Entries(of(seq, []api.Op{}...)); len(l) != 0 {
			t.Errorf("Entries of nothing = %v", l)
		}
	}
	got := Entries(of(7, put("b", "1"), del("a"), put("b", "2"), put("", "x"), put("a", "3"), del("b")))
	want := []api.Entry{
		{Key: api.Key{User: "", Seq: 7, Kind: api.Put}, Val: "x"},
		{Key: api.Key{User: "a", Seq: 7, Kind: api.Put}, Val: "3"},
		{Key: api.Key{User: "b", Seq: 7, Kind: api.Del}},
	}
	if !slices.Equal(got, want) {
		t.Errorf("Entries = %v", got)
	}
	for _, b := range batches() {
		got := Entries(b)
		if !slices.Equal(got, slowEntries(b)) || len(got) != len(b.Ops) || !key.Rising(got) {
			t.Errorf("Entries(%s) = %s", brief(b), brief(got))
		}
		back := of(b.Seq, slices.Clone(b.Ops)...)
		slices.Reverse(back.Ops)
		if !slices.Equal(Entries(back), got) {
			t.Errorf("Entries of the other way round = %s", brief(Entries(back)))
		}
	}
}

// 8.2: Entries asks not whether a batch may be.
func TestEntriesOfMayNot(t *testing.T) {
	for _, seq := range []int{math.MinInt, -1, 0, 1, top + 1, math.MaxInt} {
		for _, c := range faults {
			want := []api.Entry{{Key: api.Key{User: c.o.Key, Seq: seq, Kind: c.o.Kind}, Val: c.o.Val}}
			if l := Entries(of(seq, c.o)); !slices.Equal(l, want) {
				t.Errorf("Entries(%d, %s) = %s", seq, brief(c.o), brief(l))
			}
		}
		if l := Entries(of(seq, rising(1000)...)); len(l) != 1000 || l[999].Key.User != "k00999" || l[999].Key.Seq != seq {
			t.Errorf("Entries of 1000 of %d: %d", seq, len(l))
		}
	}
}

// fill writes into all of l, its spare room too.
func fill[T any](l []T, with T) {
	room := l[:cap(l)]
	for i := range room {
		room[i] = with
	}
}

// R3: what is handed in is not changed, its spare room neither.
func TestHandedIn(t *testing.T) {
	r := rand.New(rand.NewPCG(7, 8))
	for i := range 500 {
		whole := append(someOps(r, 40, i%2 == 0), put("z", "spare"), del("spare"), put("a", ""))
		was := slices.Clone(whole)
		l := whole[:len(whole)-3]
		May(l)
		Norm(l)
		Put(of(1, l...))
		Put(api.Batch{Seq: 1, Ops: l})
		Entries(api.Batch{Seq: 1, Ops: l})
		n := Norm(l)
		room := append(n, put("z", "spare"))[:len(n)]
		Put(api.Batch{Seq: 1, Ops: room})
		if !slices.Equal(whole, was) || !slices.Equal(room, slowNorm(l)) || room[:len(n)+1][len(n)] != put("z", "spare") {
			t.Fatalf("%v was handed in, and is %v", was, whole)
		}
		b := append(rightly(of(1, slowNorm(l)...)), "spare"...)
		saved := slices.Clone(b)
		Get(b[:len(b)-5])
		Get(b)
		if !bytes.Equal(b, saved) {
			t.Fatalf("%q was handed in, and is %q", saved, b)
		}
	}
}

// R3: what Norm and Entries tell is new memory, spare room too, also where Norm changes nothing.
func TestNormMemory(t *testing.T) {
	bad := api.Op{Kind: 9, Key: "!", Val: "!"}
	for _, l := range [][]api.Op{rising(1), rising(7), rising(mostOps), {put("b", "1"), del("a"), put("b", "2")}} {
		was, want := slices.Clone(l), slowNorm(l)
		first, second := Norm(l), Norm(l)
		entries, others := Entries(of(3, l...)), Entries(api.Batch{Seq: 3, Ops: l})
		fill(append(second, bad), bad)
		fill(second, bad)
		fill(others, api.Entry{Val: "!"})
		if !slices.Equal(l, was) || !slices.Equal(first, want) || !slices.Equal(entries, slowEntries(of(3, was...))) {
			t.Errorf("%v: what was told was written into, and something else changed", was)
		}
		fill(l, bad)
		if !slices.Equal(first, want) || !slices.Equal(entries, slowEntries(of(3, was...))) {
			t.Errorf("%v: what was handed in was written into, and what was told changed", was)
		}
	}
}

// R3: what Put and Get tell is new memory, spare room too, and what is handed in is not kept.
func TestBytesMemory(t *testing.T) {
	for _, b := range batches() {
		whole := rightly(b)
		was := of(b.Seq, slices.Clone(b.Ops)...)
		first, second := Put(b), Put(b)
		fill(append(second, '!'), '!')
		fill(second, '!')
		if !bytes.Equal(first, whole) || !same(b, was) {
			t.Errorf("%s: what Put told was written into, and something else changed", brief(was))
		}
		fill(b.Ops, api.Op{Kind: 9, Key: "!"})
		if !bytes.Equal(first, whole) {
			t.Errorf("%s: what was handed to Put was written into, and what it told changed", brief(was))
		}
		got, _ := Get(first)
		other, _ := Get(first)
		fill(append(other.Ops, del("!")), del("!"))
		fill(other.Ops, del("!"))
		if !bytes.Equal(first, whole) || !same(got, was) {
			t.Errorf("%s: what Get told was written into, and something else changed", brief(was))
		}
		fill(first, '!')
		if !same(got, was) {
			t.Errorf("%s: what was handed to Get was written into, and what it told changed: %s", brief(was), brief(got))
		}
	}
}

// R1, R5: the same call tells the same again, whatever was asked between.
func TestSameAgain(t *testing.T) {
	r := rand.New(rand.NewPCG(9, 10))
	l := []api.Op{put("b", "1"), del("a"), put("b", "2"), put("", "x"), put("c", ""), put("\xff", ""), del("\x80")}
	want := slowNorm(l)
	for range 200 {
		other := someOps(r, 40, true)
		May(other)
		Norm(other)
		Put(of(r.IntN(3), other...))
		Get(rightly(of(1, slowNorm(other)...)))
		norms(t, "again", l, want)
		one(t, "again", rightly(of(4, want...)), of(4, want...))
		none(t, "again", rightly(of(4, l...)))
		if May(l) != api.OK || May(nil) != api.ErrArg || Put(of(1, l...)) != nil || !bytes.Equal(Put(of(4, want...)), rightly(of(4, want...))) {
			t.Fatal("another thing is told")
		}
		if !slices.Equal(Entries(of(4, l...)), slowEntries(of(4, l...))) {
			t.Fatal("other entries are told")
		}
	}
}

// 8.2: the numbers and texts in a batch's bytes are layer 1's.
func TestLayerOne(t *testing.T) {
	b := of(300, put("key", text(200)), del("kez"))
	want := slices.Concat(num.Put(300), num.Put(2), num.Put(api.Put), num.PutText("key"), num.PutText(text(200)), num.Put(api.Del), num.PutText("kez"))
	if got := Put(b); !bytes.Equal(got, want) {
		t.Errorf("Put = %q, not %q", got, want)
	}
	one(t, "of layer 1", want, b)
}
