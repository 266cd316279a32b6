package seek

import (
	"cmp"
	"math"
	"math/rand/v2"
	"slices"
	"strconv"
	"strings"
	"testing"

	"icebox/api"
	"icebox/key"
)

const (
	top     = 1 << 53 // the greatest Seq
	mostKey = 64
	mostVal = 512
)

func put(user string, seq int, val string) api.Entry {
	return api.Entry{Key: api.Key{User: user, Seq: seq, Kind: api.Put}, Val: val}
}

func del(user string, seq int) api.Entry {
	return api.Entry{Key: api.Key{User: user, Seq: seq, Kind: api.Del}}
}

func of(user string, seq, kind int, val string) api.Entry {
	return api.Entry{Key: api.Key{User: user, Seq: seq, Kind: kind}, Val: val}
}

func text(n int) string { return strings.Repeat("t", n) }

// some is entries by their order: users of which one begins another, many numbers of one user, one number with both kinds.
func some() []api.Entry {
	return []api.Entry{
		put("", 3, ""), put("", 0, "nought"),
		put("\x00", 7, "x"),
		put("a", 9, "nine"), del("a", 8), put("a", 8, "eight"), put("a", 5, ""), del("a", 4), put("a", 2, "two"), put("a", 1, "one"),
		del("a\x00", 6),
		put("ab", top, "top"), del("ab", 3), put("ab", 3, "three"), del("ab", 0), put("ab", 0, ""),
		put("b", 1, text(mostVal)),
		put(text(mostKey-1), 5, "shorter"), put(text(mostKey), 5, "longest"),
		put("\xc3\xa9", 2, "\xff\x00"),
		put("\xff", 1, "v"), put("\xff\xff", 1, "v"),
	}
}

// mayNot is entries by their order, most of which may not be, with some between that may.
func mayNot() []api.Entry {
	return []api.Entry{
		of("", math.MaxInt, api.Put, ""), of("", 0, 0, ""), of("", math.MinInt, api.Del, ""),
		of("a", math.MaxInt, api.Del, "of a Del"), of("a", top+1, api.Put, "v"),
		of("a", 1, math.MaxInt, "kind"), of("a", 1, 3, ""), of("a", 1, api.Del, "of a Del"), of("a", 1, api.Put, "may be"), of("a", 1, 0, ""), of("a", 1, -1, ""), of("a", 1, math.MinInt, ""),
		of("a", 0, api.Put, "may be"), of("a", -1, 7, ""), of("a", -1, api.Del, ""), of("a", -1, api.Put, text(mostVal+1)),
		of("a", math.MinInt+1, api.Put, ""), of("a", math.MinInt, api.Put, ""), of("a", math.MinInt, math.MinInt, ""),
		of(text(mostKey), 1, api.Put, "may be"), of(text(mostKey+1), 1, api.Del, ""), of(text(mostKey+1), 1, api.Put, ""), of(text(1000), 1, api.Put, "v"),
		of(strings.Repeat("é", 33), 1, api.Put, "v"),
	}
}

// hundred is a hundred entries by their order.
func hundred() []api.Entry {
	var l []api.Entry
	for n := range 100 {
		l = append(l, put("key"+strconv.Itoa(100+n), n, strconv.Itoa(n)))
	}
	return l
}

// lists is lists by their order, of none, one, a few, many.
func lists() [][]api.Entry {
	return [][]api.Entry{
		nil, {}, {put("a", 1, "v")}, {{}}, {of("", math.MinInt, math.MinInt, "")},
		{del("a", 1), put("a", 1, "v")}, {put("a", 2, ""), put("a", 1, "")}, {put("", 1, "x"), put("a", 1, "y")},
		some()[:3], some()[3:6], some(), mayNot(), hundred(),
	}
}

// order holds two keys against one another as layer 2 does, by other means.
func order(a, b api.Key) int {
	return cmp.Or(strings.Compare(a.User, b.User), cmp.Compare(b.Seq, a.Seq), cmp.Compare(b.Kind, a.Kind))
}

// Where one stands that is told in another way.
const (
	aheadOfAll = iota
	atOne
	behindAll
)

// slow is chapter 14 told in another way: entries as they came, none put in order, and a key to go on from.
type slow struct {
	l     []api.Entry
	where int
	k     api.Key
}

// least tells, of the keys that are asked for, the one ahead of the others (with a sign of -1 the one behind them), the first entry that has it.
func (s *slow) least(is func(k api.Key) bool, sign int) (found api.Entry, ok bool) {
	for _, e := range s.l {
		if is(e.Key) && (!ok || sign*order(e.Key, found.Key) < 0) {
			found, ok = e, true
		}
	}
	return found, ok
}

func (s *slow) stand(e api.Entry, ok bool, beyond int) bool {
	s.where, s.k = atOne, e.Key
	if !ok {
		s.where, s.k = beyond, api.Key{}
	}
	return ok
}

func (s *slow) First() bool {
	e, ok := s.least(func(api.Key) bool { return true }, 1)
	return s.stand(e, ok, behindAll)
}

func (s *slow) Last() bool {
	e, ok := s.least(func(api.Key) bool { return true }, -1)
	return s.stand(e, ok, aheadOfAll)
}

func (s *slow) Seek(k api.Key) bool {
	e, ok := s.least(func(held api.Key) bool { return order(held, k) >= 0 }, 1)
	return s.stand(e, ok, behindAll)
}

func (s *slow) Next() bool {
	e, ok := s.least(func(k api.Key) bool {
		return s.where == aheadOfAll || s.where == atOne && order(k, s.k) > 0
	}, 1)
	return s.stand(e, ok, behindAll)
}

func (s *slow) Prev() bool {
	e, ok := s.least(func(k api.Key) bool {
		return s.where == behindAll || s.where == atOne && order(k, s.k) < 0
	}, -1)
	return s.stand(e, ok, aheadOfAll)
}

func (s *slow) At() (api.Entry, bool) {
	for _, e := range s.l {
		if s.where == atOne && e.Key == s.k {
			return e, true
		}
	}
	return api.Entry{}, false
}

// goer is what goes forth and back.
type goer interface {
	First() bool
	Last() bool
	Seek(k api.Key) bool
	Next() bool
	Prev() bool
	At() (api.Entry, bool)
}

// move is one of a row of moves; k is of Seek alone.
type move struct {
	name string
	k    api.Key
}

func (m move) of(g goer) bool {
	switch m.name {
	case "First":
		return g.First()
	case "Last":
		return g.Last()
	case "Seek":
		return g.Seek(m.k)
	case "Next":
		return g.Next()
	case "Prev":
		return g.Prev()
	}
	panic("no move " + m.name)
}

func moves(names ...string) []move {
	var l []move
	for _, name := range names {
		l = append(l, move{name: name})
	}
	return l
}

func seeks(keys ...api.Key) []move {
	var l []move
	for _, k := range keys {
		l = append(l, move{name: "Seek", k: k})
	}
	return l
}

// goes makes a row of moves and tells whether each of them tells what it tells told in another way, and At behind it.
func goes(t *testing.T, i *Iter, s *slow, row ...move) bool {
	t.Helper()
	for n, m := range row {
		got, want := m.of(i), m.of(s)
		e, is := i.At()
		right, there := s.At()
		if got != want || e != right || is != there || is != got {
			t.Errorf("over %d entries, behind %v: %t, At() = %.200v, %t, not %t, %.200v, %t", len(s.l), row[:n+1], got, e, is, want, right, there)
			return false
		}
	}
	return true
}

// both makes an iterator over l, and one told in another way.
func both(l []api.Entry) (*Iter, *slow) {
	return New(l), &slow{l: slices.Clone(l)}
}

// forth tells what i goes over by First and Next, but no more than one above most; back by Last and Prev, and turned round.
func forth(i *Iter, most int) []api.Entry {
	var l []api.Entry
	for ok := i.First(); ok && len(l) <= most; ok = i.Next() {
		e, _ := i.At()
		l = append(l, e)
	}
	return l
}

func back(i *Iter, most int) []api.Entry {
	var l []api.Entry
	for ok := i.Last(); ok && len(l) <= most; ok = i.Prev() {
		e, _ := i.At()
		l = append(l, e)
	}
	slices.Reverse(l)
	return l
}

// over holds i against the entries that it is to go over, forth and back, from its ends and from beyond them.
func over(t *testing.T, what string, i *Iter, want []api.Entry) {
	t.Helper()
	for range 2 {
		if got := forth(i, len(want)); !slices.Equal(got, want) {
			t.Errorf("%s: forth there are %.300v, not %.300v", what, got, want)
		}
		if got := back(i, len(want)); !slices.Equal(got, want) {
			t.Errorf("%s: back there are %.300v, not %.300v", what, got, want)
		}
	}
}

// at holds where i stands against an entry.
func at(t *testing.T, what string, i *Iter, want api.Entry) {
	t.Helper()
	if got, is := i.At(); got != want || !is {
		t.Errorf("%s: At() = %.200v, %t, not %.200v", what, got, is, want)
	}
}

// beyond asks that i stands at none.
func beyond(t *testing.T, what string, i *Iter) {
	t.Helper()
	if got, is := i.At(); is || got != (api.Entry{}) {
		t.Errorf("%s: At() = %.200v, %t, not none", what, got, is)
	}
}

// places is iterators over l at each place there is: 0 is ahead of all, 1 to len(l) each entry, the one behind that behind all; they came there forth, back, and by Seek.
func places(l []api.Entry) [][]*Iter {
	all := make([][]*Iter, len(l)+2)
	for n := range all {
		up, down := New(l), New(l)
		for range n {
			up.Next()
		}
		down.Last()
		down.Next()
		for range len(l) + 1 - n {
			down.Prev()
		}
		all[n] = []*Iter{up, down}
		if 1 <= n && n <= len(l) {
			by := New(l)
			by.Seek(l[n-1].Key)
			all[n] = append(all[n], by)
		}
	}
	return all
}

// stands asks that i stands at place n of l.
func stands(t *testing.T, what string, i *Iter, l []api.Entry, n int) {
	t.Helper()
	if n < 1 || n > len(l) {
		beyond(t, what, i)
		return
	}
	at(t, what, i, l[n-1])
}

// around is each key of l, the keys just below and just above each of them, some of all kinds, and keys that may not be.
func around(l []api.Entry) []api.Key {
	var keys []api.Key
	for _, e := range append(append(slices.Clone(l), some()...), mayNot()...) {
		k := e.Key
		keys = append(keys, k,
			api.Key{User: k.User, Seq: k.Seq, Kind: k.Kind - 1}, api.Key{User: k.User, Seq: k.Seq, Kind: k.Kind + 1},
			api.Key{User: k.User, Seq: k.Seq, Kind: math.MinInt}, api.Key{User: k.User, Seq: k.Seq, Kind: math.MaxInt},
			api.Key{User: k.User, Seq: k.Seq - 1, Kind: k.Kind}, api.Key{User: k.User, Seq: k.Seq + 1, Kind: k.Kind},
			api.Key{User: k.User, Seq: math.MinInt, Kind: math.MinInt}, api.Key{User: k.User, Seq: math.MaxInt, Kind: math.MaxInt},
			api.Key{User: k.User + "\x00", Seq: k.Seq, Kind: k.Kind}, api.Key{User: k.User + "\xff", Seq: k.Seq, Kind: k.Kind})
		if n := len(k.User); n > 0 {
			keys = append(keys, api.Key{User: k.User[:n-1], Seq: k.Seq, Kind: k.Kind}, api.Key{User: k.User[:n-1] + string([]byte{k.User[n-1] - 1}), Seq: k.Seq, Kind: k.Kind})
		}
	}
	keys = append(keys, api.Key{}, api.Key{User: text(5000)}, api.Key{User: strings.Repeat("\xff", 70), Seq: math.MinInt, Kind: math.MinInt})
	slices.SortFunc(keys, order)
	return slices.Compact(keys)
}

// 14.1: it stands ahead of all at first; of nothing there is no move that tells an entry.
func TestNothing(t *testing.T) {
	all := append(moves("First", "Last", "Next", "Prev"), seeks(api.Key{}, del("a", 1).Key, api.Key{User: "\xff", Seq: -1})...)
	for _, l := range [][]api.Entry{nil, {}, some()[:0]} {
		beyond(t, "at first", New(l))
		for _, a := range all {
			for _, b := range all {
				for _, c := range all {
					i := New(l)
					for _, m := range []move{a, b, c} {
						if m.of(i) {
							t.Errorf("%v of nothing tells that it stands at one", []move{a, b, c})
						}
						beyond(t, m.name, i)
					}
				}
			}
		}
	}
}

// 14.1: one entry: ahead of it, at it, behind it.
func TestOne(t *testing.T) {
	for _, e := range append(some(), mayNot()...) {
		i := New([]api.Entry{e})
		beyond(t, "at first", i)
		for n, c := range []struct {
			name string
			is   bool
		}{
			{"Prev", false}, {"Next", true}, {"Next", false}, {"Next", false}, {"Prev", true}, {"Prev", false}, {"Prev", false}, {"Prev", false}, {"Next", true},
			{"First", true}, {"Last", true}, {"First", true}, {"Next", false}, {"First", true}, {"Prev", false}, {"First", true},
			{"Next", false}, {"Last", true}, {"Prev", false}, {"Last", true}, {"Next", false}, {"Prev", true},
		} {
			if got := (move{name: c.name}).of(i); got != c.is {
				t.Fatalf("of %.100v: move %d, %s, tells %t", e, n, c.name, got)
			}
			if c.is {
				at(t, c.name, i, e)
			} else {
				beyond(t, c.name, i)
			}
		}
		if !i.Seek(e.Key) {
			t.Errorf("Seek of %.100v tells none", e.Key)
		}
		at(t, "Seek of its key", i, e)
	}
}

// 14.1: a row of moves, of which each is known.
func TestKnown(t *testing.T) {
	i := New([]api.Entry{put("c", 1, "c"), put("a", 1, "a1"), put("b", 2, "first"), del("a", 3), put("b", 2, "second"), put("a", 3, "a3")})
	// By their order: a3 (the Del), a3, a1, b, c.
	key := func(user string, seq, kind int) api.Key { return api.Key{User: user, Seq: seq, Kind: kind} }
	for n, c := range []struct {
		m    move
		want string
	}{
		{move{name: "Next"}, "a 3 2 "}, {move{name: "Next"}, "a 3 1 a3"}, {move{name: "Next"}, "a 1 1 a1"}, {move{name: "Next"}, "b 2 1 first"},
		{move{name: "Next"}, "c 1 1 c"}, {move{name: "Next"}, ""}, {move{name: "Next"}, ""}, {move{name: "Prev"}, "c 1 1 c"}, {move{name: "Prev"}, "b 2 1 first"},
		{move{name: "First"}, "a 3 2 "}, {move{name: "Prev"}, ""}, {move{name: "Prev"}, ""}, {move{name: "Next"}, "a 3 2 "}, {move{name: "Last"}, "c 1 1 c"},
		{move{name: "Seek", k: key("a", 3, 2)}, "a 3 2 "}, {move{name: "Seek", k: key("a", 3, 3)}, "a 3 2 "}, {move{name: "Seek", k: key("a", 3, 1)}, "a 3 1 a3"},
		{move{name: "Seek", k: key("a", 3, 0)}, "a 1 1 a1"}, {move{name: "Seek", k: key("a", 2, 2)}, "a 1 1 a1"}, {move{name: "Seek", k: key("a", 1, 2)}, "a 1 1 a1"},
		{move{name: "Seek", k: key("a", 0, 2)}, "b 2 1 first"}, {move{name: "Seek", k: key("aa", 9, 1)}, "b 2 1 first"}, {move{name: "Prev"}, "a 1 1 a1"},
		{move{name: "Seek", k: key("b", 1, 1)}, "c 1 1 c"}, {move{name: "Next"}, ""}, {move{name: "Seek", k: key("b", 2, 1)}, "b 2 1 first"},
		{move{name: "Seek", k: key("c", 0, 1)}, ""}, {move{name: "Next"}, ""}, {move{name: "Prev"}, "c 1 1 c"}, {move{name: "Seek", k: key("d", 1, 1)}, ""},
		{move{name: "Seek", k: key("", 1, 1)}, "a 3 2 "}, {move{name: "Prev"}, ""}, {move{name: "Seek", k: key("A", 1, 1)}, "a 3 2 "}, {move{name: "Next"}, "a 3 1 a3"},
	} {
		is := c.m.of(i)
		got := ""
		if e, ok := i.At(); ok {
			got = e.Key.User + " " + strconv.Itoa(e.Key.Seq) + " " + strconv.Itoa(e.Key.Kind) + " " + e.Val
		}
		if is != (c.want != "") || got != c.want {
			t.Errorf("move %d, %v: %t, %q, not %q", n, c.m, is, got, c.want)
		}
	}
}

// 14.1: the entries come by Cmp, whatever the order in which they came, entries that may not be as any others.
func TestInOrder(t *testing.T) {
	r := rand.New(rand.NewPCG(14, 1))
	for _, want := range lists() {
		if !slices.IsSortedFunc(want, func(a, b api.Entry) int { return order(a.Key, b.Key) }) {
			t.Fatalf("%.200v is not by its order", want)
		}
		l := slices.Clone(want)
		over(t, "by their order", New(l), want)
		slices.Reverse(l)
		over(t, "the other way round", New(l), want)
		for range 50 {
			r.Shuffle(len(l), func(a, b int) { l[a], l[b] = l[b], l[a] })
			over(t, "in any order", New(l), want)
		}
	}
}

// 14.1: each of the 720 orders of six entries.
func TestEachOrder(t *testing.T) {
	want := []api.Entry{put("", 1, "x"), del("a", 2), put("a", 2, "y"), put("a", 1, "z"), put("a\x00", 5, ""), put("b", 9, "w")}
	seen := 0
	var each func(l, left []api.Entry)
	each = func(l, left []api.Entry) {
		if len(left) == 0 {
			over(t, "in one of all orders", New(l), want)
			seen++
		}
		for n, e := range left {
			each(append(slices.Clone(l), e), slices.Delete(slices.Clone(left), n, n+1))
		}
	}
	each(nil, want)
	if seen != 720 {
		t.Errorf("%d orders", seen)
	}
}

// 14.1: each key once, of alike ones the first, whatever the entries between.
func TestAlike(t *testing.T) {
	a, b, c := put("a", 1, "first"), put("b", 1, "first"), put("c", 1, "first")
	second := func(e api.Entry) api.Entry { e.Val = "second"; return e }
	third := func(e api.Entry) api.Entry { e.Val = "third"; return e }
	for n, c := range []struct{ l, want []api.Entry }{
		{[]api.Entry{a, second(a)}, []api.Entry{a}},
		{[]api.Entry{second(a), a}, []api.Entry{second(a)}},
		{[]api.Entry{a, a, a}, []api.Entry{a}},
		{[]api.Entry{a, second(a), third(a), b}, []api.Entry{a, b}},
		{[]api.Entry{a, b, second(a), c, third(a), second(b)}, []api.Entry{a, b, c}},
		{[]api.Entry{c, b, a, third(c), second(b), second(a)}, []api.Entry{a, b, c}},
		{[]api.Entry{second(c), b, c, third(a), third(c), a, second(b)}, []api.Entry{third(a), b, second(c)}},
		{[]api.Entry{b, a, c, a, second(b)}, []api.Entry{a, b, c}},
		// One thing of the key differs: they are not alike.
		{[]api.Entry{a, second(put("a", 2, "")), a}, []api.Entry{second(put("a", 2, "")), a}},
		{[]api.Entry{a, del("a", 1), second(a)}, []api.Entry{del("a", 1), a}},
		{[]api.Entry{a, put("a\x00", 1, "first"), second(a)}, []api.Entry{a, put("a\x00", 1, "first")}},
		{[]api.Entry{{}, {Val: "second"}, of("", 0, -1, "")}, []api.Entry{{}, of("", 0, -1, "")}},
		{[]api.Entry{of("a", -1, 9, "first"), of("a", -1, 9, "second")}, []api.Entry{of("a", -1, 9, "first")}},
		{[]api.Entry{of(text(1000), 1, 1, "first"), a, of(text(1000), 1, 1, "")}, []api.Entry{a, of(text(1000), 1, 1, "first")}},
	} {
		i := New(c.l)
		over(t, "list "+strconv.Itoa(n), i, c.want)
		for _, e := range c.want {
			if !i.Seek(e.Key) {
				t.Errorf("list %d: Seek of %v tells none", n, e.Key)
			}
			at(t, "sought", i, e)
		}
	}
}

// 14.1: of many entries of few keys the first of each key, which a sort that is not stable would lose.
func TestManyAlike(t *testing.T) {
	r := rand.New(rand.NewPCG(14, 2))
	for _, n := range []int{2, 11, 12, 13, 20, 21, 40, 100, 1000, 5000} {
		for _, keys := range []int{1, 2, 3, 7} {
			var l, want []api.Entry
			for m := range n {
				l = append(l, put(strconv.Itoa(r.IntN(keys)), 1, strconv.Itoa(m)))
			}
			for k := range keys {
				if m := slices.IndexFunc(l, func(e api.Entry) bool { return e.Key.User == strconv.Itoa(k) }); m >= 0 {
					want = append(want, l[m])
				}
			}
			over(t, strconv.Itoa(n)+" of "+strconv.Itoa(keys)+" keys", New(l), want)
		}
	}
}

// 14.1: First and Last, from each place.
func TestFirstLast(t *testing.T) {
	for _, l := range lists() {
		for n, all := range places(l) {
			for _, i := range all {
				stands(t, "a place", i, l, n)
				for _, name := range []string{"First", "First", "Last", "Last", "First"} {
					if got := (move{name: name}).of(i); got != (len(l) > 0) {
						t.Errorf("%s of %d entries, from place %d: %t", name, len(l), n, got)
					}
					if name == "First" {
						stands(t, name, i, l, min(len(l), 1))
					} else {
						stands(t, name, i, l, len(l))
					}
				}
			}
		}
	}
}

// 14.1: Next and Prev, from each place there is, tell whether they came to an entry.
func TestNextPrev(t *testing.T) {
	for _, l := range lists() {
		for n, all := range places(l) {
			for _, i := range all {
				forward, backward := *i, *i
				to := min(n+1, len(l)+1)
				if got := forward.Next(); got != (to <= len(l)) {
					t.Errorf("Next over %d entries, from place %d: %t", len(l), n, got)
				}
				stands(t, "Next", &forward, l, to)
				to = max(n-1, 0)
				if got := backward.Prev(); got != (to >= 1) {
					t.Errorf("Prev over %d entries, from place %d: %t", len(l), n, got)
				}
				stands(t, "Prev", &backward, l, to)
				stands(t, "the one that was copied", i, l, n)
			}
		}
	}
}

// 14.1: beyond the ends it stays beyond, however often it is moved on, and one move leads back.
func TestBeyond(t *testing.T) {
	for _, l := range lists() {
		if len(l) == 0 {
			continue
		}
		for _, often := range []int{1, 2, 3, 10, 1000} {
			i := New(l)
			for range often {
				if i.Prev() {
					t.Error("Prev from ahead of all tells an entry")
				}
				beyond(t, "ahead of all", i)
			}
			if !i.Next() {
				t.Errorf("Next tells none behind %d times Prev", often)
			}
			at(t, "Next from ahead of all", i, l[0])
			i.Last()
			for range often {
				if i.Next() {
					t.Error("Next from behind all tells an entry")
				}
				beyond(t, "behind all", i)
			}
			if !i.Prev() {
				t.Errorf("Prev tells none behind %d times Next", often)
			}
			at(t, "Prev from behind all", i, l[len(l)-1])
			i.Seek(api.Key{User: strings.Repeat("\xff", 99), Seq: math.MinInt, Kind: math.MinInt})
			for range often {
				if i.Next() {
					t.Error("Next tells an entry behind a Seek of a key that is behind all")
				}
			}
			if !i.Prev() {
				t.Error("Prev tells none behind a Seek of a key that is behind all")
			}
			at(t, "Prev behind a Seek of a key that is behind all", i, l[len(l)-1])
			i.First()
			for range often {
				i.Prev()
			}
			i.Next()
			at(t, "Next from ahead of all once more", i, l[0])
		}
	}
}

// 14.1: Seek of each key that is there, of those just below it and just above it, and of many others, behind each other.
func TestSeek(t *testing.T) {
	for _, l := range lists() {
		i, s := both(l)
		keys := around(l)
		goes(t, i, s, seeks(keys...)...)
		slices.Reverse(keys)
		goes(t, i, s, seeks(keys...)...)
		for n, e := range l {
			if !i.Seek(e.Key) {
				t.Errorf("Seek of %.100v tells none", e.Key)
			}
			at(t, "sought", i, l[n])
		}
	}
}

// 14.1: Seek from each place, its own and those beyond the ends too, hangs on the key alone.
func TestSeekFromEachPlace(t *testing.T) {
	for _, l := range lists() {
		keys := around(l)
		if len(l) > 30 {
			// Of many entries a key of each, and some beside.
			keys = keys[:0]
			for _, e := range l {
				keys = append(keys, e.Key)
			}
			keys = append(keys, api.Key{}, api.Key{User: "key1"}, api.Key{User: "key150", Seq: 51}, api.Key{User: "key150", Seq: 49}, api.Key{User: "z"})
		}
		for n, all := range places(l) {
			for _, k := range keys {
				to := 1
				for to <= len(l) && order(l[to-1].Key, k) < 0 {
					to++
				}
				i := *all[0]
				if got := i.Seek(k); got != (to <= len(l)) {
					t.Errorf("Seek(%.100v) over %d entries, from place %d: %t", k, len(l), n, got)
				}
				stands(t, "Seek", &i, l, to)
				forward, backward := i, i
				forward.Next()
				stands(t, "Next behind Seek", &forward, l, min(to+1, len(l)+1))
				backward.Prev()
				stands(t, "Prev behind Seek", &backward, l, to-1)
			}
		}
	}
}

// 14.1: a Seek where one stands already changes nothing, however often.
func TestSeekWhereItStands(t *testing.T) {
	for _, l := range lists() {
		i := New(l)
		for n, e := range l {
			i.Next()
			for range 3 {
				if !i.Seek(e.Key) {
					t.Errorf("Seek of %.100v, where it stands, tells none", e.Key)
				}
				stands(t, "Seek where it stands", i, l, n+1)
			}
		}
		if i.Next() {
			t.Error("there are more than were handed in")
		}
	}
}

// 14.1: At tells the entry, its Val too, and moves nothing.
func TestAt(t *testing.T) {
	for _, l := range lists() {
		for n, all := range places(l) {
			for _, i := range all {
				for range 3 {
					stands(t, "again", i, l, n)
				}
				e, _ := i.At()
				e.Key.User, e.Key.Seq, e.Key.Kind, e.Val = "!", 7, 7, "!"
				stands(t, "written into", i, l, n)
				i.Next()
				i.Prev()
				if n > 0 {
					stands(t, "moved", i, l, min(n, len(l)))
				}
			}
		}
	}
}

// 14.2: Next and Prev undo one another, from each place where they come to another one.
func TestUndo(t *testing.T) {
	for _, l := range lists() {
		for n, all := range places(l) {
			for _, i := range all {
				if n <= len(l) {
					i.Next()
					if got := i.Prev(); got != (n >= 1) {
						t.Errorf("Prev behind Next over %d entries, from place %d: %t", len(l), n, got)
					}
					stands(t, "Prev behind Next", i, l, n)
				}
				if n >= 1 {
					i.Prev()
					if got := i.Next(); got != (n <= len(l)) {
						t.Errorf("Next behind Prev over %d entries, from place %d: %t", len(l), n, got)
					}
					stands(t, "Next behind Prev", i, l, n)
				}
			}
		}
	}
}

// 14.2: as many steps forth as back undo one another too, in any order that does not go beyond the ends.
func TestUndoMany(t *testing.T) {
	r := rand.New(rand.NewPCG(14, 3))
	for _, l := range lists() {
		for n, all := range places(l) {
			i := all[0]
			place := n
			for range 60 {
				if to := place + 1; to <= len(l)+1 && (r.IntN(2) == 0 || place == 0) {
					place = to
					i.Next()
				} else if place > 0 {
					place--
					i.Prev()
				}
				stands(t, "on the way", i, l, place)
			}
			for ; place < n; place++ {
				i.Next()
			}
			for ; place > n; place-- {
				i.Prev()
			}
			stands(t, "back where it began", i, l, n)
		}
	}
}

// 14.2: beyond the ends they do not: a move that stays beyond is not undone.
func TestUndoNotBeyond(t *testing.T) {
	for _, l := range lists() {
		if len(l) == 0 {
			continue
		}
		i := New(l)
		i.Prev()
		i.Next()
		at(t, "Next behind Prev, from ahead of all", i, l[0])
		i.Last()
		i.Next()
		i.Next()
		i.Prev()
		at(t, "Prev behind Next, from behind all", i, l[len(l)-1])
	}
}

// 14.1, 14.2: all rows of up to five moves over up to three entries, two of them alike.
func TestAllShortRows(t *testing.T) {
	list := []api.Entry{put("b", 1, "first"), put("a", 2, "a"), put("b", 1, "second"), del("b", 1)}
	all := append(moves("First", "Last", "Next", "Prev"), seeks(api.Key{User: "a", Seq: 3}, list[1].Key, api.Key{User: "b", Seq: 1, Kind: api.Del}, list[0].Key, api.Key{User: "b", Seq: 0})...)
	for n := range len(list) + 1 {
		l := list[:n]
		var each func(row []move)
		each = func(row []move) {
			if len(row) == 5 {
				i, s := both(l)
				if !goes(t, i, s, row...) {
					t.FailNow()
				}
				return
			}
			for _, m := range all {
				each(append(slices.Clone(row), m))
			}
		}
		each(nil)
	}
}

// anyOf is entries by chance, of few Users, Seqs and Kinds, so that much is alike, and much may not be.
func anyOf(r *rand.Rand, n int) []api.Entry {
	letters := "\x00ab\xff"
	var l []api.Entry
	for m := range n {
		user := make([]byte, r.IntN(4))
		for i := range user {
			user[i] = letters[r.IntN(len(letters))]
		}
		seq := []int{math.MinInt, -1, 0, 1, 2, top, math.MaxInt}[r.IntN(7)]
		l = append(l, of(string(user), seq, r.IntN(4), strconv.Itoa(m)))
	}
	return l
}

// 14.1, 14.2: long rows of moves by chance, over lists by chance, against the chapter told in another way.
func TestAgainstAnotherWay(t *testing.T) {
	r := rand.New(rand.NewPCG(14, 4))
	for range 1500 {
		l := anyOf(r, r.IntN(1+r.IntN(80)))
		i, s := both(l)
		for range 60 {
			m := moves("First", "Last", "Next", "Next", "Next", "Prev", "Prev", "Prev", "Seek")[r.IntN(9)]
			if m.name == "Seek" {
				k := anyOf(r, 1)[0].Key
				if len(l) > 0 && r.IntN(2) == 0 {
					k = l[r.IntN(len(l))].Key
				}
				m.k = k
			}
			if !goes(t, i, s, m) {
				t.FailNow()
			}
		}
	}
}

// 14.1: the order, and what a key is alike, are layer 2's.
func TestLayersBelow(t *testing.T) {
	r := rand.New(rand.NewPCG(14, 5))
	for range 200 {
		l := anyOf(r, 60)
		i := New(l)
		told := forth(i, len(l))
		for n := 1; n < len(told); n++ {
			if key.Cmp(told[n-1].Key, told[n].Key) >= 0 {
				t.Fatalf("%v stands ahead of %v", told[n-1].Key, told[n].Key)
			}
		}
		for _, e := range l {
			i.Seek(e.Key)
			if got, _ := i.At(); key.Cmp(got.Key, e.Key) != 0 {
				t.Fatalf("Seek(%v) comes to %v", e.Key, got.Key)
			}
		}
	}
}

// R3: what is handed in is not changed, its spare room neither.
func TestHandedIn(t *testing.T) {
	r := rand.New(rand.NewPCG(14, 6))
	for range 100 {
		spare := anyOf(r, 40)
		was := slices.Clone(spare)
		for _, n := range []int{0, 1, 20, 40} {
			i := New(spare[:n])
			forth(i, n)
			back(i, n)
			for _, e := range was {
				i.Seek(e.Key)
			}
		}
		if !slices.Equal(spare, was) {
			t.Fatalf("%v was handed in, and is %v", was, spare)
		}
	}
}

// R3: what is handed in is not kept: it can be written into, spare room too, and appended to.
func TestNotKept(t *testing.T) {
	bad := put("!", 7, "!")
	for _, want := range lists() {
		l := append(slices.Clone(want), bad, bad)[:len(want)]
		i, s := both(l)
		i.Seek(api.Key{User: "a", Seq: 5})
		s.Seek(api.Key{User: "a", Seq: 5})
		room := l[:cap(l)]
		for n := range room {
			room[n] = bad
		}
		_ = append(l, bad)
		goes(t, i, s, moves("Next", "Prev", "Prev", "Next", "First", "Last")...)
		goes(t, i, s, seeks(around(want)...)...)
		over(t, "written into", i, want)
	}
}

// R3: what was told stays as it was, whatever is asked behind it.
func TestToldStays(t *testing.T) {
	for _, l := range lists() {
		i := New(l)
		told, again := forth(i, len(l)), forth(i, len(l))
		for n := range again {
			again[n] = put("!", 7, "!")
		}
		back(i, len(l))
		i.Seek(api.Key{})
		if !slices.Equal(told, l) {
			t.Errorf("%.200v was told, and is %.200v", l, told)
		}
		over(t, "behind that", i, l)
	}
}

// R5: two iterators, of the same entries or of others, do not touch one another.
func TestSideBySide(t *testing.T) {
	r := rand.New(rand.NewPCG(14, 7))
	for range 100 {
		l := anyOf(r, r.IntN(20))
		other := anyOf(r, r.IntN(20))
		var iters []*Iter
		var slows []*slow
		for _, list := range [][]api.Entry{l, other, l, l[:len(l)/2], other} {
			i, s := both(list)
			iters, slows = append(iters, i), append(slows, s)
		}
		for range 200 {
			n := r.IntN(len(iters))
			m := moves("First", "Last", "Next", "Prev", "Seek")[r.IntN(5)]
			m.k = anyOf(r, 1)[0].Key
			goes(t, iters[n], slows[n], m)
			for n, i := range iters {
				got, is := i.At()
				if want, there := slows[n].At(); got != want || is != there {
					t.Fatalf("another one was moved, and iterator %d is at %v, %t, not %v, %t", n, got, is, want, there)
				}
			}
		}
	}
}

// R5: the same calls on two that are the same tell the same, though one was made ahead of many others.
func TestSameAgain(t *testing.T) {
	r := rand.New(rand.NewPCG(14, 8))
	l := anyOf(r, 50)
	first := New(l)
	want := forth(first, len(l))
	for range 200 {
		forth(New(anyOf(r, 30)), 30)
		over(t, "again", New(l), want)
		over(t, "the first one", first, want)
	}
}

// 14.1, R4: methods of nil tell zero values, in any row.
func TestOfNil(t *testing.T) {
	var i *Iter
	for range 3 {
		for _, m := range append(moves("First", "Last", "Next", "Prev"), seeks(around(nil)...)...) {
			if m.of(i) {
				t.Errorf("%v of nil tells an entry", m)
			}
			beyond(t, "of nil", i)
		}
	}
}

// R1: one that New did not make is as one of nothing.
func TestBare(t *testing.T) {
	i := new(Iter)
	beyond(t, "at first", i)
	for range 3 {
		for _, m := range append(moves("Next", "Next", "Prev", "Prev", "First", "Last", "Prev", "Next"), seeks(around(nil)...)...) {
			if m.of(i) {
				t.Errorf("%v of one that New did not make tells an entry", m)
			}
			beyond(t, m.name, i)
		}
	}
}

// R1: many entries, in order, the other way round, all alike, with long Users that begin alike: every call ends soon.
func TestMany(t *testing.T) {
	const n = 50000
	var l, want []api.Entry
	for m := range n {
		want = append(want, put("key"+strconv.Itoa(n+m), m, "v"))
	}
	l = slices.Clone(want)
	over(t, "in order", New(l), want)
	slices.Reverse(l)
	i := New(l)
	over(t, "the other way round", i, want)
	for m := range n {
		if !i.Seek(want[m].Key) {
			t.Fatalf("Seek of entry %d tells none", m)
		}
		at(t, "sought", i, want[m])
	}
	alike := slices.Repeat([]api.Entry{put("a", 1, "v")}, n)
	alike[0].Val = "first"
	over(t, "all alike", New(alike), alike[:1])
	long := []api.Entry{put(text(100000)+"c", 1, ""), put(text(100000)+"b", 1, ""), put(text(100000), 1, ""), put(text(100000)+"a", 1, "")}
	over(t, "long Users", New(long), []api.Entry{long[2], long[3], long[1], long[0]})
}
