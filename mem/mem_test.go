package mem

import (
	"cmp"
	"fmt"
	"math"
	"math/rand/v2"
	"slices"
	"strings"
	"testing"

	"icebox/api"
)

const (
	top     = 1 << 53 // the greatest Seq
	mostKey = 64
	mostVal = 512
)

func put(user string, seq int, val string) api.Entry {
	return api.Entry{Key: api.Key{User: user, Seq: seq, Kind: api.Put}, Val: val}
}

func del(user string, seq int) api.Entry {
	return api.Entry{Key: api.Key{User: user, Seq: seq, Kind: api.Del}}
}

func text(n int) string { return strings.Repeat("t", n) }

// heights is all that there are, and some below and above them.
func heights() []int {
	l := []int{math.MinInt, math.MinInt + 1, -1 << 32, -12, -1, 0}
	for h := range 12 {
		l = append(l, h+1)
	}
	return append(l, 13, 14, 24, 64, 1<<32, 1<<32+1, math.MaxInt-1, math.MaxInt)
}

// some is entries by their order: users of which one begins another, many numbers of one user, one number with both kinds.
func some() []api.Entry {
	return []api.Entry{
		put("", 3, ""), put("", 0, "nought"),
		put("\x00", 7, "x"),
		put("a", 9, "nine"), del("a", 8), put("a", 8, "eight"), put("a", 5, ""), del("a", 4), put("a", 2, "two"), put("a", 1, "one"),
		del("a\x00", 6),
		put("ab", top, "top"), del("ab", 3), put("ab", 3, "three"), del("ab", 0), put("ab", 0, ""),
		put("b", 1, text(mostVal)),
		put(text(mostKey-1), 5, "shorter"), put(text(mostKey), 5, "longest"),
		put("\xc3\xa9", 2, "\xff\x00"),
		put("\xff", 1, "v"), put("\xff\xff", 1, "v"),
	}
}

// mayNot is entries that may not be, each by one thing alone, and by several.
func mayNot() []api.Entry {
	of := func(user string, seq, kind int, val string) api.Entry {
		return api.Entry{Key: api.Key{User: user, Seq: seq, Kind: kind}, Val: val}
	}
	return []api.Entry{
		of(text(mostKey+1), 1, api.Put, ""),
		of(text(mostKey+1), 1, api.Del, ""),
		of(text(1000), 1, api.Put, "v"),
		of(strings.Repeat("é", 33), 1, api.Put, "v"),
		of("a", -1, api.Put, ""),
		of("a", -1, api.Del, ""),
		of("a", math.MinInt, api.Put, ""),
		of("a", top+1, api.Put, ""),
		of("a", top+1, api.Del, ""),
		of("a", math.MaxInt, api.Put, ""),
		of("a", 1, 0, ""),
		of("a", 1, 3, ""),
		of("a", 1, -1, ""),
		of("a", 1, math.MinInt, ""),
		of("a", 1, math.MaxInt, ""),
		of("a", 1, api.Put, text(mostVal+1)),
		of("a", 1, api.Put, text(5000)),
		of("a", 1, api.Del, "x"),
		of("a", 1, api.Del, "\x00"),
		of("a", 1, api.Del, text(mostVal+1)),
		of(text(mostKey+1), -1, 0, text(mostVal+1)),
		{},
	}
}

// order holds two keys against one another as layer 2 does, by other means.
func order(a, b api.Entry) int {
	return cmp.Or(strings.Compare(a.Key.User, b.Key.User), cmp.Compare(b.Key.Seq, a.Key.Seq), cmp.Compare(b.Key.Kind, a.Key.Kind))
}

// held is chapter 10 told in another way: entries as they came.
type held []api.Entry

func (l *held) add(e api.Entry) bool {
	k := e.Key
	mayBe := len(k.User) <= mostKey && k.Seq >= 0 && k.Seq <= top &&
		(k.Kind == api.Put && len(e.Val) <= mostVal || k.Kind == api.Del && e.Val == "")
	if !mayBe || slices.ContainsFunc(*l, func(x api.Entry) bool { return x.Key == k }) {
		return false
	}
	*l = append(*l, e)
	return true
}

func (l held) get(user string, seq int) (best api.Entry, is bool) {
	for _, x := range l {
		k := x.Key
		if k.User != user || k.Seq > seq {
			continue
		}
		if !is || k.Seq > best.Key.Seq || k.Seq == best.Key.Seq && k.Kind > best.Key.Kind {
			best, is = x, true
		}
	}
	return best, is
}

func (l held) all() []api.Entry { return slices.SortedFunc(slices.Values(l), order) }

func (l held) size() (n int) {
	for _, x := range l {
		n += len(x.Key.User) + len(x.Val)
	}
	return n
}

// filled is a memory of these entries, one of each height in turn.
func filled(t *testing.T, l []api.Entry, from int) *Mem {
	t.Helper()
	m := New()
	hs := heights()
	for i, e := range l {
		if !m.Add(e, hs[(i*5+from)%len(hs)]) {
			t.Fatalf("Add(%v) is refused", e.Key)
		}
	}
	return m
}

// asked is what is asked of a memory: each user there is, some that there are not, and each number that may count.
func asked(l []api.Entry) (users []string, seqs []int) {
	users = []string{"", "\x00", "\x00\x00", "A", "aa", "a\x00\x00", "abc", "c", text(10), text(mostKey + 1), text(5000), "\xff\x00", "\xff\xff\xff"}
	seqs = []int{math.MinInt, math.MinInt + 1, -1 << 53, -1, 0, 1, top - 1, top, top + 1, math.MaxInt - 1, math.MaxInt}
	for _, e := range l {
		users = append(users, e.Key.User)
		seqs = append(seqs, e.Key.Seq-1, e.Key.Seq, e.Key.Seq+1)
	}
	slices.Sort(users)
	slices.Sort(seqs)
	return slices.Compact(users), slices.Compact(seqs)
}

// same holds all that m tells against what the entries l make.
func same(t *testing.T, m *Mem, l held, what ...any) {
	t.Helper()
	if got := m.All(); !slices.Equal(got, l.all()) {
		t.Fatalf("%v: All() = %v, not %v", what, got, l.all())
	}
	if m.Len() != len(l) || m.Size() != l.size() {
		t.Fatalf("%v: Len, Size = %d, %d, not %d, %d", what, m.Len(), m.Size(), len(l), l.size())
	}
	users, seqs := asked(l)
	for _, user := range users {
		for _, seq := range seqs {
			got, is := m.Get(user, seq)
			if want, there := l.get(user, seq); got != want || is != there {
				t.Fatalf("%v: Get(%q, %d) = %v, %t, not %v, %t", what, user, seq, got, is, want, there)
			}
		}
	}
	linked(t, m, what)
}

// linked holds the towers of m against the way of chapter 10: at each height the list of all that are as tall, by their order.
func linked(t *testing.T, m *Mem, what ...any) {
	t.Helper()
	for h := range tallest {
		var want, got []api.Entry
		for _, n := range m.nodes {
			if len(n.next) > h {
				want = append(want, n.held)
			}
		}
		slices.SortFunc(want, order)
		for at := m.first[h]; at != none && len(got) <= len(want); at = m.nodes[at-1].next[h] {
			got = append(got, m.nodes[at-1].held)
		}
		if !slices.Equal(got, want) {
			t.Fatalf("%v: at height %d there are %v, not %v", what, h, got, want)
		}
	}
}

// 10.1: what is added is told: one entry, by Get, All, Len and Size.
func TestOne(t *testing.T) {
	m := New()
	if !m.Add(put("it", 4, "val"), 3) {
		t.Error("Add refuses an entry that may be")
	}
	for seq, want := range map[int]bool{math.MinInt: false, -1: false, 0: false, 3: false, 4: true, 5: true, top: true, math.MaxInt: true} {
		got, is := m.Get("it", seq)
		if is != want || is && got != put("it", 4, "val") || !is && got != (api.Entry{}) {
			t.Errorf("Get(it, %d) = %v, %t", seq, got, is)
		}
	}
	for _, user := range []string{"", "i", "iu", "is", "it\x00", "It", "z"} {
		if got, is := m.Get(user, 4); is || got != (api.Entry{}) {
			t.Errorf("Get(%q, 4) = %v, %t", user, got, is)
		}
	}
	if got := m.All(); !slices.Equal(got, []api.Entry{put("it", 4, "val")}) || m.Len() != 1 || m.Size() != 5 {
		t.Errorf("All, Len, Size = %v, %d, %d", got, m.Len(), m.Size())
	}
}

// 10.1: entries that may just be are added, each alone and all of them.
func TestAddOfWhatMayBe(t *testing.T) {
	var l held
	for _, user := range []string{"", "\x00", "a", text(mostKey - 1), text(mostKey), "\xff\xfe", strings.Repeat("é", 32)} {
		for _, seq := range []int{0, 1, 2, 1 << 31, 1 << 32, top - 1, top} {
			for _, val := range []string{"", "\x00", "v", text(mostVal - 1), text(mostVal)} {
				m := New()
				if e := put(user, seq, val); !m.Add(e, 1) {
					t.Errorf("Add(%v) is refused", e)
				}
				same(t, m, held{put(user, seq, val)})
			}
			l = append(l, put(user, seq, "v"), del(user, seq))
		}
	}
	same(t, filled(t, l, 0), l)
}

// 10.1: an entry that may not be is refused, whatever its height, and nothing is changed by it.
func TestAddOfWhatMayNotBe(t *testing.T) {
	for i, e := range mayNot() {
		for _, l := range []held{nil, {put("a", 1, "v")}, some()} {
			m := filled(t, l, i)
			for _, h := range heights() {
				if m.Add(e, h) {
					t.Errorf("Add of %d, height %d, is not refused", i, h)
				}
			}
			same(t, m, l, i)
			// What was refused leaves no trace in what is added behind it.
			if !m.Add(put("behind", 1, "v"), 12) {
				t.Error("Add behind one that was refused is refused")
			}
			same(t, m, append(slices.Clone(l), put("behind", 1, "v")), i)
		}
	}
}

// 10.1: an entry whose key is there is refused, with the same Val and with another, and the first one stays.
func TestAddOfAKeyThatIsThere(t *testing.T) {
	l := held(some())
	m := filled(t, l, 3)
	for i, e := range l {
		other := e
		if e.Key.Kind == api.Put {
			other.Val = "another"
		}
		for _, h := range heights() {
			if m.Add(e, h) || m.Add(other, h) {
				t.Errorf("Add of %v again, height %d, is not refused", e.Key, h)
			}
		}
		same(t, m, l, i)
	}
}

// 10.1: keys that differ in one part alone are two.
func TestKeysThatDiffer(t *testing.T) {
	for _, other := range []api.Entry{put("b", 2, "v"), put("", 2, "v"), put("aa", 2, "v"), put("A", 2, "v"), put("a\x00", 2, "v"), put("a", 1, "v"), put("a", 3, "v"), del("a", 2)} {
		l := held{put("a", 2, "v"), other}
		same(t, filled(t, l, 0), l, other)
		slices.Reverse(l)
		same(t, filled(t, l, 0), l, other)
	}
}

// 10.1: of one number the first by layer 2's Cmp is told: the Del, whichever came first; and of several the greatest that is at most the one asked.
func TestGetOfOneNumber(t *testing.T) {
	l := held{put("a", 3, "three"), del("a", 3), put("a", 1, "one"), put("b", 9, "of another"), put("Z", 9, "of another")}
	for turn := range 2 {
		m := filled(t, l, turn)
		for seq, want := range map[int]api.Entry{0: {}, 1: put("a", 1, "one"), 2: put("a", 1, "one"), 3: del("a", 3), 4: del("a", 3), 9: del("a", 3)} {
			if got, is := m.Get("a", seq); got != want || is != (seq > 0) {
				t.Errorf("Get(a, %d) = %v, %t, not %v", seq, got, is, want)
			}
		}
		slices.Reverse(l)
	}
}

// 10.1: below the least number there is nothing, though the users beside have all numbers.
func TestGetOfNone(t *testing.T) {
	m := New()
	for seq := range 20 {
		for _, user := range []string{"a", "c"} {
			m.Add(put(user, seq, ""), seq)
		}
	}
	m.Add(put("b", 10, "it"), 5)
	for seq := -3; seq < 25; seq++ {
		got, is := m.Get("b", seq)
		if is != (seq >= 10) || is && got.Val != "it" || !is && got != (api.Entry{}) {
			t.Errorf("Get(b, %d) = %v, %t", seq, got, is)
		}
		for _, user := range []string{"", "A", "aa", "bb", "cc", "d", "\xff"} {
			if got, is := m.Get(user, seq); is || got != (api.Entry{}) {
				t.Errorf("Get(%q, %d) = %v, %t", user, seq, got, is)
			}
		}
	}
}

// 10.1: All, Len and Size of none, of many, of empty Users and Vals.
func TestSize(t *testing.T) {
	same(t, New(), nil)
	if got := New().All(); len(got) != 0 {
		t.Errorf("All of none = %v", got)
	}
	for _, c := range []struct {
		l    held
		size int
	}{
		{held{put("", 0, "")}, 0},
		{held{put("", 0, ""), put("", 1, ""), del("", 1), del("", 2)}, 0},
		{held{put("", 1, "val")}, 3},
		{held{put("user", 1, "")}, 4},
		{held{del("user", 1)}, 4},
		{held{put("user", 1, "val"), del("user", 1), put("user", 2, "val")}, 18},
		{held{put(text(mostKey), 1, text(mostVal))}, mostKey + mostVal},
		{held{put("é", 1, "éé")}, 6},
	} {
		m := filled(t, c.l, 1)
		if m.Len() != len(c.l) || m.Size() != c.size {
			t.Errorf("of %v: Len, Size = %d, %d, not %d", c.l, m.Len(), m.Size(), c.size)
		}
		same(t, m, c.l)
	}
}

// 10.1: below 1 counts as 1, above 12 as 12.
func TestHeights(t *testing.T) {
	for _, h := range heights() {
		m := New()
		m.Add(put("a", 1, ""), h)
		if got := len(m.nodes[0].next); got != min(max(h, 1), 12) {
			t.Errorf("height %d counts as %d", h, got)
		}
	}
}

// 10.1: at each height a search is as far as it may be, so that towers shorten it.
func TestTowersAreGoneAlong(t *testing.T) {
	l := some()
	m := filled(t, l, 0)
	users, seqs := asked(l)
	for _, user := range users {
		for _, seq := range seqs {
			probe := del(user, seq)
			for h, at := range m.ahead(probe.Key) {
				want := none
				for i, n := range m.nodes {
					if len(n.next) > h && order(n.held, probe) < 0 && (want == none || order(n.held, m.nodes[want-1].held) > 0) {
						want = i + 1
					}
				}
				if at != want {
					t.Fatalf("ahead of %q, %d at height %d is %d, not %d", user, seq, h, at, want)
				}
			}
		}
	}
}

// 10.2: the same entries in each order tell the same, whatever their heights.
func TestEachOrder(t *testing.T) {
	l := []api.Entry{put("a", 2, "x"), del("a", 2), put("a", 1, ""), put("", 7, "y"), put("ab", 3, "zz"), del("b", 0)}
	hs := [][]int{{1, 1, 1, 1, 1, 1}, {12, 12, 12, 12, 12, 12}, {1, 2, 3, 4, 5, 6}, {12, 1, 99, -5, 2, 0}, {math.MinInt, math.MaxInt, 3, 3, 2, 1}}
	turns := 0
	var each func(ahead, rest []api.Entry)
	each = func(ahead, rest []api.Entry) {
		for i := range rest {
			each(append(slices.Clone(ahead), rest[i]), slices.Delete(slices.Clone(rest), i, i+1))
		}
		if len(rest) > 0 {
			return
		}
		m := New()
		for i, e := range ahead {
			m.Add(e, hs[turns%len(hs)][i])
		}
		same(t, m, l, ahead)
		turns++
	}
	each(nil, l)
	if turns != 720 {
		t.Errorf("%d orders", turns)
	}
}

// 10.2: the same entries with each height of each of four tell the same.
func TestEachHeight(t *testing.T) {
	l := []api.Entry{put("b", 2, "x"), put("a", 1, ""), put("c", 7, "y"), put("b", 3, "zz")}
	hs := []int{-1, 1, 2, 3, 5, 11, 12, 13}
	for n := range 8 * 8 * 8 * 8 {
		m := New()
		for i, e := range l {
			m.Add(e, hs[n>>(3*i)%8])
		}
		same(t, m, l, n)
	}
}

// 10.2: many entries, by rising and by falling order, and in between.
func TestManyInOrder(t *testing.T) {
	var l held
	for i := range 400 {
		l = append(l, put(fmt.Sprintf("k%03d", i/4), 3-i%4, fmt.Sprint(i)))
	}
	mixed := make(held, len(l))
	for i := range l {
		mixed[i*149%len(l)] = l[i]
	}
	for turn, came := range []held{l, l.backward(), mixed} {
		m := filled(t, came, turn)
		if !slices.Equal(m.All(), l) || m.Len() != len(l) || m.Size() != l.size() {
			t.Errorf("turn %d: %d entries of %d bytes", turn, m.Len(), m.Size())
		}
		for i, e := range l {
			if got, is := m.Get(e.Key.User, e.Key.Seq); !is || got != e {
				t.Errorf("turn %d: Get of %d = %v, %t", turn, i, got, is)
			}
		}
		linked(t, m, turn)
	}
}

func (l held) backward() held {
	back := slices.Clone(l)
	slices.Reverse(back)
	return back
}

// 10.1, 10.2: rows of calls against the chapter told in another way, heights by chance.
func TestAgainstAnotherWay(t *testing.T) {
	r := rand.New(rand.NewPCG(10, 1))
	users := []string{"", "a", "aa", "ab", "b", "\x00", "\xff", text(mostKey), text(mostKey + 1)}
	for range 600 {
		m := New()
		var l held
		for range r.IntN(60) {
			e := api.Entry{Key: api.Key{User: users[r.IntN(len(users))], Seq: r.IntN(8) - 1, Kind: r.IntN(4)}, Val: text(r.IntN(3))}
			if e.Key.Kind == api.Del && r.IntN(4) > 0 {
				e.Val = ""
			}
			if got, want := m.Add(e, r.IntN(16)-1), l.add(e); got != want {
				t.Fatalf("Add(%v) = %t behind %v", e, got, l)
			}
			if got, want := m.Len(), len(l); got != want || m.Size() != l.size() {
				t.Fatalf("Len, Size = %d, %d behind %v", got, m.Size(), l)
			}
		}
		same(t, m, l)
	}
}

// R1, R4: a memory that is none tells nothing; one that New did not make is as one that it made.
func TestOfNone(t *testing.T) {
	var m *Mem
	for _, e := range append(some(), mayNot()...) {
		for _, h := range heights() {
			if m.Add(e, h) {
				t.Errorf("Add(%v) to none", e.Key)
			}
		}
		if got, is := m.Get(e.Key.User, e.Key.Seq); is || got != (api.Entry{}) {
			t.Errorf("Get of none = %v, %t", got, is)
		}
	}
	if got := m.All(); len(got) != 0 || m.Len() != 0 || m.Size() != 0 {
		t.Errorf("All, Len, Size of none = %v, %d, %d", got, m.Len(), m.Size())
	}
	bare := new(Mem)
	same(t, bare, nil)
	if !bare.Add(put("a", 1, "v"), 12) {
		t.Error("Add to one that New did not make")
	}
	same(t, bare, held{put("a", 1, "v")})
}

// R3: what was told can be written into, its spare room too, and nothing else changes by it.
func TestWhatIsToldIsNew(t *testing.T) {
	l := held(some())
	m := filled(t, l, 2)
	first, second := m.All(), m.All()
	for i := range first {
		first[i] = put("spoilt", i, "spoilt")
	}
	first = append(first, put("spoilt", 1, "more"))
	for spare := first[:cap(first)]; len(spare) > len(first); spare = spare[:len(spare)-1] {
		spare[len(spare)-1] = put("spoilt", 1, "spare")
	}
	if !slices.Equal(second, l.all()) {
		t.Error("another that was told is changed")
	}
	same(t, m, l)
	_ = append(second[:1], put("spoilt", 2, ""))
	second = second[:cap(second)]
	clear(second)
	e, _ := m.Get("a", 9)
	e.Key.User, e.Val = "spoilt", "spoilt"
	same(t, m, l)
	if !m.Add(put("zz", 1, "behind"), 4) {
		t.Error("Add behind it is refused")
	}
	same(t, m, append(l, put("zz", 1, "behind")))
}

// R3: what was told ahead of an Add is as it was behind it.
func TestWhatWasToldStays(t *testing.T) {
	l := held(some())
	m := New()
	var told [][]api.Entry
	for i, e := range l {
		told = append(told, m.All())
		m.Add(e, i)
	}
	for i, x := range told {
		if !slices.Equal(x, l[:i].all()) {
			t.Errorf("All of the first %d = %v", i, x)
		}
	}
}

// R5: two memories do not touch one another; the same calls tell the same.
func TestSideBySide(t *testing.T) {
	l := held(some())
	var odd, even held
	a, b := New(), New()
	for i, e := range l {
		if i%2 == 0 {
			a.Add(e, i)
			even = append(even, e)
		} else {
			b.Add(e, 12-i)
			odd = append(odd, e)
		}
		same(t, a, even, i)
		same(t, b, odd, i)
	}
	again, more := filled(t, l, 4), filled(t, l, 4)
	for range 2 {
		same(t, again, l)
		same(t, more, l)
	}
	more.Add(put("more", 1, ""), 12)
	same(t, again, l)
}
