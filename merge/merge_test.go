package merge

import (
	"cmp"
	"math"
	"math/rand/v2"
	"slices"
	"strconv"
	"strings"
	"testing"

	"icebox/api"
	"icebox/key"
)

const (
	top     = 1 << 53 // the greatest Seq
	mostKey = 64
	mostVal = 512
)

func put(user string, seq int, val string) api.Entry {
	return api.Entry{Key: api.Key{User: user, Seq: seq, Kind: api.Put}, Val: val}
}

func del(user string, seq int) api.Entry {
	return api.Entry{Key: api.Key{User: user, Seq: seq, Kind: api.Del}}
}

func of(user string, seq, kind int, val string) api.Entry {
	return api.Entry{Key: api.Key{User: user, Seq: seq, Kind: kind}, Val: val}
}

func text(n int) string { return strings.Repeat("t", n) }

// some is entries by their order: users of which one begins another, many numbers of one user, one number with both kinds.
func some() []api.Entry {
	return []api.Entry{
		put("", 3, ""), put("", 0, "nought"),
		put("\x00", 7, "x"),
		put("a", 9, "nine"), del("a", 8), put("a", 8, "eight"), put("a", 5, ""), del("a", 4), put("a", 2, "two"), put("a", 1, "one"),
		del("a\x00", 6),
		put("ab", top, "top"), del("ab", 3), put("ab", 3, "three"), del("ab", 0), put("ab", 0, ""),
		put("b", 1, text(mostVal)),
		put(text(mostKey-1), 5, "shorter"), put(text(mostKey), 5, "longest"),
		put("\xc3\xa9", 2, "\xff\x00"),
		put("\xff", 1, "v"), put("\xff\xff", 1, "v"),
	}
}

// mayNot is entries by their order, most of which may not be, with some between that may.
func mayNot() []api.Entry {
	return []api.Entry{
		of("", math.MaxInt, api.Put, ""), of("", 0, 0, ""), of("", math.MinInt, api.Del, ""),
		of("a", math.MaxInt, api.Del, "of a Del"), of("a", top+1, api.Put, "v"),
		of("a", 1, math.MaxInt, "kind"), of("a", 1, 3, ""), of("a", 1, api.Del, "of a Del"), of("a", 1, api.Put, "may be"), of("a", 1, 0, ""), of("a", 1, -1, ""), of("a", 1, math.MinInt, ""),
		of("a", 0, api.Put, "may be"), of("a", -1, 7, ""), of("a", -1, api.Del, ""), of("a", -1, api.Put, text(mostVal+1)),
		of("a", math.MinInt+1, api.Put, ""), of("a", math.MinInt, api.Put, ""), of("a", math.MinInt, math.MinInt, ""),
		of(text(mostKey), 1, api.Put, "may be"), of(text(mostKey+1), 1, api.Del, ""), of(text(mostKey+1), 1, api.Put, ""), of(text(1000), 1, api.Put, "v"),
		of(strings.Repeat("é", 33), 1, api.Put, "v"),
	}
}

// twice is entries by their order, of which several have one key: the first of each counts.
func twice() []api.Entry {
	return []api.Entry{
		put("", 1, "first"), put("", 1, "second"),
		put("a", 3, "first"), put("a", 3, ""), put("a", 3, "third"), of("a", 2, api.Del, ""), of("a", 2, api.Del, "second"), put("a", 2, "put"), put("a", 2, "again"),
		del("b", 2), del("b", 2), put("b", 1, "first"), put("b", 1, "second"),
		put("c", 5, ""), put("c", 5, "second"),
	}
}

// hundred is a hundred entries by their order.
func hundred() []api.Entry {
	var l []api.Entry
	for n := range 100 {
		l = append(l, put("key"+strconv.Itoa(100+n), n, strconv.Itoa(n)))
	}
	return l
}

// lists is lists by their order, each key once, of none, one, a few, many.
func lists() [][]api.Entry {
	return [][]api.Entry{
		nil, {}, {put("a", 1, "v")}, {del("a", 1)}, {{}}, {of("", math.MinInt, math.MinInt, "")},
		{del("a", 1), put("a", 1, "v")}, {put("a", 2, ""), put("a", 1, "")}, {put("", 1, "x"), put("a", 1, "y")},
		some()[:3], some()[3:6], some(), mayNot(), hundred(),
	}
}

// order holds two keys against one another as layer 2 does, by other means.
func order(a, b api.Key) int {
	return cmp.Or(strings.Compare(a.User, b.User), cmp.Compare(b.Seq, a.Seq), cmp.Compare(b.Kind, a.Kind))
}

// brief is entries or pairs as a text that is not too long to be read.
func brief[T any](l []T, tell func(T) string) string {
	var b strings.Builder
	for n, one := range l {
		if n == 12 {
			b.WriteString("..")
			break
		}
		b.WriteString("[" + tell(one) + "]")
	}
	return strconv.Itoa(len(l)) + ": " + b.String()
}

func short(s string) string { return strconv.Quote(s[:min(len(s), 20)]) }

func entryText(e api.Entry) string {
	return short(e.Key.User) + " " + strconv.Itoa(e.Key.Seq) + " " + strconv.Itoa(e.Key.Kind) + " " + short(e.Val)
}

func pairText(p api.Pair) string { return short(p.Key) + " " + short(p.Val) }

func entriesText(l []api.Entry) string { return brief(l, entryText) }

// merged is 15.1 told in another way: the first entry of each key by a map, then each time the least of those that are left.
func merged(l [][]api.Entry) []api.Entry {
	held := map[api.Key]api.Entry{}
	for _, list := range l {
		for _, e := range list {
			if _, ok := held[e.Key]; !ok {
				held[e.Key] = e
			}
		}
	}
	var told []api.Entry
	for len(held) > 0 {
		var least api.Entry
		found := false
		for k, e := range held {
			if !found || order(k, least.Key) < 0 {
				least, found = e, true
			}
		}
		told = append(told, least)
		delete(held, least.Key)
	}
	return told
}

// view is what is asked of View, but for the list.
type view struct {
	seq    int
	lo, hi string
	back   bool
	most   int
}

func (v view) of(l []api.Entry) []api.Pair {
	return View(l, v.seq, v.lo, v.hi, v.back, v.most)
}

func (v view) String() string {
	return "seq " + strconv.Itoa(v.seq) + ", lo " + short(v.lo) + ", hi " + short(v.hi) + ", back " + strconv.FormatBool(v.back) + ", most " + strconv.Itoa(v.most)
}

// viewed is 15.2 told in another way: for each place of the list whether it is the one that is seen, then the pairs put in order.
func viewed(l []api.Entry, v view) []api.Pair {
	var told []api.Pair
	for n, e := range l {
		first := e.Key.Seq <= v.seq
		for _, other := range l[:n] {
			if other.Key.User == e.Key.User && other.Key.Seq <= v.seq {
				first = false
			}
		}
		outside := strings.Compare(e.Key.User, v.lo) < 0 || v.hi != "" && strings.Compare(e.Key.User, v.hi) >= 0
		if first && !outside && e.Key.Kind == 1 {
			told = append(told, api.Pair{Key: e.Key.User, Val: e.Val})
		}
	}
	slices.SortFunc(told, func(a, b api.Pair) int {
		if v.back {
			a, b = b, a
		}
		return strings.Compare(a.Key, b.Key)
	})
	return told[:min(len(told), max(v.most, 0))]
}

// merges asks that Merge of lists tells what it tells told in another way.
func merges(t *testing.T, what string, l [][]api.Entry, want []api.Entry) bool {
	t.Helper()
	got := Merge(l)
	if !slices.Equal(got, want) {
		t.Errorf("%s: Merge of %s tells %s, not %s", what, brief(l, entriesText), entriesText(got), entriesText(want))
		return false
	}
	return true
}

// views asks that View of a list tells some pairs.
func views(t *testing.T, what string, l []api.Entry, v view, want ...api.Pair) bool {
	t.Helper()
	got := v.of(l)
	if !slices.Equal(got, want) {
		t.Errorf("%s: View of %s, %v, tells %s, not %s", what, entriesText(l), v, brief(got, pairText), brief(want, pairText))
		return false
	}
	return true
}

// pairs is keys and values by turns, as pairs.
func pairs(l ...string) []api.Pair {
	var told []api.Pair
	for n := 0; n < len(l); n += 2 {
		told = append(told, api.Pair{Key: l[n], Val: l[n+1]})
	}
	return told
}

// many is lists of entries.
type many = [][]api.Entry

// 15.1: Merge of nothing, of lists of nothing.
func TestMergeNothing(t *testing.T) {
	for _, l := range [][][]api.Entry{nil, {}, {nil}, {{}}, {nil, nil}, {{}, nil, {}}, make([][]api.Entry, 1000)} {
		if got := Merge(l); len(got) != 0 {
			t.Errorf("Merge of %d lists of nothing tells %s", len(l), entriesText(got))
		}
	}
}

// 15.1: one list, as it is, turned round, in any order, with lists of nothing about it, and in parts.
func TestMergeOne(t *testing.T) {
	r := rand.New(rand.NewPCG(15, 1))
	for _, want := range lists() {
		if !slices.IsSortedFunc(want, func(a, b api.Entry) int { return order(a.Key, b.Key) }) {
			t.Fatalf("%s is not by its order", entriesText(want))
		}
		merges(t, "in order", many{want}, want)
		merges(t, "behind nothing", many{nil, want}, want)
		merges(t, "ahead of nothing", many{want, nil}, want)
		merges(t, "amid nothing", many{nil, {}, want, nil, nil}, want)
		l := slices.Clone(want)
		slices.Reverse(l)
		merges(t, "turned round", many{l}, want)
		for range 30 {
			r.Shuffle(len(l), func(a, b int) { l[a], l[b] = l[b], l[a] })
			merges(t, "in any order", many{l}, want)
		}
		for n := range len(l) + 1 {
			merges(t, "in two parts", many{want[:n], want[n:]}, want)
			merges(t, "in two parts, turned round", many{want[n:], want[:n]}, want)
			merges(t, "in two parts, in any order", many{l[:n], l[n:]}, want)
		}
	}
}

// 15.1: each entry a list of its own, by turns on two, three and more lists.
func TestMergeSpread(t *testing.T) {
	for _, want := range lists() {
		for n := 1; n <= len(want)+1; n++ {
			by, runs := make([][]api.Entry, n), make([][]api.Entry, n)
			for m, e := range want {
				by[m%n] = append(by[m%n], e)
				runs[m*n/len(want)] = append(runs[m*n/len(want)], e)
			}
			for range 2 {
				merges(t, "by turns on "+strconv.Itoa(n), by, want)
				merges(t, "runs on "+strconv.Itoa(n), runs, want)
				slices.Reverse(by)
				slices.Reverse(runs)
				for _, l := range by {
					slices.Reverse(l)
				}
			}
		}
	}
}

// 15.1: of one key the first list that has it, there the first, whatever the Vals and the entries between.
func TestMergeAlike(t *testing.T) {
	a, b, c := put("a", 1, "first"), put("b", 1, "first"), put("c", 1, "first")
	second := func(e api.Entry) api.Entry { e.Val = "second"; return e }
	third := func(e api.Entry) api.Entry { e.Val = ""; return e }
	for n, c := range []struct {
		l    [][]api.Entry
		want []api.Entry
	}{
		// In one list.
		{many{{a, second(a)}}, []api.Entry{a}},
		{many{{second(a), a}}, []api.Entry{second(a)}},
		{many{{third(a), a, second(a)}}, []api.Entry{third(a)}},
		{many{{a, b, second(a), c, third(a), second(b)}}, []api.Entry{a, b, c}},
		{many{{c, b, a, third(c), second(b), second(a)}}, []api.Entry{a, b, c}},
		{many{nil, {c, b, a, third(c), second(b), second(a)}}, []api.Entry{a, b, c}},
		// In two.
		{many{{a}, {second(a)}}, []api.Entry{a}},
		{many{{second(a)}, {a}}, []api.Entry{second(a)}},
		{many{{third(a)}, {a}}, []api.Entry{third(a)}},
		{many{{a, b}, {second(a), second(b)}}, []api.Entry{a, b}},
		{many{{b}, {second(b), second(a)}}, []api.Entry{second(a), b}},
		{many{{b, a}, {second(a), c, second(b)}}, []api.Entry{a, b, c}},
		{many{{c}, {a, second(c)}}, []api.Entry{a, c}},
		{many{{a, c}, {second(b), second(c)}}, []api.Entry{a, second(b), c}},
		// In several.
		{many{{a}, {second(a)}, {third(a)}}, []api.Entry{a}},
		{many{{third(a)}, {second(a)}, {a}}, []api.Entry{third(a)}},
		{many{{b}, {third(a)}, {second(a)}, {a, second(b)}}, []api.Entry{third(a), b}},
		{many{{c}, {second(b), second(c)}, {third(a), third(b), third(c)}, {a, b}}, []api.Entry{third(a), second(b), c}},
		{many{nil, {}, {second(a), a}, {a, third(a)}, nil}, []api.Entry{second(a)}},
		{many{{b}, {b}, {b}, {second(b), a}, {second(a)}}, []api.Entry{a, b}},
		// The second of the first list is ahead of the first of the second, but neither counts.
		{many{{b, second(a), third(a)}, {a, second(b)}}, []api.Entry{second(a), b}},
		// One thing of the key differs: they are not alike.
		{many{{a}, {second(put("a", 2, ""))}}, []api.Entry{second(put("a", 2, "")), a}},
		{many{{a}, {del("a", 1)}}, []api.Entry{del("a", 1), a}},
		{many{{del("a", 1)}, {a}}, []api.Entry{del("a", 1), a}},
		{many{{put("a\x00", 1, "first")}, {a}}, []api.Entry{a, put("a\x00", 1, "first")}},
		{many{{put("a", 1, ""), put("", 1, "")}, {a, put("A", 1, "")}}, []api.Entry{put("", 1, ""), put("A", 1, ""), put("a", 1, "")}},
		// What may not be is as any other.
		{many{{{}}, {{Val: "second"}, of("", 0, -1, "")}}, []api.Entry{{}, of("", 0, -1, "")}},
		{many{{of("a", -1, 9, "first")}, {of("a", -1, 9, "second")}}, []api.Entry{of("a", -1, 9, "first")}},
		{many{{of("a", -1, 9, "first")}, {of("a", -2, 9, ""), of("a", 0, 9, "")}}, []api.Entry{of("a", 0, 9, ""), of("a", -1, 9, "first"), of("a", -2, 9, "")}},
		{many{{of(text(1000), 1, 1, "first")}, {a, of(text(1000), 1, 1, ""), of(text(1000)+"t", 1, 1, "")}}, []api.Entry{a, of(text(1000), 1, 1, "first"), of(text(1000)+"t", 1, 1, "")}},
	} {
		merges(t, "row "+strconv.Itoa(n), c.l, c.want)
	}
}

// 15.1: of many entries of few keys, on few lists and on many, the first of each key, which a sort that is not stable would lose.
func TestMergeManyAlike(t *testing.T) {
	r := rand.New(rand.NewPCG(15, 2))
	for _, n := range []int{2, 11, 12, 13, 20, 21, 40, 100, 1000} {
		for _, keys := range []int{1, 2, 3, 7} {
			for _, most := range []int{1, 2, 3, 5, 16, 17, 64} {
				l := make([][]api.Entry, most)
				for m := range n {
					at := r.IntN(most)
					l[at] = append(l[at], put(strconv.Itoa(r.IntN(keys)), 1, strconv.Itoa(m)))
				}
				merges(t, strconv.Itoa(n)+" of "+strconv.Itoa(keys)+" keys", l, merged(l))
			}
		}
	}
}

// 15.1: all rows of up to seven steps, each an entry or the beginning of another list: all ways in which few keys may lie.
func TestMergeAllShort(t *testing.T) {
	keys := []api.Entry{put("a", 2, ""), del("a", 1), put("a", 1, ""), put("b", 3, "")}
	rows := 0
	var each func(l [][]api.Entry, left int)
	each = func(l [][]api.Entry, left int) {
		rows++
		if !merges(t, "a short row", l, merged(l)) {
			t.FailNow()
		}
		if left == 0 {
			return
		}
		each(append(slices.Clone(l), nil), left-1)
		if len(l) == 0 {
			return
		}
		for _, e := range keys {
			more := slices.Clone(l)
			e.Val = "at " + strconv.Itoa(left)
			more[len(l)-1] = append(slices.Clone(more[len(l)-1]), e)
			each(more, left-1)
		}
	}
	each(nil, 7)
	if rows != 19532 {
		t.Errorf("%d rows", rows)
	}
}

// anyOf is entries by chance, of few Users, Seqs and Kinds, so that much is alike, and much may not be.
func anyOf(r *rand.Rand, n int) []api.Entry {
	letters := "\x00ab\xff"
	var l []api.Entry
	for m := range n {
		user := make([]byte, r.IntN(4))
		for i := range user {
			user[i] = letters[r.IntN(len(letters))]
		}
		seq := []int{math.MinInt, -1, 0, 1, 2, 3, top, math.MaxInt}[r.IntN(8)]
		l = append(l, of(string(user), seq, r.IntN(4), strconv.Itoa(m)))
	}
	return l
}

// anyLists is entries by chance on lists by chance, some of them in order.
func anyLists(r *rand.Rand) [][]api.Entry {
	l := make([][]api.Entry, r.IntN(9))
	for n := range l {
		l[n] = anyOf(r, r.IntN(1+r.IntN(40)))
		if r.IntN(2) == 0 {
			slices.SortStableFunc(l[n], func(a, b api.Entry) int { return order(a.Key, b.Key) })
		}
		for m := range l[n] {
			l[n][m].Val += " of " + strconv.Itoa(n)
		}
	}
	return l
}

// 15.1: lists by chance, against the promise told in another way.
func TestMergeAgainstAnotherWay(t *testing.T) {
	r := rand.New(rand.NewPCG(15, 3))
	for range 5000 {
		l := anyLists(r)
		if !merges(t, "by chance", l, merged(l)) {
			t.FailNow()
		}
	}
}

// 15.1: Merge of what Merge told is the same once more, with what it was told of too, ahead of it or behind.
func TestMergeAgain(t *testing.T) {
	r := rand.New(rand.NewPCG(15, 4))
	for range 500 {
		l := anyLists(r)
		want := Merge(l)
		merges(t, "of itself", many{want}, want)
		merges(t, "of itself twice", many{want, want}, want)
		merges(t, "ahead", append(many{want}, l...), want)
		merges(t, "behind", append(slices.Clone(l), want), want)
		n := r.IntN(len(l) + 1)
		merges(t, "of the first ones, then the others", many{Merge(l[:n]), Merge(l[n:])}, want)
		merges(t, "of the first ones, with the others", append(many{Merge(l[:n])}, l[n:]...), want)
		joined := slices.Concat(l...)
		merges(t, "as one list", many{joined}, want)
	}
}

// 15.1: the order, and what a key is alike, are layer 2's: of entries that may be Merge is Rising.
func TestLayersBelow(t *testing.T) {
	r := rand.New(rand.NewPCG(15, 5))
	for range 300 {
		l := anyLists(r)
		told := Merge(l)
		for n := 1; n < len(told); n++ {
			if key.Cmp(told[n-1].Key, told[n].Key) >= 0 {
				t.Fatalf("%s stands ahead of %s", entryText(told[n-1]), entryText(told[n]))
			}
		}
		for _, list := range l {
			for _, e := range list {
				if !slices.ContainsFunc(told, func(held api.Entry) bool { return key.Cmp(held.Key, e.Key) == 0 }) {
					t.Fatalf("%s is on a list and was not told", entryText(e))
				}
			}
		}
		may := make([][]api.Entry, len(l))
		for n, list := range l {
			for _, e := range list {
				if key.May(e.Key) && e.Key.Kind == api.Put {
					may[n] = append(may[n], e)
				}
			}
		}
		if !key.Rising(Merge(may)) {
			t.Fatalf("%s does not rise", entriesText(Merge(may)))
		}
	}
}

// 15.3: Merge does not hang on the order of lists without a key in common: each of the orders of five lists.
func TestMergeAnyOrder(t *testing.T) {
	all := some()
	l := many{all[:4], []api.Entry{all[20], all[5], all[9], all[4]}, nil, all[10:16], append(slices.Clone(all[6:9]), all[16:20]...)}
	want := append(slices.Clone(all[:20]), all[20])
	seen := 0
	var each func(l, left [][]api.Entry)
	each = func(l, left [][]api.Entry) {
		if len(left) == 0 {
			merges(t, "in one of all orders", l, want)
			seen++
		}
		for n, list := range left {
			each(append(slices.Clone(l), list), slices.Delete(slices.Clone(left), n, n+1))
		}
	}
	each(nil, l)
	if seen != 120 {
		t.Errorf("%d orders", seen)
	}
}

// 15.3: lists by chance, each key on one of them alone, there as often as may be.
func TestMergeAnyOrderByChance(t *testing.T) {
	r := rand.New(rand.NewPCG(15, 6))
	for range 500 {
		l := make([][]api.Entry, 1+r.IntN(8))
		at := map[api.Key]int{}
		for _, e := range anyOf(r, r.IntN(60)) {
			if _, ok := at[e.Key]; !ok {
				at[e.Key] = r.IntN(len(l))
			}
			l[at[e.Key]] = append(l[at[e.Key]], e)
		}
		want := Merge(l)
		for range 5 {
			r.Shuffle(len(l), func(a, b int) { l[a], l[b] = l[b], l[a] })
			merges(t, "in another order", l, want)
		}
	}
}

// seqs is the numbers of a list, those just below and just above each, and those at the ends.
func seqs(l []api.Entry) []int {
	told := []int{math.MinInt, math.MinInt + 1, -1, 0, 1, top, math.MaxInt - 1, math.MaxInt}
	for _, e := range l {
		told = append(told, e.Key.Seq-1, e.Key.Seq, e.Key.Seq+1)
	}
	slices.Sort(told)
	return slices.Compact(told)
}

// users is the Users of a list, those just below and just above each, the empty one and one above all.
func users(l []api.Entry) []string {
	told := []string{"", "\x00", strings.Repeat("\xff", 70)}
	for _, e := range l {
		u := e.Key.User
		told = append(told, u, u+"\x00")
		if n := len(u); n > 0 {
			told = append(told, u[:n-1], u[:n-1]+string([]byte{u[n-1] - 1})+"\xff\xff")
		}
	}
	slices.Sort(told)
	return slices.Compact(told)
}

// mosts is how many there may be asked for of n: none, one, one less, as many, one more, many.
func mosts(n int) []int {
	return []int{math.MinInt, -1, 0, 1, 2, n - 1, n, n + 1, 1 << 40, math.MaxInt}
}

// 15.2: View of nothing, whatever is asked.
func TestViewNothing(t *testing.T) {
	for _, l := range [][]api.Entry{nil, {}, some()[:0]} {
		for _, seq := range seqs(nil) {
			for _, lo := range []string{"", "a", "\xff"} {
				for _, hi := range []string{"", "a", "b"} {
					for _, most := range mosts(0) {
						views(t, "nothing", l, view{seq, lo, hi, false, most})
						views(t, "nothing", l, view{seq, lo, hi, true, most})
					}
				}
			}
		}
	}
}

// 15.2: one entry: a Put is seen from its number on, a Del, and what is neither, never.
func TestViewOne(t *testing.T) {
	for _, e := range append(append(some(), mayNot()...), twice()...) {
		for _, seq := range []int{math.MinInt, e.Key.Seq - 1, e.Key.Seq, e.Key.Seq + 1, math.MaxInt} {
			want := pairs(e.Key.User, e.Val)
			if e.Key.Kind != 1 || seq < e.Key.Seq {
				want = nil
			}
			for _, back := range []bool{false, true} {
				for _, most := range []int{1, 2, math.MaxInt} {
					views(t, "one", []api.Entry{e}, view{seq, "", "", back, most}, want...)
					views(t, "one, from it on", []api.Entry{e}, view{seq, e.Key.User, "", back, most}, want...)
					views(t, "one, up to just above it", []api.Entry{e}, view{seq, e.Key.User, e.Key.User + "\x00", back, most}, want...)
					views(t, "one, from just above it on", []api.Entry{e}, view{seq, e.Key.User + "\x00", "", back, most})
					if e.Key.User != "" {
						views(t, "one, up to it", []api.Entry{e}, view{seq, "", e.Key.User, back, most})
						views(t, "one, from nowhere else on", []api.Entry{e}, view{seq, e.Key.User, e.Key.User, back, most})
					}
				}
				views(t, "one, none of it", []api.Entry{e}, view{seq, "", "", back, 0})
				views(t, "one, less than none of it", []api.Entry{e}, view{seq, "", "", back, -1})
			}
		}
	}
}

// 15.2: Puts and Dels of one User at many numbers, and of both Kinds at one.
func TestViewSeq(t *testing.T) {
	l := []api.Entry{put("a", 9, "nine"), del("a", 8), put("a", 8, "eight"), put("a", 5, ""), del("a", 3), put("a", 2, "two"), put("a", 0, "nought")}
	for seq, want := range map[int][]api.Pair{
		math.MinInt: nil, -1: nil, 0: pairs("a", "nought"), 1: pairs("a", "nought"), 2: pairs("a", "two"), 3: nil, 4: nil, 5: pairs("a", ""), 6: pairs("a", ""), 7: pairs("a", ""),
		8: nil, 9: pairs("a", "nine"), 10: pairs("a", "nine"), top: pairs("a", "nine"), math.MaxInt: pairs("a", "nine"),
	} {
		views(t, "many numbers", l, view{seq, "", "", false, 9}, want...)
		views(t, "many numbers, back", l, view{seq, "", "", true, 9}, want...)
		views(t, "amid others", append(append([]api.Entry{del("", 0)}, l...), del("b", 0)), view{seq, "", "", false, 9}, want...)
		views(t, "amid others, back", append(append([]api.Entry{del("", 0)}, l...), del("b", 0)), view{seq, "", "", true, 9}, want...)
	}
}

// 15.2: the first entry of alike keys is the one that is seen.
func TestViewAlike(t *testing.T) {
	for _, back := range []bool{false, true} {
		turned := func(l []api.Pair) []api.Pair {
			if back {
				slices.Reverse(l)
			}
			return l
		}
		views(t, "alike", twice(), view{9, "", "", back, 9}, turned(pairs("", "first", "a", "first", "c", ""))...)
		views(t, "alike", twice(), view{3, "", "", back, 9}, turned(pairs("", "first", "a", "first"))...)
		views(t, "alike", twice(), view{2, "", "", back, 9}, turned(pairs("", "first"))...)
		views(t, "alike", twice(), view{1, "", "", back, 9}, turned(pairs("", "first", "b", "first"))...)
		views(t, "alike", twice(), view{0, "", "", back, 9})
	}
}

// 15.2: what is neither a Put nor a Del is none, and hides what is behind it.
func TestViewKinds(t *testing.T) {
	for _, kind := range []int{math.MinInt, -2, -1, 0, 2, 3, 4, 257, 1<<32 + 1, math.MaxInt} {
		l := []api.Entry{put("a", 1, "a"), of("b", 5, kind, "other"), put("b", 4, "b"), put("c", 1, "c")}
		views(t, "at it", l, view{5, "", "", false, 9}, pairs("a", "a", "c", "c")...)
		views(t, "at it, back", l, view{5, "", "", true, 9}, pairs("c", "c", "a", "a")...)
		views(t, "just below it", l, view{4, "", "", false, 9}, pairs("a", "a", "b", "b", "c", "c")...)
		views(t, "it is none of most", l, view{5, "", "", false, 2}, pairs("a", "a", "c", "c")...)
		views(t, "it is none of most, back", l, view{5, "", "", true, 2}, pairs("c", "c", "a", "a")...)
		same := []api.Entry{of("a", 5, kind, "other"), put("a", 5, "a"), of("a", 5, kind, "other")}
		if kind > api.Put {
			views(t, "ahead of a Put of its number", same[:2], view{5, "", "", false, 9})
		} else {
			views(t, "behind a Put of its number", same[1:], view{5, "", "", false, 9}, pairs("a", "a")...)
		}
	}
}

// 15.2: lo and hi at each User, just below and just above it, in each order; forth and back.
func TestViewEnds(t *testing.T) {
	l := []api.Entry{put("", 1, "0"), put("\x00", 1, "1"), put("a", 2, "2"), put("a", 1, "old"), put("a\x00", 1, "3"), del("aa", 1), put("ab", 1, "4"), put("b", 1, "5"), put("\xff", 1, "6"), put("\xff\xff", 1, "7")}
	for _, v := range []struct {
		lo, hi, want string
	}{
		{"", "", "01234567"}, {"", "\x00", "0"}, {"", "\x00\x00", "01"}, {"", "a", "01"}, {"", "a\x00", "012"}, {"", "a\x00\x00", "0123"}, {"", "aa", "0123"}, {"", "ab", "0123"}, {"", "ab\x00", "01234"},
		{"", "\xff", "012345"}, {"", "\xff\xff", "0123456"}, {"", "\xff\xff\x00", "01234567"}, {"", "\xff\xff\xff", "01234567"},
		{"\x00", "", "1234567"}, {"\x00\x00", "", "234567"}, {"`\xff", "", "234567"}, {"a", "", "234567"}, {"a\x00", "", "34567"}, {"a\x00\x00", "", "4567"}, {"aa", "", "4567"}, {"ab", "", "4567"}, {"abc", "", "567"},
		{"\xfe", "", "67"}, {"\xff", "", "67"}, {"\xff\x00", "", "7"}, {"\xff\xff", "", "7"}, {"\xff\xff\x00", "", ""}, {text(5000), "", "67"},
		{"a", "b", "234"}, {"a", "a", ""}, {"a", "a\x00", "2"}, {"a\x00", "ab", "3"}, {"aa", "ab", ""}, {"aa", "aa", ""}, {"aa", "aa\x00", ""}, {"b", "b\x00", "5"},
		{"b", "a", ""}, {"\xff\xff", "\xff", ""}, {"\xff\xff\xff", "\x00", ""}, {"ab", "a", ""}, {"a\x00", "a", ""}, {"\x00", "\x00", ""}, {"c", "d", ""}, {"d", "c", ""}, {"c", "c", ""},
		{"\xff", "a", ""}, {"\x00", "\xff\xff", "123456"},
	} {
		var want []api.Pair
		seen := []string{"", "\x00", "a", "a\x00", "ab", "b", "\xff", "\xff\xff"}
		for _, n := range v.want {
			want = append(want, api.Pair{Key: seen[n-'0'], Val: string(n)})
		}
		views(t, "forth", l, view{9, v.lo, v.hi, false, 99}, want...)
		slices.Reverse(want)
		views(t, "back", l, view{9, v.lo, v.hi, true, 99}, want...)
	}
}

// 15.2: only the first most, which count behind what is not told: forth the least ones, back the greatest.
func TestViewMost(t *testing.T) {
	l := []api.Entry{del("A", 1), put("a", 9, "later"), put("a", 1, "a"), del("b", 3), put("b", 1, "hidden"), put("c", 2, "c"), put("c", 1, "older"), put("d", 9, "later"), put("e", 2, "e"), of("f", 2, 3, ""), put("g", 2, "g"), del("h", 2)}
	want := pairs("a", "a", "c", "c", "e", "e", "g", "g")
	turned := pairs("g", "g", "e", "e", "c", "c", "a", "a")
	for _, most := range append(mosts(4), 3) {
		n := min(max(most, 0), 4)
		views(t, "forth", l, view{3, "", "", false, most}, want[:n]...)
		views(t, "back", l, view{3, "", "", true, most}, turned[:n]...)
	}
	for _, most := range mosts(2) {
		n := min(max(most, 0), 2)
		views(t, "forth, within", l, view{3, "b", "f", false, most}, want[1:1+n]...)
		views(t, "back, within", l, view{3, "b", "f", true, most}, turned[1:1+n]...)
	}
}

// eachView asks f of every view of some numbers, ends and mosts.
func eachView(seqs []int, users []string, mosts []int, f func(v view)) {
	for _, seq := range seqs {
		for _, lo := range users {
			for _, hi := range users {
				for _, most := range mosts {
					f(view{seq, lo, hi, false, most})
					f(view{seq, lo, hi, true, most})
				}
			}
		}
	}
}

// 15.2: every list that is a part of one, by every view, against the promise told in another way.
func TestViewAllParts(t *testing.T) {
	whole := []api.Entry{put("", 1, "0"), put("a", 3, "3"), del("a", 2), put("a", 2, "2"), put("a", 1, "1"), put("ab", 2, "x"), del("b", 3), put("b", 1, "y")}
	for set := range 1 << len(whole) {
		var l []api.Entry
		for n, e := range whole {
			if set>>n&1 == 1 {
				l = append(l, e)
			}
		}
		eachView([]int{0, 1, 2, 3}, []string{"", "a", "aa", "b", "c"}, []int{-1, 0, 1, 2, 3, 4}, func(v view) {
			if !views(t, "a part", l, v, viewed(l, v)...) {
				t.FailNow()
			}
		})
	}
}

// 15.2: each list, at each of its numbers and just beside them, from and up to each of its Users and just beside them.
func TestViewEachEnd(t *testing.T) {
	all := lists()
	// But for the longest one, which has too many ends.
	for _, l := range append(all[:len(all)-1], twice()) {
		eachView(seqs(l), users(l), []int{1, 3, 99}, func(v view) {
			if !views(t, "a list", l, v, viewed(l, v)...) {
				t.FailNow()
			}
		})
	}
}

// anyView is a view by chance, of ends and numbers that are near those of anyOf.
func anyView(r *rand.Rand) view {
	ends := anyOf(r, 2)
	return view{ends[0].Key.Seq - 1 + r.IntN(3), ends[0].Key.User, ends[1].Key.User, r.IntN(2) == 0, []int{-1, 0, 1, 2, 3, 5, 8, 99}[r.IntN(8)]}
}

// 15.2: lists by chance, in order, their keys once and more often, against the promise told in another way.
func TestViewAgainstAnotherWay(t *testing.T) {
	r := rand.New(rand.NewPCG(15, 7))
	for range 2000 {
		l := anyOf(r, r.IntN(1+r.IntN(80)))
		slices.SortStableFunc(l, func(a, b api.Entry) int { return order(a.Key, b.Key) })
		for range 20 {
			v := anyView(r)
			if !views(t, "by chance", l, v, viewed(l, v)...) {
				t.FailNow()
			}
		}
	}
}

// 15.1, 15.2: View of what Merge tells: of each User the newest up to a number on any list, of alike ones the first.
func TestViewOfMerge(t *testing.T) {
	r := rand.New(rand.NewPCG(15, 8))
	for range 1000 {
		l := anyLists(r)
		told, want := Merge(l), merged(l)
		for range 20 {
			v := anyView(r)
			if !views(t, "of Merge", told, v, viewed(want, v)...) {
				t.FailNow()
			}
		}
	}
}

// 15.3: View back is View turned round, as far as most goes: for each most, at each number, between each two ends.
func TestViewTurnedRound(t *testing.T) {
	r := rand.New(rand.NewPCG(15, 9))
	all := append(lists(), twice())
	for range 100 {
		all = append(all, Merge(anyLists(r)))
	}
	for _, l := range all {
		for range 30 {
			v := anyView(r)
			v.back, v.most = false, len(l)+1
			whole := v.of(l)
			turned := slices.Clone(whole)
			slices.Reverse(turned)
			for most := -2; most <= len(whole)+2; most++ {
				n := min(max(most, 0), len(whole))
				v.back, v.most = true, most
				views(t, "back", l, v, turned[:n]...)
				v.back = false
				views(t, "forth", l, v, whole[:n]...)
			}
		}
	}
}

// R1: of entries that are not in order nothing is said but that View ends, and does not panic.
func TestViewNotInOrder(t *testing.T) {
	r := rand.New(rand.NewPCG(15, 10))
	all := [][]api.Entry{slices.Repeat([]api.Entry{put("b", 1, ""), put("a", 1, "")}, 50)}
	for _, l := range append(lists(), twice()) {
		l = slices.Clone(l)
		slices.Reverse(l)
		all = append(all, l)
	}
	for range 300 {
		all = append(all, anyOf(r, r.IntN(30)))
	}
	for _, l := range all {
		for range 50 {
			v := anyView(r)
			got := v.of(l)
			if len(got) > max(v.most, 0) || len(got) > len(l) {
				t.Errorf("View of %s, %v, tells %s", entriesText(l), v, brief(got, pairText))
			}
		}
		eachView([]int{0, 2, math.MaxInt}, []string{"", "a", "b", "\xff"}, mosts(len(l)), func(v view) { v.of(l) })
	}
}

var (
	badEntry = put("!", 7, "!")
	badPair  = api.Pair{Key: "!", Val: "!"}
)

// spoil writes into a list, into its spare room too, and appends to it.
func spoil[T any](l []T, bad T) {
	room := l[:cap(l)]
	for n := range room {
		room[n] = bad
	}
	_ = append(l, bad)
}

// spare is a list with spare room, in which something stands.
func spare(l []api.Entry) []api.Entry {
	return append(slices.Clone(l), put("~", 1, "spare"), del("", 0), put("", 0, "spare"))[:len(l)]
}

// R3: what is handed in is not changed, neither the lists, nor which lists there are, nor spare room.
func TestHandedIn(t *testing.T) {
	r := rand.New(rand.NewPCG(15, 11))
	for range 500 {
		l := append(anyLists(r), nil, some(), twice())
		for n := range l {
			l[n] = spare(l[n])
		}
		l = append(l, some(), mayNot())[:len(l)]
		wholes := l[:cap(l)]
		var was [][]api.Entry
		for _, list := range wholes {
			was = append(was, slices.Clone(list[:cap(list)]))
		}
		Merge(l)
		for _, list := range l {
			for range 5 {
				anyView(r).of(list)
			}
		}
		for n, list := range wholes {
			if !slices.Equal(list[:cap(list)], was[n]) {
				t.Fatalf("%s was handed in, and is %s", entriesText(was[n]), entriesText(list[:cap(list)]))
			}
		}
	}
}

// R3: what was told stays as it was, though what was handed in is written into.
func TestNotKept(t *testing.T) {
	r := rand.New(rand.NewPCG(15, 12))
	for range 500 {
		l := append(anyLists(r), twice())[r.IntN(2):]
		for n := range l {
			l[n] = spare(l[n])
		}
		one := spare(Merge(l))
		v := anyView(r)
		want, told := merged(l), Merge(l)
		wanted, pairs := viewed(one, v), v.of(one)
		for n := range l {
			spoil(l[n], badEntry)
		}
		spoil(l, nil)
		spoil(one, badEntry)
		if !slices.Equal(told, want) {
			t.Fatalf("%s was told, and is %s", entriesText(want), entriesText(told))
		}
		if !slices.Equal(pairs, wanted) {
			t.Fatalf("%s was told, and is %s", brief(wanted, pairText), brief(pairs, pairText))
		}
	}
}

// R3: what was told can be written into, spare room too: what was handed in, and what else was told, stays as it was.
func TestToldIsNew(t *testing.T) {
	r := rand.New(rand.NewPCG(15, 13))
	for range 500 {
		l := append(anyLists(r), nil, twice(), some())[r.IntN(3):]
		l = l[:r.IntN(len(l)+1)]
		for n := range l {
			l[n] = spare(l[n])
		}
		v := anyView(r)
		want := merged(l)
		one := spare(want)
		wanted := viewed(one, v)
		first, second := Merge(l), Merge(l)
		spoil(first, badEntry)
		if !slices.Equal(second, want) {
			t.Fatalf("another one was written into, and %s is %s", entriesText(want), entriesText(second))
		}
		merges(t, "behind that", l, want)
		seen, again := v.of(one), v.of(one)
		spoil(seen, badPair)
		if !slices.Equal(again, wanted) {
			t.Fatalf("another one was written into, and %s is %s", brief(wanted, pairText), brief(again, pairText))
		}
		views(t, "behind that", one, v, wanted...)
	}
}

// R3: of one list in order, and of one list beside lists of nothing, there is new memory too.
func TestOneIsNew(t *testing.T) {
	for _, want := range lists() {
		for _, l := range [][][]api.Entry{{spare(want)}, {nil, spare(want)}, {spare(want), nil}, {nil, nil, spare(want), {}}} {
			was := make([][]api.Entry, len(l))
			for n := range l {
				was[n] = slices.Clone(l[n][:cap(l[n])])
			}
			spoil(Merge(l), badEntry)
			for n := range l {
				if !slices.Equal(l[n][:cap(l[n])], was[n]) {
					t.Fatalf("what was told was written into, and %s is %s", entriesText(was[n]), entriesText(l[n][:cap(l[n])]))
				}
			}
			merges(t, "once more", l, want)
		}
	}
}

// R1: one list twice, and pieces of one list that share memory, are as others are.
func TestShared(t *testing.T) {
	for _, l := range lists() {
		merges(t, "twice", many{l, l}, l)
		merges(t, "thrice", many{l, nil, l, l}, l)
		var pieces [][]api.Entry
		for n := range len(l) + 1 {
			pieces = append(pieces, l[:n], l[n:])
		}
		merges(t, "pieces", pieces, l)
		slices.Reverse(pieces)
		merges(t, "pieces, turned round", pieces, l)
	}
}

// R5: the same calls tell the same, whatever was asked between.
func TestSameAgain(t *testing.T) {
	r := rand.New(rand.NewPCG(15, 14))
	l := append(anyLists(r), anyOf(r, 50))
	want := Merge(l)
	v := view{3, "", "", false, 9}
	seen := v.of(want)
	for range 200 {
		other := Merge(anyLists(r))
		anyView(r).of(other)
		merges(t, "again", l, want)
		views(t, "again", want, v, seen...)
	}
}

// R1: many lists, long ones, many alike, long Users that begin alike: every call ends soon.
func TestMany(t *testing.T) {
	const n = 200000
	var want []api.Entry
	var seen []api.Pair
	for m := range n {
		want = append(want, put("key"+strconv.Itoa(n+m), m, "v"))
		seen = append(seen, api.Pair{Key: want[m].Key.User, Val: "v"})
	}
	single := make([][]api.Entry, n)
	for m := range n {
		single[n-1-m] = want[m : m+1]
	}
	merges(t, "each a list of its own", single, want)
	l := slices.Clone(want)
	slices.Reverse(l)
	merges(t, "turned round, with many lists of nothing", append(make([][]api.Entry, n), l), want)
	merges(t, "one and many", append(many{l}, single...), want)
	alike := slices.Repeat([]api.Entry{put("a", 1, "v")}, n)
	alike[0].Val = "first"
	merges(t, "all alike", many{alike, alike[1:], alike}, alike[:1])
	views(t, "all", want, view{n, "", "", false, n}, seen...)
	slices.Reverse(seen)
	views(t, "all, back", want, view{n, "", "", true, n}, seen...)
	newest := make([]api.Entry, n)
	for m := range n {
		newest[m] = put("a", n-m, strconv.Itoa(n-m))
	}
	for _, back := range []bool{false, true} {
		views(t, "one User", newest, view{n, "", "", back, n}, pairs("a", strconv.Itoa(n))...)
		views(t, "one User, the oldest", newest, view{1, "", "", back, n}, pairs("a", "1")...)
		views(t, "one User, older still", newest, view{0, "", "", back, n})
		views(t, "nothing of many is seen", want, view{-1, "", "", back, n})
	}
	long := []api.Entry{put(text(100000), 1, ""), put(text(100000)+"a", 1, ""), put(text(100000)+"b", 1, ""), put(text(100000)+"c", 1, "")}
	merges(t, "long Users", many{{long[3]}, {long[2], long[0]}, {long[1]}}, long)
	views(t, "long Users", long, view{1, text(100000) + "a", text(100000) + "c", false, 9}, pairs(long[1].Key.User, "", long[2].Key.User, "")...)
}
