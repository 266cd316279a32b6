package key

import (
	"bytes"
	"fmt"
	"math"
	"slices"
	"strings"
	"testing"

	"icebox/api"
	"icebox/num"
)

const top = 1 << 53 // the greatest Seq

func of(user string, seq, kind int) api.Key {
	return api.Key{User: user, Seq: seq, Kind: kind}
}

func with(k api.Key, val string) api.Entry {
	return api.Entry{Key: k, Val: val}
}

func text(n int) string {
	return strings.Repeat("k", n)
}

// inOrder is keys that may be, each ahead of the next.
func inOrder() []api.Key {
	users := []string{"", "\x00", "\x00\x00", "A", "a", "a\x00", "a\x00\xff", "aa", "ab", "a\x7f", "a\x80", "a\xff", "b", "ba", text(63), text(64), text(63) + "l", "z", "\x7f", "\x80", "\xc3\xa9", "\xff", "\xff\x00", "\xff\xff"}
	var l []api.Key
	for _, user := range users {
		for _, seq := range []int{top, top - 1, 256, 255, 2, 1, 0} {
			l = append(l, of(user, seq, api.Del), of(user, seq, api.Put))
		}
	}
	return l
}

// mayNot is keys that may not be, each by one part alone, and by several.
func mayNot() []api.Key {
	return []api.Key{
		of(text(65), 1, api.Put),
		of(text(65), 1, api.Del),
		of(text(1000), 0, api.Put),
		of(strings.Repeat("é", 33), 1, api.Put),
		of("a", -1, api.Put),
		of("a", -1, api.Del),
		of("", -1, api.Put),
		of("a", math.MinInt, api.Put),
		of("a", top+1, api.Put),
		of("a", top+1, api.Del),
		of("a", 1<<62, api.Put),
		of("a", math.MaxInt, api.Del),
		of("a", 1, 0),
		of("a", 1, 3),
		of("a", 1, -1),
		of("a", 1, 4),
		of("a", 1, math.MaxInt),
		of("a", 1, math.MinInt),
		of(text(65), -1, 0),
		{},
	}
}

func none(t *testing.T, what string, b []byte, at int) {
	t.Helper()
	if k, next, ok := Get(b, at); ok || next != 0 || k != (api.Key{}) {
		t.Errorf("%s: Get(%.80v, %d) = %v, %d, %v", what, b, at, k, next, ok)
	}
}

// 2.1: the keys that may be, up to each end.
func TestMay(t *testing.T) {
	for _, k := range inOrder() {
		if !May(k) {
			t.Errorf("May(%#v) = false", k)
		}
	}
	for _, user := range []string{"", text(64), strings.Repeat("é", 32), strings.Repeat("\xff", 64)} {
		for _, seq := range []int{0, 1, top - 1, top} {
			for _, kind := range []int{api.Put, api.Del} {
				if k := of(user, seq, kind); !May(k) {
					t.Errorf("May(%#v) = false", k)
				}
			}
		}
	}
}

// 2.1: the keys that may not be.
func TestMayNot(t *testing.T) {
	for _, k := range mayNot() {
		if May(k) {
			t.Errorf("May(%#v) = true", k)
		}
	}
}

// 2.1: each key of the row against each other one.
func TestCmp(t *testing.T) {
	l := inOrder()
	for i, a := range l {
		for j, b := range l {
			want := 0
			switch {
			case i < j:
				want = -1
			case i > j:
				want = 1
			}
			if got := Cmp(a, b); got != want {
				t.Errorf("Cmp(%#v, %#v) = %d, not %d", a, b, got, want)
			}
		}
	}
}

// 2.1: byte by byte, from 128 on as below, whatever the other parts are.
func TestCmpBytes(t *testing.T) {
	for i := range 256 {
		for j := range 256 {
			a, b := string([]byte{'k', byte(i)}), string([]byte{'k', byte(j), 0})
			want := -1
			if i > j {
				want = 1
			}
			if got := Cmp(of(a, 0, api.Put), of(b, 9, api.Del)); got != want {
				t.Errorf("Cmp of Users %q, %q = %d, not %d", a, b, got, want)
			}
		}
	}
}

// 2.1: a User that begins another is ahead of it, and no byte of 0 stands for the end.
func TestCmpBeginning(t *testing.T) {
	whole := "\x00ab\x00\xff\x00"
	for n := range whole {
		for _, seq := range []int{0, 5, top} {
			a, b := of(whole[:n], seq, api.Put), of(whole, 5, api.Del)
			if Cmp(a, b) != -1 || Cmp(b, a) != 1 {
				t.Errorf("Cmp(%#v, %#v) = %d, and back %d", a, b, Cmp(a, b), Cmp(b, a))
			}
		}
	}
}

// 2.1: User counts ahead of Seq, Seq ahead of Kind.
func TestCmpParts(t *testing.T) {
	for _, c := range []struct {
		a, b api.Key
		want int
	}{
		{of("a", 2, 1), of("a", 1, 1), -1},
		{of("a", 1, 1), of("a", 2, 1), 1},
		{of("a", 1, 2), of("a", 1, 1), -1},
		{of("a", 1, 1), of("a", 1, 2), 1},
		{of("a", 1, 1), of("a", 1, 1), 0},
		{of("a", 2, 1), of("a", 1, 2), -1},
		{of("a", 1, 2), of("a", 2, 1), 1},
		{of("a", 0, 1), of("b", 9, 2), -1},
		{of("b", 9, 2), of("a", 0, 1), 1},
	} {
		if got := Cmp(c.a, c.b); got != c.want {
			t.Errorf("Cmp(%#v, %#v) = %d, not %d", c.a, c.b, got, c.want)
		}
	}
}

// 2.1: Cmp asks not whether a key may be; numbers at their ends do not wrap round.
func TestCmpOfMayNot(t *testing.T) {
	row := []api.Key{
		of("a", math.MaxInt, math.MaxInt),
		of("a", math.MaxInt, math.MinInt),
		of("a", top+1, 0),
		of("a", 0, 3),
		of("a", 0, 2),
		of("a", 0, 1),
		of("a", 0, 0),
		of("a", 0, -1),
		of("a", -1, 1),
		of("a", math.MinInt, math.MaxInt),
		of("a", math.MinInt, math.MinInt),
		of(text(65), 1, 1),
		of(text(66), 1, 1),
		of(text(1000), 1, 1),
		of(text(1000)+"l", 1, 1),
	}
	for i, a := range row {
		for j, b := range row {
			want := 0
			switch {
			case i < j:
				want = -1
			case i > j:
				want = 1
			}
			if got := Cmp(a, b); got != want {
				t.Errorf("Cmp(%#.20v, %#.20v) = %d, not %d", a, b, got, want)
			}
		}
	}
}

// 2.4: Cmp is an order of all keys, those that may not be among them.
func TestCmpIsAnOrder(t *testing.T) {
	l := mayNot()
	for i, k := range inOrder() {
		if i%5 == 0 {
			l = append(l, k)
		}
	}
	for _, a := range l {
		for _, b := range l {
			if Cmp(a, b) != -Cmp(b, a) || (Cmp(a, b) == 0) != (a == b) {
				t.Errorf("Cmp(%#v, %#v) = %d, and back %d", a, b, Cmp(a, b), Cmp(b, a))
			}
			for _, c := range l {
				if Cmp(a, b) < 0 && Cmp(b, c) < 0 && Cmp(a, c) != -1 {
					t.Errorf("%v, %v, %v go round", a, b, c)
				}
			}
		}
	}
}

// 2.4: of one User the newest comes first, and all of one User side by side.
func TestNewestFirst(t *testing.T) {
	want := inOrder()
	got := slices.Clone(want)
	slices.Reverse(got)
	for i := range got {
		j := i * 7919 % len(got)
		got[i], got[j] = got[j], got[i]
	}
	slices.SortFunc(got, Cmp)
	if !slices.Equal(got, want) {
		t.Errorf("sorted: %v", got)
	}
}

// 2.2: the bytes of Put.
func TestPut(t *testing.T) {
	for _, c := range []struct {
		k    api.Key
		want []byte
	}{
		{of("", 0, api.Put), []byte{0, 0}},
		{of("", 0, api.Del), []byte{0, 1}},
		{of("", 1, api.Put), []byte{0, 2}},
		{of("", 1, api.Del), []byte{0, 3}},
		{of("ab", 3, api.Put), []byte{2, 'a', 'b', 6}},
		{of("ab", 3, api.Del), []byte{2, 'a', 'b', 7}},
		{of("\x00\xff", 63, api.Del), []byte{2, 0, 255, 127}},
		{of("a", 64, api.Put), []byte{1, 'a', 128, 1}},
		{of("a", top, api.Put), []byte{1, 'a', 128, 128, 128, 128, 128, 128, 128, 32}},
		{of("a", top, api.Del), []byte{1, 'a', 129, 128, 128, 128, 128, 128, 128, 32}},
		{of(text(64), 0, api.Put), append(append([]byte{64}, text(64)...), 0)},
	} {
		if got := Put(c.k); !bytes.Equal(got, c.want) {
			t.Errorf("Put(%#v) = %v, not %v", c.k, got, c.want)
		}
	}
}

// 2.2: of a key that may not be there is nothing.
func TestPutNothing(t *testing.T) {
	for _, k := range mayNot() {
		if b := Put(k); len(b) != 0 {
			t.Errorf("Put(%#v) = %v", k, b)
		}
	}
}

// 2.2: Get of Put is the key, wherever it stands, and whatever stands behind.
func TestGetOfPut(t *testing.T) {
	for _, k := range inOrder() {
		for _, ahead := range [][]byte{nil, {0}, {128}, {255, 255, 255}} {
			for _, behind := range [][]byte{nil, {0}, {1}, {128}, {255, 0}} {
				b := slices.Concat(ahead, Put(k), behind)
				end := len(b) - len(behind)
				if got, next, ok := Get(b, len(ahead)); !ok || got != k || next != end {
					t.Errorf("Get(%v, %d) = %v, %d, %v, not %v, %d", b, len(ahead), got, next, ok, k, end)
				}
			}
		}
	}
}

// 2.2: keys in a row are told one behind the other.
func TestGetInARow(t *testing.T) {
	want := inOrder()
	var b []byte
	for _, k := range want {
		b = append(b, Put(k)...)
	}
	at := 0
	for i, k := range want {
		got, next, ok := Get(b, at)
		if !ok || got != k || next <= at {
			t.Fatalf("key %d of the row, at %d: %v, %d, %v", i, at, got, next, ok)
		}
		at = next
	}
	if at != len(b) {
		t.Errorf("the row ends at %d, not %d", at, len(b))
	}
	none(t, "behind the row", b, at)
}

// 2.2: places of which there are none.
func TestGetNoPlace(t *testing.T) {
	for _, b := range [][]byte{nil, {}, {0, 0}, Put(of("ab", 3, api.Put)), {0, 0, 0, 0, 0, 0}} {
		for _, at := range []int{-1, -2, -len(b), -len(b) - 1, math.MinInt, len(b), len(b) + 1, math.MaxInt} {
			if at != 0 || len(b) == 0 {
				none(t, "no place", b, at)
			}
		}
	}
}

// 2.2: bytes that end too early, in each part.
func TestGetCut(t *testing.T) {
	for _, k := range inOrder() {
		b := Put(k)
		for n := range b {
			none(t, "cut", b[:n], 0)
			none(t, "cut, behind others", append([]byte{0, 0}, b[:n]...), 2)
		}
	}
	none(t, "a number without an end", []byte{1, 'a', 128, 128}, 0)
	none(t, "a length without an end", []byte{128, 128}, 0)
	none(t, "a length beyond the bytes", append(num.Put(math.MaxInt), 0, 0), 0)
}

// 2.2: bytes that tell a key that may not be.
func TestGetMayNot(t *testing.T) {
	for _, n := range []int{65, 66, 127, 128, 1000} {
		none(t, "a long User", append(num.PutText(text(n)), 2), 0)
	}
	for _, n := range []int{2*top + 2, 2*top + 3, 1 << 55, 1 << 62, math.MaxInt - 1, math.MaxInt} {
		none(t, "a great Seq", append(num.PutText("a"), num.Put(n)...), 0)
		none(t, "a great Seq, behind others", slices.Concat([]byte{1, 2, 3}, num.PutText(""), num.Put(n)), 3)
	}
	for _, c := range []struct{ n, kind int }{{2 * top, api.Put}, {2*top + 1, api.Del}} {
		b := append(num.PutText(text(64)), num.Put(c.n)...)
		if got, next, ok := Get(b, 0); !ok || got != of(text(64), top, c.kind) || next != len(b) {
			t.Error("the greatest Seq:", got, next, ok)
		}
	}
}

// 2.2: bytes that no Put tells: numbers by more bytes than it takes.
func TestGetNoPut(t *testing.T) {
	none(t, "a length with a last byte of 0", []byte{129, 0, 'a', 2}, 0)
	none(t, "a number with a last byte of 0", []byte{1, 'a', 130, 0}, 0)
	none(t, "a number of ten bytes", slices.Concat([]byte{1, 'a'}, bytes.Repeat([]byte{128}, 9), []byte{1}), 0)
}

// 2.2: of all short rows, what Get tells Put tells by just those bytes.
func TestPutOfGet(t *testing.T) {
	told := 0
	var grow func(b []byte)
	grow = func(b []byte) {
		k, next, ok := Get(b, 0)
		switch {
		case !ok && (next != 0 || k != (api.Key{})):
			t.Errorf("Get(%v) = %v, %d beside a false", b, k, next)
		case ok && (!May(k) || next > len(b) || !bytes.Equal(Put(k), b[:next])):
			t.Errorf("Get(%v) = %v, %d, and Put tells %v", b, k, next, Put(k))
		case ok:
			told++
		}
		if len(b) < 6 {
			for _, c := range []byte{0, 1, 2, 64, 65, 127, 128, 129, 255} {
				grow(append(slices.Clone(b), c))
			}
		}
	}
	grow(nil)
	if told == 0 {
		t.Error("nothing was told")
	}
}

// 2.3: the entries that may be, and those that may not.
func TestMayEntry(t *testing.T) {
	put, del := of("a", 1, api.Put), of("a", 1, api.Del)
	for i, c := range []struct {
		e    api.Entry
		want bool
	}{
		{with(put, ""), true},
		{with(put, "x"), true},
		{with(put, "\x00"), true},
		{with(put, strings.Repeat("v", 511)), true},
		{with(put, strings.Repeat("v", 512)), true},
		{with(put, strings.Repeat("v", 513)), false},
		{with(put, strings.Repeat("é", 256)), true},
		{with(put, strings.Repeat("é", 257)), false},
		{with(put, strings.Repeat("v", 100000)), false},
		{with(del, ""), true},
		{with(del, "x"), false},
		{with(del, "\x00"), false},
		{with(del, strings.Repeat("v", 512)), false},
		{with(del, strings.Repeat("v", 513)), false},
		{with(of(text(64), top, api.Put), strings.Repeat("v", 512)), true},
		{with(of("", 0, api.Put), ""), true},
		{with(of("", 0, api.Del), ""), true},
		{api.Entry{}, false},
	} {
		if got := MayEntry(c.e); got != c.want {
			t.Errorf("MayEntry %d: %v", i, got)
		}
	}
	for _, k := range mayNot() {
		for _, val := range []string{"", "x"} {
			if MayEntry(with(k, val)) {
				t.Errorf("MayEntry of %v with %q", k, val)
			}
		}
	}
}

// 2.3: lists that rise, and lists that do not.
func TestRising(t *testing.T) {
	a, b, c := with(of("a", 2, api.Put), "x"), with(of("a", 1, api.Del), ""), with(of("b", 9, api.Put), "")
	for i, x := range []struct {
		l    []api.Entry
		want bool
	}{
		{nil, true},
		{[]api.Entry{}, true},
		{[]api.Entry{a}, true},
		{[]api.Entry{b}, true},
		{[]api.Entry{a, b}, true},
		{[]api.Entry{a, c}, true},
		{[]api.Entry{a, b, c}, true},
		{[]api.Entry{a, a}, false},
		{[]api.Entry{a, with(a.Key, "y")}, false},
		{[]api.Entry{a, b, b}, false},
		{[]api.Entry{a, b, b, c}, false},
		{[]api.Entry{b, a}, false},
		{[]api.Entry{c, b, a}, false},
		{[]api.Entry{a, c, b}, false},
		{[]api.Entry{b, a, c}, false},
		{[]api.Entry{with(of("a", 1, api.Put), ""), with(of("a", 1, api.Del), "")}, false},
		{[]api.Entry{with(of("a", 1, api.Del), ""), with(of("a", 1, api.Put), "")}, true},
	} {
		if got := Rising(x.l); got != x.want {
			t.Errorf("Rising %d: %v", i, got)
		}
	}
}

// 2.3: a long list rises; turned about anywhere, it does not.
func TestRisingLong(t *testing.T) {
	var l []api.Entry
	for _, k := range inOrder() {
		l = append(l, with(k, ""))
	}
	if !Rising(l) {
		t.Error("the row does not rise")
	}
	for i := 1; i < len(l); i++ {
		turned := slices.Clone(l)
		turned[i-1], turned[i] = turned[i], turned[i-1]
		if Rising(turned) {
			t.Errorf("turned about at %d", i)
		}
		twice := slices.Insert(slices.Clone(l), i, l[i-1])
		if Rising(twice) {
			t.Errorf("twice at %d", i)
		}
	}
}

// 2.3: one entry that may not be, wherever it stands, though it is above the one ahead.
func TestRisingMayNot(t *testing.T) {
	for _, bad := range []api.Entry{
		with(of("c", 1, api.Del), "x"),
		with(of("c", 1, api.Put), strings.Repeat("v", 513)),
		with(of("c", 1, 0), ""),
		with(of("c", 1, 3), ""),
		with(of("c", -1, api.Put), ""),
		with(of("c", top+1, api.Put), ""),
		with(of("c"+text(64), 1, api.Put), ""),
	} {
		a, b, d, e := with(of("a", 1, api.Put), ""), with(of("b", 1, api.Put), ""), with(of("d", 1, api.Put), ""), with(of("e", 1, api.Put), "")
		for i, l := range [][]api.Entry{{bad}, {bad, d}, {a, bad}, {a, bad, d}, {a, b, bad}, {bad, d, e}} {
			if Rising(l) {
				t.Errorf("Rising %d with %.20v", i, bad)
			}
		}
	}
}

// R3: what is told is new memory, spare room too.
func TestNewMemory(t *testing.T) {
	for _, k := range []api.Key{of("", 0, api.Put), of("ab", 3, api.Del), of(text(64), top, api.Put), {}} {
		first := Put(k)
		want := slices.Clone(first)
		second := Put(k)
		room := second[:cap(second)]
		for i := range room {
			room[i] = 99
		}
		if third := Put(k); !bytes.Equal(first, want) || !bytes.Equal(third, want) {
			t.Errorf("Put(%#v): %v, then %v, not %v", k, first, third, want)
		}
	}
}

// R3: what is handed in is neither changed nor kept.
func TestHandedIn(t *testing.T) {
	whole := slices.Concat(Put(of("abc", 3, api.Del)), Put(of("d", 4, api.Put)))
	b := slices.Clone(whole)
	k, _, _ := Get(b, 0)
	none(t, "no place", b, len(b))
	Get(b[:2], 0)
	if !bytes.Equal(b, whole) {
		t.Error("what is handed in is changed:", b)
	}
	clear(b)
	if k != of("abc", 3, api.Del) {
		t.Errorf("what is handed in is kept: %v", k)
	}
	l := []api.Entry{with(of("b", 1, api.Put), "x"), with(of("a", 1, api.Put), "y"), {}}
	want := fmt.Sprint(l)
	Rising(l)
	Rising(l[:1])
	if got := fmt.Sprint(l); got != want {
		t.Error("the list that is handed in is changed:", got)
	}
}
