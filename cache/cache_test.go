package cache

import (
	"bytes"
	"fmt"
	"math"
	"math/rand/v2"
	"slices"
	"strings"
	"testing"
	"unsafe"

	"icebox/api"
	"icebox/disk"
	"icebox/num"
	"icebox/sum"
)

const (
	wide  = 1 << 30 // room for all that a test writes
	whole = 565     // bytes of a slot: a mark, a Sum of 4, and 560 for a label and a piece
)

func fresh() *disk.Disk { return disk.New(api.Plan{Room: wide}) }

func text(n int) string { return strings.Repeat("x", n) }

// with is a disk whose file has these bytes, all of them safe.
func with(t *testing.T, s string) *disk.Disk {
	t.Helper()
	d := fresh()
	for i, e := range []api.Errno{d.Make("cache"), d.Write("cache", 0, []byte(s)), d.Safe("cache"), d.Names()} {
		if e != api.OK {
			t.Fatal("a disk with a file: call", i, "error", e)
		}
	}
	return d
}

// data is what the file of d has, whether d is down or not.
func data(d *disk.Disk) string {
	for _, f := range d.Files() {
		if f.Name == "cache" {
			return f.Data
		}
	}
	return ""
}

// filed is what d has, and how many bytes of it are loose.
func filed(d *disk.Disk) string { return fmt.Sprint(d.Files()) }

func tells(t *testing.T, what string, c *Cache, name string, piece int, want string) {
	t.Helper()
	if b, ok := c.Get(name, piece); !ok || string(b) != want {
		t.Errorf("%s: Get %.50q %d: %.20q of %d bytes, %t, not %.20q of %d bytes", what, name, piece, b, len(b), ok, want, len(want))
	}
}

// none asks that nothing is told, which is a nil list.
func none(t *testing.T, what string, c *Cache, name string, piece int) {
	t.Helper()
	if b, ok := c.Get(name, piece); ok || b != nil {
		t.Errorf("%s: Get %.50q %d: %.20q of %d bytes, %t, not none", what, name, piece, b, len(b), ok)
	}
}

func counts(t *testing.T, what string, c *Cache, want int) {
	t.Helper()
	if n := c.Len(); n != want {
		t.Errorf("%s: Len %d, not %d", what, n, want)
	}
}

// held is one thing that is put.
type held struct {
	name  string
	piece int
	text  string
}

func (h held) put(c *Cache) { c.Put(h.name, h.piece, []byte(h.text)) }

func puts(c *Cache, l ...held) {
	for _, h := range l {
		h.put(c)
	}
}

// row is n things that are put, each under another number.
func row(n int) []held {
	var l []held
	for i := range n {
		l = append(l, held{"far-1-" + fmt.Sprint(i%3), i, fmt.Sprint("piece ", i)})
	}
	return l
}

// there is the numbers of those of l that are told, as they were put.
func there(t *testing.T, what string, c *Cache, l []held) []int {
	t.Helper()
	var told []int
	for i, h := range l {
		b, ok := c.Get(h.name, h.piece)
		if ok {
			told = append(told, i)
		}
		if ok != (b != nil) || ok && string(b) != h.text {
			t.Errorf("%s: Get %.50q %d: %.20q, %t, not %.20q", what, h.name, h.piece, b, ok, h.text)
		}
	}
	return told
}

// are asks that of l just those of these numbers are told, and that there are no others.
func are(t *testing.T, what string, c *Cache, l []held, want ...int) {
	t.Helper()
	counts(t, what, c, len(want))
	if got := there(t, what, c, l); !slices.Equal(got, want) {
		t.Errorf("%s: told is %v, not %v", what, got, want)
	}
}

// 16.1: a new one tells nothing.
func TestNew(t *testing.T) {
	d := fresh()
	c := Open(d, 4)
	counts(t, "a new one", c, 0)
	for _, name := range []string{"", "a", "cache", text(40), text(41)} {
		for _, piece := range []int{math.MinInt, -1, 0, 1, 1 << 30, 1<<30 + 1, math.MaxInt} {
			none(t, "a new one", c, name, piece)
		}
	}
	if d.Calls() != 0 || len(d.Files()) != 0 {
		t.Error("a cache without Puts changes the disk:", d.Files())
	}
}

// 16.1: Get tells what was put, whatever bytes these are.
func TestPut(t *testing.T) {
	all := make([]byte, 256)
	for i := range all {
		all[i] = byte(i)
	}
	for _, b := range [][]byte{nil, {}, {0}, {1}, {255}, {0, 0}, {1, 1, 1}, []byte("bytes"), []byte("é\xff"), all, make([]byte, api.MaxPiece), bytes.Repeat([]byte{1}, api.MaxPiece), bytes.Repeat([]byte{255}, api.MaxPiece)} {
		d := fresh()
		c := Open(d, 2)
		c.Put("far-1-2", 3, b)
		for range 2 {
			tells(t, "put", c, "far-1-2", 3, string(b))
			counts(t, "put", c, 1)
		}
		again := Open(d, 2)
		tells(t, "opened again", again, "far-1-2", 3, string(b))
		counts(t, "opened again", again, 1)
	}
}

// 16: pieces of each length that may be, and some that may not: what was there stays.
func TestSizes(t *testing.T) {
	for n := range api.MaxPiece + 1 {
		d := fresh()
		c := Open(d, 2)
		puts(c, held{"a", 0, text(n)}, held{text(api.MaxName), 1 << 30, text(n)})
		for _, c := range []*Cache{c, Open(d, 2)} {
			tells(t, fmt.Sprint("of ", n), c, "a", 0, text(n))
			tells(t, fmt.Sprint("of ", n), c, text(api.MaxName), 1<<30, text(n))
			counts(t, fmt.Sprint("of ", n), c, 2)
		}
	}
	for _, n := range []int{513, 514, 520, 560, 565, 566, 1024, 1 << 16, 1<<20 + 1} {
		d := fresh()
		c := Open(d, 2)
		c.Put("a", 0, make([]byte, n))
		none(t, fmt.Sprint("of ", n), c, "a", 0)
		counts(t, fmt.Sprint("of ", n), c, 0)
		c.Put("a", 0, []byte("there"))
		calls := d.Calls()
		c.Put("a", 0, make([]byte, n))
		tells(t, fmt.Sprint("what was there, of ", n), c, "a", 0, "there")
		if d.Calls() != calls {
			t.Error("what is not kept changes the disk: of", n)
		}
	}
}

// 16: names of each length, and of each byte; none is as another one.
func TestNames(t *testing.T) {
	var l []held
	for n := range 64 {
		l = append(l, held{strings.Repeat("n", n), 7, fmt.Sprint("of ", n)})
	}
	d := fresh()
	c := Open(d, api.MaxSlots)
	puts(c, l...)
	puts(c, held{"", 0, "x"}, held{text(41), 0, "x"}, held{text(99), 0, "x"}, held{text(1 << 16), 0, "x"}, held{strings.Repeat("é", 21), 0, "x"}, held{string(make([]byte, 41)), 0, "x"})
	var want []int
	for n := range api.MaxName {
		want = append(want, n+1)
	}
	are(t, "lengths", c, l, want...)
	are(t, "lengths, opened again", Open(d, api.MaxSlots), l, want...)
	for i := 0; i < 256; i += 16 {
		l = nil
		for n := i; n < i+16; n++ {
			one := string([]byte{byte(n)})
			l = append(l, held{one, 0, "one" + one}, held{"a" + one, 0, one}, held{strings.Repeat(one, 40), 0, "forty" + one})
		}
		d := fresh()
		c := Open(d, api.MaxSlots)
		puts(c, l...)
		for _, c := range []*Cache{c, Open(d, api.MaxSlots)} {
			counts(t, "bytes", c, 48)
			for _, h := range l {
				tells(t, "bytes", c, h.name, h.piece, h.text)
				none(t, "no such name", c, h.name+"\x00", 0)
				none(t, "no such name", c, "b"+h.name, 0)
			}
		}
	}
}

// 16: numbers that may be, and some that may not.
func TestNumbers(t *testing.T) {
	var l []held
	for n := range 31 {
		l = append(l, held{"a", 1 << n, fmt.Sprint(n)})
	}
	for _, n := range []int{0, 3, 127, 129, 16383, 16385, 1<<21 - 1, 1<<28 - 1, 1<<29 + 7, 1<<30 - 1} {
		l = append(l, held{"a", n, fmt.Sprint(n)})
	}
	d := fresh()
	c := Open(d, api.MaxSlots)
	puts(c, l...)
	calls := d.Calls()
	others := []int{-1, -2, -1 << 30, math.MinInt, 1<<30 + 1, 1<<30 + 2, 1 << 31, 1 << 32, 1<<32 + 1, 1 << 35, 1 << 53, math.MaxInt}
	for _, n := range others {
		c.Put("a", n, []byte("x"))
		c.Put("b", n, []byte("x"))
	}
	if d.Calls() != calls {
		t.Error("what is not kept changes the disk")
	}
	for _, c := range []*Cache{c, Open(d, api.MaxSlots)} {
		counts(t, "numbers", c, len(l))
		for _, h := range l {
			tells(t, "numbers", c, h.name, h.piece, h.text)
			none(t, "another name", c, "b", h.piece)
		}
		for _, n := range append(others, 5, 126, 1<<30-2) {
			none(t, "no such number", c, "a", n)
			none(t, "no such number", c, "b", n)
		}
	}
}

// 16.1: a name and a number are held apart: what was put under others is not told.
func TestLabels(t *testing.T) {
	l := []held{{"a", 1, "a and 1"}, {"a", 11, "a and 11"}, {"a1", 1, "a1 and 1"}, {"a1", 11, ""}, {"b", 1, "b and 1"}, {"a\x01", 1, "a, 1 and 1"}, {"a", 0, "a and 0"}, {"\x01a", 1, "1, a and 1"}}
	d := fresh()
	c := Open(d, 8)
	for i, h := range l {
		for _, later := range l[i:] {
			none(t, "not yet put", c, later.name, later.piece)
		}
		counts(t, "not yet put", c, i)
		h.put(c)
	}
	are(t, "labels", c, l, 0, 1, 2, 3, 4, 5, 6, 7)
	are(t, "labels, opened again", Open(d, 8), l, 0, 1, 2, 3, 4, 5, 6, 7)
}

// 16.1: a Put instead of what was there: shorter, longer, none, alike; others stay.
func TestInstead(t *testing.T) {
	d := fresh()
	c := Open(d, 3)
	puts(c, held{"a", 0, "first"}, held{"b", 0, "of b"}, held{"a", 1, "of 1"})
	for i, s := range []string{"x", "much longer than ahead", "", text(512), text(511) + "y", "x", "x", "\x00", text(512), ""} {
		c.Put("a", 0, []byte(s))
		for _, c := range []*Cache{c, Open(d, 3)} {
			tells(t, fmt.Sprint("instead ", i), c, "a", 0, s)
			tells(t, fmt.Sprint("beside ", i), c, "b", 0, "of b")
			tells(t, fmt.Sprint("beside ", i), c, "a", 1, "of 1")
			counts(t, fmt.Sprint("instead ", i), c, 3)
		}
	}
	if n := len(data(d)); n != 3*whole {
		t.Error("three pieces that were put often take", n, "bytes")
	}
}

// 16.1, 16.3: of any number of slots; more than MaxSlots are MaxSlots.
func TestSlots(t *testing.T) {
	l := row(150)
	for _, x := range []struct{ slots, most int }{{math.MinInt, 0}, {-1 << 30, 0}, {-64, 0}, {-1, 0}, {0, 0}, {1, 1}, {2, 2}, {3, 3}, {31, 31}, {63, 63}, {64, 64}, {65, 64}, {66, 64}, {128, 64}, {1 << 30, 64}, {math.MaxInt, 64}} {
		d := fresh()
		c := Open(d, x.slots)
		for i, h := range l {
			h.put(c)
			counts(t, fmt.Sprint(x.slots, " slots"), c, min(i+1, x.most))
			if x.most > 0 {
				tells(t, fmt.Sprint(x.slots, " slots"), c, h.name, h.piece, h.text)
			} else {
				none(t, "no slots", c, h.name, h.piece)
			}
		}
		// Each was told when it was put, and no more: the last ones stay.
		var want []int
		for i := len(l) - x.most; i < len(l); i++ {
			want = append(want, i)
		}
		are(t, fmt.Sprint(x.slots, " slots"), c, l, want...)
		are(t, fmt.Sprint(x.slots, " slots, opened again"), Open(d, x.slots), l, want...)
		if n := len(data(d)); n != x.most*whole {
			t.Error(x.slots, "slots take", n, "bytes")
		}
		if x.most == 0 && d.Calls() != 0 {
			t.Error("a cache without slots changes the disk")
		}
	}
}

// 16.1: without a disk nothing is kept.
func TestNoDisk(t *testing.T) {
	for _, slots := range []int{-1, 0, 1, 64, 65} {
		c := Open(nil, slots)
		puts(c, row(9)...)
		are(t, "no disk", c, row(9))
	}
}

// 16.1: opened again with as many slots, fewer, more: what the file still has, as far as there are slots.
func TestOpenAgain(t *testing.T) {
	l := row(12)
	for _, n := range []int{0, 1, 2, 5, 8, 12} {
		for _, slots := range []int{-1, 0, 1, 2, 3, 4, 7, 8, 9, 12, 64, 99} {
			d := fresh()
			puts(Open(d, 8), l[:n]...)
			was := filed(d)
			what := fmt.Sprint(n, " put into 8 slots, opened with ", slots)
			c := Open(d, slots)
			counts(t, what, c, max(0, min(n, 8, slots)))
			if got := there(t, what, c, l); len(got) != c.Len() {
				t.Errorf("%s: %d told, Len %d", what, len(got), c.Len())
			}
			if filed(d) != was {
				t.Error(what + ": the disk is changed")
			}
			// Nothing was put since: all of it is there still.
			again := Open(d, 8)
			counts(t, what+", then with 8", again, min(n, 8))
			if got := there(t, what, again, l); len(got) != min(n, 8) {
				t.Errorf("%s, then with 8: %d told", what, len(got))
			}
		}
	}
}

// 16.1, 16.3: opened with fewer slots, or more, and put into: each Put is told, and never more than there are slots.
func TestOpenAgainAndPut(t *testing.T) {
	l := row(30)
	for _, first := range []int{1, 3, 8} {
		for _, second := range []int{1, 2, 3, 5, 8, 64} {
			d := fresh()
			puts(Open(d, first), l[:10]...)
			c := Open(d, second)
			n := c.Len()
			for i, h := range l[10:] {
				h.put(c)
				what := fmt.Sprint(first, " slots, then ", second, ", Put ", i)
				tells(t, what, c, h.name, h.piece, h.text)
				counts(t, what, c, min(n+i+1, second))
				again := Open(d, 64)
				if got := there(t, what, again, l); len(got) != c.Len() || again.Len() != c.Len() {
					t.Error(what, "opened with 64: told", got, "Len", again.Len(), "not", c.Len())
				}
			}
		}
	}
}

// 16.1: what was put instead stays: bytes of ahead do not come back, though a cache with fewer slots was there between.
func TestNeverBack(t *testing.T) {
	for fewer := range 8 {
		for at := range 8 {
			d := fresh()
			l := row(8)
			puts(Open(d, 8), l...)
			c := Open(d, fewer)
			h := held{l[at].name, l[at].piece, "new"}
			h.put(c)
			want := "new"
			if fewer == 0 {
				want = l[at].text
			}
			tells(t, fmt.Sprint(fewer, " slots between, Put ", at), Open(d, 8), h.name, h.piece, want)
			if fewer == 0 {
				continue
			}
			for i := range 3 * fewer {
				c.Put("other", i, []byte("other"))
			}
			none(t, fmt.Sprint(fewer, " slots between, gone ", at), Open(d, 8), h.name, h.piece)
			none(t, fmt.Sprint(fewer, " slots between, gone ", at), Open(d, 64), h.name, h.piece)
		}
	}
}

// 16.1: what was told a little ago stays, whatever else is put, and told.
func TestToldStays(t *testing.T) {
	for _, slots := range []int{2, 3, 4, 5, 8, 13, 64} {
		for _, each := range []bool{false, true} {
			for at := range min(slots, 9) {
				c := Open(fresh(), slots)
				l := row(slots)
				puts(c, l...)
				hot := l[at]
				for i := range 2 * slots {
					what := fmt.Sprint(slots, " slots, each told: ", each, ", the one of ", at, ", Put ", i)
					tells(t, what, c, hot.name, hot.piece, hot.text)
					name := fmt.Sprint("other ", i)
					c.Put(name, i, []byte(name))
					if each {
						tells(t, what, c, name, i, name)
					}
				}
				tells(t, "behind all", c, hot.name, hot.piece, hot.text)
				counts(t, "behind all", c, slots)
			}
		}
	}
}

// 16.1: one that was not told for long goes, though it was told often.
func TestNotToldGoes(t *testing.T) {
	for _, slots := range []int{1, 2, 3, 4, 8, 64} {
		for _, each := range []bool{false, true} {
			for at := range slots {
				c := Open(fresh(), slots)
				l := row(slots)
				puts(c, l...)
				for range 100 {
					c.Get(l[at].name, l[at].piece)
				}
				for i := range 2 * slots {
					name := fmt.Sprint("other ", i)
					c.Put(name, i, []byte(name))
					if each {
						tells(t, "a new one", c, name, i, name)
					}
				}
				none(t, fmt.Sprint(slots, " slots, each told: ", each, ", the one of ", at), c, l[at].name, l[at].piece)
			}
		}
	}
}

// orders calls f with each order of the numbers below n.
func orders(n int, f func([]int)) {
	var l []int
	var longer func()
	longer = func() {
		if len(l) == n {
			f(slices.Clone(l))
			return
		}
		for i := range n {
			if !slices.Contains(l, i) {
				l = append(l, i)
				longer()
				l = l[:len(l)-1]
			}
		}
	}
	longer()
}

// 16.1: where all were told those go first that were told first; new ones, told or not, behind them.
func TestToldFirstGoesFirst(t *testing.T) {
	l := row(4)
	for _, each := range []bool{false, true} {
		orders(4, func(order []int) {
			for n := range 5 {
				c := Open(fresh(), 4)
				puts(c, l...)
				for _, at := range order {
					tells(t, "told", c, l[at].name, l[at].piece, l[at].text)
				}
				for i := range n {
					c.Put("new", i, []byte("new"))
					if each {
						tells(t, "new", c, "new", i, "new")
					}
				}
				want := slices.Clone(order[n:])
				slices.Sort(want)
				if got := there(t, "told", c, l); !slices.Equal(got, want) {
					t.Errorf("told in the order %v, then %d new ones: left is %v", order, n, got)
				}
				for i := range n {
					tells(t, fmt.Sprint("a new one of ", n), c, "new", i, "new")
				}
			}
		})
	}
}

// 16.1: without a Get those go first that were put first; a Put of what is there counts as a new one.
func TestPutFirstGoesFirst(t *testing.T) {
	orders(4, func(order []int) {
		for n := range 5 {
			l := row(4)
			c := Open(fresh(), 4)
			puts(c, l...)
			for _, at := range order {
				l[at].text += " once more"
				l[at].put(c)
			}
			for i := range n {
				c.Put("new", i, []byte("new"))
			}
			want := slices.Clone(order[n:])
			slices.Sort(want)
			if got := there(t, "put again", c, l); !slices.Equal(got, want) {
				t.Errorf("put again in the order %v, then %d new ones: left is %v", order, n, got)
			}
		}
	})
}

// 16.1: of those that an Open found all go, one after the other, ahead of those that are put then.
func TestFoundGoFirst(t *testing.T) {
	l := row(8)
	d := fresh()
	puts(Open(d, 8), l...)
	c := Open(d, 8)
	for i := range 8 {
		c.Put("new", i, []byte("new"))
		again := Open(d, 8)
		for k := range i + 1 {
			tells(t, "a new one", again, "new", k, "new")
		}
		if got := there(t, "found", again, l); len(got) != 7-i {
			t.Errorf("%d new ones: left is %v", i+1, got)
		}
	}
	c = Open(d, 8)
	tells(t, "found", c, "new", 3, "new")
	puts(c, l[:7]...)
	tells(t, "found, and told", c, "new", 3, "new")
}

// 16.1: where a slot is free nothing goes; it is free where a Put found an error, or an Open bytes that say nothing.
func TestFreeFirst(t *testing.T) {
	l := row(5)
	for at := range 4 {
		d := fresh()
		puts(Open(d, 4), l[:4]...)
		d.Write("cache", at*whole+99, []byte("#"))
		c := Open(d, 4)
		var want []int
		for i := range 5 {
			if i != at {
				want = append(want, i)
			}
		}
		are(t, fmt.Sprint("spoilt ", at), c, l, want[:3]...)
		l[4].put(c)
		are(t, fmt.Sprint("spoilt ", at, ", and one put"), c, l, want...)
		are(t, fmt.Sprint("spoilt ", at, ", and one put, opened again"), Open(d, 4), l, want...)
	}
}

// line is the labels of what is kept, told in another way: what was told or put last is its last one, and its first one goes.
type line []label

func (l line) without(one label) line {
	return slices.DeleteFunc(slices.Clone(l), func(o label) bool { return o == one })
}

func (l line) put(one label, most int) line {
	l = append(l.without(one), one)
	return l[max(0, len(l)-most):]
}

func (l line) get(one label) line {
	if !slices.Contains(l, one) {
		return l
	}
	return append(l.without(one), one)
}

// 16.1, 16.3: rows of Puts and Gets by chance: told are the last bytes put, of just those that are in the line.
func TestRows(t *testing.T) {
	r := rand.New(rand.NewPCG(16, 1))
	for n := range 400 {
		slots := 1 + r.IntN(8)
		d := fresh()
		c := Open(d, slots)
		var kept line
		last := map[label]string{}
		for step := range 80 {
			l := label{string(rune('a' + r.IntN(3))), r.IntN(1 + r.IntN(2*slots))}
			if r.IntN(2) == 0 {
				s := fmt.Sprint(n, " ", step, text(r.IntN(500)))
				c.Put(l.name, l.piece, []byte(s))
				kept = kept.put(l, slots)
				last[l] = s
			} else {
				b, ok := c.Get(l.name, l.piece)
				if ok != slices.Contains(kept, l) || ok && string(b) != last[l] {
					t.Fatalf("row %d, step %d: Get %v: %.20q, %t", n, step, l, b, ok)
				}
				kept = kept.get(l)
			}
			counts(t, "rows", c, len(kept))
			if r.IntN(20) > 0 {
				continue
			}
			again := Open(d, slots)
			counts(t, "rows, opened again", again, len(kept))
			for l, s := range last {
				if slices.Contains(kept, l) {
					tells(t, "rows, opened again", again, l.name, l.piece, s)
				} else {
					none(t, "rows, opened again", again, l.name, l.piece)
				}
			}
		}
	}
}

// 16.1, 16.3: caches of any number of slots by turns on one disk, without a fall: nothing, or the last bytes put.
func TestManyOpens(t *testing.T) {
	r := rand.New(rand.NewPCG(16, 2))
	for n := range 300 {
		d := fresh()
		last := map[label]string{}
		for range 10 {
			slots := r.IntN(10) - 1
			c := Open(d, slots)
			for step := range r.IntN(12) {
				l := label{string(rune('a' + r.IntN(3))), r.IntN(4)}
				s := fmt.Sprint(n, " ", step, text(r.IntN(500)))
				c.Put(l.name, l.piece, []byte(s))
				if slots > 0 {
					last[l] = s
					tells(t, "put", c, l.name, l.piece, s)
				}
				c.Get("a", r.IntN(4))
			}
			told := 0
			for l, s := range last {
				if b, ok := c.Get(l.name, l.piece); ok {
					told++
					if string(b) != s {
						t.Fatalf("row %d: Get %v: %.20q, not %.20q", n, l, b, s)
					}
				}
			}
			if told != c.Len() || told > max(slots, 0) {
				t.Fatalf("row %d: %d told, Len %d, %d slots", n, told, c.Len(), slots)
			}
		}
	}
}

// versions is all that was put under each label.
type versions map[label][]string

// put puts, and remembers it.
func (v versions) put(c *Cache, l ...held) {
	for _, h := range l {
		at := label{h.name, h.piece}
		v[at] = append(v[at], h.text)
		h.put(c)
	}
}

// holds asks that c tells nothing, or bytes that were put, and how many these are, and that they are as many as Len says.
func (v versions) holds(t *testing.T, what string, c *Cache, slots int) int {
	t.Helper()
	n := 0
	for l, texts := range v {
		b, ok := c.Get(l.name, l.piece)
		if ok {
			n++
		}
		if ok != (b != nil) || ok && !slices.Contains(texts, string(b)) {
			t.Errorf("%s: Get %v: %.20q of %d bytes, %t", what, l, b, len(b), ok)
		}
	}
	if n != c.Len() || n > slots {
		t.Errorf("%s: %d told, Len %d, %d slots", what, n, c.Len(), slots)
	}
	return n
}

// turns is a known row of Puts for two slots: new ones, others instead of them, longer and shorter ones, more than slots.
func turns() []held {
	return []held{
		{"a", 0, "first"}, {"b", 0, text(512)}, {"a", 0, "second, longer"}, {"c", 1 << 30, ""}, {"a", 0, "third"},
		{"b", 0, "shorter"}, {"a", 0, text(300)}, {strings.Repeat("n", 40), 9, "long name"}, {"b", 0, "fourth"},
	}
}

// 16.1: a disk with room for a part, each number of bytes of it: nothing, what was there, or what is put; never others.
func TestRoom(t *testing.T) {
	for room := -2; room < 3*whole; room++ {
		d := disk.New(api.Plan{Room: room})
		c := Open(d, 2)
		v := versions{}
		what := fmt.Sprint("room for ", room)
		for _, h := range turns() {
			v.put(c, h)
			v.holds(t, what, c, 2)
			v.holds(t, what+", opened again", Open(d, 2), 2)
			if room >= 2*whole {
				tells(t, what, c, h.name, h.piece, h.text)
			}
		}
		if want := min(2, max(room, 0)/whole); c.Len() != want {
			t.Errorf("%s: Len %d, not %d", what, c.Len(), want)
		}
	}
}

// 16.1: another file takes the room: a new piece is not kept, one instead of what is there is; it is once there is room.
func TestRoomTaken(t *testing.T) {
	for left := range whole {
		d := disk.New(api.Plan{Room: 10000})
		c := Open(d, 4)
		l := row(4)
		puts(c, l[:2]...)
		d.Make("other")
		d.Write("other", 0, make([]byte, 10000-2*whole-left))
		l[2].put(c)
		are(t, "no room for a new one", c, l, 0, 1)
		l[0].text = "instead"
		l[0].put(c)
		are(t, "room for one instead", c, l, 0, 1)
		are(t, "room for one instead, opened again", Open(d, 4), l, 0, 1)
		d.Gone("other")
		puts(c, l[2:]...)
		are(t, "room again", c, l, 0, 1, 2, 3)
		are(t, "room again, opened again", Open(d, 4), l, 0, 1, 2, 3)
	}
}

// 16.1: behind a fall there is less room than the file has: what was there is told still, and nothing else.
func TestRoomLess(t *testing.T) {
	for _, slots := range []int{1, 2, 3, 9} {
		d := fresh()
		l := row(4)
		puts(Open(d, 3), l[:3]...)
		d.Names()
		d.Fall(api.Plan{Room: 3*whole - 1})
		c := Open(d, slots)
		n := c.Len()
		counts(t, "less room", c, min(slots, 3))
		for range 2 {
			l[3].put(c)
			c.Put(l[0].name, l[0].piece, []byte("instead"))
			none(t, "less room", c, l[3].name, l[3].piece)
			if got := there(t, "less room", c, l); len(got) != n || c.Len() != n {
				t.Error("less room: told", got, "Len", c.Len())
			}
		}
		d.Fall(api.Plan{Room: wide})
		l[3].put(c)
		tells(t, "room again", c, l[3].name, l[3].piece, l[3].text)
		are(t, "room again, opened with more", Open(d, 64), l, there(t, "room again", c, l)...)
	}
}

// 16.1: a disk that is down: nothing is told, nothing is put, nobody hears of it; it is told again once it is up.
func TestDown(t *testing.T) {
	for _, done := range []bool{false, true} {
		d := fresh()
		l := row(5)
		c := Open(d, 4)
		puts(c, l[:3]...)
		d.Fall(api.Plan{Room: wide, Crash: 1, Done: done, Names: 1})
		d.Make("other")
		if !d.Down() {
			t.Fatal("the disk is up")
		}
		was := filed(d)
		puts(c, l[3:]...)
		puts(c, held{l[0].name, l[0].piece, "instead"})
		for _, h := range l {
			none(t, "down", c, h.name, h.piece)
		}
		opened := Open(d, 4)
		are(t, "down, opened", opened, l)
		puts(opened, l...)
		are(t, "down, opened, put", opened, l)
		if filed(d) != was {
			t.Error("a disk that is down is changed")
		}
		d.Fall(api.Plan{Room: wide})
		are(t, "up again", c, l, 0, 1, 2)
		are(t, "up again, opened", Open(d, 4), l, 0, 1, 2)
		puts(c, l[3:]...)
		if got := there(t, "up again, put", c, l); len(got) != 4 || c.Len() != 4 || !slices.Contains(got, 3) || !slices.Contains(got, 4) {
			t.Error("up again: told", got, "Len", c.Len())
		}
	}
}

// 16.1: the disk goes down at each change: what is told of it, if anything, was put.
func TestCrash(t *testing.T) {
	for _, done := range []bool{false, true} {
		for crash := 1; ; crash++ {
			d := disk.New(api.Plan{Room: wide, Crash: crash, Done: done})
			c := Open(d, 2)
			v := versions{}
			for _, h := range turns() {
				v.put(c, h)
				if n := c.Len(); n < 0 || n > 2 {
					t.Error("crash at", crash, "Len", n)
				}
				if b, ok := c.Get(h.name, h.piece); ok == d.Down() || ok && string(b) != h.text {
					t.Errorf("crash at %d: Get %.20q: %.20q, %t", crash, h.name, b, ok)
				}
			}
			if !d.Down() {
				break
			}
		}
	}
}

// 16.1: a file with other bytes: it has no piece, and what is put is told.
func TestOtherBytes(t *testing.T) {
	r := rand.New(rand.NewPCG(16, 3))
	chance := make([]byte, 4*whole)
	for i := range chance {
		chance[i] = byte(r.Uint32())
	}
	marked := bytes.Clone(chance)
	for at := 0; at < len(marked); at += whole {
		marked[at] = 1
	}
	l := row(3)
	for _, all := range []string{strings.Repeat("\x00", 4*whole), strings.Repeat("\x01", 4*whole), strings.Repeat("\xff", 4*whole), strings.Repeat("cache", whole), string(chance), string(marked), "\x01" + strings.Repeat("\x00", 4*whole-1)} {
		for _, n := range []int{0, 1, 2, 4, 5, 6, 100, whole - 1, whole, whole + 1, 2*whole - 1, 2 * whole, 2*whole + 7, 4 * whole} {
			d := with(t, all[:n])
			c := Open(d, 2)
			what := fmt.Sprintf("%d bytes %.5q", n, all)
			are(t, what, c, l)
			l[0].put(c)
			are(t, what+", one put", c, l, 0)
			l[1].put(c)
			are(t, what+", two put", c, l, 0, 1)
			l[2].put(c)
			are(t, what+", three put", c, l, 1, 2)
			are(t, what+", opened again", Open(d, 2), l, 1, 2)
		}
	}
	d := with(t, text(api.MaxFile))
	c := Open(d, 99)
	counts(t, "a great file", c, 0)
	puts(c, row(99)...)
	counts(t, "a great file, put", c, 64)
	counts(t, "a great file, opened again", Open(d, 64), 64)
	if got := data(d); len(got) != api.MaxFile || got[64*whole:] != text(api.MaxFile-64*whole) {
		t.Error("behind the slots of a great file is written")
	}
	counts(t, "behind all slots", Open(with(t, strings.Repeat("\x00", 64*whole)+made(1, num.PutText("a"), num.Put(3), num.PutText("x"))), 64), 0)
}

// 16.1: a file that is cut short at each place has the pieces that are whole still, and is put into from there on.
func TestCutShort(t *testing.T) {
	l := row(5)
	d := fresh()
	puts(Open(d, 3), l[:3]...)
	all := data(d)
	for n := range all {
		d := with(t, all[:n])
		c := Open(d, 3)
		if told := there(t, "cut short", c, l); len(told) != n/whole || c.Len() != n/whole {
			t.Errorf("cut to %d bytes: told is %v, Len %d", n, told, c.Len())
		}
		puts(c, l[3:]...)
		tells(t, "cut short, put", c, l[3].name, l[3].piece, l[3].text)
		tells(t, "cut short, put", c, l[4].name, l[4].piece, l[4].text)
		counts(t, "cut short, put", c, min(n/whole+2, 3))
		are(t, "cut short, put, opened again", Open(d, 3), l, there(t, "cut short, put", c, l)...)
	}
}

// 3.2, 16.1: a byte is turned, each in many ways: its piece is not told, and the other one is.
func TestTurned(t *testing.T) {
	l := []held{{"a name", 300, "some bytes"}, {"b", 1, text(512)}}
	d := fresh()
	puts(Open(d, 2), l...)
	all := data(d)
	for at := range all {
		for _, by := range []byte{1, 2, 4, 8, 16, 32, 64, 128, 3, 255} {
			spoilt := []byte(all)
			spoilt[at] ^= by
			d := with(t, string(spoilt))
			left := 1 - at/whole
			are(t, fmt.Sprint("turned ", at, " by ", by), Open(d, 2), l, left)
			if by != 1 {
				continue
			}
			// Under a cache that is open, which hears of it when it is asked.
			d = with(t, all)
			c := Open(d, 2)
			d.Write("cache", 0, spoilt)
			none(t, fmt.Sprint("turned ", at), c, l[1-left].name, l[1-left].piece)
			are(t, fmt.Sprint("turned ", at), c, l, left)
			l[1-left].put(c)
			are(t, fmt.Sprint("turned ", at, ", put again"), c, l, 0, 1)
			are(t, fmt.Sprint("turned ", at, ", put again, opened again"), Open(d, 2), l, 0, 1)
		}
	}
}

// made is a slot with these parts, whose Sum is right.
func made(mark byte, parts ...[]byte) string {
	rest := slices.Concat(parts...)
	rest = append(rest, make([]byte, max(0, whole-5-len(rest)))...)
	return string(mark) + string(num.Fixed(sum.Sum(rest), 4)) + string(rest)
}

// 16: slots that no Put writes, though their Sum is right, are no pieces.
func TestMadeSlots(t *testing.T) {
	name, number, piece := num.PutText("a"), num.Put(3), num.PutText("piece")
	tells(t, "as Put makes it", Open(with(t, made(1, name, number, piece)), 1), "a", 3, "piece")
	tells(t, "as Put makes it", Open(with(t, made(1, num.PutText(text(40)), num.Put(1<<30), num.PutText(text(512)))), 1), text(40), 1<<30, text(512))
	for what, s := range map[string]string{
		"marked as empty":                   made(0, name, number, piece),
		"another mark":                      made(2, name, number, piece),
		"no name":                           made(1, num.PutText(""), number, piece),
		"too long a name":                   made(1, num.PutText(text(41)), number, piece),
		"too great a number":                made(1, name, num.Put(1<<30+1), piece),
		"a far greater number":              made(1, name, num.Put(math.MaxInt), piece),
		"too long a piece":                  made(1, name, number, num.PutText(text(513))),
		"the longest piece that has room":   made(1, name, number, num.PutText(text(555))),
		"a name longer than the slot":       made(1, num.Put(999), number, piece),
		"a name of a number that is none":   made(1, bytes.Repeat([]byte{255}, 20)),
		"a number that is none":             made(1, name, bytes.Repeat([]byte{255}, 20)),
		"a number longer than it takes":     made(1, name, []byte{0x83, 0}, piece),
		"a piece longer than the slot":      made(1, name, number, num.Put(600)),
		"a piece longer than anything":      made(1, name, number, num.Put(math.MaxInt)),
		"a length longer than it takes":     made(1, name, number, []byte{0x81, 0}, []byte("x")),
		"others than noughts up to its end": made(1, name, number, piece, []byte("\x00\x01")),
		"nothing but noughts":               made(1),
	} {
		for _, behind := range []string{"", made(1, num.PutText("b"), number, piece)} {
			d := with(t, s+behind)
			c := Open(d, 2)
			counts(t, what, c, len(behind)/whole)
			for _, name := range []string{"", "a", text(40), text(41)} {
				for _, n := range []int{0, 3, 1 << 30, 1<<30 + 1, math.MaxInt} {
					none(t, what, c, name, n)
				}
			}
			c.Put("a", 3, []byte("new"))
			tells(t, what, c, "a", 3, "new")
			tells(t, what, Open(d, 2), "a", 3, "new")
			counts(t, what, Open(d, 2), 1+len(behind)/whole)
		}
	}
}

// 16.1: a file in which slots have one label, as no Put leaves them: one of them is told, and none but the next Put.
func TestMadeTwice(t *testing.T) {
	one := func(name, s string) string { return made(1, num.PutText(name), num.Put(3), num.PutText(s)) }
	for ahead := range 3 {
		for slots := 1; slots < 6; slots++ {
			file := ""
			for i := range ahead {
				file += one(fmt.Sprint("ahead ", i), "ahead")
			}
			d := with(t, file+one("a", "one")+one("a", "two")+one("a", "three"))
			c := Open(d, slots)
			counts(t, "twice", c, min(ahead+1, slots))
			if slots > ahead {
				tells(t, "twice", c, "a", 3, "one")
			} else {
				none(t, "twice", c, "a", 3)
			}
			c.Put("a", 3, []byte("new"))
			counts(t, "twice, put", c, min(ahead+1, slots))
			for i := range slots {
				c.Put("b", i, []byte("other"))
			}
			for _, c := range []*Cache{c, Open(d, slots), Open(d, 64)} {
				none(t, "twice, gone", c, "a", 3)
				counts(t, "twice, gone", c, slots)
			}
		}
	}
}

// 16.2, its ways: a slot is marked as empty, then filled, then marked as full, then all of it is safe.
func TestSteps(t *testing.T) {
	l := []held{{"a", 1, "one"}, {"b", 2, "two"}, {"a", 1, "instead"}, {"c", 3, "three"}}
	slot := func(h held) string {
		return made(1, num.PutText(h.name), num.Put(h.piece), num.PutText(h.text))
	}
	empty := func(s string) string { return "\x00" + s[1:] }
	one, two, instead, three := slot(l[0]), slot(l[1]), slot(l[2]), slot(l[3])
	want := []string{
		"",                           // made
		"\x00", empty(one), one, one, // the first slot
		one + "\x00", one + empty(two), one + two, one + two, // the second slot
		empty(one) + two, empty(instead) + two, instead + two, instead + two, // the first one once more
		instead + empty(two), instead + empty(three), instead + three, instead + three, // b was put ahead of it
	}
	for crash := 1; crash <= len(want)+1; crash++ {
		d := disk.New(api.Plan{Room: wide, Crash: crash, Done: true})
		puts(Open(d, 2), l...)
		if got := data(d); crash <= len(want) && got != want[crash-1] || d.Down() != (crash <= len(want)) {
			t.Errorf("behind change %d the file has %d bytes: %.20q, not %d: %.20q", crash, len(got), got, len(want[crash-1]), want[crash-1])
		}
		loose := 0
		for _, f := range d.Files() {
			loose += f.Loose
		}
		if safe := crash == 1 || crash%4 == 1 || crash > len(want); (loose == 0) != safe {
			t.Error("behind change", crash, "loose are", loose)
		}
	}
}

// 16.1, its ways: what is no piece of a cache with fewer slots is marked as empty ahead of its first Put.
func TestStepsOfFewer(t *testing.T) {
	l := row(5)
	d := fresh()
	puts(Open(d, 4), l[:4]...)
	was := data(d)
	calls := d.Calls()
	c := Open(d, 2)
	l[4].put(c)
	want := made(1, num.PutText(l[4].name), num.Put(l[4].piece), num.PutText(l[4].text)) + was[whole:2*whole] + "\x00" + was[2*whole+1:3*whole] + "\x00" + was[3*whole+1:]
	if data(d) != want || d.Calls() != calls+6 {
		t.Error("behind the first Put: calls", d.Calls()-calls)
	}
	l[0].put(c)
	if got := data(d); got[2*whole:] != want[2*whole:] || d.Calls() != calls+10 {
		t.Error("behind the second Put: calls", d.Calls()-calls)
	}
}

// each fall: which changes of names are kept, and each number of bytes of the loose writes.
func eachFall(d *disk.Disk, f func(what string, d *disk.Disk)) {
	loose := 0
	for _, file := range d.Files() {
		loose += file.Loose
	}
	for _, names := range []int{-1, 0, 1} {
		for n := -1; n <= loose; n++ {
			if names < 1 && n > 0 && n < loose {
				// The file has no name: nothing of it is there.
				continue
			}
			fallen := d.Copy()
			fallen.Fall(api.Plan{Room: wide, Names: names, Keep: []int{n}})
			f(fmt.Sprint(names, " names, ", n, " bytes kept"), fallen)
		}
	}
}

// opening is an Open with so many slots, and what is put then.
type opening struct {
	slots int
	l     []held
}

// runs are known rows of Puts: some for one slot, some for two, some with Opens between that have fewer slots, and more.
func runs() [][]opening {
	l := row(6)
	instead := []held{{l[0].name, 0, "instead"}, {l[3].name, 3, text(512)}, {l[1].name, 1, ""}}
	return [][]opening{
		{{2, turns()}},
		{{1, append(instead, l[:2]...)}},
		{{4, l[:4]}, {2, instead}, {3, l[4:]}},
		{{3, l[:3]}, {0, l[3:]}, {1, instead[:1]}, {5, l[2:]}},
	}
}

// 16.2: the disk falls at each change of known rows of Puts, done or not, and each beginning of what is loose is kept.
func TestFalls(t *testing.T) {
	for n, run := range runs() {
		for crash, down := 1, true; down; crash++ {
			down = falls(t, fmt.Sprint("row ", n), run, crash, false)
			falls(t, fmt.Sprint("row ", n), run, crash, true)
		}
	}
}

// falls tells whether the disk went down at all.
func falls(t *testing.T, what string, run []opening, crash int, done bool) bool {
	t.Helper()
	d := disk.New(api.Plan{Room: wide, Crash: crash, Done: done})
	v := versions{}
	for _, o := range run {
		v.put(Open(d, o.slots), o.l...)
	}
	slots := run[0].slots
	eachFall(d, func(kept string, fallen *disk.Disk) {
		what := fmt.Sprint(what, ", crash at ", crash, " done ", done, ", ", kept)
		c := Open(fallen, slots)
		v.holds(t, what, c, slots)
		v.holds(t, what, Open(fallen, slots-1), slots-1)
		c.Put("a", 0, []byte("behind"))
		tells(t, what, Open(fallen, slots), "a", 0, "behind")
	})
	return d.Down()
}

// 16.2: what was put ahead of the Put in which the disk fell is told behind the fall, if the name is safe.
func TestFallsKeep(t *testing.T) {
	l := row(6)
	for _, done := range []bool{false, true} {
		for crash := 1; crash <= 25; crash++ {
			d := fresh()
			d.Make("cache")
			d.Names()
			d.Fall(api.Plan{Room: wide, Crash: crash, Done: done})
			c := Open(d, 6)
			ahead := 0
			for _, h := range l {
				h.put(c)
				if !d.Down() {
					ahead++
				}
			}
			eachFall(d, func(what string, fallen *disk.Disk) {
				c := Open(fallen, 6)
				if got := there(t, what, c, l); len(got) < ahead || len(got) > ahead+1 || got != nil && got[len(got)-1] != len(got)-1 {
					t.Error("crash at", crash, done, what, "told is", got, "of", ahead)
				}
			})
		}
	}
}

// 16.2: falls behind falls: at each change, then at each change of what is put behind it.
func TestFallsAgain(t *testing.T) {
	l := turns()
	for first := 1; first < 36; first++ {
		for keep := range 5 {
			d := disk.New(api.Plan{Room: wide, Crash: first, Done: keep%2 == 0})
			v := versions{}
			v.put(Open(d, 2), l...)
			for second := 1; second < 16; second++ {
				for _, slots := range []int{1, 2, 3} {
					fallen := d.Copy()
					v := v.copy()
					fallen.Fall(api.Plan{Room: wide, Crash: second, Done: keep%3 == 0, Names: 1, Keep: []int{keep * 141}})
					c := Open(fallen, slots)
					what := fmt.Sprint("crash at ", first, ", then at ", second, ", ", keep, ", ", slots, " slots")
					v.holds(t, what, c, slots)
					v.put(c, held{"b", 0, "again"}, held{"a", 0, "again"}, held{"c", 1 << 30, "again"}, held{"a", 0, text(200)})
					for n := range 3 {
						last := fallen.Copy()
						last.Fall(api.Plan{Room: wide, Names: 1, Keep: []int{n * (second + keep) * 59}})
						v.holds(t, what, Open(last, slots), slots)
						v.holds(t, what, Open(last, 4), 4)
						more := Open(last, slots)
						more.Put("d", 0, []byte("more"))
						tells(t, what, more, "d", 0, "more")
					}
				}
			}
		}
	}
}

// copy is another one that is the same.
func (v versions) copy() versions {
	w := versions{}
	for l, texts := range v {
		w[l] = slices.Clone(texts)
	}
	return w
}

// 16.2: rows of Puts, Opens and falls by chance, with other files beside.
func TestFallsByChance(t *testing.T) {
	r := rand.New(rand.NewPCG(16, 4))
	for n := range 600 {
		plan := func() api.Plan {
			return api.Plan{Room: r.IntN(8 * whole), Crash: r.IntN(40), Done: r.IntN(2) == 0, Names: r.IntN(4) - 1, Keep: []int{r.IntN(1300) - 1, r.IntN(1300), r.IntN(1300)}}
		}
		d := disk.New(plan())
		v := versions{}
		slots := r.IntN(6)
		c := Open(d, slots)
		for step := range 120 {
			switch r.IntN(12) {
			case 0:
				d.Fall(plan())
				slots = r.IntN(6)
				c = Open(d, slots)
			case 1:
				slots = r.IntN(6)
				c = Open(d, slots)
			case 2:
				d.Make(fmt.Sprint("other-", step))
				d.Write(fmt.Sprint("other-", step), 0, make([]byte, r.IntN(300)))
			case 3:
				d.Names()
			default:
				v.put(c, held{string(rune('a' + r.IntN(4))), r.IntN(2), fmt.Sprint(n, " ", step, " ", text(r.IntN(500)))})
			}
			if !d.Down() {
				v.holds(t, fmt.Sprint("row ", n, " step ", step), c, slots)
			}
		}
	}
}

// 16.1: the disk falls under a cache that is open, or its file goes: no wrong bytes, and what is put then is told.
func TestFallsUnder(t *testing.T) {
	l := row(6)
	under := map[string]func(d *disk.Disk){
		"all is lost":          func(d *disk.Disk) { d.Fall(api.Plan{Room: wide}) },
		"the file goes":        func(d *disk.Disk) { d.Gone("cache") },
		"the file is moved":    func(d *disk.Disk) { d.Move("cache", "other") },
		"another file instead": func(d *disk.Disk) { d.Make("other"); d.Move("other", "cache") },
	}
	for _, n := range []int{1, 100, whole - 1, whole, whole + 1, whole + 100, 2*whole - 10, 2*whole - 1, 2 * whole, 3*whole - 1} {
		under[fmt.Sprint("one of ", n, " bytes instead")] = func(d *disk.Disk) {
			was := data(d)
			d.Make("other")
			d.Write("other", 0, []byte(was[:min(len(was), n)]))
			d.Move("other", "cache")
		}
	}
	for what, f := range under {
		for n := range 5 {
			for _, asked := range []bool{false, true} {
				d := fresh()
				c := Open(d, 4)
				puts(c, l[:n]...)
				f(d)
				if asked {
					told := there(t, what, c, l)
					counts(t, what, c, len(told))
				}
				puts(c, l[4:]...)
				tells(t, what, c, l[4].name, l[4].piece, l[4].text)
				tells(t, what, c, l[5].name, l[5].piece, l[5].text)
				told := there(t, what, c, l)
				counts(t, what, c, len(told))
				are(t, what+", opened again", Open(d, 4), l, told...)
			}
		}
	}
}

// 16.1: slots that changed places under a cache that is open: no piece is told under another label, and none comes back.
func TestChangedPlaces(t *testing.T) {
	for at := range 2 {
		l := row(2)
		d := fresh()
		c := Open(d, 2)
		puts(c, l...)
		all := data(d)
		d.Write("cache", 0, []byte(all[whole:]+all[:whole]))
		none(t, "changed places", c, l[0].name, l[0].piece)
		none(t, "changed places", c, l[1].name, l[1].piece)
		counts(t, "changed places", c, 0)
		l[at].put(c)
		are(t, "changed places, put", c, l, at)
		are(t, "changed places, put, opened again", Open(d, 2), l, at)
	}
}

// 16.1: of all slots one is spoilt under a cache that is open: it is free for the next Put.
func TestSpoiltUnder(t *testing.T) {
	for _, slots := range []int{1, 2, 63, 64} {
		l := row(slots + 1)
		d := fresh()
		c := Open(d, slots)
		puts(c, l[:slots]...)
		d.Write("cache", (slots/2)*whole+50, []byte("#"))
		none(t, "spoilt", c, l[slots/2].name, l[slots/2].piece)
		counts(t, "spoilt", c, slots-1)
		l[slots].put(c)
		want := slices.Delete(row(slots+1), slots/2, slots/2+1)
		for _, c := range []*Cache{c, Open(d, slots)} {
			counts(t, "spoilt, put", c, slots)
			for _, h := range want {
				tells(t, "spoilt, put", c, h.name, h.piece, h.text)
			}
		}
		if len(data(d)) != slots*whole {
			t.Error("another slot was taken")
		}
	}
}

// 16.1: the disk falls at each change under a cache that is open: its next Put is told, and where the fall kept all, the
// file has just what it tells then.
func TestFallsUnderPut(t *testing.T) {
	for n, run := range runs() {
		for crash := 1; ; crash++ {
			down := false
			for i := range 12 {
				done, spoilt, all := i%2 == 0, i/2%3, i < 6
				d := disk.New(api.Plan{Room: wide, Crash: crash, Done: done})
				v := versions{}
				var c *Cache
				for _, o := range run {
					if d.Down() {
						break
					}
					c = Open(d, o.slots)
					v.put(c, o.l...)
				}
				down = d.Down()
				keep := 0
				if all {
					for _, f := range d.Files() {
						keep += f.Loose
					}
				}
				d.Fall(api.Plan{Room: wide, Names: 1, Keep: []int{keep}})
				if spoilt > 0 {
					d.Write("cache", (spoilt-1)*whole+50, []byte("#"))
				}
				what := fmt.Sprint("row ", n, ", crash at ", crash, ", ", i)
				v.holds(t, what, c, 64)
				if c.most == 0 {
					continue
				}
				v.put(c, held{"b", 0, "behind"})
				tells(t, what, c, "b", 0, "behind")
				again := Open(d, 64)
				if a, b := v.holds(t, what, c, 64), v.holds(t, what, again, 64); all && a != b {
					t.Errorf("%s: %d are told, and when it is opened again %d", what, a, b)
				}
			}
			if !down {
				break
			}
		}
	}
}

// 16.1: two caches on one disk: each tells nothing, or what was put, and each Put of its own.
func TestTwoOnOne(t *testing.T) {
	r := rand.New(rand.NewPCG(16, 5))
	for n := range 200 {
		d := fresh()
		two := []*Cache{Open(d, 3), Open(d, 1+r.IntN(5))}
		v := versions{}
		for step := range 60 {
			c := two[r.IntN(2)]
			h := held{string(rune('a' + r.IntN(4))), r.IntN(2), fmt.Sprint(n, " ", step)}
			v.put(c, h)
			tells(t, "two on one disk", c, h.name, h.piece, h.text)
			for l, texts := range v {
				for _, c := range two {
					if b, ok := c.Get(l.name, l.piece); ok && !slices.Contains(texts, string(b)) {
						t.Fatalf("two on one disk: Get %v: %.20q", l, b)
					}
				}
			}
		}
	}
}

// R5: two caches on two disks do not touch one another; the same calls tell the same.
func TestApart(t *testing.T) {
	l := turns()
	d, e, f := fresh(), fresh(), fresh()
	c, other, same := Open(d, 2), Open(e, 2), Open(f, 2)
	for i, h := range l {
		was := filed(e)
		h.put(c)
		h.put(same)
		if filed(e) != was {
			t.Error("another disk is changed")
		}
		if filed(d) != filed(f) || d.Calls() != f.Calls() {
			t.Error("the same calls do not make the same")
		}
		other.Put(h.name, h.piece, []byte(fmt.Sprint("other ", i)))
		tells(t, "apart", c, h.name, h.piece, h.text)
		tells(t, "apart", same, h.name, h.piece, h.text)
		tells(t, "apart", other, h.name, h.piece, fmt.Sprint("other ", i))
		copied := Open(d.Copy(), 2)
		copied.Put(h.name, h.piece, []byte("copied"))
		tells(t, "apart from a copy", c, h.name, h.piece, h.text)
	}
}

// 4, 16.1: other files, and changes of their names that are loose, are left as they are.
func TestOtherFiles(t *testing.T) {
	d := fresh()
	d.Make("b")
	d.Write("b", 0, []byte("loose"))
	d.Make("cache-1")
	c := Open(d, 2)
	puts(c, turns()...)
	for _, f := range d.Files() {
		if f.Name == "b" && (f.Data != "loose" || f.Loose != 5) || f.Name == "cache-1" && (f.Data != "" || f.Loose != 0) {
			t.Error("another file is changed:", f)
		}
	}
	if len(d.Files()) != 3 {
		t.Error("more files than cache:", len(d.Files()))
	}
	d.Fall(api.Plan{Room: wide})
	if len(d.Files()) != 0 {
		t.Error("names of others were made safe:", len(d.Files()))
	}
}

// R3: what is handed in is neither changed nor kept.
func TestHandedIn(t *testing.T) {
	c := Open(fresh(), 2)
	b := append(make([]byte, 0, 1024), "handed in"...)
	all := b[:cap(b)]
	for i := len(b); i < len(all); i++ {
		all[i] = '#'
	}
	was := string(all)
	c.Put("a", 0, b)
	if string(all) != was {
		t.Error("what is handed in is written into")
	}
	for i := range all {
		all[i] = '-'
	}
	tells(t, "written into", c, "a", 0, "handed in")
	for i := range all {
		all[i] = '+'
	}
	tells(t, "written into", c, "a", 0, "handed in")
	c.Put("a", 1, all[:9])
	tells(t, "written into", c, "a", 0, "handed in")
	tells(t, "handed in again", c, "a", 1, "+++++++++")

	great := strings.Clone("a/name")[2:]
	c.Put(great, 0, nil)
	at := c.find(label{"name", 0})
	if at < 0 || unsafe.StringData(c.slots[at].name) == unsafe.StringData(great) {
		t.Error("a name that is handed in is kept")
	}
}

// R3: what is told is new memory, spare room too.
func TestTold(t *testing.T) {
	d := fresh()
	c := Open(d, 3)
	l := []held{{"a", 0, "told"}, {"a", 1, ""}, {"b", 0, text(512)}}
	puts(c, l...)
	was := filed(d)
	for range 2 {
		for _, h := range l {
			first, _ := c.Get(h.name, h.piece)
			second, _ := c.Get(h.name, h.piece)
			_ = append(first, "####"...)
			first = first[:cap(first)]
			for i := range first {
				first[i] = '#'
			}
			if string(second) != h.text {
				t.Errorf("two that were told share memory: %.20q", second)
			}
		}
		are(t, "written into", c, l, 0, 1, 2)
		if filed(d) != was {
			t.Error("the disk is changed by what was told")
		}
	}
	are(t, "written into, opened again", Open(d, 3), l, 0, 1, 2)
}

// 16: methods of nil, and of a Cache that Open did not make.
func TestNil(t *testing.T) {
	for _, c := range []*Cache{nil, {}} {
		for _, h := range append(turns(), held{"", 0, ""}, held{"a", -1, ""}, held{"a", 0, text(513)}) {
			h.put(c)
			none(t, "nil", c, h.name, h.piece)
			counts(t, "nil", c, 0)
		}
	}
}
