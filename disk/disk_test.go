package disk

import (
	"bytes"
	"fmt"
	"math"
	"math/rand/v2"
	"slices"
	"strings"
	"testing"

	"icebox/api"
)

const wide = 1 << 30 // room for all that a test writes

func fresh() *Disk {
	return New(api.Plan{Room: wide})
}

func text(n int) string {
	return strings.Repeat("x", n)
}

// ok asks that all of l are OK.
func ok(t *testing.T, l ...api.Errno) {
	t.Helper()
	for i, e := range l {
		if e != api.OK {
			t.Fatalf("call %d: error %d", i, e)
		}
	}
}

func is(t *testing.T, what string, got, want api.Errno) {
	t.Helper()
	if got != want {
		t.Errorf("%s: error %d, not %d", what, got, want)
	}
}

// told is the files of d, each with its bytes and how many of them are loose.
func told(d *Disk) string {
	var l []string
	for _, f := range d.Files() {
		l = append(l, fmt.Sprintf("%s=%s/%d", f.Name, f.Data, f.Loose))
	}
	return strings.Join(l, " ")
}

func has(t *testing.T, what string, d *Disk, want string) {
	t.Helper()
	if got := told(d); got != want {
		t.Errorf("%s: %q, not %q", what, got, want)
	}
}

// with is a disk with one file, a, that has s as a loose write.
func with(t *testing.T, s string) *Disk {
	t.Helper()
	d := fresh()
	ok(t, d.Make("a"), d.Write("a", 0, []byte(s)))
	return d
}

// call is one of the calls that change.
type call struct {
	what string
	do   func(*Disk) api.Errno
}

func makes(name string) call {
	return call{"Make " + name, func(d *Disk) api.Errno { return d.Make(name) }}
}

func writes(name string, at int, s string) call {
	return call{fmt.Sprintf("Write %s %d %.20s", name, at, s), func(d *Disk) api.Errno { return d.Write(name, at, []byte(s)) }}
}

func safe(name string) call {
	return call{"Safe " + name, func(d *Disk) api.Errno { return d.Safe(name) }}
}

func moves(from, to string) call {
	return call{"Move " + from + " " + to, func(d *Disk) api.Errno { return d.Move(from, to) }}
}

func goes(name string) call {
	return call{"Gone " + name, func(d *Disk) api.Errno { return d.Gone(name) }}
}

func names() call {
	return call{"Names", (*Disk).Names}
}

func reads(name string, at, n int) call {
	return call{fmt.Sprintf("Read %s %d %d", name, at, n), func(d *Disk) api.Errno {
		_, e := d.Read(name, at, n)
		return e
	}}
}

func run(t *testing.T, d *Disk, l ...call) {
	t.Helper()
	for _, c := range l {
		if e := c.do(d); e != api.OK {
			t.Fatalf("%s: error %d", c.what, e)
		}
	}
}

// Names: each byte that may be, and each length.
func TestNames(t *testing.T) {
	const may = "abcdefghijklmnopqrstuvwxyz0123456789-."
	for i := range 256 {
		want := api.OK
		if !strings.Contains(may, string([]byte{byte(i)})) {
			want = api.ErrArg
		}
		c := string([]byte{byte(i)})
		for _, name := range []string{c, "z" + c, c + "z", "z" + c + "9", text(39) + c, c + text(39)} {
			is(t, fmt.Sprintf("Make %q", name), fresh().Make(name), want)
			d := fresh()
			ok(t, d.Make("from"))
			is(t, fmt.Sprintf("Move to %q", name), d.Move("from", name), want)
			if _, there := d.Size(name); there != (want == api.OK) {
				t.Errorf("Move to %q: Size tells %v", name, there)
			}
		}
	}
	for n, want := range map[int]api.Errno{0: api.ErrArg, 1: api.OK, 2: api.OK, 39: api.OK, 40: api.OK, 41: api.ErrArg, 80: api.ErrArg, 1 << 16: api.ErrArg} {
		d := fresh()
		is(t, fmt.Sprint("Make of a name of ", n), d.Make(text(n)), want)
		d = fresh()
		ok(t, d.Make("from"))
		is(t, fmt.Sprint("Move to a name of ", n), d.Move("from", text(n)), want)
	}
	is(t, "bytes are counted, not letters", fresh().Make(strings.Repeat("é", 20)), api.ErrArg)
	is(t, "all that may be", fresh().Make(may), api.OK)
	is(t, "a name of a dot", fresh().Make("."), api.OK)
}

// 4.1: a file that is made is empty; a name is made once, but anew when it is gone.
func TestMake(t *testing.T) {
	d := fresh()
	ok(t, d.Make("b"), d.Make("a"))
	has(t, "Make", d, "a=/0 b=/0")
	ok(t, d.Write("a", 0, []byte("xyz")))
	is(t, "Make again", d.Make("a"), api.ErrHave)
	has(t, "Make again", d, "a=xyz/3 b=/0")
	ok(t, d.Gone("a"), d.Make("a"))
	has(t, "Make of a name that was gone", d, "a=/0 b=/0")
	ok(t, d.Write("a", 0, []byte("new")), d.Safe("a"), d.Move("a", "c"), d.Make("a"))
	has(t, "Make of a name that was moved", d, "a=/0 b=/0 c=new/0")
	is(t, "Make of what a Move made", d.Make("c"), api.ErrHave)
	if d.Calls() != 9 {
		t.Error("Calls:", d.Calls())
	}
}

// 4.1: where a Write may be, and what it does.
func TestWrite(t *testing.T) {
	for _, c := range []struct {
		at   int
		b    string
		want string
		e    api.Errno
	}{
		{0, "", "hello/5", api.OK},
		{3, "", "hello/5", api.OK},
		{5, "", "hello/5", api.OK},
		{0, "J", "Jello/6", api.OK},
		{1, "ipp", "hippo/8", api.OK},
		{4, "!", "hell!/6", api.OK},
		{4, "!?", "hell!?/7", api.OK},
		{5, "!", "hello!/6", api.OK},
		{5, "\x00\xff", "hello\x00\xff/7", api.OK},
		{0, "greetings", "greetings/14", api.OK},
		{0, "hello", "hello/10", api.OK},
		{6, "!", "hello/5", api.ErrArg},
		{6, "", "hello/5", api.ErrArg},
		{-1, "!", "hello/5", api.ErrArg},
		{-1, "", "hello/5", api.ErrArg},
		{-5, "!", "hello/5", api.ErrArg},
		{math.MinInt, "!", "hello/5", api.ErrArg},
		{math.MaxInt, "!", "hello/5", api.ErrArg},
		{math.MaxInt, "", "hello/5", api.ErrArg},
	} {
		for _, rest := range []string{"", " b=/0"} {
			d := with(t, "hello")
			if rest != "" {
				ok(t, d.Make("b"))
			}
			calls := d.Calls()
			is(t, fmt.Sprint("Write ", c.at, c.b), d.Write("a", c.at, []byte(c.b)), c.e)
			has(t, fmt.Sprint("Write ", c.at, c.b), d, "a="+c.want+rest)
			if counted := d.Calls() - calls; counted != 1 && c.e == api.OK || counted != 0 && c.e != api.OK {
				t.Error("Write", c.at, c.b, ": Calls", counted)
			}
		}
	}
	d := fresh()
	is(t, "of no file", d.Write("a", 0, nil), api.ErrNone)
	ok(t, d.Make("a"), d.Write("a", 0, nil), d.Write("a", 0, []byte{}))
	is(t, "behind the end of nothing", d.Write("a", 1, nil), api.ErrArg)
	has(t, "of nothing", d, "a=/0")
}

// 4.1: up to MaxFile, and beyond it.
func TestWriteLarge(t *testing.T) {
	most := api.MaxFile
	for i, c := range []struct {
		first, at, n int
		e            api.Errno
	}{
		{0, 0, most, api.OK},
		{0, 0, most + 1, api.ErrLarge},
		{0, 0, 2 * most, api.ErrLarge},
		{most - 1, most - 1, 1, api.OK},
		{most - 1, most - 1, 2, api.ErrLarge},
		{most - 1, most - 2, 2, api.OK},
		{most - 1, most - 2, 3, api.ErrLarge},
		{most, most, 0, api.OK},
		{most, most, 1, api.ErrLarge},
		{most, most + 1, 0, api.ErrArg},
		{most, most + 1, 1, api.ErrArg},
		{most, 0, most, api.OK},
		{most, 1, most, api.ErrLarge},
		{most, most - 1, 1, api.OK},
		{7, 7, most - 7, api.OK},
		{7, 7, most - 6, api.ErrLarge},
		{7, 3, most - 3, api.OK},
		{7, 8, most, api.ErrArg},
	} {
		d := fresh()
		ok(t, d.Make("a"), d.Write("a", 0, make([]byte, c.first)))
		is(t, fmt.Sprint("case ", i), d.Write("a", c.at, make([]byte, c.n)), c.e)
		want := c.first
		if c.e == api.OK {
			want = max(want, c.at+c.n)
		}
		if n, there := d.Size("a"); n != want || !there {
			t.Errorf("case %d: Size %d, %v, not %d", i, n, there, want)
		}
	}
}

// 4.1: each file may have MaxFile bytes: it is no bound of all together.
func TestWriteManyLarge(t *testing.T) {
	d := New(api.Plan{Room: 3 * api.MaxFile})
	for _, name := range []string{"a", "b", "c"} {
		ok(t, d.Make(name), d.Write(name, 0, make([]byte, api.MaxFile)))
	}
	ok(t, d.Make("d"), d.Write("d", 0, nil))
	is(t, "one byte more", d.Write("d", 0, []byte("x")), api.ErrFull)
}

// 4.1: a Room that is just enough, and one byte too small, beside other files.
func TestRoom(t *testing.T) {
	for _, other := range []int{0, 1, 5} {
		for _, short := range []int{0, 1} {
			want := api.OK
			if short == 1 {
				want = api.ErrFull
			}
			for _, c := range []struct{ first, at, n int }{{0, 0, 1}, {0, 0, 9}, {4, 4, 1}, {4, 2, 5}, {4, 0, 7}} {
				d := New(api.Plan{Room: other + c.at + c.n - short})
				if other > 0 {
					ok(t, d.Make("b"), d.Write("b", 0, []byte(text(other-1))), d.Make("c"), d.Write("c", 0, []byte("x")), d.Safe("c"), d.Names())
				}
				ok(t, d.Make("a"), d.Write("a", 0, make([]byte, c.first)))
				calls := d.Calls()
				is(t, fmt.Sprint(other, short, c), d.Write("a", c.at, make([]byte, c.n)), want)
				if want != api.OK && d.Calls() != calls {
					t.Error("a Write without room is counted")
				}
			}
		}
	}
}

// 4.1: bytes written over take no more room, nor do loose ones; a full disk still takes what makes it no greater.
func TestRoomOver(t *testing.T) {
	d := New(api.Plan{Room: 4})
	ok(t, d.Make("a"), d.Write("a", 0, []byte("1234")))
	for range 9 {
		ok(t, d.Write("a", 0, []byte("abcd")), d.Write("a", 4, nil), d.Write("a", 3, []byte("z")))
	}
	is(t, "at the end", d.Write("a", 4, []byte("5")), api.ErrFull)
	is(t, "over the end", d.Write("a", 3, []byte("45")), api.ErrFull)
	has(t, "full", d, "a=abcz/49")
	ok(t, d.Make("b"), d.Write("b", 0, nil), d.Safe("a"), d.Move("b", "c"), d.Names())
	is(t, "another file", d.Write("c", 0, []byte("1")), api.ErrFull)
	has(t, "full", d, "a=abcz/0 c=/0")
}

// 4.1: files that are gone, or moved over, take no room, though a fall may bring them back.
func TestRoomAgain(t *testing.T) {
	for _, settled := range []bool{false, true} {
		d := New(api.Plan{Room: 6})
		ok(t, d.Make("a"), d.Make("b"), d.Write("a", 0, []byte("1234")), d.Write("b", 0, []byte("56")))
		if settled {
			ok(t, d.Safe("a"), d.Safe("b"), d.Names())
		}
		is(t, "full", d.Write("b", 2, []byte("7")), api.ErrFull)
		ok(t, d.Move("b", "a"), d.Write("a", 2, []byte("7890")))
		is(t, "full again", d.Write("a", 6, []byte("1")), api.ErrFull)
		has(t, "moved over", d, map[bool]string{false: "a=567890/6", true: "a=567890/4"}[settled])
		ok(t, d.Gone("a"), d.Make("c"), d.Write("c", 0, []byte("123456")))
		is(t, "full once more", d.Write("c", 6, []byte("1")), api.ErrFull)
		has(t, "gone", d, "c=123456/6")
	}
	d := New(api.Plan{Room: 6})
	ok(t, d.Make("a"), d.Write("a", 0, []byte("1234")), d.Move("a", "a"))
	is(t, "a Move to itself frees nothing", d.Write("a", 4, []byte("567")), api.ErrFull)
	ok(t, d.Move("a", "b"), d.Make("a"))
	is(t, "nor does a Move", d.Write("a", 0, []byte("567")), api.ErrFull)
	ok(t, d.Write("a", 0, []byte("56")))
}

// 4.1: Room of nothing, below nothing, and less than there is already: all files together would have more.
func TestRoomNone(t *testing.T) {
	d := New(api.Plan{})
	ok(t, d.Make("a"), d.Write("a", 0, nil))
	is(t, "Room 0", d.Write("a", 0, []byte("1")), api.ErrFull)
	for _, room := range []int{-1, math.MinInt} {
		d = New(api.Plan{Room: room})
		ok(t, d.Make("a"))
		is(t, "Room below 0", d.Write("a", 0, []byte("1")), api.ErrFull)
		is(t, "Room below 0, of no bytes", d.Write("a", 0, nil), api.ErrFull)
	}
	d = New(api.Plan{Room: math.MaxInt})
	ok(t, d.Make("a"), d.Write("a", 0, []byte("1")))
	d = with(t, "12345")
	ok(t, d.Safe("a"), d.Names())
	d.Fall(api.Plan{Room: 4})
	is(t, "less Room", d.Write("a", 0, []byte("1")), api.ErrFull)
	is(t, "less Room, of no bytes", d.Write("a", 0, nil), api.ErrFull)
	ok(t, d.Make("b"), d.Safe("a"), d.Gone("a"), d.Write("b", 0, []byte("1234")))
}

// 4.1: Safe makes writes safe, of that file alone, and no names.
func TestSafe(t *testing.T) {
	d := fresh()
	ok(t, d.Make("a"), d.Make("b"), d.Names(), d.Write("a", 0, []byte("aa")), d.Write("b", 0, []byte("bb")), d.Make("c"), d.Write("c", 0, []byte("cc")))
	ok(t, d.Safe("a"), d.Safe("c"), d.Safe("c"))
	has(t, "Safe", d, "a=aa/0 b=bb/2 c=cc/0")
	ok(t, d.Write("a", 1, []byte("AB")))
	has(t, "behind Safe", d, "a=aAB/2 b=bb/2 c=cc/0")
	c := d.Copy()
	d.Fall(api.Plan{})
	has(t, "a fall without names", d, "a=aa/0 b=/0")
	c.Fall(api.Plan{Names: 1})
	has(t, "a fall with names", c, "a=aa/0 b=/0 c=cc/0")
	is(t, "Safe of none", d.Safe("c"), api.ErrNone)
	is(t, "Safe of no name", d.Safe(""), api.ErrNone)
}

// 4.1: what is safe stays with the file, whatever name it has then.
func TestSafeThenMove(t *testing.T) {
	d := fresh()
	run(t, d, makes("a"), writes("a", 0, "one"), safe("a"), moves("a", "b"), writes("b", 3, "two"), safe("b"), writes("b", 6, "three"), makes("a"), names())
	has(t, "moved", d, "a=/0 b=onetwothree/5")
	d.Fall(api.Plan{Room: wide, Keep: []int{9, 2}})
	has(t, "fallen", d, "a=/0 b=onetwoth/0")
}

// 4.1: Move to a new name, to one that is taken, to the name that it is.
func TestMove(t *testing.T) {
	start := func() *Disk {
		d := fresh()
		run(t, d, makes("a"), makes("b"), writes("a", 0, "aa"), writes("b", 0, "bbb"), safe("b"), names())
		return d
	}
	for i, c := range []struct {
		from, to string
		e        api.Errno
		want     string
		fallen   string // with the change of names that is loose, without the loose writes
	}{
		{"a", "c", api.OK, "b=bbb/0 c=aa/2", "b=bbb/0 c=/0"},
		{"a", "b", api.OK, "b=aa/2", "b=/0"},
		{"b", "a", api.OK, "a=bbb/0", "a=bbb/0"},
		{"a", "a", api.OK, "a=aa/2 b=bbb/0", "a=/0 b=bbb/0"},
		{"b", "b", api.OK, "a=aa/2 b=bbb/0", "a=/0 b=bbb/0"},
		{"c", "c", api.ErrNone, "a=aa/2 b=bbb/0", "a=/0 b=bbb/0"},
		{"c", "a", api.ErrNone, "a=aa/2 b=bbb/0", "a=/0 b=bbb/0"},
		{"", "a", api.ErrNone, "a=aa/2 b=bbb/0", "a=/0 b=bbb/0"},
		{"A", "a", api.ErrNone, "a=aa/2 b=bbb/0", "a=/0 b=bbb/0"},
		{"a", "A", api.ErrArg, "a=aa/2 b=bbb/0", "a=/0 b=bbb/0"},
		{"a", "", api.ErrArg, "a=aa/2 b=bbb/0", "a=/0 b=bbb/0"},
		{"c", "", api.ErrArg, "a=aa/2 b=bbb/0", "a=/0 b=bbb/0"},
		{"", "", api.ErrArg, "a=aa/2 b=bbb/0", "a=/0 b=bbb/0"},
		{"A", "A", api.ErrArg, "a=aa/2 b=bbb/0", "a=/0 b=bbb/0"},
	} {
		what := fmt.Sprintf("case %d, Move %q %q", i, c.from, c.to)
		d := start()
		is(t, what, d.Move(c.from, c.to), c.e)
		has(t, what, d, c.want)
		if counted := d.Calls() - 6; counted != 1 && c.e == api.OK || counted != 0 && c.e != api.OK {
			t.Error(what, "Calls:", counted)
		}
		other := d.Copy()
		d.Fall(api.Plan{Names: 1})
		has(t, what+", fallen", d, c.fallen)
		other.Fall(api.Plan{})
		has(t, what+", fallen without it", other, "a=/0 b=bbb/0")
	}
}

// 4.1: a Move to itself is a loose change as well: it counts among those of which a fall keeps some.
func TestMoveToItself(t *testing.T) {
	for n, want := range []string{"a=xy/0", "a=xy/0", "", "a=xy/0"} {
		d := with(t, "xy")
		ok(t, d.Safe("a"), d.Names(), d.Move("a", "a"), d.Gone("a"))
		d.Fall(api.Plan{Names: n})
		has(t, fmt.Sprint("Names ", n), d, want)
	}
}

// 4.1: Gone takes a file away, of that name alone.
func TestGone(t *testing.T) {
	d := fresh()
	run(t, d, makes("a"), makes("b"), writes("a", 0, "aa"), writes("b", 0, "bb"), goes("a"))
	has(t, "Gone", d, "b=bb/2")
	for _, name := range []string{"a", "c", "", "A", text(41)} {
		is(t, "Gone of none", d.Gone(name), api.ErrNone)
	}
	is(t, "Write of what is gone", d.Write("a", 0, nil), api.ErrNone)
	is(t, "Safe of what is gone", d.Safe("a"), api.ErrNone)
	is(t, "Move of what is gone", d.Move("a", "b"), api.ErrNone)
	if b, e := d.Read("a", 0, 1); e != api.ErrNone || b != nil {
		t.Error("Read of what is gone:", b, e)
	}
	if n, there := d.Size("a"); n != 0 || there {
		t.Error("Size of what is gone:", n, there)
	}
	if d.Calls() != 5 {
		t.Error("Calls:", d.Calls())
	}
}

// 4.1: of several errors the first that is named, in each call's own order.
func TestErrorsInOrder(t *testing.T) {
	huge := text(api.MaxFile + 1)
	for _, c := range []struct {
		call call
		e    api.Errno
	}{
		{makes(""), api.ErrArg},
		{makes("A"), api.ErrArg},
		{makes("a"), api.ErrHave},
		{writes("", 0, ""), api.ErrNone},
		{writes("A", -1, huge), api.ErrNone},
		{writes("z", -1, huge), api.ErrNone},
		{writes("z", 9, ""), api.ErrNone},
		{writes("z", 0, huge), api.ErrNone},
		{writes("z", 0, "too long for the room"), api.ErrNone},
		{writes("a", -1, huge), api.ErrArg},
		{writes("a", 4, huge), api.ErrArg},
		{writes("a", 4, "too long for the room"), api.ErrArg},
		{writes("a", 3, huge), api.ErrLarge},
		{writes("a", 0, huge), api.ErrLarge},
		{writes("a", 3, huge[:api.MaxFile-3]), api.ErrFull},
		{writes("a", 3, "12"), api.ErrFull},
		{writes("a", 3, "1"), api.OK},
		{safe("z"), api.ErrNone},
		{moves("z", "A"), api.ErrArg},
		{moves("z", "y"), api.ErrNone},
		{goes("z"), api.ErrNone},
		{reads("z", -1, -1), api.ErrNone},
		{reads("a", -1, -1), api.ErrArg},
		{reads("a", 4, 1), api.ErrArg},
		{reads("a", 0, -1), api.ErrArg},
		{reads("a", 3, 1), api.OK},
	} {
		for _, crash := range []int{0, 3} {
			d := New(api.Plan{Room: 4, Crash: crash})
			ok(t, d.Make("a"), d.Write("a", 0, []byte("abc")))
			want, counted := c.e, 2
			if c.e == api.OK && c.call.what[0] != 'R' {
				counted = 3
				if crash == 3 {
					want = api.ErrDown
				}
			}
			is(t, c.call.what, c.call.do(d), want)
			if d.Calls() != counted || d.Down() != (want == api.ErrDown) {
				t.Error(c.call.what, "with Crash", crash, "Calls:", d.Calls(), "Down:", d.Down())
			}
		}
	}
}

// each is all calls that change, each of which may be the last, with what the disk has ahead of it and behind it.
func each() []struct {
	call   call
	before string
	after  string
	fallen string // behind a fall that keeps all, if it is not done
	done   string // if it is
} {
	return []struct {
		call                        call
		before, after, fallen, done string
	}{
		{makes("c"), "a=abc/2 b=b/1", "a=abc/2 b=b/1 c=/0", "a=abc/0 b=b/0", "a=abc/0 b=b/0 c=/0"},
		{writes("a", 1, "XYZ"), "a=abc/2 b=b/1", "a=aXYZ/5 b=b/1", "a=abc/0 b=b/0", "a=aXYZ/0 b=b/0"},
		{writes("a", 3, ""), "a=abc/2 b=b/1", "a=abc/2 b=b/1", "a=abc/0 b=b/0", "a=abc/0 b=b/0"},
		{safe("a"), "a=abc/2 b=b/1", "a=abc/0 b=b/1", "a=abc/0 b=b/0", "a=abc/0 b=b/0"},
		{moves("a", "b"), "a=abc/2 b=b/1", "b=abc/2", "a=abc/0 b=b/0", "b=abc/0"},
		{moves("a", "a"), "a=abc/2 b=b/1", "a=abc/2 b=b/1", "a=abc/0 b=b/0", "a=abc/0 b=b/0"},
		{goes("a"), "a=abc/2 b=b/1", "b=b/1", "a=abc/0 b=b/0", "b=b/0"},
		{names(), "a=abc/2 b=b/1", "a=abc/2 b=b/1", "a=abc/0 b=b/0", "a=abc/0 b=b/0"},
	}
}

func eachStart(t *testing.T, p api.Plan) *Disk {
	t.Helper()
	d := New(p)
	run(t, d, makes("a"), writes("a", 0, "a"), safe("a"), names(), writes("a", 1, "bc"), makes("b"), writes("b", 0, "b"))
	return d
}

// 4.2: the change of the number Crash is done still, or not; in either case it tells ErrDown, and the disk is down.
func TestCrash(t *testing.T) {
	for _, c := range each() {
		for _, done := range []bool{false, true} {
			what := fmt.Sprint(c.call.what, ", Done ", done)
			d := eachStart(t, api.Plan{Room: wide, Crash: 8, Done: done})
			has(t, what+", ahead", d, c.before)
			if d.Down() || d.Calls() != 7 {
				t.Error(what, "ahead: Down:", d.Down(), "Calls:", d.Calls())
			}
			want, fallen := c.before, c.fallen
			if done {
				want, fallen = c.after, c.done
			}
			is(t, what, c.call.do(d), api.ErrDown)
			has(t, what, d, want)
			if !d.Down() || d.Calls() != 8 {
				t.Error(what, "Down:", d.Down(), "Calls:", d.Calls())
			}
			keepAll(d)
			has(t, what+", fallen", d, fallen)
			if d.Down() || d.Calls() != 0 {
				t.Error(what, "fallen: Down:", d.Down(), "Calls:", d.Calls())
			}
		}
	}
}

// keepAll falls in such a way that nothing that is loose is lost.
func keepAll(d *Disk) {
	p := api.Plan{Names: len(d.loose)}
	for _, f := range d.Files() {
		p.Keep = append(p.Keep, f.Loose)
	}
	d.Fall(p)
}

// 4.2: Safe and Names that are the last and done count in the fall: what they made safe is not lost; else it is.
func TestCrashOfSafe(t *testing.T) {
	for _, done := range []bool{false, true} {
		for i, c := range []struct {
			call      call
			not, does string
		}{
			{safe("a"), "a=a/0", "a=abc/0"},
			{safe("b"), "a=a/0", "a=a/0"},
			{names(), "a=a/0", "a=a/0 b=/0"},
		} {
			d := eachStart(t, api.Plan{Room: wide, Crash: 8, Done: done})
			is(t, c.call.what, c.call.do(d), api.ErrDown)
			d.Fall(api.Plan{})
			want := c.not
			if done {
				want = c.does
			}
			has(t, fmt.Sprint("case ", i, ", Done ", done), d, want)
		}
	}
}

// 4.2: Crash at each call, and below 1 never.
func TestCrashAtEach(t *testing.T) {
	l := []call{makes("a"), writes("a", 0, "xy"), safe("a"), moves("a", "b"), names(), writes("b", 2, "z"), goes("b"), makes("c"), moves("c", "c")}
	for crash := range len(l) + 2 {
		for _, done := range []bool{false, true} {
			d := New(api.Plan{Room: 9, Crash: crash, Done: done})
			// ahead has the same calls without a crash: up to the last one, and with it if it is done.
			ahead := New(api.Plan{Room: 9})
			for i, c := range l {
				want := api.OK
				if crash > 0 && i+1 >= crash {
					want = api.ErrDown
				}
				is(t, fmt.Sprint(c.what, ", Crash ", crash), c.do(d), want)
				if want == api.OK || i+1 == crash && done {
					run(t, ahead, c)
				}
				has(t, fmt.Sprint(c.what, ", Crash ", crash, " ", done), d, told(ahead))
			}
			down := crash > 0 && crash <= len(l)
			calls := len(l)
			if down {
				calls = crash
			}
			if d.Down() != down || d.Calls() != calls {
				t.Error("Crash", crash, "Down:", d.Down(), "Calls:", d.Calls())
			}
		}
	}
	for _, crash := range []int{0, -1, -2, math.MinInt} {
		d := New(api.Plan{Room: 9, Crash: crash, Done: true})
		run(t, d, l...)
		if d.Down() || d.Calls() != len(l) {
			t.Error("Crash", crash, "Down:", d.Down(), "Calls:", d.Calls())
		}
	}
}

// 4.2: what has an error, and what tells alone, is not counted, and does not take the disk down.
func TestNotCounted(t *testing.T) {
	d := New(api.Plan{Room: 3, Crash: 3})
	ok(t, d.Make("a"), d.Write("a", 0, []byte("abc")))
	for range 3 {
		is(t, "Make", d.Make("a"), api.ErrHave)
		is(t, "Make", d.Make("A"), api.ErrArg)
		is(t, "Write", d.Write("b", 0, nil), api.ErrNone)
		is(t, "Write", d.Write("a", 4, nil), api.ErrArg)
		is(t, "Write", d.Write("a", 1, make([]byte, api.MaxFile)), api.ErrLarge)
		is(t, "Write", d.Write("a", 3, []byte("d")), api.ErrFull)
		is(t, "Safe", d.Safe("b"), api.ErrNone)
		is(t, "Move", d.Move("b", "a"), api.ErrNone)
		is(t, "Move", d.Move("a", ""), api.ErrArg)
		is(t, "Gone", d.Gone("b"), api.ErrNone)
		if _, e := d.Read("a", 0, 3); e != api.OK {
			t.Error("Read:", e)
		}
		d.Size("a")
		d.Files()
		d.Copy()
		if d.Calls() != 2 || d.Down() {
			t.Fatal("Calls:", d.Calls(), "Down:", d.Down())
		}
	}
	is(t, "the third", d.Safe("a"), api.ErrDown)
	if d.Calls() != 3 || !d.Down() {
		t.Error("Calls:", d.Calls(), "Down:", d.Down())
	}
}

// 4.1, 4.2: once it is down all calls that change, or Read, tell ErrDown ahead of all else, and nothing changes.
func TestDown(t *testing.T) {
	d := New(api.Plan{Room: 5, Crash: 5, Done: true})
	run(t, d, makes("b"), makes("a"), writes("a", 0, "abc"), safe("a"))
	is(t, "the last one", d.Write("a", 3, []byte("de")), api.ErrDown)
	for range 2 {
		for _, c := range []call{
			makes("c"), makes("a"), makes(""), makes("A"),
			writes("a", 0, "x"), writes("a", 0, ""), writes("a", 9, "x"), writes("a", -1, ""), writes("c", 0, ""), writes("a", 5, "full"), writes("a", 0, text(api.MaxFile+1)),
			safe("a"), safe("c"),
			moves("a", "c"), moves("a", "a"), moves("c", "d"), moves("a", ""),
			goes("a"), goes("c"),
			names(),
			reads("a", 0, 1), reads("a", 0, 0), reads("a", 9, 1), reads("a", 0, -1), reads("c", 0, 1),
		} {
			is(t, c.what, c.do(d), api.ErrDown)
			has(t, c.what, d, "a=abcde/2 b=/0")
			if !d.Down() || d.Calls() != 5 {
				t.Fatal(c.what, "Down:", d.Down(), "Calls:", d.Calls())
			}
		}
		if b, e := d.Read("a", 0, 3); b != nil || e != api.ErrDown {
			t.Error("Read:", b, e)
		}
		for name, size := range map[string]int{"a": 5, "b": 0} {
			if n, there := d.Size(name); n != size || !there {
				t.Error("Size", name, n, there)
			}
		}
		if n, there := d.Size("c"); n != 0 || there {
			t.Error("Size of none", n, there)
		}
		d = d.Copy()
	}
}

// 4.2: so many bytes, as far as there are some.
func TestRead(t *testing.T) {
	for _, c := range []struct {
		at, n int
		want  string
		e     api.Errno
	}{
		{0, 0, "", api.OK},
		{0, 1, "h", api.OK},
		{0, 4, "heLL", api.OK},
		{0, 5, "heLLo", api.OK},
		{0, 6, "heLLo", api.OK},
		{2, 2, "LL", api.OK},
		{1, 4, "eLLo", api.OK},
		{3, 99, "Lo", api.OK},
		{4, 1, "o", api.OK},
		{4, 0, "", api.OK},
		{5, 0, "", api.OK},
		{5, 1, "", api.OK},
		{1, math.MaxInt, "eLLo", api.OK},
		{5, math.MaxInt, "", api.OK},
		{6, 0, "", api.ErrArg},
		{6, 1, "", api.ErrArg},
		{-1, 0, "", api.ErrArg},
		{-1, 3, "", api.ErrArg},
		{0, -1, "", api.ErrArg},
		{5, -1, "", api.ErrArg},
		{math.MinInt, 1, "", api.ErrArg},
		{math.MaxInt, 1, "", api.ErrArg},
		{0, math.MinInt, "", api.ErrArg},
		{math.MaxInt, math.MaxInt, "", api.ErrArg},
	} {
		for _, settled := range []bool{false, true} {
			d := fresh()
			run(t, d, makes("b"), writes("b", 0, "other"), makes("a"), writes("a", 0, "hell"), safe("a"), writes("a", 4, "o"), writes("a", 2, "LL"))
			if settled {
				run(t, d, safe("a"), names())
			}
			b, e := d.Read("a", c.at, c.n)
			if string(b) != c.want || e != c.e || e != api.OK && b != nil {
				t.Errorf("Read %d %d = %q, %d", c.at, c.n, b, e)
			}
			if b, e := d.Read("c", c.at, c.n); b != nil || e != api.ErrNone {
				t.Errorf("Read of none %d %d = %q, %d", c.at, c.n, b, e)
			}
		}
	}
	d := fresh()
	ok(t, d.Make("a"))
	for _, n := range []int{0, 1, math.MaxInt} {
		if b, e := d.Read("a", 0, n); len(b) != 0 || e != api.OK {
			t.Error("Read of an empty file:", b, e)
		}
	}
	if _, e := d.Read("a", 1, 0); e != api.ErrArg {
		t.Error("Read behind the end of an empty file:", e)
	}
}

// 4.2: bytes of all kinds are read as they were written.
func TestReadBytes(t *testing.T) {
	all := make([]byte, 256)
	for i := range all {
		all[i] = byte(i)
	}
	d := fresh()
	ok(t, d.Make("a"), d.Write("a", 0, all))
	for i := range 2 {
		b, e := d.Read("a", 0, 999)
		if !bytes.Equal(b, all) || e != api.OK || d.Files()[0].Data != string(all) {
			t.Errorf("%d: Read = %v, %d", i, b, e)
		}
		ok(t, d.Safe("a"), d.Names())
		d.Fall(api.Plan{Room: wide})
	}
}

// 4.2: Files by rising names, byte by byte, whatever the order in which they were made.
func TestFiles(t *testing.T) {
	want := []string{"-", "-a", ".", "0", "01", "1", "9", "a", "a-", "a.", "a0", "aa", "ab", "b", "z", text(39), text(40), "y", "zz"}
	made := slices.Clone(want)
	slices.Sort(want)
	for turn := range made {
		d := fresh()
		for i := range made {
			name := made[(i*7+turn)%len(made)]
			ok(t, d.Make(name), d.Write(name, 0, []byte(name)))
		}
		l := d.Files()
		if len(l) != len(want) {
			t.Fatal("Files:", l)
		}
		for i, f := range l {
			if f != (api.File{Name: want[i], Data: want[i], Loose: len(want[i])}) {
				t.Error("Files", i, f)
			}
			if n, there := d.Size(want[i]); n != len(want[i]) || !there {
				t.Error("Size", want[i], n, there)
			}
		}
	}
	if l := fresh().Files(); len(l) != 0 {
		t.Error("Files of a new disk:", l)
	}
}

// 4.2: Loose is how many bytes the loose writes have together, those written over too.
func TestLoose(t *testing.T) {
	d := fresh()
	ok(t, d.Make("a"))
	sum := 0
	for i := range 9 {
		ok(t, d.Write("a", 0, []byte(text(i))), d.Write("a", i, nil))
		sum += i
		if f := d.Files()[0]; f.Loose != sum || f.Data != text(i) {
			t.Error("Files", f, "and not", sum)
		}
	}
	ok(t, d.Names())
	has(t, "Names makes no writes safe", d, "a="+text(8)+"/36")
	ok(t, d.Safe("a"))
	has(t, "Safe", d, "a="+text(8)+"/0")
}

// 4.3: of the changes of names the first ones, by the number modulo how many there are and one.
func TestFallNames(t *testing.T) {
	l := []call{makes("c"), moves("a", "d"), goes("b"), makes("b"), moves("c", "a"), moves("d", "b"), moves("b", "b"), goes("a")}
	kept := []string{
		"a=aa/0 b=bb/0",
		"a=aa/0 b=bb/0 c=/0",
		"b=bb/0 c=/0 d=aa/0",
		"c=/0 d=aa/0",
		"b=/0 c=/0 d=aa/0",
		"a=/0 b=/0 d=aa/0",
		"a=/0 b=aa/0",
		"a=/0 b=aa/0",
		"b=aa/0",
	}
	for n := range len(l) + 1 {
		for _, turns := range []int{0, 1, 2, 1000003} {
			for k := range n + 1 {
				d := fresh()
				run(t, d, makes("a"), writes("a", 0, "aa"), safe("a"), makes("b"), writes("b", 0, "bb"), safe("b"), names())
				run(t, d, l[:n]...)
				d.Fall(api.Plan{Names: k + turns*(n+1)})
				has(t, fmt.Sprint(n, " changes, Names ", k, " and ", turns, " turns"), d, kept[k])
			}
		}
		for _, below := range []int{-1, -2, -n, -n - 1, -n - 2, math.MinInt, math.MinInt + 1} {
			d := fresh()
			run(t, d, makes("a"), writes("a", 0, "aa"), safe("a"), makes("b"), writes("b", 0, "bb"), safe("b"), names())
			run(t, d, l[:n]...)
			d.Fall(api.Plan{Names: min(below, 0)})
			has(t, fmt.Sprint(n, " changes, Names ", below), d, kept[0])
		}
	}
	d := fresh()
	ok(t, d.Make("a"))
	d.Fall(api.Plan{Names: math.MaxInt})
	has(t, "the greatest Names, an odd number", d, "a=/0")
}

// 4.3: a file that is brought back has what it had, and its own loose writes.
func TestFallBack(t *testing.T) {
	for k, want := range []string{"a=old1/0 b=oth1/0", "a=oth1/0", "", "a=new1/0", "", "a=newe/0"} {
		d := fresh()
		run(t, d, makes("a"), writes("a", 0, "old"), safe("a"), makes("b"), writes("b", 0, "oth"), safe("b"), names())
		run(t, d, writes("a", 3, "12"), writes("b", 3, "12"), moves("b", "a"), goes("a"))
		run(t, d, makes("a"), writes("a", 0, "new"), safe("a"), writes("a", 3, "12"), goes("a"), makes("a"), writes("a", 0, "newest"), safe("a"), writes("a", 4, "12"))
		if k == 5 {
			want = "a=newe1t/0"
		}
		d.Fall(api.Plan{Names: k, Keep: []int{1}})
		has(t, fmt.Sprint("Names ", k), d, want)
	}
}

// 4.3: changes of names of a name that is there no more, and of one that is there anew.
func TestFallNamesGone(t *testing.T) {
	for k, want := range []string{"a=1/0", "b=1/0", "a=/0 b=1/0", "b=/0", "", "b=/0", "c=/0"} {
		d := fresh()
		run(t, d, makes("a"), writes("a", 0, "1"), safe("a"), names())
		run(t, d, moves("a", "b"), makes("a"), moves("a", "b"), goes("b"), makes("b"), moves("b", "c"))
		is(t, "Move of a name that is gone", d.Move("b", "d"), api.ErrNone)
		is(t, "Gone of a name that is gone", d.Gone("b"), api.ErrNone)
		d.Fall(api.Plan{Names: k})
		has(t, fmt.Sprint("Names ", k), d, want)
	}
}

// 4.3: Names makes all changes ahead of it safe, none behind it.
func TestFallBehindNames(t *testing.T) {
	d := fresh()
	run(t, d, makes("a"), moves("a", "b"), names(), goes("b"), makes("c"), makes("d"), names(), moves("c", "e"), goes("d"))
	for k, want := range []string{"c=/0 d=/0", "d=/0 e=/0", "e=/0", "c=/0 d=/0"} {
		c := d.Copy()
		c.Fall(api.Plan{Names: k})
		has(t, fmt.Sprint("Names ", k), c, want)
	}
}

// 4.3: of a file's loose bytes the first ones, by the number modulo how many there are and one; a write is cut.
func TestFallKeep(t *testing.T) {
	kept := []string{"safe", "Xafe", "XYfe", "XYfe", "XYfe1", "XYfe12", "XYQe12", "XYQR12", "XYQRS2", "XYQRST", "XYQRSTU"}
	m := len(kept) - 1
	start := func() *Disk {
		d := fresh()
		run(t, d, makes("a"), writes("a", 0, "safe"), safe("a"), names(), writes("a", 4, ""), writes("a", 0, "XY"), writes("a", 0, ""), writes("a", 3, "e12"), writes("a", 6, ""), writes("a", 2, "QRSTU"), writes("a", 7, ""))
		return d
	}
	has(t, "all of it", start(), "a=XYQRSTU/10")
	for k, want := range kept {
		for _, turns := range []int{0, 1, 2, 1000003} {
			d := start()
			d.Fall(api.Plan{Keep: []int{k + turns*(m+1)}})
			has(t, fmt.Sprint("Keep ", k, " and ", turns, " turns"), d, "a="+want+"/0")
		}
	}
	for _, keep := range [][]int{nil, {}, {0}, {-1}, {-2}, {-m}, {-m - 1}, {-m - 2}, {math.MinInt}, {math.MinInt + 1}, {m + 1}, {0, 3}, {-1, 3}} {
		d := start()
		d.Fall(api.Plan{Keep: keep})
		has(t, fmt.Sprint("Keep ", keep), d, "a=safe/0")
	}
	d := start()
	d.Fall(api.Plan{Keep: []int{math.MaxInt}})
	has(t, "the greatest Keep", d, "a="+kept[math.MaxInt%(m+1)]+"/0")
}

// 4.3: a write behind one that was cut is not done, wherever it stands.
func TestFallCut(t *testing.T) {
	for k, want := range []string{"", "1", "12", "123", "1234", "X234", "XY34", "XYZ4", "XYZ4!", "XYZ4!?"} {
		d := fresh()
		run(t, d, makes("a"), names(), writes("a", 0, "1234"), writes("a", 0, "XYZ"), writes("a", 4, "!?"))
		d.Fall(api.Plan{Keep: []int{k}})
		has(t, fmt.Sprint("Keep ", k), d, "a="+want+"/0")
	}
}

// 4.3: the i-th file takes the i-th number, round and round; files are counted by the names behind the fall.
func TestFallKeepOfEach(t *testing.T) {
	start := func() *Disk {
		d := fresh()
		for _, name := range []string{"d", "b", "a", "c"} {
			run(t, d, makes(name), writes(name, 0, "123"))
		}
		return d
	}
	for _, c := range []struct {
		names int
		keep  []int
		want  string
	}{
		{4, nil, "a=/0 b=/0 c=/0 d=/0"},
		{4, []int{1}, "a=1/0 b=1/0 c=1/0 d=1/0"},
		{4, []int{1, 2}, "a=1/0 b=12/0 c=1/0 d=12/0"},
		{4, []int{1, 2, 3}, "a=1/0 b=12/0 c=123/0 d=1/0"},
		{4, []int{3, 2, 1, 0}, "a=123/0 b=12/0 c=1/0 d=/0"},
		{4, []int{0, 0, 0, 3, 1, 1, 1}, "a=/0 b=/0 c=/0 d=123/0"},
		{4, []int{-1, 3, -1}, "a=/0 b=123/0 c=/0 d=/0"},
		{4, []int{4, 5, 6, 7}, "a=/0 b=1/0 c=12/0 d=123/0"},
		{3, []int{1, 2, 3}, "a=1/0 b=12/0 d=123/0"},
		{2, []int{1, 2, 3}, "b=1/0 d=12/0"},
		{1, []int{1, 2, 3}, "d=1/0"},
		{0, []int{1, 2, 3}, ""},
	} {
		d := start()
		d.Fall(api.Plan{Names: c.names, Keep: c.keep})
		has(t, fmt.Sprint("Names ", c.names, ", Keep ", c.keep), d, c.want)
	}
	d := start()
	run(t, d, safe("a"), safe("c"), goes("b"), makes("b"), makes("-"))
	d.Fall(api.Plan{Names: 7, Keep: []int{3, 3, 3, 3, 2}})
	has(t, "files without loose writes take their number too", d, "-=/0 a=123/0 b=/0 c=123/0 d=12/0")
	d = start()
	run(t, d, names(), moves("a", "e"), moves("d", "a"))
	d.Fall(api.Plan{Names: 1, Keep: []int{0, 1, 2, 3}})
	has(t, "counted by the names that are kept", d, "b=/0 c=1/0 d=12/0 e=123/0")
}

// 4.3: all that is kept is safe: another fall takes nothing of it, whatever its plan keeps.
func TestFallsInARow(t *testing.T) {
	for names := range 4 {
		for keep := range 6 {
			d := fresh()
			run(t, d, makes("a"), writes("a", 0, "123"), makes("b"), writes("b", 0, "45"), moves("a", "c"))
			d.Fall(api.Plan{Room: wide, Names: names, Keep: []int{keep}})
			want := told(d)
			for i, p := range []api.Plan{{}, {Names: 1, Keep: []int{1}}, {Names: 9, Keep: []int{9}}, {Room: wide, Names: -1, Keep: []int{-1}}} {
				d.Fall(p)
				has(t, fmt.Sprint("fall ", i), d, want)
			}
			ok(t, d.Make("d"))
			d.Fall(api.Plan{})
			has(t, "and what is new is loose", d, want)
		}
	}
}

// 4.3: behind a fall the disk is up, its plan is the new one, Calls is 0; of a disk that was up too.
func TestFallPlan(t *testing.T) {
	for _, crash := range []int{0, 3} {
		d := New(api.Plan{Room: 2, Crash: crash, Keep: []int{2}, Names: 1})
		ok(t, d.Make("a"), d.Write("a", 0, []byte("12")))
		want := api.OK
		if crash == 3 {
			want = api.ErrDown
		}
		is(t, "the last one", d.Safe("a"), want)
		if d.Down() != (crash == 3) {
			t.Error("Down:", d.Down())
		}
		d.Fall(api.Plan{Room: 4, Crash: 2, Done: true, Names: 1, Keep: []int{1}})
		has(t, "the plan that was ahead says nothing of what is kept", d, map[int]string{0: "a=12/0", 3: "a=1/0"}[crash])
		if d.Down() || d.Calls() != 0 {
			t.Error("Down:", d.Down(), "Calls:", d.Calls())
		}
		if b, e := d.Read("a", 0, 1); string(b) != "1" || e != api.OK {
			t.Error("Read:", b, e)
		}
		is(t, "the new Room", d.Write("a", 0, []byte("12345")), api.ErrFull)
		ok(t, d.Write("a", 0, []byte("1234")))
		is(t, "the new Crash", d.Make("b"), api.ErrDown)
		has(t, "the new Done", d, map[int]string{0: "a=1234/4 b=/0", 3: "a=1234/4 b=/0"}[crash])
		if !d.Down() || d.Calls() != 2 {
			t.Error("Down:", d.Down(), "Calls:", d.Calls())
		}
		d.Fall(api.Plan{Names: 1, Room: 9, Crash: 1})
		is(t, "the next Crash", d.Gone("b"), api.ErrDown)
		if has(t, "not Done", d, map[int]string{0: "a=12/0 b=/0", 3: "a=1/0 b=/0"}[crash]); d.Calls() != 1 {
			t.Error("Calls:", d.Calls())
		}
		d.Fall(api.Plan{Room: 9})
		for range 5 {
			ok(t, d.Make("c"), d.Gone("c"))
		}
		if d.Down() || d.Calls() != 10 {
			t.Error("Down:", d.Down(), "Calls:", d.Calls())
		}
	}
}

// 4.3: New keeps nothing of a plan's Keep and Names; a Fall of a new disk has nothing to keep.
func TestFallOfNew(t *testing.T) {
	d := New(api.Plan{Names: 3, Keep: []int{3}})
	for _, p := range []api.Plan{{}, {Names: 5, Keep: []int{5, 6}}, {Names: -5, Keep: []int{-5}}} {
		d.Fall(p)
		has(t, "a new disk", d, "")
	}
	ok(t, d.Make("a"), d.Names())
	has(t, "a fallen one", d, "a=/0")
	d = fresh()
	ok(t, d.Names(), d.Make("a"), d.Safe("a"), d.Write("a", 0, nil))
	d.Fall(api.Plan{})
	has(t, "Make, Safe, Fall without Names", d, "")
}

// 4.3: a copy is the same, and each goes its own way.
func TestCopy(t *testing.T) {
	later := []call{writes("a", 1, "ZZZZ"), safe("a"), writes("a", 0, "W"), moves("b", "c"), makes("e"), writes("e", 0, "e"), goes("c"), names(), moves("a", "b")}
	for turn := range 2 {
		d := eachStart(t, api.Plan{Room: 40, Crash: 17, Done: true})
		run(t, d, makes("x"), goes("x"))
		c := d.Copy()
		if told(c) != told(d) || c.Calls() != d.Calls() || c.Down() != d.Down() {
			t.Fatal("Copy:", told(c), c.Calls(), c.Down())
		}
		if turn == 1 {
			c, d = d, c
		}
		want := told(d)
		for _, l := range later {
			l.do(c)
			has(t, "behind "+l.what, d, want)
		}
		c.Fall(api.Plan{Keep: []int{1}, Names: 1})
		has(t, "behind a Fall", d, want)
		if d.Calls() != 9 || d.Down() || c.Calls() != 0 {
			t.Error("Calls:", d.Calls(), c.Calls())
		}
		// What is loose is the copy's too, with its plan and its count.
		for k, want := range []string{"a=ab/0", "a=ab/0 b=b/0", "a=ab/0 b=b/0 x=/0", "a=ab/0 b=b/0"} {
			e := d.Copy()
			e.Fall(api.Plan{Names: k, Keep: []int{1}})
			has(t, fmt.Sprint("a copy falls, Names ", k), e, want)
		}
		is(t, "the Room", d.Write("a", 0, make([]byte, 40)), api.ErrFull)
		for range 7 {
			ok(t, d.Safe("a"))
		}
		is(t, "the Crash", d.Make("last"), api.ErrDown)
		has(t, "the Done", d, "a=abc/0 b=b/1 last=/0")
		if e := d.Copy(); !e.Down() || e.Calls() != 17 || told(e) != told(d) {
			t.Error("a copy of one that is down:", e.Down(), e.Calls(), told(e))
		}
	}
}

// 4.3, R5: two copies that go on with writes and names of their own do not share room behind what they had.
func TestCopiesApart(t *testing.T) {
	for n := range 20 {
		d := fresh()
		run(t, d, makes("a"), writes("a", 0, "s"), safe("a"))
		for i := range n {
			run(t, d, writes("a", i+1, "x"), makes(fmt.Sprint("n", i)))
		}
		b, c := d.Copy(), d.Copy()
		for i := range 3 {
			run(t, b, writes("a", n+1+i, "b"), writes("a", 0, "B"), makes(fmt.Sprint("b", i)))
			run(t, c, writes("a", n+1+i, "c"), writes("a", 0, "C"), makes(fmt.Sprint("c", i)))
			run(t, d, writes("a", n+1+i, "d"), writes("a", 0, "D"), makes(fmt.Sprint("d", i)))
		}
		for name, x := range map[string]*Disk{"b": b, "c": c, "d": d} {
			up := strings.ToUpper(name)
			if got := x.Files()[0]; got.Data != up+strings.Repeat("x", n)+strings.Repeat(name, 3) || got.Loose != n+6 {
				t.Error(n, name, got)
			}
			x.Fall(api.Plan{Names: n + 4, Keep: []int{n + 6}})
			if l := x.Files(); len(l) != n+4 || l[0].Data != up+strings.Repeat("x", n)+strings.Repeat(name, 3) || l[1].Name != name+"0" || l[3].Name != name+"2" {
				t.Error(n, name, "fallen", told(x))
			}
		}
	}
}

// R3: what is handed in is neither changed nor kept: bytes, and a plan's numbers.
func TestHandedIn(t *testing.T) {
	d := fresh()
	ok(t, d.Make("a"), d.Names())
	b := make([]byte, 3, 9)
	copy(b, "abc")
	copy(b[3:9], "......")
	ok(t, d.Write("a", 0, b), d.Write("a", 3, b))
	if string(b[:9]) != "abc......" {
		t.Error("Write changes what is handed in:", string(b[:9]))
	}
	copy(b, "XYZ")
	_ = append(b, "UVW"...)
	has(t, "written into", d, "a=abcabc/6")
	keep := []int{1, 2, 3}
	c := d.Copy()
	c.Fall(api.Plan{Room: wide, Keep: keep[:1]})
	has(t, "a Fall", c, "a=a/0")
	if !slices.Equal(keep, []int{1, 2, 3}) {
		t.Error("Fall changes what is handed in:", keep)
	}
	keep[0] = 6
	ok(t, c.Write("a", 1, []byte("bc")))
	has(t, "the plan written into", c, "a=abc/2")
	d.Fall(api.Plan{Keep: []int{5}})
	has(t, "what was written", d, "a=abcab/0")
}

// R3: what is told is new memory, spare room too.
func TestTold(t *testing.T) {
	d := fresh()
	run(t, d, makes("a"), writes("a", 0, "safe"), safe("a"), names(), writes("a", 4, "loose"), makes("b"), writes("b", 0, "bb"))
	spoil := func(b []byte) {
		b = b[:cap(b)]
		for i := range b {
			b[i] = '#'
		}
	}
	c := d.Copy()
	for _, x := range []*Disk{d, c, d} {
		for _, n := range []int{0, 1, 4, 5, 9, 99} {
			first, _ := x.Read("a", 0, n)
			second, _ := x.Read("a", 0, n)
			want := string(second)
			spoil(first)
			if string(second) != want {
				t.Error("two that were told share memory:", string(second))
			}
			spoil(second)
			_ = append(first, "###"...)
			for _, at := range []int{3, 4, 9} {
				b, _ := x.Read("a", at, n)
				spoil(b)
			}
		}
		l := x.Files()
		for i := range l[:cap(l)] {
			l[:cap(l)][i] = api.File{Name: "#", Data: "#", Loose: 99}
		}
		_ = append(l[:1], api.File{Name: "#"})
		has(t, "written into", d, "a=safeloose/5 b=bb/2")
		has(t, "a copy", c, "a=safeloose/5 b=bb/2")
	}
	c.Fall(api.Plan{Keep: []int{3}})
	has(t, "fallen", c, "a=safeloo/0")
	b, _ := d.Read("a", 0, 99)
	run(t, d, writes("a", 0, "WRITTEN"), safe("a"), names())
	d.Fall(api.Plan{})
	if string(b) != "safeloose" {
		t.Error("what was told changes:", string(b))
	}
}

// Methods of nil: ErrNone, zero values.
func TestNil(t *testing.T) {
	var d *Disk
	for range 2 {
		for _, c := range []call{makes("a"), makes(""), writes("a", 0, "x"), writes("a", -1, text(api.MaxFile+1)), safe("a"), moves("a", "b"), moves("a", ""), goes("a"), names(), reads("a", 0, 1), reads("a", -1, -1)} {
			is(t, c.what, c.do(d), api.ErrNone)
		}
		if b, e := d.Read("a", 0, 1); b != nil || e != api.ErrNone {
			t.Error("Read:", b, e)
		}
		if n, there := d.Size("a"); n != 0 || there {
			t.Error("Size:", n, there)
		}
		if l := d.Files(); l != nil {
			t.Error("Files:", l)
		}
		if d.Down() || d.Calls() != 0 || d.Copy() != nil {
			t.Error("Down, Calls, Copy:", d.Down(), d.Calls(), d.Copy())
		}
		d.Fall(api.Plan{Room: 9, Crash: 1, Names: 1, Keep: []int{1}})
	}
}

// R1: a Disk that New did not make does not panic: it is as New's of a plan of nothing.
func TestZero(t *testing.T) {
	for _, fall := range []bool{false, true} {
		var d Disk
		if fall {
			d.Fall(api.Plan{Names: 1, Keep: []int{1}})
		}
		c := d.Copy()
		for _, x := range []*Disk{&d, c} {
			run(t, x, names(), makes("a"), moves("a", "b"), writes("b", 0, ""), safe("b"))
			is(t, "Room", x.Write("b", 0, []byte("x")), api.ErrFull)
			has(t, "a Disk of zero", x, "b=/0")
			x.Fall(api.Plan{Names: 1})
			has(t, "fallen", x, "a=/0")
		}
	}
}

// R5: two that were made do not touch one another, and the same calls on both tell the same.
func TestTwo(t *testing.T) {
	d, e := New(api.Plan{Room: 9, Crash: 4}), New(api.Plan{Room: 9, Crash: 4})
	run(t, d, makes("a"), writes("a", 0, "abc"), safe("a"))
	has(t, "the other", e, "")
	if e.Calls() != 0 {
		t.Error("Calls of the other:", e.Calls())
	}
	run(t, e, makes("a"), writes("a", 0, "abc"), safe("a"))
	has(t, "the same", e, told(d))
	is(t, "the last one", d.Names(), api.ErrDown)
	if e.Down() || e.Calls() != 3 {
		t.Error("Down of the other:", e.Down(), e.Calls())
	}
}

// 4.4: what was safe, name and bytes, is there behind every fall; of what was written behind it a beginning.
func TestSafeStays(t *testing.T) {
	for crash := 6; crash < 22; crash++ {
		for _, done := range []bool{false, true} {
			for keep := range 12 {
				for loose := range 4 {
					d := New(api.Plan{Room: wide, Crash: crash, Done: done})
					run(t, d, makes("log"), writes("log", 0, "begin "), safe("log"), makes("beside"), names())
					held, all := "begin ", "begin "
					was := done
					does := func(e api.Errno) bool {
						last := e != api.OK && was
						was = was && !last
						return e == api.OK || last
					}
					for i := range 5 {
						s := fmt.Sprint("record-", i, " ")
						if does(d.Write("log", len(all), []byte(s))) {
							all += s
						}
						does(d.Move("beside", "beside"))
						if does(d.Safe("log")) {
							held = all
						}
					}
					d.Fall(api.Plan{Names: loose, Keep: []int{0, keep}})
					l := d.Files()
					if len(l) != 2 || l[0].Name != "beside" || l[1].Name != "log" {
						t.Fatal("a name is lost:", told(d))
					}
					if got := l[1].Data; !strings.HasPrefix(got, held) || !strings.HasPrefix(all, got) {
						t.Fatalf("Crash %d, Done %v, Keep %d: %q is no beginning of %q with %q", crash, done, keep, got, all, held)
					}
				}
			}
		}
	}
}

// The rest holds the disk against another one that is made in another way: its writes are bytes one by one, and each
// change of names leaves a whole list of names.

type slowFile struct {
	safe  []byte
	loose []slowByte
}

type slowByte struct {
	at int
	c  byte
}

// first is the safe bytes with the first n of the loose ones.
func (f *slowFile) first(n int) []byte {
	b := slices.Clone(f.safe)
	for _, s := range f.loose[:n] {
		if s.at == len(b) {
			b = append(b, 0)
		}
		b[s.at] = s.c
	}
	return b
}

type slowNames map[string]*slowFile

type slow struct {
	plan  api.Plan
	calls int
	down  bool
	names []slowNames // the safe ones, then those behind each loose change
}

func slowNew(p api.Plan) *slow {
	return &slow{plan: p, names: []slowNames{{}}}
}

func (s *slow) now() slowNames {
	return s.names[len(s.names)-1]
}

// copyOf keeps which files are the same one.
func (s *slow) copyOf() *slow {
	c := &slow{plan: s.plan, calls: s.calls, down: s.down}
	same := map[*slowFile]*slowFile{}
	for _, l := range s.names {
		m := slowNames{}
		for name, f := range l {
			if same[f] == nil {
				same[f] = &slowFile{safe: slices.Clone(f.safe), loose: slices.Clone(f.loose)}
			}
			m[name] = same[f]
		}
		c.names = append(c.names, m)
	}
	return c
}

func (s *slow) rising(l slowNames) []string {
	var names []string
	for name := range l {
		at := 0
		for at < len(names) && names[at] < name {
			at++
		}
		names = slices.Insert(names, at, name)
	}
	return names
}

func (s *slow) fall(p api.Plan) {
	k := 0
	if p.Names >= 0 {
		k = p.Names % len(s.names)
	}
	l := s.names[k]
	for i, name := range s.rising(l) {
		f, n := l[name], 0
		if len(p.Keep) > 0 && p.Keep[i%len(p.Keep)] >= 0 {
			n = p.Keep[i%len(p.Keep)] % (len(f.loose) + 1)
		}
		f.safe, f.loose = f.first(n), nil
	}
	s.names = []slowNames{l}
	s.plan, s.calls, s.down = p, 0, false
}

func (s *slow) tell() string {
	var l []string
	for _, name := range s.rising(s.now()) {
		f := s.now()[name]
		l = append(l, fmt.Sprintf("%s=%s/%d", name, f.first(len(f.loose)), len(f.loose)))
	}
	return strings.Join(l, " ")
}

func (s *slow) isName(name string) bool {
	return len(name) > 0 && len(name) <= 40 && strings.Trim(name, "abcdefghijklmnopqrstuvwxyz0123456789-.") == ""
}

// fault is the error of a step of its own, ahead of the count.
func (s *slow) fault(c step) api.Errno {
	f := s.now()[c.name]
	switch {
	case s.down:
		return api.ErrDown
	case c.kind == 0 && !s.isName(c.name), c.kind == 3 && !s.isName(c.to):
		return api.ErrArg
	case c.kind == 0 && f != nil:
		return api.ErrHave
	case c.kind > 0 && c.kind < 5 && f == nil:
		return api.ErrNone
	case c.kind == 1:
		size, sum := len(f.first(len(f.loose))), 0
		for _, g := range s.now() {
			sum += len(g.first(len(g.loose)))
		}
		switch {
		case c.at < 0 || c.at > size:
			return api.ErrArg
		case sum-size+max(size, c.at+len(c.b)) > s.plan.Room:
			return api.ErrFull
		}
	}
	return api.OK
}

func (s *slow) change(c step) {
	l := slowNames{}
	for name, f := range s.now() {
		l[name] = f
	}
	f := l[c.name]
	switch c.kind {
	case 0:
		l[c.name] = &slowFile{}
	case 1:
		for i := range len(c.b) {
			f.loose = append(f.loose, slowByte{c.at + i, c.b[i]})
		}
		return
	case 2:
		f.safe, f.loose = f.first(len(f.loose)), nil
		return
	case 3:
		delete(l, c.name)
		l[c.to] = f
	case 4:
		delete(l, c.name)
	case 5:
		s.names = []slowNames{l}
		return
	}
	s.names = append(s.names, l)
}

func (s *slow) do(c step) api.Errno {
	if e := s.fault(c); e != api.OK {
		return e
	}
	s.calls++
	if s.plan.Crash == s.calls {
		s.down = true
		if s.plan.Done {
			s.change(c)
		}
		return api.ErrDown
	}
	s.change(c)
	return api.OK
}

// step is one call that changes: Make, Write, Safe, Move, Gone, Names.
type step struct {
	kind int
	name string
	to   string
	at   int
	b    string
}

func (c step) do(d *Disk) api.Errno {
	switch c.kind {
	case 0:
		return d.Make(c.name)
	case 1:
		return d.Write(c.name, c.at, []byte(c.b))
	case 2:
		return d.Safe(c.name)
	case 3:
		return d.Move(c.name, c.to)
	case 4:
		return d.Gone(c.name)
	}
	return d.Names()
}

func someStep(r *rand.Rand) step {
	name := func() string {
		if r.IntN(30) == 0 {
			return []string{"", "A", text(41), "a/b"}[r.IntN(4)]
		}
		return []string{"a", "b", "c", "-", "0.x"}[r.IntN(5)]
	}
	b := ""
	for range r.IntN(6) {
		b += string(rune('a' + r.IntN(26)))
	}
	kind := []int{0, 0, 1, 1, 1, 1, 2, 3, 3, 4, 5}[r.IntN(11)]
	return step{kind: kind, name: name(), to: name(), at: r.IntN(13) - 1, b: b}
}

func somePlan(r *rand.Rand) api.Plan {
	p := api.Plan{Room: r.IntN(40), Crash: r.IntN(30) - 1, Done: r.IntN(2) == 0, Names: r.IntN(14) - 1}
	for range r.IntN(5) {
		p.Keep = append(p.Keep, r.IntN(20)-1)
	}
	return p
}

func alike(t *testing.T, run int, what string, d *Disk, s *slow) {
	t.Helper()
	if got, want := told(d), s.tell(); got != want || d.Down() != s.down || d.Calls() != s.calls {
		t.Fatalf("run %d, %s: %q, %v, %d, not %q, %v, %d", run, what, got, d.Down(), d.Calls(), want, s.down, s.calls)
	}
	for _, name := range []string{"a", "b", "c", "-", "0.x", "", "A"} {
		var want []byte
		f := s.now()[name]
		if f != nil {
			want = f.first(len(f.loose))
		}
		if n, there := d.Size(name); n != len(want) || there != (f != nil) {
			t.Fatalf("run %d, %s: Size %q %d, %v", run, what, name, n, there)
		}
		e := api.OK
		switch {
		case s.down:
			want, e = nil, api.ErrDown
		case f == nil:
			e = api.ErrNone
		}
		if b, got := d.Read(name, 0, 99); string(b) != string(want) || got != e {
			t.Fatalf("run %d, %s: Read %q %q, %d", run, what, name, b, got)
		}
	}
}

// 4.1 to 4.3: long rows of calls, falls and copies, held against the other one at each step.
func TestAgainstSlow(t *testing.T) {
	for i := range 1500 {
		r := rand.New(rand.NewPCG(4, uint64(i)))
		p := somePlan(r)
		d, s := New(p), slowNew(p)
		for range 80 {
			switch r.IntN(20) {
			case 0:
				p := somePlan(r)
				d.Fall(p)
				s.fall(p)
				alike(t, i, fmt.Sprint("Fall ", p), d, s)
			case 1:
				// A copy falls in another way, and the first one goes on; or the copy goes on, and the first one falls.
				c, u := d.Copy(), s.copyOf()
				if r.IntN(2) == 0 {
					c, u, d, s = d, s, c, u
				}
				p := somePlan(r)
				c.Fall(p)
				u.fall(p)
				for range 5 {
					x := someStep(r)
					is(t, fmt.Sprint("run ", i, ", copy ", x), x.do(c), u.do(x))
				}
				alike(t, i, "copy", c, u)
				alike(t, i, "behind a copy", d, s)
			default:
				c := someStep(r)
				is(t, fmt.Sprint("run ", i, ", ", c), c.do(d), s.do(c))
				alike(t, i, fmt.Sprint(c), d, s)
			}
		}
	}
}

// 4.1: a file that is written and made safe bit by bit up to MaxFile, and no further.
func TestManySafe(t *testing.T) {
	d := fresh()
	ok(t, d.Make("a"), d.Names())
	bit := []byte(text(16))
	for at := 0; at < api.MaxFile; at += len(bit) {
		ok(t, d.Write("a", at, bit), d.Safe("a"))
	}
	is(t, "one byte more", d.Write("a", api.MaxFile, []byte("x")), api.ErrLarge)
	d.Fall(api.Plan{})
	if n, _ := d.Size("a"); n != api.MaxFile || d.Files()[0].Data != text(api.MaxFile) {
		t.Error("Size:", n)
	}
}
