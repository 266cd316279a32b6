package edit

import (
	"bytes"
	"encoding/binary"
	"fmt"
	"math"
	"math/rand/v2"
	"slices"
	"strings"
	"testing"

	"icebox/api"
	"icebox/num"
)

const (
	top       = 1 << 53 // the greatest number
	mostKey   = 64
	mostSize  = 1 << 20
	mostCount = 256
	levels    = 5
	mostFiles = 256
	longest   = math.MaxInt
	least     = math.MinInt
)

func text(n int) string { return strings.Repeat("t", n) }

// plain is a table that may be, of a number.
func plain(n int) api.Table {
	return api.Table{Num: n, Epoch: 2, Level: 1, Lo: "a", Hi: "bc", Size: 300, Count: 7, Near: true}
}

// some is n tables that may be, each of another number.
func some(n int) []api.Table {
	l := make([]api.Table, n)
	for i := range l {
		l[i] = plain(i + 1)
		l[i].Level = i % levels
		l[i].Far = i%3 == 0
		l[i].Near = i%3 != 1 || !l[i].Far
	}
	return l
}

// drops is n numbers that may be.
func drops(n int) []int {
	l := make([]int, n)
	for i := range l {
		l[i] = i*i + 1
	}
	return l
}

func adds(l ...api.Table) api.Edit { return api.Edit{Add: l} }

// greatest is a table each of whose fields is as great, or as long, as it may be.
func greatest() api.Table {
	s := strings.Repeat("\xff", mostKey)
	return api.Table{Num: top, Epoch: top, Level: levels - 1, Lo: s, Hi: s, Size: mostSize, Count: mostCount, Near: true, Far: true}
}

// tables is ones that may be: of the least and the greatest fields, and of those between.
func tables() []api.Table {
	return []api.Table{
		{Num: 1, Count: 1, Near: true},
		{Num: 1, Count: 1, Far: true},
		{Num: 1, Count: 1, Near: true, Far: true},
		plain(5),
		{Num: 127, Epoch: 127, Level: 4, Lo: "", Hi: "\x00", Size: 127, Count: 127, Far: true},
		{Num: 128, Epoch: 128, Level: 3, Lo: "\x00", Hi: "\x00\x00", Size: 128, Count: 128, Near: true},
		{Num: 16384, Epoch: 16383, Level: 2, Lo: "\x7f", Hi: "\x80", Size: 16384, Count: 255, Far: true},
		{Num: top - 1, Epoch: top - 1, Level: 1, Lo: text(mostKey - 1), Hi: text(mostKey), Size: mostSize - 1, Count: 2, Near: true},
		{Num: 300, Lo: "né", Hi: "né", Size: 1, Count: 256, Near: true, Far: true},
		greatest(),
	}
}

// edits is ones that may be: of no tables and numbers, of some, of as many as there may be.
func edits() []api.Edit {
	l := []api.Edit{
		{},
		{Epoch: 1, Next: 300, Last: 2, Log: 3, Drop: []int{4, 4, 129}},
		{Epoch: top, Next: top - 1, Last: 127, Log: 128},
		{Epoch: 128, Next: 127, Last: top - 1, Log: top, Drop: []int{top, 1}},
		{Next: 4, Add: tables(), Drop: []int{1, 127, 128, top - 1, top}},
		{Log: 1, Add: []api.Table{plain(5), plain(5)}, Drop: []int{5}},
		{Last: 9, Add: some(127), Drop: drops(128)},
		{Last: 9, Add: some(128), Drop: drops(127)},
		{Epoch: 3, Add: some(mostFiles - 1)},
		{Epoch: 3, Drop: drops(mostFiles - 1)},
		{Epoch: 3, Add: some(mostFiles), Drop: drops(mostFiles)},
		{Epoch: top, Next: top, Last: top, Log: top, Add: slices.Repeat([]api.Table{greatest()}, mostFiles), Drop: slices.Repeat([]int{top}, mostFiles)},
	}
	for _, t := range tables() {
		l = append(l, adds(t), api.Edit{Epoch: 1, Next: 2, Last: 3, Log: 4, Add: []api.Table{t, plain(6), t}, Drop: []int{7}})
	}
	return l
}

// numeral is n as layer 1 tells it, by other means.
func numeral(n int) []byte { return binary.AppendUvarint(nil, uint64(n)) }

// side is where t is, as a number.
func side(t api.Table) int {
	return map[[2]bool]int{{true, false}: 1, {false, true}: 2, {true, true}: 3}[[2]bool{t.Near, t.Far}]
}

// piece is a part of an edit's bytes: a number, or a text's bytes without their length.
type piece struct {
	what     string
	b        []byte
	isNumber bool
}

// pieces is e as bytes, whether it may be or not, each number, and each text, by itself.
func pieces(e api.Edit) (l []piece) {
	add := func(what string, n int) { l = append(l, piece{what, numeral(n), true}) }
	words := func(what, s string) {
		add("length of "+what, len(s))
		l = append(l, piece{what, []byte(s), false})
	}
	add("Epoch", e.Epoch)
	add("Next", e.Next)
	add("Last", e.Last)
	add("Log", e.Log)
	add("how many Add", len(e.Add))
	for _, t := range e.Add {
		add("Num", t.Num)
		add("Epoch of a table", t.Epoch)
		add("Level", t.Level)
		words("Lo", t.Lo)
		words("Hi", t.Hi)
		add("Size", t.Size)
		add("Count", t.Count)
		add("where", side(t))
	}
	add("how many Drop", len(e.Drop))
	for _, n := range e.Drop {
		add("Drop", n)
	}
	return l
}

// joined is the bytes of l in a row.
func joined(l []piece) (b []byte) {
	for _, p := range l {
		b = append(b, p.b...)
	}
	return b
}

// with is l with other bytes at a place.
func with(l []piece, at int, b []byte) []byte {
	l = slices.Clone(l)
	l[at].b = b
	return joined(l)
}

// rightly is e as bytes, whether it may be or not.
func rightly(e api.Edit) []byte { return joined(pieces(e)) }

// brief is v as a text that is not too long to be read.
func brief(v any) string {
	s := fmt.Sprintf("%q", fmt.Sprint(v))
	return s[:min(len(s), 200)]
}

func same(a, b api.Edit) bool {
	return a.Epoch == b.Epoch && a.Next == b.Next && a.Last == b.Last && a.Log == b.Log && slices.Equal(a.Add, b.Add) && slices.Equal(a.Drop, b.Drop)
}

func copied(e api.Edit) api.Edit {
	e.Add, e.Drop = slices.Clone(e.Add), slices.Clone(e.Drop)
	return e
}

func none(t *testing.T, what string, b []byte) {
	t.Helper()
	if got, ok := Get(b); ok || !same(got, api.Edit{}) || got.Add != nil || got.Drop != nil {
		t.Errorf("%s: Get(%.80q) = %s, %v", what, b, brief(got), ok)
	}
}

func one(t *testing.T, what string, b []byte, want api.Edit) {
	t.Helper()
	if got, ok := Get(b); !ok || !same(got, want) {
		t.Errorf("%s: Get(%.80q) = %s, %v, not %s", what, b, brief(got), ok, brief(want))
	}
}

// may asks whether e may be, as is said; if so Put tells its bytes, and Get of them e, else Put tells nothing.
func may(t *testing.T, what string, e api.Edit, want bool) {
	t.Helper()
	if got := May(e); got != want {
		t.Errorf("%s: May(%s) = %v", what, brief(e), got)
	}
	got := Put(e)
	if !want {
		if got != nil {
			t.Errorf("%s: Put(%s) = %.80q", what, brief(e), got)
		}
		return
	}
	if !bytes.Equal(got, rightly(e)) {
		t.Errorf("%s: Put(%s) = %.80q", what, brief(e), got)
	}
	one(t, what, got, e)
}

// mayTable asks whether x may be, as is said; so may an edit that adds it alone, and behind another, and ahead of one.
func mayTable(t *testing.T, what string, x api.Table, want bool) {
	t.Helper()
	if got := MayTable(x); got != want {
		t.Errorf("%s: MayTable(%s) = %v", what, brief(x), got)
	}
	may(t, what+", alone", adds(x), want)
	may(t, what+", behind", adds(plain(1), plain(2), x), want)
	may(t, what+", ahead", api.Edit{Epoch: 1, Add: []api.Table{x, plain(2)}, Drop: []int{1}}, want)
	if !want && min(x.Num, x.Epoch, x.Level, x.Size, x.Count) >= 0 {
		none(t, what+", by its bytes", rightly(adds(x)))
		none(t, what+", by its bytes, among others", rightly(api.Edit{Next: 9, Add: []api.Table{plain(1), x, plain(2)}, Drop: []int{1}}))
	}
}

// field is a number of a table: what it is called, the least and the greatest that may be.
type field struct {
	what      string
	low, high int
	of        func(*api.Table) *int
}

func tableFields() []field {
	return []field{
		{"Num", 1, top, func(t *api.Table) *int { return &t.Num }},
		{"Epoch", 0, top, func(t *api.Table) *int { return &t.Epoch }},
		{"Level", 0, levels - 1, func(t *api.Table) *int { return &t.Level }},
		{"Size", 0, mostSize, func(t *api.Table) *int { return &t.Size }},
		{"Count", 1, mostCount, func(t *api.Table) *int { return &t.Count }},
	}
}

// ahead is the numbers of an edit ahead of its tables.
func ahead(e *api.Edit) []*int { return []*int{&e.Epoch, &e.Next, &e.Last, &e.Log} }

// around is numbers at the ends of what may be, one and two beyond, between, and such that wrap round in fewer bits.
func around(low, high int) []int {
	l := []int{least, least + 1, -top - 1, -top, -1 << 32, -256, -128, -2, -1, 0, 1, 2, 3, 4, 5, 6, 127, 128, 255, 256, 257, 1 << 16, mostSize, mostSize + 1, 1 << 31, 1 << 32, 1<<52 + 1, 1 << 54, 1 << 62, longest - 1, longest}
	for _, n := range []int{low, high} {
		l = append(l, n-2, n-1, n, n+1, n+2, n+1<<8, n+1<<16, n+1<<32, n+1<<53, n-1<<8, n-1<<32, -n)
	}
	return l
}

// The limits that the chapter names.
func TestLimits(t *testing.T) {
	if api.MaxKey != mostKey || api.MaxFile != mostSize || api.MaxTable != mostCount || api.MaxLevel != levels || api.MaxFiles != mostFiles {
		t.Fatal("limits:", api.MaxKey, api.MaxFile, api.MaxTable, api.MaxLevel, api.MaxFiles)
	}
}

// 17.1: tables that may be.
func TestMayTable(t *testing.T) {
	for _, x := range tables() {
		mayTable(t, "may be", x, true)
	}
	for _, x := range some(mostFiles) {
		mayTable(t, "may be", x, true)
	}
	mayTable(t, "zero value", api.Table{}, false)
	mayTable(t, "no Num", api.Table{Count: 1, Near: true}, false)
	mayTable(t, "no Count", api.Table{Num: 1, Near: true}, false)
	mayTable(t, "nowhere", api.Table{Num: 1, Count: 1}, false)
}

// 17.1: each number of a table at its lowest and its highest, and beyond, all else as it may be.
func TestMayTableNumbers(t *testing.T) {
	for _, x := range tables() {
		for _, f := range tableFields() {
			for _, n := range around(f.low, f.high) {
				y := x
				*f.of(&y) = n
				mayTable(t, fmt.Sprint(f.what, " ", n), y, f.low <= n && n <= f.high)
			}
		}
	}
}

// 17.1: two numbers of a table that may not be, together.
func TestMayTableTwoNumbers(t *testing.T) {
	fields := tableFields()
	for i, f := range fields {
		for _, g := range fields[:i] {
			for wrong := range 16 {
				x := plain(5)
				*f.of(&x) = []int{f.low - 1, f.high + 1, f.low, f.high}[wrong%4]
				*g.of(&x) = []int{g.low - 1, g.high + 1, g.low, g.high}[wrong/4]
				mayTable(t, f.what+" and "+g.what, x, wrong%4 > 1 && wrong/4 > 1)
			}
		}
	}
}

// 17.1: Lo and Hi of each length, up to as long as they may be, and longer ones.
func TestMayTableLengths(t *testing.T) {
	for _, n := range []int{0, 1, 2, mostKey - 1, mostKey, mostKey + 1, mostKey + 2, 127, 128, 255, 256, 1 << 16} {
		x := plain(5)
		x.Lo, x.Hi = text(n), text(n)
		mayTable(t, fmt.Sprint("both of ", n), x, n <= mostKey)
		x.Lo, x.Hi = text(n), "z"
		mayTable(t, fmt.Sprint("Lo of ", n), x, n <= mostKey)
		x.Lo, x.Hi = "", text(n)
		mayTable(t, fmt.Sprint("Hi of ", n), x, n <= mostKey)
		x.Lo, x.Hi = "t", text(n)
		mayTable(t, fmt.Sprint("Hi of ", n, ", Lo of one"), x, 1 <= n && n <= mostKey)
	}
	for _, s := range []string{strings.Repeat("é", mostKey/2), strings.Repeat("\x00", mostKey), strings.Repeat("\xff", mostKey)} {
		x := plain(5)
		x.Lo, x.Hi = s, s
		mayTable(t, "as many bytes as may be", x, true)
		x.Hi = s + "\x00"
		mayTable(t, "a byte more in Hi", x, false)
		x.Lo, x.Hi = s+"\x00", "\xff\xff"
		mayTable(t, "a byte more in Lo", x, false)
	}
}

// 17.1: Lo just below Hi, the same, above it, by each of their bytes.
func TestMayTableOrder(t *testing.T) {
	keys := []string{"", "\x00", "\x00\x00", "\x00\x01", "\x01", "A", "Z", "a", "a\x00", "a\x00\xff", "a ", "aa", "aaa", "ab", "a\x7f", "a\x80", "a\xff", "b", "ba", text(63), text(64), "z", "\x7f", "\x80", "\xbf\xbf", "\xc3", "\xc3\xa9", "\xc3\xa9\x00", "\xed\xa0\x80", "\xef\xbf\xbf", "\xf0\x90\x80\x80", "\xff", "\xff\x00", "\xff\xff", strings.Repeat("\xff", mostKey)}
	for i, lo := range keys {
		for k, hi := range keys {
			x := plain(5)
			x.Lo, x.Hi = lo, hi
			mayTable(t, fmt.Sprintf("from %q to %q", lo, hi), x, i <= k)
		}
	}
	for i := range 256 {
		for k := range 256 {
			x := plain(5)
			x.Lo, x.Hi = string([]byte{'k', byte(i)}), string([]byte{'k', byte(k)})
			if MayTable(x) != (i <= k) || May(adds(x)) != (i <= k) {
				t.Errorf("MayTable(%q) = %v", brief(x), MayTable(x))
			}
		}
	}
}

// 17.1: near, far, both, not neither.
func TestMayTableWhere(t *testing.T) {
	for _, x := range tables() {
		for i := range 4 {
			x.Near, x.Far = i%2 == 1, i/2 == 1
			mayTable(t, fmt.Sprint("where ", i), x, i > 0)
		}
	}
}

// 17.1: edits that may be; of Num, Next, Epoch, Drop none is held against another.
func TestMay(t *testing.T) {
	for i, e := range edits() {
		may(t, fmt.Sprint("edit ", i), e, true)
	}
	may(t, "a table twice", adds(plain(5), plain(5)), true)
	may(t, "a table above Next", api.Edit{Next: 2, Add: []api.Table{plain(5)}}, true)
	may(t, "a table of a later Epoch", api.Edit{Epoch: 1, Add: []api.Table{plain(5)}}, true)
	may(t, "falling Nums and Levels", adds(greatest(), plain(6), plain(5)), true)
	may(t, "a Drop twice, of what is added, above Next", api.Edit{Next: 1, Add: []api.Table{plain(5)}, Drop: []int{9, 5, 9, 5}}, true)
	may(t, "Last above Next, Log above Next", api.Edit{Next: 1, Last: 3, Log: 2}, true)
}

// 17.1: each number ahead of the tables at its lowest and its highest, and beyond.
func TestMayNumbers(t *testing.T) {
	for _, e := range []api.Edit{{}, {Epoch: top, Next: top, Last: top, Log: top}, {Epoch: 1, Next: 2, Last: 3, Log: 4, Add: some(2), Drop: []int{1}}} {
		for i := range 4 {
			for _, n := range around(0, top) {
				x := copied(e)
				*ahead(&x)[i] = n
				may(t, fmt.Sprint("number ", i, ": ", n), x, 0 <= n && n <= top)
				if n > top {
					none(t, fmt.Sprint("number ", i, ": ", n, ", by its bytes"), rightly(x))
				}
			}
		}
	}
	for wrong := range 81 {
		var e api.Edit
		fine := true
		for i, n := range ahead(&e) {
			k := wrong / []int{1, 3, 9, 27}[i] % 3
			*n = []int{i, -1, top + 1}[k]
			fine = fine && k == 0
		}
		may(t, fmt.Sprint("wrong ones: ", wrong), e, fine)
	}
}

// 17.1: no Add, one, as many as there may be, one more; likewise Drop; each by itself and both.
func TestMayCounts(t *testing.T) {
	counts := []int{0, 1, 2, 127, 128, mostFiles - 1, mostFiles, mostFiles + 1, mostFiles + 2, 2 * mostFiles, 1000, 1 << 16}
	for _, n := range counts {
		may(t, fmt.Sprint(n, " Add"), adds(some(n)...), n <= mostFiles)
		may(t, fmt.Sprint(n, " Drop"), api.Edit{Drop: drops(n)}, n <= mostFiles)
		for _, m := range counts {
			e := api.Edit{Add: some(n), Drop: drops(m)}
			if fine := n <= mostFiles && m <= mostFiles; May(e) != fine || (Put(e) == nil) == fine {
				t.Errorf("May of %d Add, %d Drop: %v", n, m, May(e))
			}
		}
	}
	may(t, "many that may not be", adds(make([]api.Table, mostFiles+1)...), false)
	may(t, "as many that may not be", adds(make([]api.Table, mostFiles)...), false)
	may(t, "as many, and one in the spare room", adds(some(mostFiles + 1)[:mostFiles]...), true)
	may(t, "as many Drops, and one in the spare room", api.Edit{Drop: drops(mostFiles + 1)[:mostFiles]}, true)
}

// 17.1, R3: nil lists and empty ones are one, whatever stands in their spare room.
func TestMayNil(t *testing.T) {
	for _, add := range [][]api.Table{nil, {}, make([]api.Table, 0, 4), some(3)[:0]} {
		for _, drop := range [][]int{nil, {}, make([]int, 0, 4), drops(3)[1:1]} {
			e := api.Edit{Add: add, Drop: drop}
			may(t, "nothing", e, true)
			if b := Put(e); !bytes.Equal(b, make([]byte, 6)) {
				t.Errorf("Put of nothing = %q", b)
			}
		}
	}
}

// 17.1: a table that may not be at each place of Add.
func TestMayTablePlaces(t *testing.T) {
	for _, n := range []int{1, 2, 3, 5, mostFiles - 1, mostFiles} {
		for at := range n {
			for i, f := range tableFields() {
				for _, wrong := range []int{f.low - 1, f.high + 1} {
					e := adds(some(n)...)
					*f.of(&e.Add[at]) = wrong
					if May(e) || Put(e) != nil {
						t.Errorf("%d of %d, field %d is %d: it may be", at, n, i, wrong)
					}
					if wrong >= 0 && n < 10 {
						none(t, "one may not be", rightly(e))
					}
				}
			}
			e := adds(some(n)...)
			e.Add[at].Near, e.Add[at].Far = false, false
			if May(e) || Put(e) != nil {
				t.Errorf("%d of %d is nowhere: it may be", at, n)
			}
			none(t, "one is nowhere", rightly(e))
		}
	}
}

// 17.1: each number of Drop at its lowest and its highest, and beyond, at each place.
func TestMayDrop(t *testing.T) {
	for _, n := range around(1, top) {
		fine := 1 <= n && n <= top
		may(t, fmt.Sprint("a Drop of ", n), api.Edit{Drop: []int{n}}, fine)
		for _, many := range []int{2, 3, mostFiles} {
			for _, at := range []int{0, 1, many / 2, many - 1} {
				e := api.Edit{Next: 3, Add: some(2), Drop: drops(many)}
				e.Drop[at] = n
				if May(e) != fine || (Put(e) != nil) != fine {
					t.Errorf("a Drop of %d at %d of %d: %v", n, at, many, May(e))
				}
				if n >= 0 && !fine {
					none(t, fmt.Sprint("a Drop of ", n), rightly(e))
				}
			}
		}
	}
	for at := range mostFiles {
		for _, n := range []int{-1, 0, top + 1} {
			e := api.Edit{Drop: drops(mostFiles)}
			e.Drop[at] = n
			if May(e) || Put(e) != nil {
				t.Errorf("a Drop of %d at %d: it may be", n, at)
			}
		}
	}
}

// 17.2: the bytes of Put, known ones.
func TestPut(t *testing.T) {
	for _, c := range []struct {
		e    api.Edit
		want string
	}{
		{api.Edit{}, "\x00\x00\x00\x00\x00\x00"},
		{api.Edit{Epoch: 1, Next: 2, Last: 3, Log: 4}, "\x01\x02\x03\x04\x00\x00"},
		{api.Edit{Epoch: 127, Next: 128, Last: 16383, Log: 16384}, "\x7f\x80\x01\xff\x7f\x80\x80\x01\x00\x00"},
		{api.Edit{Epoch: top}, "\x80\x80\x80\x80\x80\x80\x80\x10\x00\x00\x00\x00\x00"},
		{api.Edit{Log: top - 1}, "\x00\x00\x00\xff\xff\xff\xff\xff\xff\xff\x0f\x00\x00"},
		{api.Edit{Next: 300, Drop: []int{9, 4, 300, 4}}, "\x00\xac\x02\x00\x00\x00\x04\x09\x04\xac\x02\x04"},
		{api.Edit{Drop: []int{top}}, "\x00\x00\x00\x00\x00\x01\x80\x80\x80\x80\x80\x80\x80\x10"},
		{adds(api.Table{Num: 1, Epoch: 2, Level: 3, Lo: "lo", Hi: "loh", Size: 4, Count: 5, Near: true}),
			"\x00\x00\x00\x00\x01\x01\x02\x03\x02lo\x03loh\x04\x05\x01\x00"},
		{adds(api.Table{Num: 1, Count: 1, Far: true}), "\x00\x00\x00\x00\x01\x01\x00\x00\x00\x00\x00\x01\x02\x00"},
		{api.Edit{Log: 7, Add: []api.Table{{Num: 129, Epoch: 128, Level: 4, Lo: "\x00", Hi: "\xff", Size: mostSize, Count: 256, Near: true, Far: true}, plain(6)}, Drop: []int{8}},
			"\x00\x00\x00\x07\x02\x81\x01\x80\x01\x04\x01\x00\x01\xff\x80\x80\x40\x80\x02\x03\x06\x02\x01\x01a\x02bc\xac\x02\x07\x01\x01\x08"},
		{adds(api.Table{Num: 2, Lo: text(mostKey), Hi: text(mostKey), Count: 1, Near: true}),
			"\x00\x00\x00\x00\x01\x02\x00\x00\x40" + text(mostKey) + "\x40" + text(mostKey) + "\x00\x01\x01\x00"},
	} {
		if got := Put(c.e); string(got) != c.want {
			t.Errorf("Put(%s) = %q, not %q", brief(c.e), got, c.want)
		}
		one(t, "known bytes", []byte(c.want), c.e)
	}
}

// 17.2: how many there are stands ahead of them, in as many bytes as it takes.
func TestPutCounts(t *testing.T) {
	for _, n := range []int{0, 1, 2, 127, 128, 129, 255, 256} {
		b := Put(adds(slices.Repeat([]api.Table{{Num: 1, Count: 1, Near: true}}, n)...))
		want := slices.Concat(make([]byte, 4), numeral(n), bytes.Repeat([]byte{1, 0, 0, 0, 0, 0, 1, 1}, n), []byte{0})
		if !bytes.Equal(b, want) {
			t.Errorf("Put of %d Add = %.80q", n, b)
		}
		b = Put(api.Edit{Drop: slices.Repeat([]int{1}, n)})
		want = slices.Concat(make([]byte, 5), numeral(n), bytes.Repeat([]byte{1}, n))
		if !bytes.Equal(b, want) {
			t.Errorf("Put of %d Drop = %.80q", n, b)
		}
	}
}

// 17.2: two edits that differ, in whatever, have other bytes.
func TestPutDiffers(t *testing.T) {
	seen := map[string]api.Edit{}
	for _, e := range edits() {
		b := string(Put(e))
		if is, ok := seen[b]; ok && !same(is, e) {
			t.Errorf("%s and %s have the same bytes", brief(is), brief(e))
		}
		seen[b] = e
	}
	base := api.Edit{Epoch: 1, Next: 1, Last: 1, Log: 1, Add: []api.Table{{Num: 1, Epoch: 1, Level: 1, Lo: "a", Hi: "b", Size: 1, Count: 1, Near: true}}, Drop: []int{1}}
	was := Put(base)
	for i := range 4 {
		e := base
		*ahead(&e)[i] = 2
		if bytes.Equal(Put(e), was) {
			t.Errorf("number %d is not to be seen", i)
		}
	}
	for _, f := range tableFields() {
		e := copied(base)
		*f.of(&e.Add[0]) = 2
		if bytes.Equal(Put(e), was) {
			t.Errorf("%s is not to be seen", f.what)
		}
	}
}

// 17.3: Get of Put is the edit; lists that have nothing are nil.
func TestGetOfPut(t *testing.T) {
	for _, e := range edits() {
		one(t, "Get of Put", Put(e), e)
		one(t, "Get of the bytes", rightly(e), e)
		got, _ := Get(Put(e))
		if len(e.Add) == 0 && got.Add != nil || len(e.Drop) == 0 && got.Drop != nil {
			t.Errorf("Get of Put of %s: %v, %v", brief(e), got.Add, got.Drop)
		}
	}
}

// slowNumber reads the number with which b begins, and tells the bytes behind it.
func slowNumber(b []byte) (int, []byte, bool) {
	n, size := binary.Uvarint(b)
	if size <= 0 || n > math.MaxInt || !bytes.Equal(binary.AppendUvarint(nil, n), b[:size]) {
		return 0, nil, false
	}
	return int(n), b[size:], true
}

// walk reads bytes from their beginning on, until something is not as it may be.
type walk struct {
	rest []byte
	bad  bool
}

func (w *walk) number(low, high int) int {
	n, rest, ok := slowNumber(w.rest)
	if w.bad || !ok || n < low || n > high {
		w.bad = true
		return 0
	}
	w.rest = rest
	return n
}

func (w *walk) text() string {
	n := w.number(0, min(mostKey, len(w.rest)))
	if w.bad || n > len(w.rest) {
		w.bad = true
		return ""
	}
	s := string(w.rest[:n])
	w.rest = w.rest[n:]
	return s
}

// slowGet is Get told in another way: it asks of each thing whether it may be as it comes.
func slowGet(b []byte) (e api.Edit, ok bool) {
	w := &walk{rest: b}
	for _, n := range ahead(&e) {
		*n = w.number(0, top)
	}
	for range w.number(0, mostFiles) {
		var t api.Table
		t.Num, t.Epoch, t.Level = w.number(1, top), w.number(0, top), w.number(0, levels-1)
		t.Lo, t.Hi = w.text(), w.text()
		t.Size, t.Count = w.number(0, mostSize), w.number(1, mostCount)
		at := w.number(1, 3)
		t.Near, t.Far = at%2 == 1, at > 1
		w.bad = w.bad || strings.Compare(t.Lo, t.Hi) == 1
		e.Add = append(e.Add, t)
	}
	for range w.number(0, mostFiles) {
		e.Drop = append(e.Drop, w.number(1, top))
	}
	if w.bad || len(w.rest) > 0 {
		return api.Edit{}, false
	}
	return e, true
}

// asRead holds Get of b against slowGet, and, if there is an edit, Put of it against b; it tells whether there is one.
func asRead(t *testing.T, what string, b []byte) bool {
	t.Helper()
	want, ok := slowGet(b)
	if !ok {
		none(t, what, b)
		return false
	}
	one(t, what, b, want)
	if got, _ := Get(b); !bytes.Equal(Put(got), b) || !May(got) {
		t.Errorf("%s: Put of Get of %.80q = %.80q", what, b, Put(got))
	}
	return true
}

// few is edits of few bytes, of each kind.
func few() (l []api.Edit) {
	for _, e := range edits() {
		if len(rightly(e)) < 400 {
			l = append(l, e)
		}
	}
	return l
}

// 17.2: bytes that were cut at each place, or have bytes behind, or ahead, are no edit's.
func TestGetCut(t *testing.T) {
	none(t, "nil", nil)
	none(t, "nothing", []byte{})
	none(t, "nothing, with spare room", make([]byte, 0, 20))
	for n := range 20 {
		if asRead(t, "noughts", make([]byte, n)) != (n == 6) {
			t.Error(n, "noughts")
		}
	}
	for _, e := range edits() {
		whole := rightly(e)
		for n := range whole {
			if len(whole) > 1000 && n > 100 && n < len(whole)-100 && n%97 > 0 {
				continue
			}
			none(t, "cut", whole[:n])
			none(t, "cut, nothing behind it", slices.Clip(slices.Clone(whole[:n])))
			asRead(t, "without its beginning", whole[n+1:])
		}
		for _, behind := range []string{"\x00", "\x01", "\x02\x00", "\x80", "\xff", "\x80\x00", "\x00\x00\x00\x00\x00\x00"} {
			none(t, "with more behind", append(slices.Clone(whole), behind...))
		}
		for _, more := range []string{"\x00", "\x01", "\x80", "\xff", "\x00\x00\x00\x00\x00\x00"} {
			asRead(t, "with more ahead", append([]byte(more), whole...))
		}
		none(t, "twice", append(slices.Clone(whole), whole...))
		one(t, "with more in its spare room", append(slices.Clone(whole), "more"...)[:len(whole)], e)
	}
}

// 17.2: each byte turned in each way, or missing, or put in.
func TestGetTurned(t *testing.T) {
	told, not := 0, 0
	count := func(ok bool) {
		if ok {
			told++
		} else {
			not++
		}
	}
	for _, e := range few() {
		whole := rightly(e)
		for i := range whole {
			for mask := 1; mask < 256; mask++ {
				c := slices.Clone(whole)
				c[i] ^= byte(mask)
				count(asRead(t, "turned", c))
			}
			count(asRead(t, "missing", slices.Delete(slices.Clone(whole), i, i+1)))
			for _, more := range []byte{0, 1, 2, 3, 4, 'a', 0x80, 0xff} {
				count(asRead(t, "put in", slices.Insert(slices.Clone(whole), i, more)))
			}
		}
	}
	if told < 10000 || not < 10000 {
		t.Errorf("%d edits, %d others: too few", told, not)
	}
}

// 17.2: no number stands in more bytes than it takes, whichever it is.
func TestGetLongerNumbers(t *testing.T) {
	for _, e := range few() {
		l := pieces(e)
		for i, p := range l {
			if !p.isNumber {
				continue
			}
			for more := 1; more <= 10; more++ {
				long := slices.Clone(p.b)
				long[len(long)-1] |= 0x80
				long = append(append(long, bytes.Repeat([]byte{0x80}, more-1)...), 0)
				none(t, p.what+" in more bytes", with(l, i, long))
			}
			none(t, p.what+" of too many bytes", with(l, i, append(bytes.Repeat([]byte{0xff}, 9), 0x01)))
			none(t, p.what+" of far too many bytes", with(l, i, bytes.Repeat([]byte{0xff}, 40)))
			asRead(t, p.what+" without bytes", with(l, i, nil))
		}
		one(t, "the pieces", joined(l), e)
	}
}

// 17.2: each number, each count and each length too, above and below what it is, and great ones, that do not wrap round.
func TestGetOtherNumbers(t *testing.T) {
	for _, e := range few() {
		l := pieces(e)
		for i, p := range l {
			if !p.isNumber {
				continue
			}
			is, _ := binary.Uvarint(p.b)
			for _, n := range append(around(0, top), around(int(is), len(joined(l)))...) {
				if n >= 0 && n != int(is) {
					asRead(t, fmt.Sprint(p.what, " ", n, ", not ", is), with(l, i, numeral(n)))
				}
			}
		}
	}
}

// 17.2: where a table is is 1, 2, or 3.
func TestGetWhere(t *testing.T) {
	for _, e := range few() {
		l := pieces(e)
		for i, p := range l {
			if p.what != "where" {
				continue
			}
			is, _ := binary.Uvarint(p.b)
			for n := range 300 {
				if told := asRead(t, fmt.Sprint("where ", n), with(l, i, numeral(n))); told != (1 <= n && n <= 3) {
					t.Errorf("where %d, not %d: %v", n, is, told)
				}
			}
			for _, n := range []int{1 << 8, 1<<8 + 1, 1<<8 + 3, 1<<32 + 1, 1<<32 + 2, top + 3, 1 << 62, longest - 1, longest} {
				none(t, fmt.Sprint("where ", n), with(l, i, numeral(n)))
			}
		}
	}
	for n := range 4 {
		b := []byte{0, 0, 0, 0, 1, 1, 0, 0, 0, 0, 0, 1, byte(n), 0}
		want := adds(api.Table{Num: 1, Count: 1, Near: n == 1 || n == 3, Far: n == 2 || n == 3})
		if n == 0 {
			none(t, "nowhere", b)
		} else {
			one(t, fmt.Sprint("where ", n), b, want)
		}
	}
}

// counted is e as bytes, with other counts of its Add and Drop.
func counted(e api.Edit, add, drop int) []byte {
	l := pieces(e)
	for i, p := range l {
		switch p.what {
		case "how many Add":
			l[i].b = numeral(add)
		case "how many Drop":
			l[i].b = numeral(drop)
		}
	}
	return joined(l)
}

// 17.2: counts that say more than there is, or less, or more than may be, though as many do stand there.
func TestGetCounts(t *testing.T) {
	for _, n := range []int{0, 1, 2, 3, 127, 128, mostFiles - 1, mostFiles, mostFiles + 1, mostFiles + 2, 2 * mostFiles, 1000} {
		add, drop := adds(some(n)...), api.Edit{Drop: drops(n)}
		if n <= mostFiles {
			one(t, "its count", counted(add, n, 0), add)
			one(t, "its count", counted(drop, 0, n), drop)
		} else {
			none(t, "too many Add", rightly(add))
			none(t, "too many Drop", rightly(drop))
		}
		for _, c := range []int{0, n - 2, n - 1, n + 1, n + 2, n + 128, n + 256, n + 1<<32, 1 << 62, longest - n, longest} {
			if c >= 0 && c != n {
				asRead(t, "another count of Add", counted(add, c, 0))
				none(t, "another count of Drop", counted(drop, 0, c))
				none(t, "a count of Drop that are not there", counted(add, n, c+1))
			}
		}
	}
}

// 17.2: a count, or a length, that long bytes do fill is refused all the same.
func TestGetLongBytes(t *testing.T) {
	n := 1 << 20
	head := make([]byte, 4)
	none(t, "noughts", make([]byte, n))
	none(t, "ones", bytes.Repeat([]byte{1}, n))
	none(t, "all ones", bytes.Repeat([]byte{0xff}, n))
	none(t, "numbers without end", bytes.Repeat([]byte{0x80}, n))
	none(t, "many Drop", slices.Concat(head, []byte{0}, numeral(n), bytes.Repeat([]byte{1}, n)))
	none(t, "many Add", slices.Concat(head, numeral(n), bytes.Repeat([]byte{1, 0, 0, 0, 0, 0, 1, 1}, n), []byte{0}))
	for _, long := range []int{mostKey + 1, 1000, n} {
		x := plain(5)
		x.Hi = "z" + text(long-1)
		none(t, "a long Hi", rightly(adds(x)))
		x.Lo = x.Hi
		none(t, "both long", rightly(adds(x)))
		x.Hi = "zz"
		none(t, "a long Lo", rightly(adds(x)))
	}
}

// someTable is a table of few values, most of which may be, at the edges of what may be; not all of them, if wrong says so.
func someTable(r *rand.Rand, wrong bool) api.Table {
	x := tables()[r.IntN(len(tables()))]
	keys := []string{"", "\x00", "a", "a\x00", "ab", "\x80", "\xff", text(mostKey), text(mostKey + 1)}
	if wrong && r.IntN(3) == 0 {
		x.Lo = keys[r.IntN(len(keys))]
	}
	if wrong && r.IntN(3) == 0 {
		x.Hi = keys[r.IntN(len(keys))]
	}
	for _, f := range tableFields() {
		l := []int{f.low, f.low + 1, f.high - 1, f.high}
		if wrong && r.IntN(10) == 0 {
			l = []int{f.low - 1, f.high + 1}
		}
		*f.of(&x) = l[r.IntN(len(l))]
	}
	if wrong && r.IntN(10) == 0 {
		x.Near, x.Far = false, false
	}
	return x
}

// someEdit is an edit, that may be, or, if wrong says so, may not.
func someEdit(r *rand.Rand, wrong bool) (e api.Edit) {
	for _, n := range ahead(&e) {
		*n = []int{0, 1, 127, 128, top - 1, top}[r.IntN(6)]
		if wrong && r.IntN(20) == 0 {
			*n = []int{-1, top + 1}[r.IntN(2)]
		}
	}
	for range r.IntN(4) {
		e.Add = append(e.Add, someTable(r, wrong))
	}
	for range r.IntN(4) {
		e.Drop = append(e.Drop, []int{1, 2, 127, 128, top - 1, top}[r.IntN(6)])
		if wrong && r.IntN(20) == 0 {
			e.Drop[len(e.Drop)-1] = []int{-1, 0, top + 1}[r.IntN(3)]
		}
	}
	return e
}

// slowMayTable is MayTable told in another way: each thing that is wrong by itself.
func slowMayTable(x api.Table) bool {
	wrong := []bool{
		x.Num < 1, x.Num > 9007199254740992,
		x.Epoch < 0, x.Epoch > 9007199254740992,
		x.Level < 0, x.Level > 4,
		len(x.Lo) > 64, len(x.Hi) > 64,
		bytes.Compare([]byte(x.Lo), []byte(x.Hi)) > 0,
		x.Size < 0, x.Size > 1048576,
		x.Count < 1, x.Count > 256,
		!x.Near && !x.Far,
	}
	return !slices.Contains(wrong, true)
}

// slowMay is May told in another way.
func slowMay(e api.Edit) bool {
	numbers := append([]int{e.Epoch + 1, e.Next + 1, e.Last + 1, e.Log + 1}, e.Drop...)
	for i, n := range numbers {
		if n < 1 || i < 4 && n > top+1 || i >= 4 && n > top {
			return false
		}
	}
	return len(e.Add) < 257 && len(e.Drop) < 257 && !slices.ContainsFunc(e.Add, func(x api.Table) bool { return !slowMayTable(x) })
}

// 17.1, 17.2, 17.3: edits of all kinds, told and read in another way.
func TestAsTold(t *testing.T) {
	r := rand.New(rand.NewPCG(1, 2))
	told, not := 0, 0
	for i := range 40000 {
		e := someEdit(r, i%3 > 0)
		fine := slowMay(e)
		may(t, "by chance", e, fine)
		for _, x := range e.Add {
			if MayTable(x) != slowMayTable(x) {
				t.Errorf("MayTable(%s) = %v", brief(x), MayTable(x))
			}
		}
		if fine {
			told++
		} else {
			not++
		}
	}
	if told < 10000 || not < 10000 {
		t.Errorf("%d edits that may be, %d others: too few", told, not)
	}
}

// 17.2: bytes of all kinds, most of which are wrong somewhere, read in another way.
func TestGetAsTold(t *testing.T) {
	r := rand.New(rand.NewPCG(3, 4))
	told, not := 0, 0
	for i := range 60000 {
		b := rightly(someEdit(r, i%3 == 0))
		for range r.IntN(3) * (i % 2) {
			switch at := r.IntN(len(b)); r.IntN(4) {
			case 0:
				b[at] = byte(r.IntN(5))
			case 1:
				b[at] = byte(r.IntN(256))
			case 2:
				b = slices.Insert(b, at, byte(r.IntN(5)))
			case 3:
				if len(b) > 1 {
					b = slices.Delete(b, at, at+1)
				}
			}
		}
		if asRead(t, "by chance", b) {
			told++
		} else {
			not++
		}
	}
	for range 60000 {
		b := make([]byte, r.IntN(30))
		for i := range b {
			b[i] = byte(r.IntN(4))
		}
		if asRead(t, "few small bytes", b) {
			told++
		} else {
			not++
		}
	}
	if told < 10000 || not < 10000 {
		t.Errorf("%d edits, %d others: too few", told, not)
	}
}

// 17.2: all short rows of numbers from 0 to 3, by themselves, and as a table and what stands behind it.
func TestGetAllSmall(t *testing.T) {
	for _, ahead := range []string{"", "\x00\x01\x02\x03\x01"} {
		told := 0
		for size := range 11 {
			b := append([]byte(ahead), make([]byte, size)...)
			for n := range 1 << (2 * size) {
				for i := range size {
					b[len(ahead)+i] = byte(n >> (2 * i) & 3)
				}
				want, is := slowGet(b)
				if got, ok := Get(b); ok != is || !same(got, want) {
					t.Errorf("Get(%q) = %s, %v", b, brief(got), ok)
				}
				if is {
					told++
				}
			}
		}
		if told < 1000 {
			t.Error("too few edits:", told)
		}
	}
}

// fill writes into all of l, its spare room too.
func fill[T any](l []T, with T) {
	room := l[:cap(l)]
	for i := range room {
		room[i] = with
	}
}

// R3: what is handed in is not changed, its spare room neither.
func TestHandedIn(t *testing.T) {
	for _, e := range edits() {
		add, drop := append(slices.Clone(e.Add), plain(9), plain(8)), append(slices.Clone(e.Drop), 9, 8)
		wasAdd, wasDrop := slices.Clone(add), slices.Clone(drop)
		x := e
		x.Add, x.Drop = add[:len(e.Add)], drop[:len(e.Drop)]
		May(x)
		Put(x)
		Put(api.Edit{Epoch: -1, Add: x.Add, Drop: x.Drop})
		if !slices.Equal(add, wasAdd) || !slices.Equal(drop, wasDrop) {
			t.Errorf("%s was handed in, and is %s", brief(wasAdd), brief(add))
		}
		b := append(rightly(e), "spare"...)
		was := slices.Clone(b)
		Get(b[:len(b)-5])
		Get(b[:len(b)-6])
		Get(b)
		if !bytes.Equal(b, was) {
			t.Errorf("%.80q was handed in, and is %.80q", was, b)
		}
	}
}

// R3: what is told is new memory, spare room too, and what is handed in is not kept.
func TestMemory(t *testing.T) {
	bad := api.Table{Num: -1, Lo: "!"}
	for _, e := range edits() {
		e = copied(e)
		was, whole := copied(e), rightly(e)
		first, second := Put(e), Put(e)
		fill(append(second, '!'), '!')
		fill(second, '!')
		if !bytes.Equal(first, whole) || !same(e, was) || !bytes.Equal(Put(e), whole) {
			t.Errorf("%s: what Put told was written into, and something else changed", brief(was))
		}
		fill(e.Add, bad)
		fill(e.Drop, -1)
		if !bytes.Equal(first, whole) {
			t.Errorf("%s: what was handed to Put was written into, and what it told changed", brief(was))
		}
		got, _ := Get(first)
		other, _ := Get(first)
		fill(append(other.Add, bad), bad)
		fill(append(other.Drop, -1), -1)
		fill(other.Add, bad)
		fill(other.Drop, -1)
		if !bytes.Equal(first, whole) || !same(got, was) {
			t.Errorf("%s: what Get told was written into, and something else changed", brief(was))
		}
		fill(first, '!')
		if !same(got, was) {
			t.Errorf("%s: what was handed to Get was written into, and what it told changed: %s", brief(was), brief(got))
		}
		one(t, "once more", whole, was)
	}
}

// R1, R5: the same call tells the same again, whatever was asked between.
func TestSameAgain(t *testing.T) {
	r := rand.New(rand.NewPCG(5, 6))
	e := api.Edit{Epoch: 1, Next: 2, Last: 3, Log: 4, Add: tables(), Drop: []int{3, 1, 2}}
	whole := rightly(e)
	for range 200 {
		other := someEdit(r, true)
		May(other)
		Put(other)
		Get(rightly(someEdit(r, false)))
		Get(whole[:r.IntN(len(whole))])
		may(t, "again", e, true)
		may(t, "again, not", api.Edit{Drop: []int{0}}, false)
		one(t, "again", whole, e)
		none(t, "again, none", whole[1:])
	}
}

// 17.2: the numbers and texts in an edit's bytes are layer 1's.
func TestLayerOne(t *testing.T) {
	x := api.Table{Num: 300, Epoch: 129, Level: 3, Lo: "key", Hi: "kez" + text(50), Size: 70000, Count: 200, Near: true, Far: true}
	e := api.Edit{Epoch: 130, Next: 301, Last: top, Log: 299, Add: []api.Table{x}, Drop: []int{128, 5}}
	want := slices.Concat(
		num.Put(130), num.Put(301), num.Put(top), num.Put(299),
		num.Put(1), num.Put(300), num.Put(129), num.Put(3), num.PutText("key"), num.PutText(x.Hi), num.Put(70000), num.Put(200), num.Put(3),
		num.Put(2), num.Put(128), num.Put(5),
	)
	if got := Put(e); !bytes.Equal(got, want) {
		t.Errorf("Put = %q, not %q", got, want)
	}
	one(t, "of layer 1", want, e)
}
