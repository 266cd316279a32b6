package table

import (
	"bytes"
	"cmp"
	"encoding/binary"
	"fmt"
	"hash/crc32"
	"math"
	"math/rand/v2"
	"slices"
	"strings"
	"testing"

	"icebox/api"
	"icebox/block"
	"icebox/filter"
	"icebox/frame"
	"icebox/key"
	"icebox/num"
)

const (
	top       = 1 << 53 // the greatest Seq
	most      = 256     // entries of a table
	mostBlock = 64      // entries of a block
	mostKey   = 64
	mostVal   = 512
	mostFrame = 1 << 20 // bytes that a frame holds
)

func put(user string, seq int, val string) api.Entry {
	return api.Entry{Key: api.Key{User: user, Seq: seq, Kind: api.Put}, Val: val}
}

func del(user string, seq int) api.Entry {
	return api.Entry{Key: api.Key{User: user, Seq: seq, Kind: api.Del}}
}

func text(n int) string { return strings.Repeat("t", n) }

// rising is n entries that rise, each of another User, Puts and Dels by turns.
func rising(n int) []api.Entry {
	l := make([]api.Entry, n)
	for i := range l {
		l[i] = put(fmt.Sprintf("k%03d", i), i+1, fmt.Sprint(i))
		if i%3 == 2 {
			l[i] = del(l[i].Key.User, i+1)
		}
	}
	return l
}

// versions is n entries of one User, the newest first.
func versions(user string, n int) []api.Entry {
	l := make([]api.Entry, n)
	for i := range l {
		l[i] = put(user, n-i, fmt.Sprint(i))
	}
	return l
}

// several is n entries, some Users with one, others with more of them, some Seqs with a Del and a Put.
func several(n int) []api.Entry {
	var l []api.Entry
	for i := 0; len(l) < n; i++ {
		user := fmt.Sprintf("u%03d", i)
		for k := i % 5; k >= 0; k-- {
			if k%2 == 0 {
				l = append(l, del(user, 2*k+3))
			}
			l = append(l, put(user, 2*k+3, text(k)))
		}
	}
	return l[:n]
}

// growing is n entries, the User of each of which is the beginning of the next one's; the first is the empty one.
func growing(n int) []api.Entry {
	l := make([]api.Entry, n)
	for i := range l {
		l[i] = put(text(i), i%5, "")
	}
	return l
}

// alike is n entries of Users with as much in common as there may be, of the most bytes.
func alike(n int) []api.Entry {
	l := make([]api.Entry, n)
	for i := range l {
		l[i] = put(text(mostKey-1)+string([]byte{byte(i)}), top, text(mostVal))
	}
	return l
}

// order is how entries come, told in another way.
func order(a, b api.Entry) int {
	return cmp.Or(bytes.Compare([]byte(a.Key.User), []byte(b.Key.User)), cmp.Compare(b.Key.Seq, a.Key.Seq), cmp.Compare(b.Key.Kind, a.Key.Kind))
}

// lists is ones that have a Put: of many lengths, and of the edges of what an entry may be.
func lists() [][]api.Entry {
	l := [][]api.Entry{
		{put("", 0, "")},
		{del("", 0)},
		{put("", top, "x")},
		{del(text(mostKey), top)},
		{put(text(mostKey), top, text(mostVal))},
		{put("", 9, "x"), put("", 3, ""), del("", 2), put("", 2, "y"), del("", 0), put("", 0, "")},
		{put("ab", 1, ""), put("abc", 1, ""), put("b", 1, "")},
		{put("", 1, "of nobody"), put("\x00", 1, ""), put("\x00\x00", 1, ""), put("\x00\xff", 1, ""), put("\x7f", 1, ""), put("\x80", 1, ""), put("\xff", 1, ""), put("\xff\xff", 1, "")},
		{del("a", top), put("a", top, ""), del("a", 64), put("a", 64, "x"), del("a", 0), put("a", 0, "")},
		{put("h\xc3\xa8", 1, "\xc3"), put("h\xc3\xa9", 1, "\xa9"), put("h\xc4\xa9", 1, "")},
		{put(text(mostKey-1), 3, ""), put(text(mostKey), 2, ""), put(text(mostKey), 1, "")},
	}
	for _, n := range []int{1, 2, 3, 5, 8, 9, 63, 64, 65, 128, 255, 256} {
		l = append(l, rising(n), versions("user", n), several(n))
	}
	return append(l, growing(30), growing(mostKey+1), alike(9), alike(most))
}

// pers is how many entries each block may have, at the edges and between.
func pers() []int { return []int{1, 2, 3, 4, 5, 8, 31, 63, 64} }

// manyBits is bits of a filter: none, few, many, and what is no number.
func manyBits() []float64 {
	return []float64{math.NaN(), math.Inf(-1), -10, -1, math.Copysign(0, -1), 0, 0.5, 1, 1.5, 10, 12.7, 63, 64, 65, 1e300, math.MaxFloat64, math.Inf(1)}
}

// number is n as layer 1 tells it, by other means.
func number(n int) []byte { return binary.AppendUvarint(nil, uint64(n)) }

// framed is p as layer 7 tells it, by other means.
func framed(p []byte) []byte {
	b := binary.BigEndian.AppendUint32(nil, uint32(len(p)))
	b = binary.BigEndian.AppendUint32(b, crc32.Checksum(p, crc32.MakeTable(crc32.Castagnoli)))
	return append(b, p...)
}

// parted is l in pieces of per, the last one of what is left.
func parted(l []api.Entry, per int) (parts [][]api.Entry) {
	for len(l) > per {
		parts, l = append(parts, l[:per]), l[per:]
	}
	return append(parts, l)
}

// usersOf is the Users of l, each once.
func usersOf(l []api.Entry) []string {
	var names []string
	for _, e := range l {
		if !slices.Contains(names, e.Key.User) {
			names = append(names, e.Key.User)
		}
	}
	slices.Sort(names)
	return names
}

// line is a row of the last frame, as it stands there.
type line struct {
	user        string
	n, at, size int
}

func (c line) bytes() []byte {
	return slices.Concat(number(len(c.user)), []byte(c.user), number(c.n), number(c.at), number(c.size))
}

// sheet is a table in its pieces, each of which may be put otherwise.
type sheet struct {
	blocks                  [][]byte // frames
	filter                  []byte   // a frame
	lines                   [][]byte
	filterAt, lastAt, count int
	mark                    string
}

// sheetOf is the table of parts, whether they make one or not, and of a filter.
func sheetOf(parts [][]api.Entry, f []byte) sheet {
	s := sheet{filter: framed(f), mark: "icb1"}
	for _, part := range parts {
		side, e := block.Put(part)
		if e != api.OK {
			panic(fmt.Sprint("no block: ", part))
		}
		last := part[len(part)-1].Key
		s.blocks = append(s.blocks, framed(side))
		s.lines = append(s.lines, line{last.User, 2*last.Seq + last.Kind - 1, s.filterAt, 8 + len(side)}.bytes())
		s.filterAt += 8 + len(side)
		s.count += len(part)
	}
	s.lastAt = s.filterAt + len(s.filter)
	return s
}

func (s sheet) clone() sheet {
	s.blocks, s.lines = slices.Clone(s.blocks), slices.Clone(s.lines)
	return s
}

func (s sheet) bytes() []byte {
	b := slices.Concat(slices.Concat(s.blocks...), s.filter, framed(slices.Concat(s.lines...)))
	return append(b, s.tail()...)
}

// tail is what stands behind the last frame.
func (s sheet) tail() (b []byte) {
	for _, n := range []int{s.filterAt, s.lastAt, s.count} {
		b = binary.BigEndian.AppendUint32(b, uint32(n))
	}
	return append(b, s.mark...)
}

// rightly is l as 13.1 tells it, but with any filter.
func rightly(l []api.Entry, per int, f []byte) []byte { return sheetOf(parted(l, per), f).bytes() }

// filters is ones that stand in a frame of a table of l: Make's, none, all noughts, all ones, and what is none.
func filters(l []api.Entry) [][]byte {
	return [][]byte{
		filter.Make(usersOf(l), 10), nil, {7}, {0, 1}, {0, 0}, {0, 13}, {255, 255}, {255, 12}, []byte("any filter"),
		append(make([]byte, 100), 7), append(bytes.Repeat([]byte{255}, 8), 1), filter.Make([]string{"others"}, 20),
	}
}

// brief is v as a text that is not too long to be read.
func brief(v any) string {
	s := fmt.Sprintf("%q", fmt.Sprint(v))
	return s[:min(len(s), 200)]
}

func puts(t *testing.T, what string, l []api.Entry, per int, bits float64, want []byte) {
	t.Helper()
	if got, e := Put(l, per, bits); e != api.OK || !bytes.Equal(got, want) {
		t.Errorf("%s: Put(%s, %d, %v) = %.200q, %d, not %.200q", what, brief(l), per, bits, got, e, want)
	}
}

func fails(t *testing.T, what string, l []api.Entry, per int, want api.Errno) {
	t.Helper()
	for _, bits := range []float64{10, math.NaN()} {
		if got, e := Put(l, per, bits); e != want || got != nil {
			t.Errorf("%s: Put(%s, %d, %v) = %.80q, %d, not %d", what, brief(l), per, bits, got, e, want)
		}
	}
}

func one(t *testing.T, what string, b []byte, want []api.Entry) {
	t.Helper()
	if got, e := All(b); e != api.OK || !slices.Equal(got, want) {
		t.Errorf("%s: All(%.80q) = %s, %d, not %s", what, b, brief(got), e, brief(want))
	}
}

// none holds that b is no table, by All, and by Find of some Users.
func none(t *testing.T, what string, b []byte) {
	t.Helper()
	if got, e := All(b); e != api.ErrForm || got != nil {
		t.Errorf("%s: All(%.80q) = %s, %d", what, b, brief(got), e)
	}
	for _, user := range []string{"", "k000", "nobody"} {
		if got, ok, e := Find(b, user, 9); e != api.ErrForm || ok || got != (api.Entry{}) {
			t.Errorf("%s: Find(%.80q, %q) = %s, %v, %d", what, b, user, brief(got), ok, e)
		}
	}
}

// 13.1: tables known byte by byte: of one block and no filter, of two and one.
func TestPutKnown(t *testing.T) {
	l := []api.Entry{put("a", 1, "v")}
	b := []byte("\x00\x00\x00\x0c\xac\x58\x90\x07" + "\x00\x01a\x02\x01v" + "\x00\x00\x00\x00" + "\x00\x01" +
		"\x00\x00\x00\x00\x00\x00\x00\x00" +
		"\x00\x00\x00\x05\x44\x0e\xfa\x30" + "\x01a\x02" + "\x00" + "\x14" +
		"\x00\x00\x00\x14" + "\x00\x00\x00\x1c" + "\x00\x00\x00\x01" + "icb1")
	for _, per := range pers() {
		puts(t, "known", l, per, math.NaN(), b)
	}
	one(t, "known", b, l)

	l = []api.Entry{put("ab", 3, "x"), del("ab", 2), put("abc", 1, "")}
	b = []byte("\x00\x00\x00\x11\xe0\xcb\x43\x9d" + "\x00\x02ab\x06\x01x" + "\x02\x00\x05\x00" + "\x00\x00\x00\x00" + "\x00\x01" +
		"\x00\x00\x00\x0d\x42\x96\x52\x45" + "\x00\x03abc\x02\x00" + "\x00\x00\x00\x00" + "\x00\x01" +
		"\x00\x00\x00\x09\xe0\x8e\x4a\x0a" + "\x01\x0c\x86\x30\x10\x40\x50\x04\x07" +
		"\x00\x00\x00\x0d\x7b\xbc\x75\x08" + "\x02ab\x05" + "\x00" + "\x19" + "\x03abc\x02" + "\x19" + "\x15" +
		"\x00\x00\x00\x2e" + "\x00\x00\x00\x3f" + "\x00\x00\x00\x03" + "icb1")
	puts(t, "known", l, 2, 10, b)
	one(t, "known", b, l)
}

// 13.1: all that may be, each list by each number a block and with each kind of filter, against a table told in another way.
func TestPut(t *testing.T) {
	for _, l := range lists() {
		if !key.Rising(l) {
			t.Fatalf("%s does not rise", brief(l))
		}
		for i, per := range pers() {
			for _, bits := range manyBits()[i%3:] {
				puts(t, "a list", l, per, bits, rightly(l, per, filter.Make(usersOf(l), bits)))
			}
		}
	}
}

// 13.1: of just per entries, of one less and of one more; of each number of blocks.
func TestPutPer(t *testing.T) {
	for per := 1; per <= mostBlock; per++ {
		for _, n := range []int{per - 1, per, per + 1, 2*per - 1, 2 * per, 2*per + 1, 3 * per, most - 1, most} {
			if n == 0 || n > most {
				continue
			}
			l := several(n)
			b := rightly(l, per, filter.Make(usersOf(l), 10))
			puts(t, "a number of entries", l, per, 10, b)
			one(t, "a number of entries", b, l)
			if got := strings.Count(string(b), "icb1"); got != 1 {
				t.Errorf("of %d by %d: %d marks", n, per, got)
			}
		}
	}
}

// 13.1: how many Users a filter is made of counts each once, not each entry.
func TestPutUsersOnce(t *testing.T) {
	for _, c := range []struct {
		l     []api.Entry
		users []string
	}{
		{versions("u", most), []string{"u"}},
		{versions("", 9), []string{""}},
		{append(versions("a", 100), versions("b", 100)...), []string{"a", "b"}},
		{[]api.Entry{del("a", 5), put("a", 5, "x"), put("a", 4, ""), put("aa", 7, ""), put("b", 9, ""), del("b", 8)}, []string{"a", "aa", "b"}},
	} {
		for _, per := range pers() {
			for _, bits := range []float64{10, 33, 64} {
				f := filter.Make(c.users, bits)
				puts(t, "Users", c.l, per, bits, rightly(c.l, per, f))
			}
		}
	}
}

// 13.1: of none ErrArg; of as many as there may be a table, of one more, and of many more, ErrLarge.
func TestPutCount(t *testing.T) {
	for _, per := range pers() {
		fails(t, "nil", nil, per, api.ErrArg)
		fails(t, "none", []api.Entry{}, per, api.ErrArg)
		fails(t, "none, with spare room", rising(9)[:0], per, api.ErrArg)
		for _, make := range []func(int) []api.Entry{rising, several, func(n int) []api.Entry { return versions("u", n) }} {
			l := make(most)
			puts(t, "as many as may be", l, per, 10, rightly(l, per, filter.Make(usersOf(l), 10)))
			for _, n := range []int{most + 1, most + 2, most + 64, 512, 513, 999} {
				fails(t, "more", make(n), per, api.ErrLarge)
			}
		}
	}
}

// 13.1: ErrArg where per is no number of entries of a block, whatever else is wrong.
func TestPutOfNoPer(t *testing.T) {
	falling := []api.Entry{put("b", 1, ""), put("a", 1, "")}
	for _, per := range []int{math.MinInt, math.MinInt + 1, -1 << 32, -256, -64, -1, 0, mostBlock + 1, mostBlock + 2, 128, most, most + 1, 1 << 32, 1<<32 + 1, 1 << 62, math.MaxInt - 1, math.MaxInt} {
		for _, l := range [][]api.Entry{nil, rising(1), rising(9), rising(most), rising(most + 1), rising(999), falling} {
			fails(t, "no per", l, per, api.ErrArg)
		}
	}
}

// mayNot is entries that may not be.
func mayNot() []api.Entry {
	e := func(user string, seq, kind int, val string) api.Entry {
		return api.Entry{Key: api.Key{User: user, Seq: seq, Kind: kind}, Val: val}
	}
	return []api.Entry{
		{},
		e("k", 1, 0, ""), e("k", 1, 3, ""), e("k", 1, -1, ""), e("k", 1, math.MaxInt, ""), e("k", 1, math.MinInt, ""), e("k", 1, 257, "x"),
		put("k", -1, ""), put("k", top+1, ""), put("k", math.MaxInt, ""), put("k", math.MinInt, ""), del("k", -1), del("k", top+1),
		put("k"+text(mostKey), 1, ""), del("k"+text(mostKey), 1), put("k"+strings.Repeat("\xc3\xa9", mostKey/2), 1, ""),
		put("k", 1, text(mostVal+1)), put("k", 1, text(1<<20)), e("k", 1, api.Del, "x"), e("k", 1, api.Del, "\x00"),
	}
}

// 13.1: ErrArg where an entry may not be, the first, the last, one between; also where there are too many.
func TestPutOfMayNot(t *testing.T) {
	for _, bad := range mayNot() {
		fails(t, "alone", []api.Entry{bad}, 3, api.ErrArg)
		for _, n := range []int{2, 4, 9, 64, most, most + 1, 400} {
			for _, at := range []int{0, 1, n / 2, n - 2, n - 1} {
				l := rising(n)
				l[at] = bad
				fails(t, "among others", l, 1+at%mostBlock, api.ErrArg)
				// At its own place by its User, so that nothing but the one is wrong.
				if l[at].Key.User != "" {
					l[at].Key.User = fmt.Sprintf("k%03d", at) + bad.Key.User[1:]
					fails(t, "at its place", l, 1+at%mostBlock, api.ErrArg)
				}
			}
		}
	}
}

// 13.1: ErrArg where two are the same, and where they fall, within a block and from one to the next; also where there are too many.
func TestPutNotRising(t *testing.T) {
	for _, n := range []int{2, 3, 9, 64, most, most + 1, 300} {
		for at := 0; at < n-1; at += 1 + n/20 {
			for _, l := range [][]api.Entry{rising(n), versions("u", n)} {
				for _, per := range []int{1, at%mostBlock + 1, 3, mostBlock} {
					turned := slices.Clone(l)
					turned[at], turned[at+1] = turned[at+1], turned[at]
					fails(t, "two the other way round", turned, per, api.ErrArg)
					twice := slices.Clone(l)
					twice[at+1] = twice[at]
					fails(t, "one twice", twice, per, api.ErrArg)
					twice[at].Val, twice[at].Key.Kind = "one", api.Put
					twice[at+1].Val, twice[at+1].Key.Kind = "two", api.Put
					fails(t, "one key twice", twice, per, api.ErrArg)
				}
			}
		}
	}
	// Each block rises by itself.
	fails(t, "blocks the other way round", append(versions("b", 4), versions("a", 4)...), 4, api.ErrArg)
	fails(t, "blocks the other way round", append(rising(8)[4:], rising(8)[:4]...), 4, api.ErrArg)
	fails(t, "a block twice", append(rising(4), rising(4)...), 4, api.ErrArg)
	fails(t, "one more that does not rise", append(rising(most), put("", 1, "")), 8, api.ErrArg)
	fails(t, "one more that is there", append(rising(most), rising(most)[most-1]), 8, api.ErrArg)
	fails(t, "one more that may not be", append(rising(most), put("l", -1, "")), 8, api.ErrArg)
}

// 13.3: All of Put is the entries, by each number a block and with each kind of filter.
func TestAllOfPut(t *testing.T) {
	for _, l := range lists() {
		for i, per := range pers() {
			b, e := Put(l, per, manyBits()[(i+len(l))%len(manyBits())])
			if e != api.OK {
				t.Fatalf("Put(%s, %d) = %d", brief(l), per, e)
			}
			one(t, "All of Put", b, l)
		}
	}
}

// 13.2: nothing, few bytes.
func TestAllOfFewBytes(t *testing.T) {
	none(t, "nil", nil)
	none(t, "nothing", []byte{})
	none(t, "nothing, with spare room", rightly(rising(5), 2, nil)[:0])
	for i := range 256 {
		none(t, "one byte", []byte{byte(i)})
	}
	for n := range 60 {
		none(t, "noughts", make([]byte, n))
		none(t, "ones", bytes.Repeat([]byte{255}, n))
		none(t, "noughts and a mark", append(make([]byte, n), "icb1"...))
		none(t, "ones and a mark", append(bytes.Repeat([]byte{255}, n), "icb1"...))
		none(t, "frames of nothing, and a tail", append(make([]byte, 8*n), sheet{lastAt: 8 * max(n-1, 0), filterAt: 8 * max(n-2, 0), mark: "icb1"}.tail()...))
	}
}

// 13.2: a table of no blocks is none, though all else of it stands there.
func TestAllOfNoBlocks(t *testing.T) {
	for _, f := range filters(nil) {
		s := sheetOf(nil, f)
		none(t, "no blocks", s.bytes())
		s.count = 1
		none(t, "no blocks, and a count", s.bytes())
		s = sheetOf([][]api.Entry{rising(3)}, f)
		s.blocks = nil
		none(t, "a block that is told and not there", s.bytes())
		s.filterAt, s.lastAt = 0, len(s.filter)
		none(t, "a block that is told and not there", s.bytes())
		for _, p := range [][]byte{nil, {0}, {0, 0}, {0, 0, 0, 0, 0, 1}} {
			s := sheetOf(nil, f)
			s.blocks = [][]byte{framed(p)}
			s.filterAt += len(s.blocks[0])
			s.lastAt += len(s.blocks[0])
			none(t, "a frame that holds no block", s.bytes())
			s.lines = [][]byte{line{"", 0, 0, len(s.blocks[0])}.bytes()}
			none(t, "a frame that holds no block, with its row", s.bytes())
			s.count = 1
			none(t, "a frame that holds no block, with its row and a count", s.bytes())
		}
	}
}

// small is tables of few bytes, of each kind.
func small() (tables [][]byte, entries [][]api.Entry) {
	for _, l := range [][]api.Entry{{put("", 0, "")}, {del("a", 1)}, {put("ab", 3, "x"), del("ab", 2), put("abc", 1, "")}, rising(9), several(12), versions("user", 5)} {
		for _, per := range []int{1, 2, 4, 5} {
			for _, f := range [][]byte{nil, filter.Make(usersOf(l), 10), []byte("any filter")} {
				tables, entries = append(tables, rightly(l, per, f)), append(entries, l)
			}
		}
	}
	return tables, entries
}

// 13.2: each beginning of a table, each end of one, and a table with bytes ahead or behind, is none.
func TestAllCut(t *testing.T) {
	tables, entries := small()
	for i, b := range tables {
		one(t, "whole", b, entries[i])
		one(t, "with more in its spare room", append(slices.Clone(b), "more"...)[:len(b)], entries[i])
		for n := range b {
			none(t, "cut", b[:n])
			none(t, "cut, nothing behind it", slices.Clip(slices.Clone(b[:n])))
			none(t, "without its beginning", b[n+1:])
			if n != len(b)-16 {
				none(t, "cut, and the end behind", slices.Concat(b[:n], b[len(b)-16:]))
			}
			none(t, "an end ahead", slices.Concat(b[n:], b))
		}
		for _, more := range []string{"\x00", "\x01", "\xff", "i", "icb1", "\x00\x00\x00\x00", string(make([]byte, 8)), string(make([]byte, 16)), string(b[len(b)-16:]), string(b)} {
			none(t, "with more behind", append(slices.Clone(b), more...))
			none(t, "with more ahead", append([]byte(more), b...))
		}
		for k := range tables {
			if k%5 == i%5 {
				none(t, "two", append(slices.Clone(b), tables[k]...))
			}
		}
	}
}

// 13.2: a table of which any one byte is another one, or is missing, or is there twice.
func TestAllTurned(t *testing.T) {
	tables, entries := small()
	for i, b := range tables {
		for k := range b {
			c := slices.Clone(b)
			for mask := 1; mask < 256; mask += 1 + len(b)/10 {
				c[k] = b[k] ^ byte(mask)
				none(t, "turned", c)
			}
			none(t, "missing", slices.Delete(slices.Clone(b), k, k+1))
			for _, more := range []byte{0, 1, b[k], 255} {
				none(t, "put in", slices.Insert(slices.Clone(b), k, more))
			}
		}
		one(t, "whole", b, entries[i])
	}
	l := alike(most)
	b := rightly(l, 64, filter.Make(usersOf(l), 10))
	for k := 0; k < len(b); k += len(b) / 40 {
		c := slices.Clone(b)
		c[k] ^= 4
		none(t, "turned", c)
	}
}

// 13.2: frames with bytes between them, ahead of the first, behind the last; places that count them, and such that do not.
func TestAllBetween(t *testing.T) {
	l := rising(9)
	for _, per := range []int{1, 2, 4, 9} {
		right := sheetOf(parted(l, per), filter.Make(usersOf(l), 10))
		for _, more := range [][]byte{{0}, {1}, {255}, make([]byte, 8), make([]byte, 16), []byte("icb1"), framed(nil), framed([]byte("held")), right.blocks[0], right.filter} {
			for i := range right.blocks {
				ahead, behind := right.clone(), right.clone()
				ahead.blocks[i] = append(slices.Clone(more), ahead.blocks[i]...)
				behind.blocks[i] = append(slices.Clone(behind.blocks[i]), more...)
				for _, s := range []sheet{ahead, behind} {
					none(t, "bytes beside a block", s.bytes())
					s.filterAt += len(more)
					none(t, "bytes beside a block", s.bytes())
					s.lastAt += len(more)
					none(t, "bytes beside a block, and places that count them", s.bytes())
					s.lines = linesAs(s.blocks, right.blocks, parted(l, per), i, len(more), true)
					none(t, "bytes beside a block, and rows that count them", s.bytes())
					s.lines = linesAs(s.blocks, right.blocks, parted(l, per), i, len(more), false)
					none(t, "bytes beside a block, and rows that leave them out", s.bytes())
				}
			}
			s := right.clone()
			s.filter = append(slices.Clone(s.filter), more...)
			none(t, "bytes behind the filter", s.bytes())
			s.lastAt += len(more)
			none(t, "bytes behind the filter, and a place that counts them", s.bytes())
			s = right.clone()
			s.filter = append(slices.Clone(more), s.filter...)
			none(t, "bytes ahead of the filter", s.bytes())
			s.lastAt += len(more)
			none(t, "bytes ahead of the filter, and a place that counts them", s.bytes())
			s.filterAt += len(more)
			none(t, "bytes ahead of the filter, and places that count them", s.bytes())
			b := slices.Concat(slices.Concat(right.blocks...), right.filter, framed(slices.Concat(right.lines...)))
			none(t, "bytes behind the last frame", slices.Concat(b, more, right.tail()))
			none(t, "bytes in the tail", slices.Concat(b, right.tail()[:12], more, []byte("icb1")))
		}
	}
}

// 13.2: a filter's frame that begins within the last block, whose last bytes are its length: each stands whole, but one in the other.
func TestAllOverlapping(t *testing.T) {
	for _, l := range [][]api.Entry{rising(1), rising(4), several(9), versions("k000", 12)} {
		for _, per := range []int{1, 2, 3, 4} {
			for c := range 256 {
				s := sheetOf(parted(l, per), nil)
				end := s.filterAt
				s.filter = framed([]byte{byte(c)})[4:]
				s.filterAt, s.lastAt = end-4, end+5
				b := s.bytes()
				if _, next, ok := frame.Get(b, s.filterAt); !ok || next != s.lastAt {
					t.Fatalf("%q has no frame at %d", b, s.filterAt)
				}
				none(t, "a filter within a block", b)
				s.filterAt = end
				none(t, "a filter within a block, its place behind it", s.bytes())
			}
		}
	}
}

// linesAs is rows of blocks, one of which has so many bytes more: as a piece of it, or as ones that no row counts.
func linesAs(blocks, right [][]byte, parts [][]api.Entry, at, more int, counted bool) (lines [][]byte) {
	place := 0
	for i, b := range blocks {
		k := parts[i][len(parts[i])-1].Key
		c := line{k.User, 2*k.Seq + k.Kind - 1, place, len(b)}
		if i == at && !counted {
			c.size -= more
			if bytes.HasSuffix(b, right[i]) {
				c.at += more
			}
		}
		lines = append(lines, c.bytes())
		place += len(b)
	}
	return lines
}

// 13.2: places and counts in the tail that are other ones: that go back, that are behind the end, that are great.
func TestAllOtherTail(t *testing.T) {
	l := rising(9)
	for _, per := range []int{1, 2, 9} {
		for _, f := range [][]byte{nil, filter.Make(usersOf(l), 10)} {
			right := sheetOf(parted(l, per), f)
			size := len(right.bytes())
			numbers := []int{0, 1, 2, 7, 8, 9, 10, 16, 255, 256, 257, size - 17, size - 16, size - 8, size - 1, size, size + 1, 2 * size, 1 << 16, 1 << 20, 1 << 24, 1<<31 - 1, 1 << 31, 1<<32 - 1, 1<<32 - 8, 1<<32 - size}
			place := 0
			for _, c := range right.blocks {
				numbers = append(numbers, place-1, place, place+1)
				place += len(c)
			}
			numbers = append(numbers, right.filterAt-1, right.filterAt, right.filterAt+1, right.lastAt-1, right.lastAt, right.lastAt+1)
			for _, n := range numbers {
				if n < 0 {
					continue
				}
				for which := range 7 {
					s := right.clone()
					if which&1 == 0 {
						s.filterAt = n
					}
					if which&2 == 0 {
						s.lastAt = n
					}
					if which&4 == 0 {
						s.count = n
					}
					if s.filterAt == right.filterAt && s.lastAt == right.lastAt && s.count == right.count {
						continue
					}
					none(t, "another tail", s.bytes())
				}
			}
			s := right.clone()
			s.filterAt, s.lastAt = s.lastAt, s.filterAt
			none(t, "places the other way round", s.bytes())
			for _, mark := range []string{"", "i", "icb", "icb0", "icb2", "ICB1", "1bci", "icb1 ", " icb1", "icb1icb1", "\x00\x00\x00\x00", "xcb1", "ixb1", "icx1"} {
				s := right.clone()
				s.mark = mark
				none(t, "another mark", s.bytes())
			}
			one(t, "the right tail", right.bytes(), l)
		}
	}
}

// 13.2: a table with one entry more or less in its count, or with a row that is missing, or told twice, or too much.
func TestAllOtherRows(t *testing.T) {
	for _, l := range [][]api.Entry{rising(9), versions("", 7), several(10)} {
		for _, per := range []int{1, 3, 5} {
			right := sheetOf(parted(l, per), filter.Make(usersOf(l), 10))
			for _, more := range []int{-2, -1, 1, 2, 256} {
				s := right
				s.count += more
				none(t, "another count", s.bytes())
			}
			for i, c := range right.lines {
				s := right.clone()
				s.lines = slices.Delete(s.lines, i, i+1)
				none(t, "a row missing", s.bytes())
				s = right.clone()
				s.lines = slices.Insert(s.lines, i, c)
				none(t, "a row twice", s.bytes())
				for n := range c {
					s = right.clone()
					s.lines[i] = c[:n]
					none(t, "a row cut", s.bytes())
				}
				for k := range right.lines[:i] {
					s = right.clone()
					s.lines[i], s.lines[k] = s.lines[k], s.lines[i]
					none(t, "two rows the other way round", s.bytes())
				}
			}
			for _, more := range [][]byte{{0}, {0, 0}, {0, 0, 0, 0}, {255}, right.lines[0], line{"z", 2, right.filterAt, len(right.filter)}.bytes()} {
				s := right.clone()
				s.lines = append(s.lines, more)
				none(t, "more behind the rows", s.bytes())
				s.lines = append([][]byte{more}, right.lines...)
				none(t, "more ahead of the rows", s.bytes())
			}
			s := right.clone()
			s.lines = nil
			none(t, "no rows", s.bytes())
			one(t, "the right rows", right.bytes(), l)
		}
	}
}

// rowsOf is the rows of a table of l, as they are.
func rowsOf(l []api.Entry, per int) (lines []line) {
	place := 0
	for _, part := range parted(l, per) {
		side, _ := block.Put(part)
		k := part[len(part)-1].Key
		lines = append(lines, line{k.User, 2*k.Seq + k.Kind - 1, place, 8 + len(side)})
		place += 8 + len(side)
	}
	return lines
}

// 13.2: places, sizes, numbers in the last frame that are other ones: that go back, that are behind the end, that are great.
func TestAllOtherNumbers(t *testing.T) {
	l := rising(9)
	for _, per := range []int{1, 2, 9} {
		right := sheetOf(parted(l, per), filter.Make(usersOf(l), 10))
		lines := rowsOf(l, per)
		size := len(right.bytes())
		for i, is := range lines {
			numbers := []int{0, 1, 2, 3, 8, is.n - 1, is.n + 1, is.n ^ 1, is.n + 2, is.at - 1, is.at + 1, is.size - 1, is.size + 1, is.at + is.size, is.size - 8,
				lines[0].at, lines[len(lines)-1].at, right.filterAt, right.lastAt, size, size + 1, 1 << 20, 1<<31 - 1, 1 << 32, 1<<32 + is.at, 1<<32 + is.size, 2*top + 1, 2*top + 2, math.MaxInt - is.at, math.MaxInt - 1, math.MaxInt}
			for _, n := range numbers {
				if n < 0 {
					continue
				}
				for which := range 3 {
					c := is
					switch which {
					case 0:
						c.n = n
					case 1:
						c.at = n
					case 2:
						c.size = n
					}
					if c == is {
						continue
					}
					s := right.clone()
					s.lines[i] = c.bytes()
					none(t, "another number in a row", s.bytes())
				}
			}
			// A row that is as some other block's: only its key is right, or only its places are.
			for _, other := range lines {
				if other != is {
					s := right.clone()
					s.lines[i] = line{is.user, is.n, other.at, other.size}.bytes()
					none(t, "another block's place", s.bytes())
					s.lines[i] = line{other.user, other.n, is.at, is.size}.bytes()
					none(t, "another block's key", s.bytes())
				}
			}
		}
		one(t, "the right rows", right.bytes(), l)
	}
}

// 13.2: a last key that is not the block's: another User, or Seq, or Kind, or the first key of the block, or one that may not be.
func TestAllOtherKeys(t *testing.T) {
	for _, l := range [][]api.Entry{rising(9), several(10), versions("user", 8)} {
		for _, per := range []int{1, 2, 4, 10} {
			right := sheetOf(parted(l, per), nil)
			for i, is := range rowsOf(l, per) {
				first := parted(l, per)[i][0].Key
				for _, c := range []line{
					{user: "", n: is.n}, {user: is.user + "\x00", n: is.n}, {user: is.user[:len(is.user)-1], n: is.n}, {user: "z", n: is.n}, {user: text(mostKey), n: is.n}, {user: text(mostKey + 1), n: is.n},
					{user: is.user, n: is.n + 1}, {user: is.user, n: is.n - 1}, {user: is.user, n: is.n + 2}, {user: is.user, n: is.n ^ 1}, {user: is.user}, {user: is.user, n: 2*top + 1}, {user: is.user, n: 2*top + 2},
					{user: first.User, n: 2*first.Seq + first.Kind - 1},
				} {
					if c.user == is.user && c.n == is.n {
						continue
					}
					c.at, c.size = is.at, is.size
					s := right.clone()
					s.lines[i] = c.bytes()
					none(t, "another last key", s.bytes())
				}
			}
		}
	}
}

// 13.2: no number in the last frame stands in more bytes than it takes, whichever it is.
func TestAllLongerNumbers(t *testing.T) {
	for _, l := range [][]api.Entry{rising(9), several(10), versions("user", 8), alike(9)} {
		for _, per := range []int{1, 3, 10} {
			right := sheetOf(parted(l, per), nil)
			for i, c := range rowsOf(l, per) {
				parts := [][]byte{number(len(c.user)), []byte(c.user), number(c.n), number(c.at), number(c.size)}
				for k := range parts {
					if k == 1 {
						continue
					}
					for more := 1; more <= 10; more++ {
						long := slices.Clone(parts[k])
						long[len(long)-1] |= 0x80
						long = append(append(long, bytes.Repeat([]byte{0x80}, more-1)...), 0)
						p := slices.Clone(parts)
						p[k] = long
						s := right.clone()
						s.lines[i] = slices.Concat(p...)
						none(t, "a number in more bytes", s.bytes())
					}
				}
			}
		}
	}
}

// fits tells whether blocks of so many entries make a table: all but the last one as many as the first, the last one no more.
func fits(counts []int) bool {
	all := 0
	for i, n := range counts {
		all += n
		if n > counts[0] || n < counts[0] && i < len(counts)-1 {
			return false
		}
	}
	return all <= most
}

// cut is the first entries of l in blocks of so many.
func cut(l []api.Entry, counts []int) (parts [][]api.Entry) {
	for _, n := range counts {
		parts, l = append(parts, l[:n]), l[n:]
	}
	return parts
}

// 13.2: blocks of all short rows of counts: a table only where all but the last one have as many as the first, and that no more.
func TestAllCounts(t *testing.T) {
	tables, others := 0, 0
	l := several(30)
	for n := 1; n <= 5; n++ {
		all := 1
		for range n {
			all *= 4
		}
		for i := range all {
			var counts []int
			sum := 0
			for range n {
				counts = append(counts, 1+i%4)
				sum += 1 + i%4
				i /= 4
			}
			b := sheetOf(cut(l, counts), []byte("any"))
			if fits(counts) {
				one(t, fmt.Sprint("counts ", counts), b.bytes(), l[:sum])
				puts(t, "counts", l[:sum], counts[0], math.NaN(), rightly(l[:sum], counts[0], nil))
				tables++
			} else {
				none(t, fmt.Sprint("counts ", counts), b.bytes())
				others++
			}
		}
	}
	if tables < 40 || others < 1000 {
		t.Errorf("%d tables, %d others", tables, others)
	}
	l = rising(most + 200)
	for _, counts := range [][]int{{64, 64, 64, 64}, {64, 64, 64, 63}, {64}, {64, 1}, {1, 1}, {63, 63}, {63, 64}, {1, 64}, {64, 63, 64}, {64, 64, 63, 64}, {64, 63, 63}, {63, 64, 64}, {64, 1, 64}, {64, 64, 64, 64, 1}, {64, 64, 64, 64, 64}, {60, 60, 60, 60, 16}, {60, 60, 60, 60, 17}, {60, 60, 60, 60, 15}} {
		b := sheetOf(cut(l, counts), nil)
		if fits(counts) {
			one(t, fmt.Sprint("counts ", counts), b.bytes(), l[:b.count])
		} else {
			none(t, fmt.Sprint("counts ", counts), b.bytes())
		}
	}
}

// 13.2: as many entries as there may be, one more, many more, by blocks that are all right.
func TestAllMany(t *testing.T) {
	for _, per := range pers() {
		one(t, "as many as may be", rightly(rising(most), per, nil), rising(most))
		one(t, "one less", rightly(rising(most-1), per, nil), rising(most-1))
		for _, n := range []int{most + 1, most + 2, most + 63, most + 64, most + 65, 2 * most, 999} {
			none(t, "more", rightly(rising(n), per, nil))
			none(t, "more", rightly(versions("u", n), per, []byte("any")))
			s := sheetOf(parted(rising(n), per), nil)
			s.count = most
			none(t, "more, and a lesser count", s.bytes())
		}
	}
	none(t, "very many", rightly(versions("", 1<<16), 64, nil))
	none(t, "very many blocks", rightly(versions("", 1<<14), 1, nil))
}

// 13.2: blocks each of which is one, but whose entries together do not rise.
func TestAllNotRising(t *testing.T) {
	l := rising(12)
	for _, c := range [][][]api.Entry{
		{l[4:8], l[:4]},
		{l[:4], l[:4]},
		{l[:4], l[3:7]},
		{l[:4], l[8:], l[4:8]},
		{l[:4], l[4:8], l[7:8]},
		{l[:4], l[4:8], l[:1]},
		{{l[0]}, {l[0]}},
		{{l[1]}, {l[0]}},
		{{put("a", 1, "")}, {put("a", 2, "")}},
		{{put("a", 1, "")}, {del("a", 1)}},
		{{put("a", 1, "x")}, {put("a", 1, "y")}},
		{{put("ab", 1, "")}, {put("a", 1, "")}},
		{{put("", 1, "")}, {put("", 1, "")}},
		{versions("u", 4), versions("u", 4)},
		{versions("u", 4), versions("u", 5)[:4]},
	} {
		for _, f := range filters(l) {
			none(t, "not rising", sheetOf(c, f).bytes())
		}
	}
	one(t, "rising", sheetOf([][]api.Entry{{del("a", 1)}, {put("a", 1, "")}}, nil).bytes(), []api.Entry{del("a", 1), put("a", 1, "")})
}

// 13.2: a frame that holds no block, at each place; a block whose frame is none.
func TestAllOfNoBlock(t *testing.T) {
	l := rising(9)
	right := sheetOf(parted(l, 3), nil)
	for i, framedBlock := range right.blocks {
		side := framedBlock[8:]
		for _, other := range [][]byte{
			framed(nil), framed([]byte("no block")), framed(side[1:]), framed(side[:len(side)-1]), framed(append(slices.Clone(side), 0)), framed(framedBlock),
			side, framedBlock[4:], append([]byte{1}, framedBlock[1:]...), append(slices.Clone(framedBlock[:7]), append([]byte{framedBlock[7] ^ 1}, side...)...),
		} {
			s := right.clone()
			s.blocks[i] = other
			none(t, "another block", s.bytes())
			s.lines = linesAs(s.blocks, right.blocks, parted(l, 3), -1, 0, true)
			s.filterAt += len(other) - len(framedBlock)
			s.lastAt += len(other) - len(framedBlock)
			none(t, "another block, with its places", s.bytes())
		}
	}
	one(t, "the right blocks", right.bytes(), l)
}

// 13.2: any filter in a frame that is one makes a table, also of none and of the most bytes; a frame that is none makes none.
func TestAllOfAnyFilter(t *testing.T) {
	for _, l := range [][]api.Entry{rising(9), rising(1), versions("u", most)} {
		many := append(filters(l), make([]byte, 1000), bytes.Repeat([]byte("icb1"), 99), rightly(l, 3, nil), framed(nil), make([]byte, mostFrame-1), make([]byte, mostFrame))
		for _, f := range many {
			one(t, "any filter", rightly(l, 3, f), l)
		}
		none(t, "a filter that is too long for a frame", rightly(l, 3, make([]byte, mostFrame+1)))
		none(t, "a filter that is too long for a frame", rightly(l, 3, make([]byte, 3*mostFrame)))
		right := sheetOf(parted(l, 3), filter.Make(usersOf(l), 10))
		for _, other := range [][]byte{
			nil, {0}, make([]byte, 4), make([]byte, 7), right.filter[1:], right.filter[:len(right.filter)-1], right.filter[8:], right.filter[:8],
			append(make([]byte, 7), 1), append(append([]byte{0, 0, 0, 1}, right.filter[4:8]...), right.filter[8:]...),
			append(slices.Clone(right.filter[:7]), append([]byte{^right.filter[7]}, right.filter[8:]...)...),
			append([]byte{255}, right.filter[1:]...),
		} {
			s := right.clone()
			s.filter = other
			none(t, "no frame", s.bytes())
			s.lastAt = s.filterAt + len(other)
			none(t, "no frame, with its place", s.bytes())
		}
		// The last frame is one that is none.
		b := right.bytes()
		for k := right.lastAt; k < len(b)-16; k++ {
			c := slices.Clone(b)
			c[k] ^= 1
			none(t, "no last frame", c)
		}
	}
}

// held is what b holds, if all of it is a frame.
func held(b []byte) ([]byte, bool) {
	if len(b) < 8 || len(b) > 8+mostFrame || !bytes.Equal(b, framed(b[8:])) {
		return nil, false
	}
	return b[8:], true
}

// plain is num.Get told in another way: it tells the number with which b begins, and the bytes behind it.
func plain(b []byte) (int, []byte, bool) {
	n, size := binary.Uvarint(b)
	if size <= 0 || n > math.MaxInt || !bytes.Equal(binary.AppendUvarint(nil, n), b[:size]) {
		return 0, nil, false
	}
	return int(n), b[size:], true
}

// slowLine reads a row of the last frame.
func slowLine(b []byte) (c line, rest []byte, ok bool) {
	n, rest, ok := plain(b)
	if !ok || n > len(rest) {
		return c, nil, false
	}
	c.user, rest = string(rest[:n]), rest[n:]
	for _, to := range []*int{&c.n, &c.at, &c.size} {
		if *to, rest, ok = plain(rest); !ok {
			return c, nil, false
		}
	}
	return c, rest, true
}

// slowAll is All told in another way: from the end on, the rows of the last frame one by one.
func slowAll(b []byte) (l []api.Entry, f []byte, ok bool) {
	end := len(b) - 16
	if end < 0 || string(b[end+12:]) != "icb1" {
		return nil, nil, false
	}
	filterAt, lastAt, count := int(binary.BigEndian.Uint32(b[end:])), int(binary.BigEndian.Uint32(b[end+4:])), int(binary.BigEndian.Uint32(b[end+8:]))
	if filterAt > lastAt || lastAt > end || count == 0 || count > most {
		return nil, nil, false
	}
	f, isFilter := held(b[filterAt:lastAt])
	rest, isLast := held(b[lastAt:end])
	if !isFilter || !isLast {
		return nil, nil, false
	}
	at := 0
	var counts []int
	for len(rest) > 0 {
		c, behind, ok := slowLine(rest)
		if !ok || c.at != at || c.size > filterAt-at {
			return nil, nil, false
		}
		side, isFrame := held(b[at : at+c.size])
		part, isBlock := block.Get(side)
		if !isFrame || !isBlock {
			return nil, nil, false
		}
		k := part[len(part)-1].Key
		if k.User != c.user || 2*k.Seq+k.Kind-1 != c.n || len(l) > 0 && order(l[len(l)-1], part[0]) >= 0 {
			return nil, nil, false
		}
		l, counts, at, rest = append(l, part...), append(counts, len(part)), at+c.size, behind
	}
	if at != filterAt || count != len(l) || !fits(counts) {
		return nil, nil, false
	}
	return l, f, true
}

// slowFind is Find told in another way: of all entries the one that the chapter names.
func slowFind(b []byte, user string, seq int) (api.Entry, bool, api.Errno) {
	l, f, ok := slowAll(b)
	if !ok {
		return api.Entry{}, false, api.ErrForm
	}
	if !filter.May(f, user) {
		return api.Entry{}, false, api.OK
	}
	return newest(l, user, seq)
}

// newest is the entry of a User with the greatest Seq that is at most seq, of one Seq the first.
func newest(l []api.Entry, user string, seq int) (best api.Entry, is bool, e api.Errno) {
	for _, c := range l {
		if c.Key.User == user && c.Key.Seq <= seq && (!is || c.Key.Seq > best.Key.Seq) {
			best, is = c, true
		}
	}
	return best, is, api.OK
}

// asRead holds All of b against slowAll; it tells whether b is a table.
func asRead(t *testing.T, what string, b []byte) bool {
	t.Helper()
	want, _, ok := slowAll(b)
	if !ok {
		none(t, what, b)
		return false
	}
	one(t, what, b, want)
	return true
}

// seqs is numbers to ask for beside those of l: each one, just below and above, below 0, behind every one.
func seqs(l []api.Entry, user string) []int {
	many := []int{math.MinInt, -1, 0, 1, top, top + 1, math.MaxInt}
	for _, e := range l {
		if e.Key.User == user {
			many = append(many, e.Key.Seq-1, e.Key.Seq, e.Key.Seq+1)
		}
	}
	return many
}

// beside is Users that are not in l: ahead of the first, behind the last, between any two, such that may not be.
func beside(l []api.Entry) []string {
	there := usersOf(l)
	many := []string{"", "\x00", "\xff", text(mostKey), text(mostKey + 1), strings.Repeat("\xff", mostKey+1), strings.Repeat("u", 1000), text(1 << 16)}
	for _, u := range there {
		many = append(many, u+"\x00", u+"\xff", u+text(mostKey))
		if u != "" {
			end := u[len(u)-1]
			many = append(many, u[:len(u)-1], u[:len(u)-1]+string([]byte{end - 1}), u[:len(u)-1]+string([]byte{end + 1}), u[1:])
		}
	}
	return slices.DeleteFunc(many, func(u string) bool { return slices.Contains(there, u) })
}

func finds(t *testing.T, what string, b []byte, user string, seq int, want api.Entry, is bool, errno api.Errno) {
	t.Helper()
	if got, ok, e := Find(b, user, seq); got != want || ok != is || e != errno {
		t.Errorf("%s: Find(%.80q, %.80q, %d) = %s, %v, %d, not %s, %v, %d", what, b, user, seq, brief(got), ok, e, brief(want), is, errno)
	}
}

// 13.2: Find known: each User at each Seq, just below and above; Users ahead, between, behind.
func TestFindKnown(t *testing.T) {
	l := []api.Entry{put("b", 9, "nine"), del("b", 5), put("b", 5, "five"), put("b", 0, "nought"), put("d", 7, "d"), del("da", 3), put("f", top, "last"), del("f", 2)}
	nobody := len(l)
	for _, per := range pers() {
		for _, f := range [][]byte{nil, filter.Make(usersOf(l), 10), filter.Make(usersOf(l), 1), filter.Make(usersOf(l), math.Inf(1)), {0, 0}, {255, 3}} {
			b := rightly(l, per, f)
			for _, c := range []struct {
				user string
				seq  int
				want int
			}{
				{"b", math.MaxInt, 0}, {"b", top + 1, 0}, {"b", 10, 0}, {"b", 9, 0}, {"b", 8, 1}, {"b", 6, 1}, {"b", 5, 1}, {"b", 4, 3}, {"b", 1, 3}, {"b", 0, 3}, {"b", -1, nobody}, {"b", math.MinInt, nobody},
				{"d", 8, 4}, {"d", 7, 4}, {"d", 6, nobody}, {"d", 0, nobody}, {"d", -7, nobody},
				{"da", 4, 5}, {"da", 3, 5}, {"da", 2, nobody}, {"da", math.MaxInt, 5},
				{"f", math.MaxInt, 6}, {"f", top, 6}, {"f", top - 1, 7}, {"f", 2, 7}, {"f", 1, nobody}, {"f", -1, nobody},
				{"", 99, nobody}, {"a", 99, nobody}, {"b\x00", 99, nobody}, {"c", 99, nobody}, {"d\x00", 99, nobody}, {"db", 99, nobody}, {"e", 99, nobody}, {"f\x00", 99, nobody}, {"g", 99, nobody}, {text(65), 99, nobody},
			} {
				want := append(slices.Clone(l), api.Entry{})[c.want]
				finds(t, "known", b, c.user, c.seq, want, c.want != nobody, api.OK)
			}
		}
	}
}

// 13.2, 13.3: Find of each User that is there at each Seq and beside it, and of others, tells what the entries have; by Put's own filter.
func TestFind(t *testing.T) {
	for i, l := range lists() {
		for k, per := range pers() {
			if len(l) > 30 && (i+k)%3 != 0 {
				continue
			}
			b, _ := Put(l, per, manyBits()[(i+2*k)%len(manyBits())])
			asked := 0
			for _, user := range append(usersOf(l), beside(l)...) {
				for _, seq := range seqs(l, user) {
					asked++
					if len(l) > 30 && (asked+i)%(len(l)/3) != 0 {
						continue
					}
					want, is, _ := newest(l, user, seq)
					finds(t, "a list", b, user, seq, want, is, api.OK)
				}
			}
		}
	}
}

// 13.2: each entry, at both ends of each block too, of long tables of each number a block.
func TestFindEach(t *testing.T) {
	for per := 1; per <= mostBlock; per += 3 {
		for _, l := range [][]api.Entry{rising(most), versions("u", 100), several(130)} {
			b, _ := Put(l, per, 10)
			for i := 0; i < len(l); i++ {
				if len(l) > 64 && i%per != 0 && i%per != per-1 && i%7 != 0 {
					continue
				}
				if per < 9 && i%4 != 0 {
					continue
				}
				want, is, _ := newest(l, l[i].Key.User, l[i].Key.Seq)
				finds(t, "each", b, l[i].Key.User, l[i].Key.Seq, want, is, api.OK)
			}
		}
	}
}

// 13.2: one User's entries that go on in the next block, and in ones behind it; the entry asked for is the first of its block, or the last.
func TestFindOverBlocks(t *testing.T) {
	for per := 1; per <= 12; per++ {
		l := slices.Concat(versions("a", 5), versions("b", 30), versions("c", 3))
		for _, f := range [][]byte{nil, filter.Make(usersOf(l), 10)} {
			b := rightly(l, per, f)
			for _, user := range []string{"a", "b", "c", "aa", "bb", "", "d"} {
				for seq := -1; seq < 33; seq++ {
					want, is, _ := newest(l, user, seq)
					finds(t, "over blocks", b, user, seq, want, is, api.OK)
				}
			}
		}
	}
	// Del and Put of one Seq, the Del last of its block, the Put first of the next.
	l := []api.Entry{put("u", 9, ""), del("u", 5), put("u", 5, "behind"), put("u", 1, "")}
	b := rightly(l, 2, nil)
	finds(t, "of one Seq", b, "u", 5, l[1], true, api.OK)
	finds(t, "of one Seq", b, "u", 8, l[1], true, api.OK)
	finds(t, "of one Seq", b, "u", 4, l[3], true, api.OK)
	// A User's last entry ends a block: what is older is not the next User's.
	l = []api.Entry{put("a", 9, ""), put("a", 5, ""), put("b", 7, ""), put("b", 3, "")}
	finds(t, "the block's end", rightly(l, 2, nil), "a", 4, api.Entry{}, false, api.OK)
	finds(t, "the block's end", rightly(l, 2, nil), "b", 2, api.Entry{}, false, api.OK)
	finds(t, "the block's end", rightly(l, 2, nil), "b", 99, l[2], true, api.OK)
}

// 13.2: what the filter says is not there is not there, though it is; what it says may be there is asked for.
func TestFindFilter(t *testing.T) {
	l := several(40)
	for _, per := range []int{1, 3, 7, 40} {
		for _, f := range filters(l) {
			b := rightly(l, per, f)
			not := 0
			for _, user := range append(usersOf(l), beside(l)...) {
				want, is, _ := newest(l, user, 99)
				if !filter.May(f, user) {
					want, is = api.Entry{}, false
					not++
				}
				finds(t, "by a filter", b, user, 99, want, is, api.OK)
			}
			if len(f) == 2 && f[1] == 1 && not == 0 {
				t.Error("a filter of noughts lets all be there")
			}
		}
		// One User is left out of the filter, and it alone is not found.
		names := usersOf(l)
		for i, user := range names {
			f := filter.Make(slices.Delete(slices.Clone(names), i, i+1), 60)
			if filter.May(f, user) {
				t.Fatalf("%q may be there", user)
			}
			b := rightly(l, per, f)
			for _, other := range names {
				want, is, _ := newest(l, other, 99)
				if other == user {
					want, is = api.Entry{}, false
				}
				finds(t, "one left out", b, other, 99, want, is, api.OK)
			}
			one(t, "one left out", b, l)
		}
	}
}

// 13.2: Find of bytes that are no table is ErrForm, whatever is sought: also what a filter says is not there, and what stands in a block that is right.
func TestFindNoTable(t *testing.T) {
	l := several(12)
	for _, f := range [][]byte{nil, filter.Make(usersOf(l), 10), {0, 1}} {
		right := sheetOf(parted(l, 3), f)
		b := right.bytes()
		s := right.clone()
		s.count++
		bad := [][]byte{nil, {}, []byte("icb1"), b[:len(b)-1], b[1:], append(slices.Clone(b), 0), s.bytes(), make([]byte, 99)}
		for k := 0; k < len(b); k += 3 {
			c := slices.Clone(b)
			c[k] ^= 128
			bad = append(bad, c)
		}
		s = sheetOf([][]api.Entry{l[3:6], l[:3]}, f)
		bad = append(bad, s.bytes(), sheetOf([][]api.Entry{l[:2], l[2:5]}, f).bytes(), sheetOf([][]api.Entry{l[:3], l[3:5], l[5:8]}, f).bytes())
		for _, c := range bad {
			for _, user := range append(usersOf(l), "", "nobody", text(99)) {
				for _, seq := range []int{math.MinInt, -1, 0, 9, math.MaxInt} {
					finds(t, "no table", c, user, seq, api.Entry{}, false, api.ErrForm)
				}
			}
		}
	}
}

// Ways of 13: the last frame's rows are halved, as the ways of rows out of order show, and then one block alone is read.
func TestFindHalves(t *testing.T) {
	l := rising(40)
	b := rightly(l, 4, nil)
	table, ok := open(b)
	if !ok || len(table.rows) != 10 {
		t.Fatalf("%d rows, %v", len(table.rows), ok)
	}
	for i, e := range l {
		spoilt := slices.Clone(b)
		for k, r := range table.rows {
			if k != i/4 {
				clear(spoilt[r.at : r.at+r.size])
			}
		}
		if got, ok := seek(spoilt, table.rows, e.Key); !ok || got != e {
			t.Errorf("%v in one block: %v, %v", e, got, ok)
		}
	}
	first, second, third := table.rows[0], table.rows[1], table.rows[2]
	// The middle one is below the key: what stands ahead of it is not asked for.
	if got, ok := seek(b, []row{second, first, third}, l[5].Key); !ok || got != l[8] {
		t.Errorf("of rows out of order: %v, %v", got, ok)
	}
	for n := range len(table.rows) + 1 {
		for i, e := range l {
			want, is := api.Entry{}, i < 4*n
			if is {
				want = e
			}
			if got, ok := seek(b, table.rows[:n], e.Key); got != want || ok != is {
				t.Errorf("%v in %d rows: %v, %v", e, n, got, ok)
			}
		}
	}
}

// 13.2: the rows that a table is opened with are those of its last frame.
func TestRows(t *testing.T) {
	for _, l := range lists() {
		for _, per := range pers() {
			table, ok := open(rightly(l, per, []byte("any")))
			if !ok || string(table.filter) != "any" || !slices.Equal(table.entries, l) {
				t.Fatalf("%s by %d: %v", brief(l), per, ok)
			}
			var got []line
			for _, r := range table.rows {
				got = append(got, line{r.last.User, 2*r.last.Seq + r.last.Kind - 1, r.at, r.size})
			}
			if !slices.Equal(got, rowsOf(l, per)) {
				t.Errorf("%s by %d: rows %s", brief(l), per, brief(got))
			}
		}
	}
}

// 13.2: Ends of none, of one, of two, of many; of entries that may not be and do not rise as they come.
func TestEnds(t *testing.T) {
	for _, c := range []struct {
		l      []api.Entry
		lo, hi string
	}{
		{nil, "", ""},
		{[]api.Entry{}, "", ""},
		{rising(9)[:0], "", ""},
		{[]api.Entry{put("a", 1, "v")}, "a", "a"},
		{[]api.Entry{del("", 1)}, "", ""},
		{[]api.Entry{put("", 1, ""), put("b", 1, "")}, "", "b"},
		{[]api.Entry{put("a", 2, ""), put("a", 1, "")}, "a", "a"},
		{[]api.Entry{put("a", 2, "x"), del("b", 1), put("c", 9, "")}, "a", "c"},
		{[]api.Entry{put("c", 2, "x"), del("b", 1), put("a", 9, "")}, "c", "a"},
		{[]api.Entry{put("b", 2, "x"), del("a", 1), put("z", 1, ""), put("b", 9, "")}, "b", "b"},
		{rising(1), "k000", "k000"},
		{rising(64), "k000", "k063"},
		{rising(most), "k000", "k255"},
		{rising(999), "k000", "k998"},
		{growing(30), "", text(29)},
		{[]api.Entry{put(text(99), -1, ""), {}}, text(99), ""},
	} {
		if lo, hi := Ends(c.l); lo != c.lo || hi != c.hi {
			t.Errorf("Ends(%s) = %q, %q, not %q, %q", brief(c.l), lo, hi, c.lo, c.hi)
		}
	}
}

// R1: long bytes that are no table are told so soon: many frames, long ones, rows that all lead to one, texts without end.
func TestLongBytes(t *testing.T) {
	for _, c := range []byte{0, 1, 0x7f, 0x80, 0xff} {
		b := bytes.Repeat([]byte{c}, 1<<22)
		none(t, "alike", b)
		none(t, "alike, and a mark", append(b, "icb1"...))
		none(t, "alike, and a tail", append(slices.Clone(b), sheet{filterAt: len(b) - 16, lastAt: len(b) - 8, count: 9, mark: "icb1"}.tail()...))
	}
	long := framed(make([]byte, mostFrame))
	side, _ := block.Put(rising(3))
	s := sheet{filter: framed(nil), mark: "icb1", count: 3}
	for range 8 {
		s.blocks = append(s.blocks, long)
	}
	s.filterAt, s.lastAt = 8*len(long), 8*len(long)+8
	none(t, "long frames", s.bytes())
	s.blocks[0] = framed(side)
	s.filterAt += len(s.blocks[0]) - len(long)
	s.lastAt += len(s.blocks[0]) - len(long)
	for range 1 << 17 {
		s.lines = append(s.lines, []byte{0, 0, 0, byte(len(s.blocks[0]))})
	}
	none(t, "rows that lead to one block", s.bytes())
	s.blocks = nil
	for range 1 << 16 {
		s.blocks = append(s.blocks, framed(side))
	}
	s.filterAt = len(framed(side)) << 16
	s.lastAt = s.filterAt + 8
	none(t, "one block, over and over", s.bytes())
}

// fill writes into all of l, its spare room too.
func fill[T any](l []T, with T) {
	room := l[:cap(l)]
	for i := range room {
		room[i] = with
	}
}

// R3: what is handed in is not changed, its spare room neither.
func TestHandedIn(t *testing.T) {
	for _, l := range lists() {
		spare := append(slices.Clone(l), put("z", 1, "spare"), del("spare", 2))
		was := slices.Clone(spare)
		for _, per := range []int{0, 1, 3, 64} {
			Put(spare[:len(l)], per, 10)
			Put(spare, per, 10)
			Ends(spare[:len(l)])
		}
		if !slices.Equal(spare, was) {
			t.Errorf("%s was handed in, and is %s", brief(was), brief(spare))
		}
		b := append(rightly(l, 3, filter.Make(usersOf(l), 10)), "spare"...)
		saved := slices.Clone(b)
		for _, c := range [][]byte{b[:len(b)-5], b, b[1:], b[:len(b)-6]} {
			All(c)
			Find(c, l[len(l)-1].Key.User, 9)
			Find(c, "", top)
		}
		if !bytes.Equal(b, saved) {
			t.Errorf("%.200q was handed in, and is %.200q", saved, b)
		}
	}
}

// R3: what is told is new memory, spare room too, and what is handed in is not kept.
func TestMemory(t *testing.T) {
	bad := put("!", 7, "!")
	for _, want := range lists() {
		for _, per := range []int{1, 4, 64} {
			l := slices.Clone(want)
			right := rightly(want, per, filter.Make(usersOf(want), 10))
			first, _ := Put(l, per, 10)
			second, _ := Put(l, per, 10)
			fill(append(second, '!'), '!')
			fill(second, '!')
			if !bytes.Equal(first, right) || !slices.Equal(l, want) {
				t.Errorf("%s: what Put told was written into, and something else changed", brief(want))
			}
			lo, hi := Ends(l)
			fill(l, bad)
			if !bytes.Equal(first, right) || lo != want[0].Key.User || hi != want[len(want)-1].Key.User {
				t.Errorf("%s: what was handed to Put, or Ends, was written into, and what it told changed", brief(want))
			}
			got, _ := All(first)
			other, _ := All(first)
			found, _, _ := Find(first, want[0].Key.User, want[0].Key.Seq)
			fill(append(other, bad), bad)
			fill(other, bad)
			if !bytes.Equal(first, right) || !slices.Equal(got, want) {
				t.Errorf("%s: what All told was written into, and something else changed", brief(want))
			}
			fill(first, '!')
			if !slices.Equal(got, want) || found != want[0] {
				t.Errorf("%s: what was handed in was written into, and what All, or Find, told changed: %s", brief(want), brief(got))
			}
		}
	}
}

// R1, R5: the same call tells the same again, whatever was asked between.
func TestSameAgain(t *testing.T) {
	r := rand.New(rand.NewPCG(5, 6))
	l := several(20)
	b := rightly(l, 6, filter.Make(usersOf(l), 10))
	for range 200 {
		other := some(r, 30)
		c := rightly(other, 1+r.IntN(9), nil)
		Put(other, 3, 12)
		All(c)
		Find(c, "a", 9)
		All(c[1:])
		Put(append(other, other...), 3, 10)
		Ends(other)
		puts(t, "again", l, 6, 10, b)
		one(t, "again", b, l)
		none(t, "again", b[1:])
		fails(t, "again", nil, 3, api.ErrArg)
		fails(t, "again", rising(most+1), 3, api.ErrLarge)
		finds(t, "again", b, l[7].Key.User, top, l[5], true, api.OK)
		finds(t, "again", b, "nobody", 9, api.Entry{}, false, api.OK)
	}
}

// some is rising entries, of few Users and Seqs, so that much is alike.
func some(r *rand.Rand, n int) []api.Entry {
	letters := "\x00ab\xff"
	var l []api.Entry
	for range n {
		user := make([]byte, r.IntN(5))
		for i := range user {
			user[i] = letters[r.IntN(len(letters))]
		}
		seq := []int{0, 1, 2, 63, 64, top - 1, top}[r.IntN(7)]
		e := put(string(user), seq, text(r.IntN(4)))
		if r.IntN(3) == 0 {
			e = del(string(user), seq)
		}
		l = append(l, e)
	}
	slices.SortFunc(l, order)
	return slices.CompactFunc(l, func(a, b api.Entry) bool { return a.Key == b.Key })
}

// 13.1, 13.2, 13.3: lists of all kinds, told and read and sought in another way.
func TestAsTold(t *testing.T) {
	r := rand.New(rand.NewPCG(1, 2))
	for range 1500 {
		l := some(r, 1+r.IntN(60))
		per := 1 + r.IntN(r.IntN(mostBlock)+1)
		bits := manyBits()[r.IntN(len(manyBits()))]
		b := rightly(l, per, filter.Make(usersOf(l), bits))
		puts(t, "a list", l, per, bits, b)
		one(t, "a list", b, l)
		for range 10 {
			k := some(r, 1)[0].Key
			seq := k.Seq + r.IntN(3) - 1
			want, is, e := newest(l, k.User, seq)
			finds(t, "a list", b, k.User, seq, want, is, e)
		}
	}
}

// 13.2: sheets of all kinds, most of which are wrong somewhere, with frames whose sums are right.
func TestAllAsTold(t *testing.T) {
	r := rand.New(rand.NewPCG(3, 4))
	is, not := 0, 0
	for range 8000 {
		l := some(r, 1+r.IntN(12))
		per := 1 + r.IntN(5)
		parts := parted(l, per)
		if r.IntN(3) == 0 {
			// Cut anew, so that some blocks have more than the first, or fewer.
			parts = parts[:0]
			for rest := l; len(rest) > 0; {
				n := 1 + r.IntN(min(3, len(rest)))
				parts, rest = append(parts, rest[:n]), rest[n:]
			}
		}
		if r.IntN(6) == 0 && len(parts) > 1 {
			i := r.IntN(len(parts) - 1)
			parts[i], parts[i+1] = parts[i+1], parts[i]
		}
		s := sheetOf(parts, filters(l)[r.IntN(10)])
		for range r.IntN(3) / 2 {
			i := r.IntN(len(s.lines))
			c, _, _ := slowLine(s.lines[i])
			switch r.IntN(8) {
			case 0:
				s.count += r.IntN(3) - 1
			case 1:
				s.filterAt += r.IntN(3) - 1
			case 2:
				s.lastAt += r.IntN(3) - 1
			case 3:
				c.at += r.IntN(2)
			case 4:
				c.size += r.IntN(3) - 1
			case 5:
				c.n += r.IntN(2)
			case 6:
				c.user = some(r, 1)[0].Key.User
			case 7:
				s.filter = framed(make([]byte, r.IntN(3)))
			}
			s.lines[i] = c.bytes()
		}
		b := s.bytes()
		if asRead(t, "a sheet", b) {
			is++
		} else {
			not++
		}
		for range 3 {
			k := some(r, 1)[0].Key
			want, found, e := slowFind(b, k.User, k.Seq)
			finds(t, "a sheet", b, k.User, k.Seq, want, found, e)
		}
	}
	if is < 2000 || not < 1500 {
		t.Errorf("%d tables, %d others: too few", is, not)
	}
}

// 13.1: what a table is made of is told by layers 1, 2, 7, 11 and 12.
func TestLayersBelow(t *testing.T) {
	l := []api.Entry{put("key", 300, text(200)), del("kez", 7), put("kez", 7, ""), put("l", 1, "x"), put("la", 200, "")}
	first, _ := block.Put(l[:3])
	second, _ := block.Put(l[3:])
	frames := [][]byte{frame.Put(first), frame.Put(second)}
	at := len(frames[0])
	frames = append(frames, frame.Put(filter.Make([]string{"key", "kez", "l", "la"}, 10)))
	last := slices.Concat(key.Put(l[2].Key), num.Put(0), num.Put(at), key.Put(l[4].Key), num.Put(at), num.Put(len(frames[1])))
	filterAt := at + len(frames[1])
	lastAt := filterAt + len(frames[2])
	b := slices.Concat(slices.Concat(frames...), frame.Put(last), num.Fixed(filterAt, 4), num.Fixed(lastAt, 4), num.Fixed(5, 4), []byte("icb1"))
	puts(t, "of the layers below", l, 3, 10, b)
	one(t, "of the layers below", b, l)
	for _, e := range l {
		want, is, _ := newest(l, e.Key.User, e.Key.Seq)
		finds(t, "of the layers below", b, e.Key.User, e.Key.Seq, want, is, api.OK)
	}
}
