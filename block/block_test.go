package block

import (
	"bytes"
	"cmp"
	"encoding/binary"
	"fmt"
	"math"
	"math/rand/v2"
	"slices"
	"strings"
	"testing"

	"icebox/api"
	"icebox/key"
	"icebox/num"
)

const (
	top     = 1 << 53 // the greatest Seq
	most    = 64      // entries of a block
	whole   = 4       // entries from one whole key to the next
	mostKey = 64
	mostVal = 512
)

func put(user string, seq int, val string) api.Entry {
	return api.Entry{Key: api.Key{User: user, Seq: seq, Kind: api.Put}, Val: val}
}

func del(user string, seq int) api.Entry {
	return api.Entry{Key: api.Key{User: user, Seq: seq, Kind: api.Del}}
}

func text(n int) string { return strings.Repeat("t", n) }

// rising is n entries that rise, Puts and Dels by turns.
func rising(n int) []api.Entry {
	l := make([]api.Entry, n)
	for i := range l {
		l[i] = put(fmt.Sprintf("k%03d", i), i+1, fmt.Sprint(i))
		if i%3 == 2 {
			l[i] = del(l[i].Key.User, i+1)
		}
	}
	return l
}

// versions is n entries of one User, the newest first.
func versions(user string, n int) []api.Entry {
	l := make([]api.Entry, n)
	for i := range l {
		l[i] = put(user, n-i, fmt.Sprint(i))
	}
	return l
}

// growing is n entries, the User of each of which is the beginning of the next one's.
func growing(n int) []api.Entry {
	l := make([]api.Entry, n)
	for i := range l {
		l[i] = put(text(i), i%5, "")
	}
	return l
}

// apart is n entries whose Users have nothing in common.
func apart(n int) []api.Entry {
	l := make([]api.Entry, n)
	for i := range l {
		l[i] = put(string([]byte{byte(3 * i), 'x'}), i, "v")
	}
	return l
}

// alike is n entries of Users with as much in common as there may be, of the most bytes.
func alike(n int) []api.Entry {
	l := make([]api.Entry, n)
	for i := range l {
		l[i] = put(text(mostKey-1)+string([]byte{byte(4 * i)}), top, text(mostVal))
	}
	return l
}

// lists is ones that have a Put: of each length, and of the edges of what an entry may be.
func lists() [][]api.Entry {
	l := [][]api.Entry{
		{put("", 0, "")},
		{del("", 0)},
		{put("", top, "x")},
		{del("", top)},
		{put("a", 0, "")},
		{put("a", 1, text(mostVal))},
		{put(text(mostKey), top, text(mostVal))},
		{del(text(mostKey), 63)},
		{put("", 9, "x"), put("", 3, ""), del("", 2), put("", 2, "y"), del("", 0), put("", 0, "")},
		{put("ab", 1, ""), put("abc", 1, ""), put("b", 1, "")},
		{put("abcd", 1, "x"), put("abd", 1, "y"), put("ac", 1, "z"), put("b", 1, ""), put("bcd", 1, ""), put("c", 1, "")},
		{del("a", top), put("a", top, ""), del("a", 64), put("a", 64, "x"), del("a", 0), put("a", 0, "")},
		{put("\x00", 1, ""), put("\x00\x00", 1, ""), put("\x00\xff", 1, ""), put("\x7f", 1, ""), put("\x80", 1, ""), put("\xff", 1, ""), put("\xff\xff", 1, "")},
		{put("h\xc3\xa8", 1, "\xc3"), put("h\xc3\xa9", 1, "\xa9"), put("h\xc4\xa9", 1, "")},
		{put(text(mostKey-1), 3, ""), put(text(mostKey), 2, ""), put(text(mostKey), 1, "")},
		{put("a", 1, text(127)), put("b", 1, text(128)), put("c", 1, text(129))},
		{put("key1", 1, "a"), put("key10", 2, "b"), put("key100", 3, "c"), put("key1000", 4, "d"), put("key2", 5, "e")},
	}
	for _, n := range []int{1, 2, 3, 4, 5, 7, 8, 9, 12, 13, 63, 64} {
		l = append(l, rising(n), versions("user", n), growing(n), apart(n), alike(n))
	}
	return l
}

// number is n as layer 1 tells it, by other means.
func number(n int) []byte { return binary.AppendUvarint(nil, uint64(n)) }

// worded is s behind its length.
func worded(s string) []byte { return append(number(len(s)), s...) }

// line is an entry of a block, as it stands there.
type line struct {
	shared int
	rest   string
	n      int
	val    string
}

func (c line) bytes() []byte {
	return slices.Concat(number(c.shared), worded(c.rest), number(c.n), worded(c.val))
}

// linesOf is l as its lines, whether it may be or not.
func linesOf(l []api.Entry) []line {
	lines := make([]line, len(l))
	for i, e := range l {
		shared := 0
		if i%whole != 0 {
			for shared < len(e.Key.User) && strings.HasPrefix(l[i-1].Key.User, e.Key.User[:shared+1]) {
				shared++
			}
		}
		lines[i] = line{shared, e.Key.User[shared:], 2*e.Key.Seq + e.Key.Kind - 1, e.Val}
	}
	return lines
}

// row is lines as bytes, and where each begins.
func row(lines []line) (b []byte, at []int) {
	for _, c := range lines {
		at = append(at, len(b))
		b = append(b, c.bytes()...)
	}
	return b, at
}

// tail is what stands behind the lines.
func tail(places []int, count int) (b []byte) {
	for _, at := range places {
		b = binary.BigEndian.AppendUint32(b, uint32(at))
	}
	return binary.BigEndian.AppendUint16(b, uint16(count))
}

// everyFourth is the places of whole keys.
func everyFourth(at []int) (places []int) {
	for i := 0; i < len(at); i += whole {
		places = append(places, at[i])
	}
	return places
}

// told is a block of lines.
func told(lines []line) []byte {
	b, at := row(lines)
	places := everyFourth(at)
	return append(b, tail(places, len(places))...)
}

// rightly is l as 12.1 tells it, whether it may be or not.
func rightly(l []api.Entry) []byte { return told(linesOf(l)) }

// brief is v as a text that is not too long to be read.
func brief(v any) string {
	s := fmt.Sprintf("%q", fmt.Sprint(v))
	return s[:min(len(s), 200)]
}

func none(t *testing.T, what string, b []byte) {
	t.Helper()
	if got, ok := Get(b); ok || got != nil {
		t.Errorf("%s: Get(%.80q) = %s, %v", what, b, brief(got), ok)
	}
}

func one(t *testing.T, what string, b []byte, want []api.Entry) {
	t.Helper()
	if got, ok := Get(b); !ok || !slices.Equal(got, want) {
		t.Errorf("%s: Get(%.80q) = %s, %v, not %s", what, b, brief(got), ok, brief(want))
	}
}

func fails(t *testing.T, what string, l []api.Entry, want api.Errno) {
	t.Helper()
	if got, e := Put(l); e != want || got != nil {
		t.Errorf("%s: Put(%s) = %.80q, %d, not %d", what, brief(l), got, e, want)
	}
}

func puts(t *testing.T, what string, l []api.Entry, want []byte) {
	t.Helper()
	if got, e := Put(l); e != api.OK || !bytes.Equal(got, want) {
		t.Errorf("%s: Put(%s) = %q, %d, not %q", what, brief(l), got, e, want)
	}
}

// 12.1: blocks known byte by byte: of one entry, of several that share, of one more than Restart.
func TestPutKnown(t *testing.T) {
	for _, c := range []struct {
		l    []api.Entry
		want string
	}{
		{[]api.Entry{put("", 0, "")}, "\x00\x00\x00\x00" + "\x00\x00\x00\x00" + "\x00\x01"},
		{[]api.Entry{del("", 0)}, "\x00\x00\x01\x00" + "\x00\x00\x00\x00" + "\x00\x01"},
		{[]api.Entry{put("a", 1, "v")}, "\x00\x01a\x02\x01v" + "\x00\x00\x00\x00" + "\x00\x01"},
		{[]api.Entry{del("abc", 64)}, "\x00\x03abc\x81\x01\x00" + "\x00\x00\x00\x00" + "\x00\x01"},
		{[]api.Entry{put("k", top, "")}, "\x00\x01k\x80\x80\x80\x80\x80\x80\x80\x20\x00" + "\x00\x00\x00\x00" + "\x00\x01"},
		{[]api.Entry{del("k", top)}, "\x00\x01k\x81\x80\x80\x80\x80\x80\x80\x20\x00" + "\x00\x00\x00\x00" + "\x00\x01"},
		{
			[]api.Entry{put("ab", 3, "x"), del("ab", 2), put("abc", 1, ""), put("b", 9, "yy")},
			"\x00\x02ab\x06\x01x" + "\x02\x00\x05\x00" + "\x02\x01c\x02\x00" + "\x00\x01b\x12\x02yy" +
				"\x00\x00\x00\x00" + "\x00\x01",
		},
		{
			[]api.Entry{put("abc", 1, ""), put("abd", 1, ""), put("b", 1, ""), put("ba", 1, ""), put("bab", 1, ""), put("babc", 1, "")},
			"\x00\x03abc\x02\x00" + "\x02\x01d\x02\x00" + "\x00\x01b\x02\x00" + "\x01\x01a\x02\x00" + "\x00\x03bab\x02\x00" + "\x03\x01c\x02\x00" +
				"\x00\x00\x00\x00" + "\x00\x00\x00\x16" + "\x00\x02",
		},
	} {
		puts(t, "known", c.l, []byte(c.want))
		one(t, "known", []byte(c.want), c.l)
	}
}

// 12.1: all that may be, against the lines as they are told in another way; the same of each beginning of each.
func TestPut(t *testing.T) {
	for _, l := range lists() {
		for n := 1; n <= len(l); n++ {
			puts(t, "a list", l[:n], rightly(l[:n]))
		}
		if !key.Rising(l) {
			t.Errorf("%s does not rise", brief(l))
		}
	}
}

// 12.1: as many places as there are Restarts, each where a line of 0 begins; of as many entries as there may be.
func TestPutPlaces(t *testing.T) {
	for n := 1; n <= most; n++ {
		for _, l := range [][]api.Entry{rising(n), versions("u", n), alike(n)} {
			b, e := Put(l)
			if e != api.OK {
				t.Fatalf("Put of %d = %d", n, e)
			}
			count := int(binary.BigEndian.Uint16(b[len(b)-2:]))
			if count != (n+3)/4 {
				t.Fatalf("Put of %d has %d places", n, count)
			}
			places := b[len(b)-2-4*count:]
			for i := range count {
				at := int(binary.BigEndian.Uint32(places[4*i:]))
				user := l[4*i].Key.User
				if !bytes.HasPrefix(b[at:], append([]byte{0, byte(len(user))}, user...)) {
					t.Errorf("Put of %d: at %d stands %.20q", n, at, b[at:])
				}
			}
		}
	}
}

// 12.1: the least and the greatest block that there are: a number of one byte and one of several as a place.
func TestPutSizes(t *testing.T) {
	if b, e := Put([]api.Entry{put("", 0, "")}); e != api.OK || len(b) != 10 {
		t.Errorf("the least is %q, %d", b, e)
	}
	var l []api.Entry
	for i := range most {
		l = append(l, put(string([]byte{byte(i)})+text(mostKey-1), top, text(mostVal)))
	}
	puts(t, "the greatest", l, rightly(l))
	if b, _ := Put(l); len(b) != most*(1+1+mostKey+8+2+mostVal)+16*4+2 {
		t.Errorf("the greatest is of %d bytes", len(b))
	}
	one(t, "the greatest", rightly(l), l)
}

// 12.1: how many bytes two Users begin with alike: none, some, all of either; but of each Restart-th none.
func TestPutShared(t *testing.T) {
	users := []string{"", "\x00", "a", "aa", "aab", "ab", "abc", "abcd", "abd", "b", "\x80", "\x80\x80", "\x81", "\xff", text(mostKey - 1), text(mostKey), text(mostKey-1) + "u"}
	slices.Sort(users)
	for i, u := range users {
		for _, v := range users[i:] {
			l := []api.Entry{put(u, 3, "x"), put(v, 2, "y")}
			puts(t, "two", l, rightly(l))
			one(t, "two", rightly(l), l)
			// Where the second one is a Restart-th nothing is shared, and where it is one behind that something is.
			for n := 1; n < 9; n++ {
				l := append(versions("", n+4)[:n], put(u, 3, "x"), put(v, 2, "y"))
				puts(t, "behind others", l, rightly(l))
				one(t, "behind others", rightly(l), l)
			}
		}
	}
}

// mayNot is entries that may not be.
func mayNot() []api.Entry {
	e := func(user string, seq, kind int, val string) api.Entry {
		return api.Entry{Key: api.Key{User: user, Seq: seq, Kind: kind}, Val: val}
	}
	return []api.Entry{
		{},
		e("k", 1, 0, ""), e("k", 1, 3, ""), e("k", 1, -1, ""), e("k", 1, math.MaxInt, ""), e("k", 1, math.MinInt, ""), e("k", 1, 257, "x"),
		put("k", -1, ""), put("k", top+1, ""), put("k", math.MaxInt, ""), put("k", math.MinInt, ""), del("k", -1), del("k", top+1),
		put("k"+text(mostKey), 1, ""), del("k"+text(mostKey), 1), put("k"+strings.Repeat("\xc3\xa9", mostKey/2), 1, ""),
		put("k", 1, text(mostVal+1)), put("k", 1, text(1<<20)), e("k", 1, api.Del, "x"), e("k", 1, api.Del, "\x00"),
	}
}

// 12.1: of none ErrArg; of as many as there may be a block, of one more, and of many more, ErrLarge.
func TestPutCount(t *testing.T) {
	fails(t, "nil", nil, api.ErrArg)
	fails(t, "none", []api.Entry{}, api.ErrArg)
	fails(t, "none, with spare room", rising(9)[:0], api.ErrArg)
	for _, make := range []func(int) []api.Entry{rising, func(n int) []api.Entry { return versions("u", n) }} {
		puts(t, "as many as may be", make(most), rightly(make(most)))
		for _, n := range []int{most + 1, most + 2, most + 4, 128, 256, 257, 999} {
			fails(t, "more", make(n), api.ErrLarge)
		}
	}
}

// 12.1: ErrArg where an entry may not be, the first, the last, one between; also where there are too many.
func TestPutOfMayNot(t *testing.T) {
	for _, bad := range mayNot() {
		fails(t, "alone", []api.Entry{bad}, api.ErrArg)
		for _, n := range []int{2, 4, 5, 9, most, most + 1, 100} {
			for _, at := range []int{0, 1, n / 2, n - 2, n - 1} {
				l := rising(n)
				l[at] = bad
				fails(t, "among others", l, api.ErrArg)
				// At its own place by its User, so that nothing but the one is wrong.
				if l[at].Key.User != "" {
					l[at].Key.User = fmt.Sprintf("k%03d", at) + bad.Key.User[1:]
					fails(t, "at its place", l, api.ErrArg)
				}
			}
		}
	}
}

// 12.1: ErrArg where two are the same, and where they fall, anywhere; also where there are too many.
func TestPutNotRising(t *testing.T) {
	for _, n := range []int{2, 3, 4, 5, 8, 9, most, most + 1, 100} {
		for at := range n - 1 {
			for _, l := range [][]api.Entry{rising(n), versions("u", n)} {
				turned := slices.Clone(l)
				turned[at], turned[at+1] = turned[at+1], turned[at]
				fails(t, "two the other way round", turned, api.ErrArg)
				twice := slices.Clone(l)
				twice[at+1] = twice[at]
				fails(t, "one twice", twice, api.ErrArg)
				twice[at].Val, twice[at].Key.Kind = "one", api.Put
				twice[at+1].Val, twice[at+1].Key.Kind = "two", api.Put
				fails(t, "one key twice", twice, api.ErrArg)
			}
		}
	}
	fails(t, "an older one ahead", []api.Entry{put("a", 1, ""), put("a", 2, "")}, api.ErrArg)
	fails(t, "a lesser Kind ahead", []api.Entry{put("a", 1, ""), del("a", 1)}, api.ErrArg)
	fails(t, "a User ahead of its beginning", []api.Entry{put("ab", 1, ""), put("a", 1, "")}, api.ErrArg)
	fails(t, "Users by characters", []api.Entry{put("\xc3\xa9", 1, ""), put("z", 1, "")}, api.ErrArg)
}

// 12.3: Get of Put is the entries, of each beginning of each list.
func TestGetOfPut(t *testing.T) {
	for _, l := range lists() {
		for n := 1; n <= len(l); n++ {
			b, _ := Put(l[:n])
			one(t, "Get of Put", b, l[:n])
		}
	}
}

// 12.2: nothing, few bytes.
func TestGetOfFewBytes(t *testing.T) {
	none(t, "nil", nil)
	none(t, "nothing", []byte{})
	none(t, "nothing, with spare room", rightly(rising(5))[:0])
	for i := range 256 {
		none(t, "one byte", []byte{byte(i)})
		for k := range 256 {
			none(t, "two bytes", []byte{byte(i), byte(k)})
		}
	}
	for n := range 20 {
		none(t, "noughts", make([]byte, n))
		asRead(t, "noughts of one place", append(make([]byte, n), 0, 1))
	}
	none(t, "one place, no entry", []byte("\x00\x00\x00\x00\x00\x01"))
}

// 12.2: a block that was cut at every place, and one with bytes behind, is none; one without its beginning, or with bytes
// ahead, is none but where it is another one.
func TestGetCut(t *testing.T) {
	for _, l := range lists() {
		b := rightly(l)
		step := 1 + len(b)/300
		for n := 0; n < len(b); n += step {
			none(t, "cut", b[:n])
			none(t, "cut, nothing behind it", slices.Clip(slices.Clone(b[:n])))
			asRead(t, "without its beginning", b[n+1:])
		}
		for _, more := range []string{"\x00", "\x01", "\x80", "\xff", "\x00\x00", "\x00\x01", "\x00\x00\x00\x00", "\x00\x00\x00\x00\x00\x01", "\x00\x00\x00\x00\x00\x00"} {
			none(t, "with more behind", append(slices.Clone(b), more...))
			asRead(t, "with more ahead", append([]byte(more), b...))
		}
		asRead(t, "twice", append(slices.Clone(b), b...))
		one(t, "with more in its spare room", append(slices.Clone(b), "more"...)[:len(b)], l)
	}
}

// plain is num.Get told in another way: it tells the number with which b begins, and the bytes behind it.
func plain(b []byte) (int, []byte, bool) {
	n, size := binary.Uvarint(b)
	if size <= 0 || n > math.MaxInt || !bytes.Equal(binary.AppendUvarint(nil, n), b[:size]) {
		return 0, nil, false
	}
	return int(n), b[size:], true
}

func plainText(b []byte) (string, []byte, bool) {
	n, rest, ok := plain(b)
	if !ok || n > len(rest) {
		return "", nil, false
	}
	return string(rest[:n]), rest[n:], true
}

// above tells whether b's key is above a's, told in another way.
func above(a, b api.Key) bool {
	return cmp.Or(bytes.Compare([]byte(a.User), []byte(b.User)), cmp.Compare(b.Seq, a.Seq), cmp.Compare(b.Kind, a.Kind)) < 0
}

// slowLine reads one line behind an entry, where shared may be so many bytes; it asks of each thing as it comes.
func slowLine(rest []byte, ahead api.Entry, first, isWhole bool) (e api.Entry, behind []byte, ok bool) {
	shared, rest, ok := plain(rest)
	if !ok || shared > len(ahead.Key.User) || isWhole && shared != 0 {
		return e, nil, false
	}
	user, rest, ok := plainText(rest)
	if !ok {
		return e, nil, false
	}
	// It shares all that it could: the next byte, if both have one, is another one.
	left := ahead.Key.User[shared:]
	if !isWhole && left != "" && user != "" && left[0] == user[0] {
		return e, nil, false
	}
	n, rest, ok := plain(rest)
	if !ok || n > 2*top+1 {
		return e, nil, false
	}
	val, rest, ok := plainText(rest)
	e = api.Entry{Key: api.Key{User: ahead.Key.User[:shared] + user, Seq: n >> 1, Kind: 1 + n&1}, Val: val}
	if !ok || len(e.Key.User) > mostKey || len(val) > mostVal || e.Key.Kind == api.Del && val != "" {
		return e, nil, false
	}
	return e, rest, first || above(ahead.Key, e.Key)
}

// slowGet is Get told in another way: from the first line on, as long as there is one, then the places.
func slowGet(b []byte) (l []api.Entry, ok bool) {
	if len(b) < 2 {
		return nil, false
	}
	count := int(b[len(b)-2])<<8 | int(b[len(b)-1])
	end := len(b) - 2 - 4*count
	if end <= 0 {
		return nil, false
	}
	var places []int
	var ahead api.Entry
	for rest := b[:end]; len(rest) > 0; {
		if len(l)%whole == 0 {
			places = append(places, end-len(rest))
		}
		e, behind, ok := slowLine(rest, ahead, len(l) == 0, len(l)%whole == 0)
		if !ok || len(l) == most {
			return nil, false
		}
		l, ahead, rest = append(l, e), e, behind
	}
	if !bytes.Equal(b[end:], tail(places, len(places))) {
		return nil, false
	}
	return l, true
}

// asRead holds Get of b against slowGet, and what it tells against its Put; it tells whether b is a block.
func asRead(t *testing.T, what string, b []byte) bool {
	t.Helper()
	want, ok := slowGet(b)
	if !ok {
		none(t, what, b)
		return false
	}
	one(t, what, b, want)
	puts(t, what, want, b)
	return true
}

// 12.2: each byte of a block as each other one.
func TestGetTurned(t *testing.T) {
	blocks := 0
	for _, l := range lists() {
		b := rightly(l)
		// Of long blocks a few ways only, as most of their bytes are alike.
		step := 1 + len(b)/10
		for i := 0; i < len(b); i += 1 + len(b)/250 {
			for mask := 1; mask < 256; mask += step {
				c := slices.Clone(b)
				c[i] ^= byte(mask)
				if got, ok := Get(c); ok && slices.Equal(got, l) {
					t.Errorf("byte %d of %q is another one, and the entries are the same", i, b)
				}
				if asRead(t, "turned", c) {
					blocks++
				}
			}
		}
	}
	if blocks < 1000 {
		t.Error("too few blocks:", blocks)
	}
}

// 12.2: a byte missing, a byte put in, at each place.
func TestGetMissing(t *testing.T) {
	blocks := 0
	for _, l := range lists() {
		b := rightly(l)
		for i := 0; i < len(b); i += 1 + len(b)/250 {
			if asRead(t, "missing", slices.Delete(slices.Clone(b), i, i+1)) {
				blocks++
			}
			for _, more := range []byte{0, 1, 2, 't', 0x80, 0xff} {
				if asRead(t, "put in", slices.Insert(slices.Clone(b), i, more)) {
					blocks++
				}
			}
		}
	}
	if blocks < 100 {
		t.Error("too few blocks:", blocks)
	}
}

// 12.2: all short bytes of few kinds, ahead of a tail of one place.
func TestGetAllShort(t *testing.T) {
	kinds := []byte{0, 1, 2, 'a', 0x80}
	blocks := 0
	for n := range 9 {
		all := 1
		for range n {
			all *= len(kinds)
		}
		b := append(make([]byte, n), tail([]int{0}, 1)...)
		for i := range all {
			for k := range n {
				b[k] = kinds[i%len(kinds)]
				i /= len(kinds)
			}
			if asRead(t, "short", b) {
				blocks++
			}
		}
	}
	if blocks < 100 {
		t.Error("too few blocks:", blocks)
	}
}

// 12.2: a User begins with as many bytes of the one ahead as it could, no fewer and no more.
func TestGetOtherShared(t *testing.T) {
	for _, l := range lists() {
		lines := linesOf(l)
		for i := range lines {
			user := l[i].Key.User
			if i > 12 && i < len(lines)-2 {
				continue
			}
			for shared := range len(user) + 3 {
				c := slices.Clone(lines)
				if shared != c[i].shared {
					c[i].shared, c[i].rest = shared, user[min(shared, len(user)):]
					none(t, "another beginning", told(c))
					if shared < lines[i].shared {
						// The rest stands as it does beside the right number: it tells another User.
						c[i].rest = lines[i].rest
						asRead(t, "another beginning, the same rest", told(c))
					}
				}
			}
		}
	}
	for _, c := range [][]line{
		{{0, "ab", 4, ""}, {0, "ac", 2, ""}},
		{{0, "ab", 4, ""}, {2, "c", 2, ""}, {1, "bd", 2, ""}},
		{{0, "ab", 4, ""}, {3, "c", 2, ""}},
		{{0, "ab", 4, ""}, {math.MaxInt, "c", 2, ""}},
		{{0, "ab", 4, ""}, {1 << 32, "c", 2, ""}},
		{{0, "", 4, ""}, {1, "", 2, ""}},
		{{1, "", 4, ""}},
		{{1, "a", 4, ""}},
		{{math.MaxInt, "a", 4, ""}},
		{{0, "a", 9, ""}, {1, "", 7, ""}, {1, "", 5, ""}, {1, "", 3, ""}, {1, "", 1, ""}},
	} {
		none(t, "a wrong beginning", told(c))
	}
	one(t, "a right one", told([]line{{0, "ab", 4, ""}, {2, "c", 2, ""}, {1, "c", 2, ""}}), []api.Entry{put("ab", 2, ""), put("abc", 1, ""), put("ac", 1, "")})
}

// parts is the lines of l, each number, and each text, by itself; which of them are numbers.
func parts(l []api.Entry) (p [][]byte, numbers []bool) {
	for _, c := range linesOf(l) {
		p = append(p, number(c.shared), number(len(c.rest)), []byte(c.rest), number(c.n), number(len(c.val)), []byte(c.val))
		numbers = append(numbers, true, true, false, true, true, false)
	}
	return p, numbers
}

// joined is parts with a tail that fits them.
func joined(p [][]byte) []byte {
	var b []byte
	var places []int
	for i, c := range p {
		if i%(6*whole) == 0 {
			places = append(places, len(b))
		}
		b = append(b, c...)
	}
	return append(b, tail(places, len(places))...)
}

// 12.2: no number stands in more bytes than it takes, whichever it is.
func TestGetLongerNumbers(t *testing.T) {
	for _, l := range lists() {
		p, numbers := parts(l)
		for i := range p {
			if !numbers[i] || len(p) > 100 && i%5 != 0 {
				continue
			}
			for more := 1; more <= 10; more += 1 + len(p)/40 {
				long := slices.Clone(p[i])
				long[len(long)-1] |= 0x80
				long = append(append(long, bytes.Repeat([]byte{0x80}, more-1)...), 0)
				c := slices.Clone(p)
				c[i] = long
				none(t, "a number in more bytes", joined(c))
			}
			c := slices.Clone(p)
			c[i] = append(bytes.Repeat([]byte{0xff}, 9), 0x7f)
			none(t, "a number of too many bytes", joined(c))
		}
		one(t, "the parts", joined(p), l)
	}
}

// 12.2: each number above and below what it is, and great ones, that do not wrap round.
func TestGetOtherNumbers(t *testing.T) {
	great := []int{32, 64, 65, 127, 128, 512, 513, 1 << 20, 1 << 31, 1<<32 + 1, 2*top + 1, 2*top + 2, 1 << 62, math.MaxInt - 1, math.MaxInt}
	blocks := 0
	for _, l := range lists() {
		p, numbers := parts(l)
		for i := range p {
			if !numbers[i] || len(p) > 100 && i%5 != 0 {
				continue
			}
			is, _ := binary.Uvarint(p[i])
			for _, n := range append([]int{0, 1, 2, 3, int(is) - 1, int(is) + 1}, great...) {
				if n == int(is) || n < 0 {
					continue
				}
				c := slices.Clone(p)
				c[i] = number(n)
				if asRead(t, "another number", joined(c)) {
					blocks++
				}
			}
		}
	}
	if blocks < 1000 {
		t.Error("too few blocks:", blocks)
	}
}

// 12.2: the edges of what an entry may be, by bytes that are else right.
func TestGetOfMayNot(t *testing.T) {
	for _, c := range []struct {
		lines []line
		is    bool
	}{
		{[]line{{0, "a", 2 * top, "x"}}, true},
		{[]line{{0, "a", 2*top + 1, ""}}, true},
		{[]line{{0, "a", 2*top + 2, ""}}, false},
		{[]line{{0, "a", 2*top + 3, ""}}, false},
		{[]line{{0, "a", math.MaxInt, ""}}, false},
		{[]line{{0, "a", math.MaxInt - 1, ""}}, false},
		{[]line{{0, "a", 2, text(mostVal)}}, true},
		{[]line{{0, "a", 2, text(mostVal + 1)}}, false},
		{[]line{{0, "a", 3, ""}}, true},
		{[]line{{0, "a", 3, "x"}}, false},
		{[]line{{0, text(mostKey), 2, ""}}, true},
		{[]line{{0, text(mostKey + 1), 2, ""}}, false},
		{[]line{{0, text(mostKey), 2, ""}, {mostKey - 1, "u", 2, ""}}, true},
		{[]line{{0, text(mostKey), 2, ""}, {mostKey - 1, "uu", 2, ""}}, false},
		{[]line{{0, text(mostKey), 2, ""}, {mostKey, "t", 2, ""}}, false},
		{[]line{{0, text(mostKey), 2, ""}, {mostKey, text(mostKey), 2, ""}}, false},
	} {
		if got := asRead(t, "an entry", told(c.lines)); got != c.is {
			t.Errorf("%s: %v", brief(c.lines), got)
		}
		// The same behind others, the last of which shares nothing with it.
		behind := append(linesOf(versions("", 9)), c.lines...)
		behind = slices.Delete(behind, 0, 9-whole)
		behind[0] = line{0, "", 18, ""}
		if got := asRead(t, "behind others", told(behind)); got != c.is {
			t.Errorf("behind others, %s: %v", brief(c.lines), got)
		}
	}
}

// 12.2: Users that grow by each entry, by as much as there is ahead of them, are not gathered without end.
func TestGetGrowing(t *testing.T) {
	lines := []line{{0, text(mostKey), 2, ""}}
	for i := 1; i < most; i++ {
		lines = append(lines, line{i * mostKey, text(mostKey), 2, ""})
	}
	none(t, "growing", told(lines))
	long := []line{{0, text(1 << 18), 2, ""}}
	for range most - 1 {
		long = append(long, line{1 << 18, text(9), 2, text(9)})
	}
	none(t, "long", told(long))
}

// 12.2: entries that do not rise, each told as 12.1 says.
func TestGetNotRising(t *testing.T) {
	for _, n := range []int{2, 3, 4, 5, 8, 9, most} {
		for at := range n - 1 {
			for _, l := range [][]api.Entry{rising(n), versions("u", n)} {
				turned := slices.Clone(l)
				turned[at], turned[at+1] = turned[at+1], turned[at]
				none(t, "two the other way round", rightly(turned))
				l[at+1] = l[at]
				none(t, "one twice", rightly(l))
			}
		}
	}
	none(t, "an older one ahead", rightly([]api.Entry{put("a", 1, ""), put("a", 2, "")}))
	none(t, "a lesser Kind ahead", rightly([]api.Entry{put("a", 1, ""), del("a", 1)}))
	none(t, "a User ahead of its beginning", rightly([]api.Entry{put("ab", 1, ""), put("a", 1, "")}))
}

// 12.2: more entries than there may be, each told as 12.1 says.
func TestGetMany(t *testing.T) {
	one(t, "as many as may be", rightly(rising(most)), rising(most))
	for _, n := range []int{most + 1, most + 2, most + 4, 128, 999} {
		none(t, "more", rightly(rising(n)))
		none(t, "more", rightly(versions("u", n)))
	}
	none(t, "very many", rightly(versions("", 1<<16)))
}

// 12.2: each place as another one, too few of them, too many, none, more than there are bytes.
func TestGetPlaces(t *testing.T) {
	for _, l := range lists() {
		b, at := row(linesOf(l))
		right := everyFourth(at)
		with := func(places []int, count int) []byte { return append(slices.Clone(b), tail(places, count)...) }
		one(t, "the right places", with(right, len(right)), l)
		for i, is := range right {
			for _, other := range append([]int{0, 1, is - 1, is + 1, len(b), len(b) - 1, 1 << 20, 1<<31 - 1, 1 << 31, 1<<32 - 1, is + 256, is + 1<<24}, at[:min(len(at), 9)]...) {
				if other < 0 || other == is {
					continue
				}
				c := slices.Clone(right)
				c[i] = other
				none(t, "another place", with(c, len(c)))
			}
			none(t, "a place less", with(slices.Delete(slices.Clone(right), i, i+1), len(right)-1))
			none(t, "a place twice", with(slices.Insert(slices.Clone(right), i, is), len(right)+1))
		}
		for count := range 70 {
			if count != len(right) {
				none(t, "another count", with(right, count))
				none(t, "places of noughts", with(make([]int, count), count))
			}
		}
		for _, count := range []int{255, 256, 257, 1 << 8 * len(right) & 0xffff, len(right) + 256, 1 << 14, 1 << 15, 1<<16 - 1} {
			none(t, "more than there are bytes", with(right, count))
		}
		for more := 1; more < 4; more++ {
			// The right tail, and behind it as much as makes of it the beginning of a longer one.
			longer := append(with(right, len(right)), make([]byte, 4*more-2)...)
			none(t, "the right tail ahead", append(longer, 0, byte(len(right)+more)))
		}
		if len(at) > 1 {
			none(t, "each entry's place", with(at, len(at)))
		}
		slices.Reverse(right)
		if len(right) > 1 {
			none(t, "the other way round", with(right, len(right)))
		}
	}
}

// 12.2: the tail alone, and a tail that goes over all the bytes there are.
func TestGetTailAlone(t *testing.T) {
	for count := range 20 {
		none(t, "a tail alone", tail(make([]int, count), count))
		b := rightly(rising(5))
		for n := range len(b) {
			asRead(t, "another count behind", append(slices.Clone(b[:n]), tail(nil, count)...))
		}
	}
}

// 12.2: many bytes that are no block: a Val, a User of great length, a number without end.
func TestGetLongBytes(t *testing.T) {
	long := 1 << 20
	none(t, "a Val", told([]line{{0, "a", 2, text(long)}}))
	none(t, "a User", told([]line{{0, text(long), 2, ""}}))
	for _, c := range []byte{0, 1, 0x7f, 0x80, 0xff} {
		b := bytes.Repeat([]byte{c}, long)
		none(t, "alike", b)
		none(t, "alike, one place", append(b, tail([]int{0}, 1)...))
		none(t, "alike, many places", append(b, tail([]int{0}, long/4)...))
	}
}

// asked is keys to seek l for: each that is there, those just ahead of it and just behind it, and ones that may not be.
func asked(l []api.Entry) (keys []api.Key) {
	add := func(user string, seqs []int, kinds []int) {
		for _, seq := range seqs {
			for _, kind := range kinds {
				keys = append(keys, api.Key{User: user, Seq: seq, Kind: kind})
			}
		}
	}
	all, kinds := []int{math.MinInt, -1, 0, 1, top, top + 1, math.MaxInt}, []int{math.MinInt, 0, 1, 2, 3, math.MaxInt}
	for _, user := range []string{"", "\x00", "a", "k", "l", text(9), text(mostKey), text(mostKey + 1), text(200), "\xff", strings.Repeat("\xff", mostKey+1)} {
		add(user, all, kinds)
	}
	for _, e := range l {
		u, s := e.Key.User, e.Key.Seq
		add(u, []int{s - 1, s, s + 1, 0, math.MinInt, math.MaxInt}, []int{0, 1, 2, 3})
		add(u+"\x00", []int{s}, []int{1})
		add(u+"\xff", []int{s}, []int{2})
		if u != "" {
			add(u[:len(u)-1], []int{s, 0}, []int{1})
			add(u[:len(u)-1]+string([]byte{u[len(u)-1] - 1}), []int{s}, []int{1})
			add(u[:len(u)-1]+string([]byte{u[len(u)-1] + 1}), []int{s}, []int{1})
		}
	}
	return keys
}

// slowSeek is the first of l that is not below k, each asked in turn.
func slowSeek(l []api.Entry, k api.Key) (api.Entry, bool) {
	for _, e := range l {
		if !above(e.Key, k) {
			return e, true
		}
	}
	return api.Entry{}, false
}

func seeks(t *testing.T, what string, l []api.Entry, b []byte, k api.Key) {
	t.Helper()
	want, is := slowSeek(l, k)
	if got, ok := Seek(b, k); got != want || ok != is {
		t.Errorf("%s: Seek(%s, %s) = %s, %v, not %s, %v", what, brief(l), brief(k), brief(got), ok, brief(want), is)
	}
}

// 12.2: Seek known: ahead of the first, at each, between any two, behind the last.
func TestSeekKnown(t *testing.T) {
	l := []api.Entry{put("b", 5, "5"), del("b", 3), put("b", 3, "3"), put("d", 1, ""), put("da", 9, "da"), put("f", 2, "f")}
	b, _ := Put(l)
	for _, c := range []struct {
		user      string
		seq, kind int
		want      int
	}{
		{"", 0, 0, 0}, {"a", 7, 1, 0}, {"b", 6, 1, 0}, {"b", top, 2, 0}, {"b", 5, 2, 0}, {"b", 5, 1, 0}, {"b", 5, 0, 1},
		{"b", 4, 1, 1}, {"b", 3, 3, 1}, {"b", 3, 2, 1}, {"b", 3, 1, 2}, {"b", 3, 0, 3}, {"b", 2, 1, 3}, {"b", -1, 1, 3},
		{"c", 0, 1, 3}, {"d", 1, 2, 3}, {"d", 1, 1, 3}, {"d", 0, 1, 4}, {"d\x00", 0, 1, 4}, {"da", 9, 1, 4}, {"da", 8, 1, 5},
		{"e", 3, 1, 5}, {"f", 2, 1, 5}, {"f", math.MaxInt, 1, 5},
	} {
		k := api.Key{User: c.user, Seq: c.seq, Kind: c.kind}
		if got, ok := Seek(b, k); !ok || got != l[c.want] {
			t.Errorf("Seek(%v) = %v, %v, not %v", k, got, ok, l[c.want])
		}
	}
	for _, k := range []api.Key{{User: "f", Seq: 2}, {User: "f", Seq: 1, Kind: 2}, {User: "f\x00", Seq: top, Kind: 1}, {User: "g"}, {User: text(99), Seq: 1, Kind: 1}} {
		if got, ok := Seek(b, k); ok || got != (api.Entry{}) {
			t.Errorf("Seek(%v) = %v, %v", k, got, ok)
		}
	}
}

// 12.2: Seek of all keys that are there, of those beside them, and of others, of each list.
func TestSeek(t *testing.T) {
	for _, l := range lists() {
		b := rightly(l)
		keys := asked(l)
		step := 1 + len(b)/4000
		for i := 0; i < len(keys); i += step {
			seeks(t, "a list", l, b, keys[i])
		}
		for _, e := range l {
			seeks(t, "what is there", l, b, e.Key)
			e.Key.Kind--
			seeks(t, "just behind it", l, b, e.Key)
			e.Key.Kind += 2
			seeks(t, "just ahead of it", l, b, e.Key)
		}
	}
}

// 12.2: Seek on both sides of each whole key, of blocks of each length.
func TestSeekWholeKeys(t *testing.T) {
	for n := 1; n <= most; n++ {
		for _, l := range [][]api.Entry{rising(n), versions("u", n), growing(n)} {
			b := rightly(l)
			for i := 0; i < n; i += whole {
				for _, at := range []int{i - 1, i, i + 1} {
					if at < 0 || at >= n {
						continue
					}
					k := l[at].Key
					for _, beside := range []api.Key{k, {User: k.User, Seq: k.Seq, Kind: k.Kind - 1}, {User: k.User, Seq: k.Seq, Kind: k.Kind + 1}, {User: k.User, Seq: k.Seq - 1, Kind: k.Kind}, {User: k.User, Seq: k.Seq + 1, Kind: k.Kind}} {
						seeks(t, "a whole key", l, b, beside)
					}
				}
			}
			last := l[n-1].Key
			seeks(t, "ahead of the first", l, b, api.Key{Seq: math.MaxInt, Kind: math.MaxInt})
			seeks(t, "behind the last", l, b, api.Key{User: last.User, Seq: last.Seq, Kind: 0})
			seeks(t, "far behind the last", l, b, api.Key{User: "\xff\xff"})
		}
	}
}

// 12.2: where Seek goes on from: the last whole key that is below what is asked for, or the first.
func TestSeekStart(t *testing.T) {
	for n := 1; n <= most; n++ {
		for _, l := range [][]api.Entry{rising(n), versions("u", n)} {
			_, at := row(linesOf(l))
			entries, places, ok := split(rightly(l))
			if !ok || len(places) != 4*len(everyFourth(at)) {
				t.Fatalf("%d places: %v", len(places), ok)
			}
			for i, e := range l {
				for _, kind := range []int{0, e.Key.Kind, 3} {
					k := api.Key{User: e.Key.User, Seq: e.Key.Seq, Kind: kind}
					want := i / whole
					if want > 0 && i%whole == 0 && kind != 0 {
						want--
					}
					if got := start(entries, places, k); got != at[want*whole] {
						t.Errorf("of %d, for %v: from %d on, not %d", n, k, got, at[want*whole])
					}
				}
			}
		}
	}
}

// 12.2: Seek of no block, whatever is asked for, though a part of it tells what is asked.
func TestSeekNoBlock(t *testing.T) {
	l := rising(9)
	b := rightly(l)
	keys := []api.Key{{}, l[0].Key, l[1].Key, l[4].Key, l[8].Key, {User: "z"}, {User: text(99), Seq: -1, Kind: 7}}
	nothing := func(what string, b []byte) {
		t.Helper()
		if _, ok := slowGet(b); ok {
			t.Fatalf("%s: %q is a block", what, b)
		}
		for _, k := range keys {
			if got, ok := Seek(b, k); ok || got != (api.Entry{}) {
				t.Errorf("%s: Seek(%q, %v) = %v, %v", what, b, k, got, ok)
			}
		}
	}
	nothing("nil", nil)
	nothing("nothing", []byte{})
	nothing("a text", []byte("no block"))
	nothing("noughts", make([]byte, 99))
	nothing("not rising", rightly([]api.Entry{l[1], l[0]}))
	nothing("too many", rightly(rising(most+1)))
	for n := range b {
		nothing("cut", b[:n])
		nothing("without its beginning", b[n+1:])
	}
	nothing("more behind", append(slices.Clone(b), 0))
	nothing("more ahead", append([]byte{0}, b...))
	lines, at := row(linesOf(l))
	for _, places := range [][]int{{0, at[4], at[8] + 1}, {0, at[8], at[4]}, {1, at[4], at[8]}, {0, at[4]}, {0}, {}, {0, at[4], 1<<32 - 1}, {1 << 31, at[4], at[8]}} {
		nothing("other places", append(slices.Clone(lines), tail(places, len(places))...))
	}
	worse := linesOf(l)
	worse[8].n += 2 * top
	nothing("the last may not be", told(worse))
	worse = linesOf(l)
	worse[3].shared, worse[3].rest = 0, l[3].Key.User
	nothing("a shorter beginning", told(worse))
}

// some is rising entries, of few Users and Seqs, so that much is alike.
func some(r *rand.Rand, n int) []api.Entry {
	letters := "\x00ab\xff"
	var l []api.Entry
	for range n {
		user := make([]byte, r.IntN(5))
		for i := range user {
			user[i] = letters[r.IntN(len(letters))]
		}
		seq := []int{0, 1, 2, 63, 64, top - 1, top}[r.IntN(7)]
		e := put(string(user), seq, text(r.IntN(4)))
		if r.IntN(3) == 0 {
			e = del(string(user), seq)
		}
		l = append(l, e)
	}
	slices.SortFunc(l, func(a, b api.Entry) int {
		return cmp.Or(strings.Compare(a.Key.User, b.Key.User), cmp.Compare(b.Key.Seq, a.Key.Seq), cmp.Compare(b.Key.Kind, a.Key.Kind))
	})
	return slices.CompactFunc(l, func(a, b api.Entry) bool { return a.Key == b.Key })
}

// 12.1, 12.2, 12.3: lists of all kinds, told and read and sought in another way.
func TestAsTold(t *testing.T) {
	r := rand.New(rand.NewPCG(1, 2))
	for range 3000 {
		l := some(r, 1+r.IntN(most))
		b := rightly(l)
		puts(t, "a list", l, b)
		one(t, "a list", b, l)
		for range 20 {
			k := some(r, 1)[0].Key
			k.Seq += r.IntN(3) - 1
			k.Kind = r.IntN(4)
			seeks(t, "a list", l, b, k)
		}
	}
}

// 12.2: lines of all kinds, most of which are wrong somewhere, and bytes changed in several places.
func TestGetAsTold(t *testing.T) {
	r := rand.New(rand.NewPCG(3, 4))
	is, not := 0, 0
	for i := range 30000 {
		l := some(r, 1+r.IntN(9))
		lines := linesOf(l)
		for range r.IntN(2) {
			at := r.IntN(len(lines))
			lines[at].shared = r.IntN(4)
			lines[at].n += r.IntN(5) - min(2, lines[at].n)
		}
		b := told(lines)
		for range r.IntN(3) * (i % 2) {
			b[r.IntN(len(b))] = byte(r.IntN(6))
		}
		if asRead(t, "lines", b) {
			is++
		} else {
			not++
		}
	}
	if is < 5000 || not < 5000 {
		t.Errorf("%d blocks, %d others: too few", is, not)
	}
}

// fill writes into all of l, its spare room too.
func fill[T any](l []T, with T) {
	room := l[:cap(l)]
	for i := range room {
		room[i] = with
	}
}

// R3: what is handed in is not changed, its spare room neither.
func TestHandedIn(t *testing.T) {
	for _, l := range lists() {
		spare := append(slices.Clone(l), put("z", 1, "spare"), del("spare", 2))
		was := slices.Clone(spare)
		Put(spare[:len(l)])
		Put(spare)
		if !slices.Equal(spare, was) {
			t.Errorf("%s was handed in, and is %s", brief(was), brief(spare))
		}
		b := append(rightly(l), "spare"...)
		saved := slices.Clone(b)
		for _, c := range [][]byte{b[:len(b)-5], b, b[1:], b[:len(b)-6]} {
			Get(c)
			Seek(c, l[len(l)-1].Key)
			Seek(c, api.Key{})
		}
		if !bytes.Equal(b, saved) {
			t.Errorf("%q was handed in, and is %q", saved, b)
		}
	}
}

// R3: what is told is new memory, spare room too, and what is handed in is not kept.
func TestMemory(t *testing.T) {
	bad := put("!", 7, "!")
	for _, want := range lists() {
		l := slices.Clone(want)
		first, _ := Put(l)
		second, _ := Put(l)
		fill(append(second, '!'), '!')
		fill(second, '!')
		if !bytes.Equal(first, rightly(want)) || !slices.Equal(l, want) {
			t.Errorf("%s: what Put told was written into, and something else changed", brief(want))
		}
		fill(l, bad)
		if !bytes.Equal(first, rightly(want)) {
			t.Errorf("%s: what was handed to Put was written into, and what it told changed", brief(want))
		}
		got, _ := Get(first)
		other, _ := Get(first)
		found, _ := Seek(first, want[len(want)-1].Key)
		fill(append(other, bad), bad)
		fill(other, bad)
		if !bytes.Equal(first, rightly(want)) || !slices.Equal(got, want) {
			t.Errorf("%s: what Get told was written into, and something else changed", brief(want))
		}
		fill(first, '!')
		if !slices.Equal(got, want) || found != want[len(want)-1] {
			t.Errorf("%s: what was handed to Get was written into, and what it told changed: %s", brief(want), brief(got))
		}
	}
}

// R1, R5: the same call tells the same again, whatever was asked between.
func TestSameAgain(t *testing.T) {
	r := rand.New(rand.NewPCG(5, 6))
	l := []api.Entry{put("ab", 3, "x"), del("ab", 2), put("abc", 1, ""), put("b", 9, "yy"), put("ba", 64, ""), put("c", 1, "")}
	b := rightly(l)
	for range 300 {
		other := some(r, 30)
		c := rightly(other)
		Put(other)
		Get(c)
		Seek(c, l[2].Key)
		Get(c[1:])
		Put(append(other, other...))
		puts(t, "again", l, b)
		one(t, "again", b, l)
		none(t, "again", b[1:])
		fails(t, "again", nil, api.ErrArg)
		fails(t, "again", rising(most+1), api.ErrLarge)
		seeks(t, "again", l, b, api.Key{User: "abc"})
	}
}

// 12.1: the numbers and texts of a block are layer 1's, and its keys layer 2's.
func TestLayersBelow(t *testing.T) {
	l := []api.Entry{put("key", 300, text(200)), del("kez", 7), put("kez", 7, ""), put("l", 1, "x"), put("la", 200, "")}
	lines := [][]byte{
		num.Put(0), num.PutText("key"), num.Put(600), num.PutText(text(200)),
		num.Put(2), num.PutText("z"), num.Put(15), num.PutText(""),
		num.Put(3), num.PutText(""), num.Put(14), num.PutText(""),
		num.Put(0), num.PutText("l"), num.Put(2), num.PutText("x"),
	}
	start := len(slices.Concat(lines...))
	lines = append(lines, num.Put(0), key.Put(l[4].Key), num.PutText(""), num.Fixed(0, 4), num.Fixed(start, 4), num.Fixed(2, 2))
	puts(t, "of the layers below", l, slices.Concat(lines...))
	one(t, "of the layers below", slices.Concat(lines...), l)
}
