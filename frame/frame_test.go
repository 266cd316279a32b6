package frame

import (
	"bytes"
	"encoding/binary"
	"fmt"
	"hash/crc32"
	"math"
	"math/rand/v2"
	"slices"
	"strings"
	"testing"

	"icebox/api"
)

const (
	before = 8           // bytes of a record ahead of what it holds
	most   = 1024 * 1024 // bytes that a record may hold
)

// record lays a length and a check sum ahead of b, as they come.
func record(size, check uint32, b string) []byte {
	l := binary.BigEndian.AppendUint32(nil, size)
	l = binary.BigEndian.AppendUint32(l, check)
	return append(l, b...)
}

func crc(b string) uint32 {
	return crc32.Checksum([]byte(b), crc32.MakeTable(crc32.Castagnoli))
}

// rightly is b as a record with its own length and its own check sum, however long it is.
func rightly(b string) []byte {
	return record(uint32(len(b)), crc(b), b)
}

// row is the records of all these, one behind the other, and where each of them ends.
func row(l ...string) (b []byte, ends []int) {
	for _, s := range l {
		b = append(b, rightly(s)...)
		ends = append(ends, len(b))
	}
	return b, ends
}

// some is n bytes by a fixed rule, so that each run tries the same ones.
func some(n int, from uint64) string {
	r := rand.New(rand.NewPCG(from, 7))
	b := make([]byte, n)
	for i := range b {
		b[i] = byte(r.Uint32())
	}
	return string(b)
}

// texts is what records may hold: nothing, little, what looks like records, and as much as there may be.
func texts() []string {
	l := []string{"", "z", "\x00", "\xff", "123456789", "\x80\xfe\xff", "né", strings.Repeat("\x00", 8), strings.Repeat("\xff", 8)}
	for _, n := range []int{7, 8, 9, 127, 128, 255, 256, 257, 65535, 65536, 65537, most - 1, most} {
		l = append(l, some(n, uint64(n)))
	}
	return append(l, string(rightly("in")), string(rightly("")), string(rightly("in"))[:9])
}

// short is those of texts that take little time to be gone through many times.
func short() []string {
	return slices.DeleteFunc(texts(), func(s string) bool { return len(s) > 300 })
}

func none(t *testing.T, what string, b []byte, at int) {
	t.Helper()
	if p, next, ok := Get(b, at); ok || next != 0 || p != nil {
		t.Errorf("%s: Get(%.40q, %d) = %.40q (nil: %v), %d, %v", what, b, at, p, p == nil, next, ok)
	}
}

func one(t *testing.T, what string, b []byte, at int, want string, end int) {
	t.Helper()
	if p, next, ok := Get(b, at); !ok || next != end || string(p) != want {
		t.Errorf("%s: Get(%.40q, %d) = %.40q, %d, %v, not %.40q, %d", what, b, at, p, next, ok, want, end)
	}
}

func scans(t *testing.T, what string, b []byte, want []string, end int) {
	t.Helper()
	l, good := Scan(b)
	if good != end || !slices.EqualFunc(l, want, func(p []byte, s string) bool { return string(p) == s }) {
		t.Errorf("%s: Scan(%.40q) = %d records %.80q, %d, not %d, %d", what, b, len(l), l, good, len(want), end)
	}
}

// 7.1: the bytes of Put, known ones: of nothing, of one byte, of more.
func TestPut(t *testing.T) {
	for _, c := range []struct{ b, want string }{
		{"", "\x00\x00\x00\x00\x00\x00\x00\x00"},
		{"\x00", "\x00\x00\x00\x01\x52\x7d\x53\x51\x00"},
		{"\xff", "\x00\x00\x00\x01\xff\x00\x00\x00\xff"},
		{"a", "\x00\x00\x00\x01\xc1\xd0\x43\x30a"},
		{"abc", "\x00\x00\x00\x03\x36\x4b\x3f\xb7abc"},
		{"123456789", "\x00\x00\x00\x09\xe3\x06\x92\x83123456789"},
		{strings.Repeat("\x00", 32), "\x00\x00\x00\x20\x8a\x91\x36\xaa" + strings.Repeat("\x00", 32)},
	} {
		if got := Put([]byte(c.b)); string(got) != c.want {
			t.Errorf("Put(%q) = %q, not %q", c.b, got, c.want)
		}
	}
	if got := Put(nil); string(got) != strings.Repeat("\x00", 8) {
		t.Errorf("Put of nil: %q", got)
	}
	if got := Put([]byte("abc")[1:1]); string(got) != strings.Repeat("\x00", 8) {
		t.Errorf("Put of no bytes ahead of others: %q", got)
	}
}

// 7.1: of each length Put is the length, the check sum and the bytes, and no more.
func TestPutShape(t *testing.T) {
	for n := range 600 {
		s := some(n, uint64(n))
		if got := Put([]byte(s)); !bytes.Equal(got, rightly(s)) {
			t.Errorf("Put of %d bytes: %.40q", n, got)
		}
	}
	for _, s := range texts() {
		if got := Put([]byte(s)); !bytes.Equal(got, rightly(s)) {
			t.Errorf("Put(%.40q) of %d bytes: %.40q", s, len(s), got)
		}
	}
}

// 7.1: as many bytes as there may be have a record; more of them have none.
func TestPutMost(t *testing.T) {
	if api.MaxFile != most {
		t.Fatal("MaxFile:", api.MaxFile)
	}
	got := Put(make([]byte, most))
	if len(got) != most+before || string(got[:4]) != "\x00\x10\x00\x00" {
		t.Errorf("Put of %d bytes: %d bytes, %.8q", most, len(got), got)
	}
	for _, n := range []int{most + 1, most + 2, most + before, 2 * most, 1 << 24, 1<<24 + 1} {
		if got := Put(make([]byte, n)); got != nil {
			t.Errorf("Put of %d bytes: %d bytes", n, len(got))
		}
	}
}

// 7.1: Get of Put is the bytes, wherever it stands, and whatever stands around it.
func TestGetOfPut(t *testing.T) {
	for _, s := range texts() {
		whole := Put([]byte(s))
		for _, ahead := range []string{"", "\x00", "abc", "\xff\xff\xff\xff\xff\xff\xff\xff", "\x00\x00\x00\x01"} {
			for _, behind := range []string{"", "\x00", "xyz", "\x00\x00\x00\x00\x00\x00\x00\x00", "\xff\xff\xff\xff\xff\xff\xff\xff\xff"} {
				b := slices.Concat([]byte(ahead), whole, []byte(behind))
				one(t, "Get of Put", b, len(ahead), s, len(ahead)+len(whole))
			}
		}
	}
}

// 7.1: where records stand side by side each is told at its place, and at no other one. (The one of no bytes is the last:
// noughts behind it would be such records too.)
func TestGetPlaces(t *testing.T) {
	l := []string{"123456789", "z", "né", "the last", ""}
	b, ends := row(l...)
	was := slices.Clone(b)
	at := map[int]int{0: 0}
	for i, end := range ends[:len(ends)-1] {
		at[end] = i + 1
	}
	for place := -20; place < len(b)+20; place++ {
		if i, ok := at[place]; ok {
			one(t, "a record's place", b, place, l[i], ends[i])
		} else {
			none(t, "no record's place", b, place)
		}
	}
	if !bytes.Equal(b, was) {
		t.Error("Get changed what was handed in")
	}
}

// 7.1: places of which there are none never count from the end, nor wrap round.
func TestGetNoPlace(t *testing.T) {
	rows := [][]byte{nil, {}, {0}, make([]byte, 7), make([]byte, 8), make([]byte, 16), rightly("z"), rightly("123456789")}
	for _, b := range rows {
		places := []int{math.MaxInt, math.MinInt, 1 << 62, -1 << 62, 1 << 31, 1 << 32, 1<<32 + 8, -1 << 32, 1<<32 - 8}
		for i := range 12 {
			places = append(places, -1-i, len(b)+i, len(b)-7+min(i, 7), math.MaxInt-i, math.MinInt+i, -len(b)-i-1)
		}
		for _, at := range places {
			none(t, "no place", b, at)
		}
	}
	one(t, "a place of noughts", make([]byte, 16), 8, "", 16)
	one(t, "a place of noughts", make([]byte, 16), 5, "", 13)
	none(t, "a place of fewer noughts", make([]byte, 16), 9)
}

// 7.1: less than a record's head is left, less than its length says, and just so much.
func TestGetCut(t *testing.T) {
	for _, s := range short() {
		whole := rightly(s)
		for _, ahead := range []string{"", "abc", string(rightly("ahead"))} {
			b := append([]byte(ahead), whole...)
			for n := range whole {
				none(t, "cut", b[:len(ahead)+n], len(ahead))
				none(t, "cut, nothing behind it", slices.Clip(slices.Clone(b[:len(ahead)+n])), len(ahead))
			}
			one(t, "just so much", b, len(ahead), s, len(b))
		}
	}
	whole := rightly(some(most, 1))
	none(t, "one byte of as many as may be is missing", whole[:len(whole)-1], 0)
}

// 7.1: a length that is below, or above, what the check sum is of.
func TestGetLength(t *testing.T) {
	s := "123456789"
	for _, size := range []uint32{0, 1, 8, 10, 11, 255, 256, 65536, most - 1, most, most + 1} {
		none(t, "another length", record(size, crc(s), s), 0)
		none(t, "another length, noughts behind", append(record(size, crc(s), s), make([]byte, 20)...), 0)
	}
	none(t, "a length of 0, and a check sum", record(0, 1, ""), 0)
	none(t, "a length of 0, and all ones", record(0, math.MaxUint32, ""), 0)
	one(t, "a length of its own", record(3, crc("123"), s), 0, "123", before+3)
}

// 7.1: a length beyond MaxFile has no Put, though as many bytes and their check sum stand there.
func TestGetTooLong(t *testing.T) {
	one(t, "as many as may be", rightly(some(most, 2)), 0, some(most, 2), before+most)
	one(t, "as many as may be, and one behind", append(rightly(some(most, 2)), 'x'), 0, some(most, 2), before+most)
	for _, n := range []int{most + 1, most + 2, most + before, 2 * most, 1 << 24, 1<<24 + 1} {
		b := rightly(some(n, 3))
		none(t, "too many bytes", b, 0)
		none(t, "too many bytes, behind others", append([]byte("abc"), b...), 3)
		scans(t, "too many bytes", b, nil, 0)
	}
	none(t, "too many noughts", rightly(strings.Repeat("\x00", most+1)), 0)
	held := some(most, 2)
	for _, size := range []uint32{most + 1, most + 2, 2 * most, 1<<24 + most, 1<<31 + most, math.MaxUint32} {
		none(t, "too great a length, check sum of as many as may be", record(size, crc(held), held+some(most, 3)), 0)
	}
}

// 7.1: lengths up to the greatest that four bytes can tell; none of them wraps round, nor is below 0.
func TestGetGreatLength(t *testing.T) {
	for _, size := range []uint32{math.MaxUint32, math.MaxUint32 - 1, math.MaxUint32 - 7, math.MaxUint32 - 8, math.MaxInt32, math.MaxInt32 + 1, 1 << 31, 1 << 30, 1 << 28, 1 << 24, 1<<24 + 3, 0xffff0003, 0x80000003} {
		for _, s := range []string{"", "abc", "123456789"} {
			for _, check := range []uint32{0, crc(s), crc(""), math.MaxUint32} {
				b := record(size, check, s)
				none(t, "a great length", b, 0)
				none(t, "a great length, behind others", append(rightly("xyz"), b...), 11)
				scans(t, "a great length", b, nil, 0)
			}
		}
	}
}

// turned tells whether Get has none of b, which is s as a record, where its bits are turned by mask from byte i on.
func turned(t *testing.T, b []byte, i int, mask []byte) {
	t.Helper()
	c := slices.Clone(b)
	for k, m := range mask {
		c[i+k] ^= m
	}
	none(t, fmt.Sprintf("turned from byte %d on by %x", i, mask), c, 0)
}

// 7.1: a record of which one byte is turned, in any way: of its length, of its check sum, of what is behind.
func TestGetTurned(t *testing.T) {
	for _, s := range []string{"123456789", "z", "\x00", "\xff\xff\xff\xff\xff\xff\xff\xff\xff\xff\xff\xff", some(60, 4)} {
		alone := rightly(s)
		followed := append(rightly(s), string(rightly("behind"))+some(2000, 5)...)
		for i := range alone {
			for mask := 1; mask < 256; mask++ {
				turned(t, alone, i, []byte{byte(mask)})
				turned(t, followed, i, []byte{byte(mask)})
			}
		}
	}
}

// 7.1, 3.2: bytes side by side are turned, up to four of them, in the check sum or in what is behind.
func TestGetTurnedSideBySide(t *testing.T) {
	for _, s := range []string{"123456789", some(40, 6)} {
		b := rightly(s)
		for n := 2; n <= 4; n++ {
			masks := [][]byte{bytes.Repeat([]byte{1}, n), bytes.Repeat([]byte{255}, n), bytes.Repeat([]byte{128}, n), []byte(some(n, 8))}
			for _, mask := range masks {
				turned(t, b, 4, mask)
				turned(t, b, before-n, mask)
				for i := before; i+n <= len(b); i++ {
					turned(t, b, i, mask)
				}
			}
		}
	}
}

// 7.1: a record's bytes in another order: the check sum ahead of the length, the lowest byte first, both behind.
func TestGetOtherShape(t *testing.T) {
	s := "abc"
	b := rightly(s)
	none(t, "check sum first", slices.Concat(b[4:8], b[:4], b[8:]), 0)
	none(t, "bytes first", slices.Concat(b[8:], b[:8]), 0)
	low := binary.LittleEndian.AppendUint32(nil, uint32(len(s)))
	none(t, "length, lowest byte first", append(low, b[4:]...), 0)
	low = binary.LittleEndian.AppendUint32(slices.Clone(b[:4]), crc(s))
	none(t, "check sum, lowest byte first", append(low, s...), 0)
	none(t, "check sum of length and bytes", record(3, crc("\x00\x00\x00\x03abc"), s), 0)
	none(t, "check sum of another kind", record(3, crc32.ChecksumIEEE([]byte(s)), s), 0)
}

// 7.1: Scan of nothing, of one record, of many, of records of no bytes, of the longest ones.
func TestScan(t *testing.T) {
	scans(t, "nil", nil, nil, 0)
	scans(t, "nothing", []byte{}, nil, 0)
	for _, s := range texts() {
		b, ends := row(s)
		scans(t, "one", b, []string{s}, ends[0])
		b, ends = row(s, "", s, "between", s)
		scans(t, "five", b, []string{s, "", s, "between", s}, ends[4])
	}
	all := texts()
	b, ends := row(all...)
	scans(t, "many", b, all, ends[len(ends)-1])
}

// 7.1: records of no bytes are noughts, eight of them each.
func TestScanNoughts(t *testing.T) {
	for n := range 60 {
		scans(t, "noughts", make([]byte, n), make([]string, n/8), n/8*8)
	}
	scans(t, "many noughts", make([]byte, 1<<20+7), make([]string, 1<<17), 1<<20)
}

// 7.1: very many records: Scan goes on to the last one, and from each one's end, not from the beginning again.
func TestScanMany(t *testing.T) {
	var l []string
	for i := range 50000 {
		l = append(l, some(i%5, uint64(i)))
	}
	b, ends := row(l...)
	scans(t, "very many", b, l, ends[len(ends)-1])
}

// 7.1: Scan of a row of Puts is each one's bytes, as they were put; a Put of too many adds nothing.
func TestScanOfPuts(t *testing.T) {
	var b []byte
	all := texts()
	for i, s := range all {
		b = append(b, Put([]byte(s))...)
		scans(t, "the row so far", b, all[:i+1], len(b))
	}
	b = append(b, Put(make([]byte, most+1))...)
	scans(t, "and of too many bytes", b, all, len(b))
}

// 7.2: a row that was cut at every place has the first ones, as far as they are whole.
func TestScanCut(t *testing.T) {
	for _, l := range [][]string{
		{"123456789", "z", "123456789"},
		{"", "", "a", "", "bc"},
		{"first", some(300, 9), "", "last"},
		{"\x00\x00\x00\x00\x00\x00\x00\x00", "\x00", string(rightly("in"))},
		short(),
	} {
		b, ends := row(l...)
		for n := range len(b) + 1 {
			whole, end := 0, 0
			for whole < len(ends) && ends[whole] <= n {
				end = ends[whole]
				whole++
			}
			scans(t, fmt.Sprint("cut at ", n), b[:n], l[:whole], end)
			scans(t, fmt.Sprint("cut at ", n, ", nothing behind"), slices.Clip(slices.Clone(b[:n])), l[:whole], end)
		}
	}
}

// 7.2: so it is with the longest records there are.
func TestScanCutLong(t *testing.T) {
	l := []string{some(most, 10), "a", some(most, 11)}
	b, ends := row(l...)
	for i, end := range ends {
		scans(t, "just whole", b[:end], l[:i+1], end)
		ahead := 0
		if i > 0 {
			ahead = ends[i-1]
		}
		scans(t, "one byte missing", b[:end-1], l[:i], ahead)
		scans(t, "part of a head", b[:ahead+before-1], l[:i], ahead)
		scans(t, "half", b[:(ahead+end)/2], l[:i], ahead)
	}
}

// 7.1: a row with a spoilt record has those ahead of it, not those behind.
func TestScanSpoilt(t *testing.T) {
	l := []string{"123456789", "z", some(30, 12), "last", ""}
	b, ends := row(l...)
	begin := 0
	for i, end := range ends {
		for at := begin; at < end; at++ {
			for _, mask := range []byte{1, 16, 128, 255} {
				c := slices.Clone(b)
				c[at] ^= mask
				scans(t, fmt.Sprintf("byte %d turned by %d", at, mask), c, l[:i], begin)
			}
			c := slices.Delete(slices.Clone(b), at, at+1)
			scans(t, fmt.Sprintf("byte %d missing", at), c, l[:i], begin)
		}
		begin = end
	}
}

// 7.1: a record that is too long ends the row, though its check sum is right.
func TestScanTooLong(t *testing.T) {
	b, ends := row("a", some(most+1, 13), "b")
	scans(t, "too many bytes in the middle", b, []string{"a"}, ends[0])
	scans(t, "and at the beginning", b[ends[0]:], nil, 0)
}

// 7.1: a row with other bytes behind it has its records, and ends where the last one does.
func TestScanOtherBytes(t *testing.T) {
	l := []string{"123456789", "", "z"}
	b, ends := row(l...)
	for _, behind := range []string{"x", "\x00", "\x00\x00\x00\x00\x00\x00\x00", "\x00\x00\x00\x00\x00\x00\x00\x01", strings.Repeat("x", 30), strings.Repeat("\xff", 30), some(99, 14), "\x00\x00\x00\x01\x00\x00\x00\x00z"} {
		scans(t, fmt.Sprintf("behind it %q", behind), append(slices.Clone(b), behind...), l, ends[2])
		scans(t, fmt.Sprintf("only %q", behind), []byte(behind), nil, 0)
	}
	for _, ahead := range []string{"x", "\x00", "\x00\x00\x00\x00\x00\x00\x00\x01", strings.Repeat("\xff", 30), some(99, 15)} {
		scans(t, fmt.Sprintf("ahead of it %q", ahead), append([]byte(ahead), b...), nil, 0)
	}
}

// slow is Scan told in another way: it tries each length, and holds its record against the bytes.
func slow(b []byte) (l []string, good int) {
	for n := 0; good+before+n <= len(b); {
		held := string(b[good+before : good+before+n])
		if !bytes.Equal(rightly(held), b[good:good+before+n]) {
			n++
			continue
		}
		l, good, n = append(l, held), good+before+n, 0
	}
	return l, good
}

// spoil does one of some things to a row of records, or nothing.
func spoil(r *rand.Rand, b []byte) []byte {
	at := r.IntN(len(b) + 1)
	switch r.IntN(6) {
	case 0:
		return b[:at]
	case 1:
		return slices.Insert(b, at, byte(r.Uint32()))
	case 2:
		if at < len(b) {
			b[at] ^= byte(1 << r.IntN(8))
		}
	case 3:
		return append(b, some(r.IntN(20), r.Uint64())...)
	case 4:
		return slices.Delete(b, at, at+r.IntN(len(b)-at+1))
	}
	return b
}

// 7.1: rows of records, whole or spoilt, against Scan told in another way; and Get at each place of them.
func TestScanAsTold(t *testing.T) {
	r := rand.New(rand.NewPCG(15, 16))
	records, spoilt := 0, 0
	for range 4000 {
		var b []byte
		for range r.IntN(6) {
			b = append(b, rightly(some(r.IntN(12)*r.IntN(2), r.Uint64()))...)
		}
		b = spoil(r, b)
		l, good := slow(b)
		scans(t, "a row", b, l, good)
		records += len(l)
		if good < len(b) {
			spoilt++
		}
		for at := -3; at < len(b)+3; at++ {
			getsAsTold(t, b, at)
		}
	}
	if records < 4000 || spoilt < 1000 {
		t.Errorf("%d records, %d rows with other bytes: too few", records, spoilt)
	}
}

func getsAsTold(t *testing.T, b []byte, at int) {
	t.Helper()
	if at < 0 || at > len(b) {
		none(t, "no place of a row", b, at)
		return
	}
	l, _ := slow(b[at:])
	if len(l) == 0 {
		none(t, "a place of a row", b, at)
		return
	}
	one(t, "a place of a row", b, at, l[0], at+before+len(l[0]))
}

// 7.1: what Get tells Put tells by just those bytes, whatever was handed in.
func TestPutOfGet(t *testing.T) {
	r := rand.New(rand.NewPCG(17, 18))
	told := 0
	for range 20000 {
		b := []byte(some(8+r.IntN(8), r.Uint64()))
		clear(b[:r.IntN(9)])
		for at := range b {
			p, next, ok := Get(b, at)
			if ok && !bytes.Equal(Put(p), b[at:next]) {
				t.Fatalf("Get(%q, %d) = %q, %d, and Put tells %q", b, at, p, next, Put(p))
			}
			if ok {
				told++
			}
		}
	}
	if told == 0 {
		t.Error("nothing was told")
	}
}

// R3: what Put tells is new memory, and what is handed in is neither changed nor kept.
func TestPutMemory(t *testing.T) {
	for _, s := range []string{"", "z", "123456789", some(100, 19)} {
		whole := []byte("ahead" + s + "behind, spare room")
		was := slices.Clone(whole)
		in := whole[5 : 5+len(s)]
		first, second := Put(in), Put(in)
		fill(second)
		if !bytes.Equal(whole, was) || !bytes.Equal(first, rightly(s)) {
			t.Errorf("%q: what Put told was written into, and something else changed", s)
		}
		fill(whole)
		if !bytes.Equal(first, rightly(s)) || !bytes.Equal(Put([]byte(s)), rightly(s)) {
			t.Errorf("%q: what was handed in was written into, and what was told changed", s)
		}
	}
}

// fill writes into b, and into its spare room.
func fill(b []byte) {
	room := b[:cap(b)]
	for i := range room {
		room[i] = '!'
	}
}

// R3: what Get tells is new memory, and what is handed in is neither changed nor kept.
func TestGetMemory(t *testing.T) {
	l := []string{"", "z", "123456789", some(100, 20)}
	b, _ := row(l...)
	was := slices.Clone(b)
	at := 0
	for _, s := range l {
		p, next, _ := Get(b, at)
		fill(append(p, "more than there was"...))
		fill(p)
		if !bytes.Equal(b, was) {
			t.Fatalf("%q: what Get told was written into, and what was handed in changed", s)
		}
		again, _, _ := Get(b, at)
		other, _, _ := Get(b, at)
		fill(other)
		fill(b)
		if string(again) != s {
			t.Errorf("%q: what was handed in was written into, and what was told changed: %q", s, again)
		}
		copy(b, was)
		at = next
	}
}

// R3: no two lists that Scan tells share memory, nor any with what was handed in; spare room counts too.
func TestScanMemory(t *testing.T) {
	l := []string{"123456789", "", "z", "", some(100, 21), "last"}
	b, end := row(l...)
	was := slices.Clone(b)
	for i := range l {
		told, good := Scan(b)
		told[i] = append(told[i], "more than there was"...)
		fill(told[i])
		told[i] = nil
		for k, s := range l {
			if k != i && string(told[k]) != s {
				t.Errorf("record %d was written into, and record %d changed: %q", i, k, told[k])
			}
		}
		if !bytes.Equal(b, was) || good != end[len(end)-1] {
			t.Fatalf("record %d was written into, and what was handed in changed", i)
		}
		scans(t, "again", b, l, good)
	}
	told, _ := Scan(b)
	for i := range told {
		fill(told[i])
	}
	scans(t, "once more", b, l, len(b))
	kept, _ := Scan(b)
	fill(b)
	for i, s := range l {
		if string(kept[i]) != s {
			t.Errorf("what was handed in was written into, and record %d changed: %q", i, kept[i])
		}
	}
}

// R3: the list itself, its spare room too, is new each time.
func TestScanListMemory(t *testing.T) {
	l := []string{"a", "b", "c"}
	b, _ := row(l...)
	first, _ := Scan(b)
	second, _ := Scan(b)
	room := second[:cap(second)]
	for i := range room {
		room[i] = []byte("!")
	}
	for i, s := range l {
		if string(first[i]) != s {
			t.Errorf("the list was written into, and record %d of another one changed: %q", i, first[i])
		}
	}
	scans(t, "again", b, l, len(b))
}

// R3: what stands in the spare room behind what is handed in is neither asked nor changed.
func TestSpareRoom(t *testing.T) {
	b, ends := row("first", "second", "third")
	was := slices.Clone(b)
	for n := range b {
		in := b[:n]
		if n < ends[0] {
			none(t, "its end is in the spare room", in, 0)
		}
		l, good := Scan(in)
		if good > n || len(l) > 2 {
			t.Errorf("%d bytes: %d records, %d", n, len(l), good)
		}
		none(t, "its place is in the spare room", in, max(n, ends[0]))
		Put(in)
	}
	if !bytes.Equal(b, was) {
		t.Error("spare room that was handed in is changed")
	}
}

// R1, R5: the same call tells the same again, whatever was asked between.
func TestSameAgain(t *testing.T) {
	l := []string{"123456789", "", "z"}
	b, ends := row(l...)
	for n := range 20 {
		Put([]byte(some(n, 22)))
		Scan([]byte(some(n, 23)))
		Get([]byte(some(n, 24)), n)
		one(t, "again", b, ends[0], "", ends[1])
		none(t, "again", b, 1)
		scans(t, "again", b, l, ends[2])
		if !bytes.Equal(Put([]byte("z")), rightly("z")) {
			t.Fatal("Put tells another thing")
		}
	}
}
