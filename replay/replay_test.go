package replay

import (
	"bytes"
	"encoding/binary"
	"fmt"
	"hash/crc32"
	"math"
	"math/rand/v2"
	"slices"
	"strings"
	"testing"

	"icebox/api"
	"icebox/batch"
	"icebox/frame"
)

const (
	top     = 1 << 53 // the greatest Seq
	mostOps = 32
	mostKey = 64
	mostVal = 512
)

func put(key, val string) api.Op { return api.Op{Kind: api.Put, Key: key, Val: val} }

func del(key string) api.Op { return api.Op{Kind: api.Del, Key: key} }

func of(seq int, l ...api.Op) api.Batch { return api.Batch{Seq: seq, Ops: l} }

func text(n int) string { return strings.Repeat("t", n) }

// rising is n operations of keys that rise, Puts and Dels by turns.
func rising(n int) []api.Op {
	l := make([]api.Op, n)
	for i := range l {
		l[i] = put(fmt.Sprintf("k%05d", i), fmt.Sprint(i))
		if i%3 == 2 {
			l[i] = del(l[i].Key)
		}
	}
	return l
}

// number is n as layer 1 tells it, by other means.
func number(n int) []byte { return binary.AppendUvarint(nil, uint64(n)) }

// worded is s behind its length.
func worded(s string) []byte { return append(number(len(s)), s...) }

// held is b as bytes, whether it may be or not.
func held(b api.Batch) []byte {
	told := append(number(b.Seq), number(len(b.Ops))...)
	for _, o := range b.Ops {
		told = append(append(told, number(o.Kind)...), worded(o.Key)...)
		if o.Kind == api.Put {
			told = append(told, worded(o.Val)...)
		}
	}
	return told
}

// record lays the length and the check sum of b ahead of it.
func record(b []byte) []byte {
	l := binary.BigEndian.AppendUint32(nil, uint32(len(b)))
	l = binary.BigEndian.AppendUint32(l, crc32.Checksum(b, crc32.MakeTable(crc32.Castagnoli)))
	return append(l, b...)
}

// rightly is b as a record, whether it may be or not.
func rightly(b api.Batch) []byte { return record(held(b)) }

// row is the records of all these, and where each of them ends.
func row(l ...api.Batch) (b []byte, ends []int) {
	for _, x := range l {
		b = append(b, rightly(x)...)
		ends = append(ends, len(b))
	}
	return b, ends
}

// plain is a batch of number seq, of more or less bytes; mark tells it from others of that number.
func plain(seq int, mark string) api.Batch {
	l := []api.Op{del("\xff" + mark), put("k", mark), put("l", strings.Repeat("v", seq&7))}
	return of(seq, batch.Norm(l[:1+seq&1+len(mark)%2])...)
}

// counted is batches of these numbers.
func counted(mark string, seqs ...int) []api.Batch {
	var l []api.Batch
	for _, n := range seqs {
		l = append(l, plain(n, mark))
	}
	return l
}

// log is the records of batches of these numbers.
func log(mark string, seqs ...int) []byte {
	b, _ := row(counted(mark, seqs...)...)
	return b
}

// span is the numbers from one to another, both among them.
func span(from, to int) []int {
	var l []int
	for n := from; n <= to; n++ {
		l = append(l, n)
	}
	return l
}

// brief is v as a text that is not too long to be read.
func brief(v any) string {
	s := fmt.Sprintf("%q", fmt.Sprint(v))
	return s[:min(len(s), 200)]
}

func same(a, b api.Batch) bool { return a.Seq == b.Seq && slices.Equal(a.Ops, b.Ops) }

func alike(a, b []api.Batch) bool { return slices.EqualFunc(a, b, same) }

func scans(t *testing.T, what string, b []byte, want []api.Batch, end int) {
	t.Helper()
	if l, good := Scan(b); good != end || !alike(l, want) {
		t.Errorf("%s: Scan(%.60q) = %d: %s, %d, not %d: %s, %d", what, b, len(l), brief(l), good, len(want), brief(want), end)
	}
}

func joins(t *testing.T, what string, logs [][]byte, last int, want []api.Batch) {
	t.Helper()
	if l := Join(logs, last); !alike(l, want) {
		t.Errorf("%s: Join(%s, %d) = %d: %s, not %d: %s", what, brief(logs), last, len(l), brief(l), len(want), brief(want))
	}
}

// batches is ones that may be: of one operation, of several, of as many as there may be, as long as they may be.
func batches() []api.Batch {
	high := []api.Op{put("", ""), del("\x00"), put("\x7f", "\x80"), put("\x80", "\xff\xfe"), del("\xff"), put("\xff\xff", "é")}
	l := []api.Batch{
		of(1, put("", "")),
		of(1, del("")),
		of(2, put("a", "")),
		of(127, put("a", "b")),
		of(128, del("a")),
		of(300, put("", "x"), put("a", ""), del("bc")),
		of(top-1, del("a"), put("aa", "1"), del("aaa"), put("ab", "2")),
		of(top, high...),
		of(16384, put(text(mostKey), text(mostVal))),
		of(5, put(text(mostKey-1), text(mostVal-1)), del(text(mostKey))),
		of(7, rising(mostOps-1)...),
		of(8, rising(mostOps)...),
	}
	longest := rising(mostOps)
	for i := range longest {
		longest[i] = put(longest[i].Key+text(mostKey-6), text(mostVal))
	}
	return append(l, of(top, longest...))
}

// mayNot is batches that may not be, of each kind that there is.
func mayNot() []api.Batch {
	var l []api.Batch
	for _, n := range []int{0, -1, -2, top + 1, top + 2, math.MaxInt, math.MinInt, -top} {
		l = append(l, of(n, put("a", "b")), of(n, rising(3)...), of(n))
	}
	longest := rising(mostOps + 1)
	return append(l,
		of(1), of(top), of(7, []api.Op{}...), of(7, rising(4)[2:2]...),
		of(1, longest...), of(1, make([]api.Op, 1000)...),
		of(1, api.Op{Key: "a"}), of(1, api.Op{Kind: 3, Key: "a"}), of(1, api.Op{Kind: -1, Key: "a"}), of(1, api.Op{Kind: 257, Key: "a", Val: "b"}),
		of(1, api.Op{Kind: math.MaxInt}), of(1, api.Op{Kind: math.MinInt}),
		of(1, put(text(mostKey+1), "")), of(1, del(text(mostKey+1))), of(1, put("a", text(mostVal+1))), of(1, put("a", text(1<<20))),
		of(1, api.Op{Kind: api.Del, Key: "a", Val: "x"}), of(1, put("a", ""), api.Op{Kind: api.Del, Key: "b", Val: "x"}),
		of(1, put("b", ""), put("a", "")), of(1, put("a", "1"), put("a", "2")), of(1, put("a", ""), del("a")), of(1, del("a"), del("")),
		of(1, put("a", ""), put("c", ""), put("b", "")), of(1, put("\x80", ""), put("\x7f", "")),
	)
}

// strange is what a record may hold that is no batch; a seq is the number with which it would go on.
func strange(seq int) [][]byte {
	whole := held(plain(seq, "s"))
	l := [][]byte{
		nil, []byte("x"), {0}, {1}, make([]byte, 8), bytes.Repeat([]byte{255}, 20), []byte(text(2000)),
		number(seq), append(number(seq), 0), append(number(seq), 1), append(number(seq), 1, 3, 0),
		append(slices.Clone(whole), 0), append([]byte{0}, whole...), slices.Concat(whole, whole), slices.Concat(whole, held(plain(seq+1, "s"))),
		whole[:len(whole)-1], whole[1:], record(whole), rightly(plain(seq, "t")),
		append([]byte{byte(seq%128) | 128, 0}, 1, 2, 0),
	}
	for _, b := range mayNot() {
		b.Seq = max(0, b.Seq)
		wrong := slices.ContainsFunc(b.Ops, func(o api.Op) bool {
			return o.Kind < 0 || o.Kind == api.Del && o.Val != ""
		})
		// Bytes tell no number below 0, and no Val of a Del.
		if wrong {
			continue
		}
		l = append(l, held(b))
		if 1 <= b.Seq && b.Seq <= top {
			b.Seq = seq
			l = append(l, held(b))
		}
	}
	return l
}

// 9.1: the bytes of Put, known ones: of a Put, of a Del, of two operations.
func TestPut(t *testing.T) {
	for _, c := range []struct {
		b    api.Batch
		want string
	}{
		{of(1, put("k", "1")), "\x00\x00\x00\x07\xfc\x2d\x3f\x16\x01\x01\x01\x01k\x011"},
		{of(1, del("")), "\x00\x00\x00\x04\x17\x26\x43\xef\x01\x01\x02\x00"},
		{of(300, del("a"), put("b", "")), "\x00\x00\x00\x0a\x69\x18\x50\xd2\xac\x02\x02\x02\x01a\x01\x01b\x00"},
	} {
		if got := Put(c.b); string(got) != c.want {
			t.Errorf("Put(%v) = %q, not %q", c.b, got, c.want)
		}
	}
}

// 9.1: of each batch that may be Put is layer 7's of layer 8's, and no more.
func TestPutShape(t *testing.T) {
	if api.MaxOps != mostOps || api.MaxKey != mostKey || api.MaxVal != mostVal {
		t.Fatal("limits:", api.MaxOps, api.MaxKey, api.MaxVal)
	}
	l := batches()
	for n := range 600 {
		l = append(l, of(n+1, put("a", text(n%(mostVal+1)))), of(top-n, rising(1+n%mostOps)...))
	}
	for _, b := range l {
		got := Put(b)
		if !bytes.Equal(got, rightly(b)) || !bytes.Equal(got, frame.Put(batch.Put(b))) {
			t.Errorf("Put(%s) = %.60q", brief(b), got)
		}
		scans(t, "Scan of Put", got, []api.Batch{b}, len(got))
	}
}

// 9.1: of a batch that may not be there is nothing, and no record of nothing.
func TestPutMayNot(t *testing.T) {
	if got := Put(api.Batch{}); got != nil {
		t.Errorf("Put of the zero value = %q", got)
	}
	for _, b := range mayNot() {
		if got := Put(b); got != nil {
			t.Errorf("Put(%s) = %.60q", brief(b), got)
		}
	}
}

// 9.1: Scan of nothing, whatever stands in its spare room.
func TestScanNothing(t *testing.T) {
	whole := log("a", 1, 2, 3)
	for _, b := range [][]byte{nil, {}, make([]byte, 0, 100), whole[:0], whole[5:5], whole[len(whole):]} {
		if l, good := Scan(b); len(l) != 0 || good != 0 {
			t.Errorf("Scan of nothing = %v, %d", l, good)
		}
	}
}

// 9.1: Scan of one batch, by itself and with less in sight than there is.
func TestScanOne(t *testing.T) {
	for _, b := range batches() {
		whole := rightly(b)
		scans(t, "one", whole, []api.Batch{b}, len(whole))
		scans(t, "one, another one in the spare room", append(slices.Clone(whole), log("a", b.Seq+1)...)[:len(whole)], []api.Batch{b}, len(whole))
		scans(t, "one twice", append(slices.Clone(whole), whole...), []api.Batch{b}, len(whole))
	}
}

// 9.1: Scan of many, from any number on, and up to the greatest.
func TestScanMany(t *testing.T) {
	for _, from := range []int{1, 2, 126, 127, 128, 16380, 1<<31 - 10, 1<<32 - 10, 1<<52 - 9, top - 40} {
		for n := range 40 {
			l := counted("m", span(from, from+n)...)
			b, ends := row(l...)
			scans(t, "many", b, l, ends[n])
		}
	}
	l := counted("m", span(top-9, top)...)
	b, ends := row(l...)
	scans(t, "up to the greatest", b, l, ends[9])
	for _, next := range []api.Batch{plain(top, "m"), plain(1, "m"), plain(top-1, "m"), plain(top+1, "m"), of(0, put("a", ""))} {
		scans(t, "behind the greatest", append(slices.Clone(b), rightly(next)...), l, ends[9])
	}
}

// 9.1: batches of all sizes, one behind the other.
func TestScanSizes(t *testing.T) {
	l := batches()
	for i := range l {
		l[i].Seq = 1000 + i
	}
	b, ends := row(l...)
	scans(t, "sizes", b, l, ends[len(ends)-1])
	for i := range l {
		scans(t, "from a later one on", b[ends[i]:], l[i+1:], len(b)-ends[i])
		scans(t, "up to one", b[:ends[i]], l[:i+1], ends[i])
	}
}

// 9.1: a log as long as a file can be, and longer: each record is read once.
func TestScanLong(t *testing.T) {
	l := counted("a long log", span(1, 120000)...)
	b, ends := row(l...)
	if len(b) <= 2*api.MaxFile {
		t.Fatal("too short:", len(b))
	}
	scans(t, "long", b, l, len(b))
	scans(t, "long, cut", b[:len(b)-1], l[:len(l)-1], ends[len(ends)-2])
	joins(t, "long", [][]byte{b[:ends[99999]], b[ends[49999]:]}, 3, l[3:])
}

// 9.1: numbers that stand still, fall, leave one out: the row ends there, whatever comes behind.
func TestScanNumbers(t *testing.T) {
	for _, c := range []struct {
		seqs []int
		told int
	}{
		{[]int{1, 2, 3}, 3},
		{[]int{9, 10, 11, 12}, 4},
		{[]int{5, 5}, 1},
		{[]int{5, 5, 6}, 1},
		{[]int{5, 6, 6, 7}, 2},
		{[]int{5, 4}, 1},
		{[]int{5, 4, 6}, 1},
		{[]int{5, 4, 5, 6}, 1},
		{[]int{5, 6, 5, 7}, 2},
		{[]int{5, 6, 1, 7}, 2},
		{[]int{5, 7}, 1},
		{[]int{5, 7, 6}, 1},
		{[]int{5, 6, 8, 9}, 2},
		{[]int{5, 6, 8, 7, 8}, 2},
		{[]int{5, 1<<32 + 6}, 1},
		{[]int{255, 0x100, 1}, 2},
		{[]int{1, 1 << 52}, 1},
		{[]int{1, top}, 1},
		{[]int{top, 1}, 1},
		{[]int{top, top}, 1},
		{[]int{top - 1, top, top}, 2},
		{[]int{top - 2, top}, 1},
	} {
		l := counted("n", c.seqs...)
		b, ends := row(l...)
		scans(t, fmt.Sprint(c.seqs), b, l[:c.told], ends[c.told-1])
	}
}

// 9.1: each next number behind each first one.
func TestScanPairs(t *testing.T) {
	numbers := append(span(1, 12), 127, 128, 129, 255, 256, 257, 1<<31-1, 1<<31, 1<<32-1, 1<<32, 1<<32+1, top-2, top-1, top)
	for _, x := range numbers {
		for _, y := range numbers {
			l := counted("p", x, y)
			b, ends := row(l...)
			told := 1
			if y-x == 1 {
				told = 2
			}
			scans(t, "a pair", b, l[:told], ends[told-1])
		}
	}
}

// 9.3: a log that was cut at any place has the batches that are whole, and the place where the last of them ends.
func TestScanCut(t *testing.T) {
	l := append(counted("cut", span(126, 131)...), of(132, put("", text(130))), of(133, rising(5)...), of(134, del("")))
	b, ends := row(l...)
	for n := range len(b) + 1 {
		told, end := 0, 0
		for told < len(ends) && ends[told] <= n {
			end = ends[told]
			told++
		}
		scans(t, "cut", b[:n], l[:told], end)
		scans(t, "cut, by itself", slices.Clone(b[:n]), l[:told], end)
		joins(t, "cut", [][]byte{b[:n]}, 125, l[:told])
	}
}

// 9.1: a row with bytes missing, or put in, goes up to that place, and no batch behind it is told.
func TestScanCutOut(t *testing.T) {
	l := counted("o", span(1, 5)...)
	b, ends := row(l...)
	from := 0
	for i, end := range ends {
		for at := from; at < end; at++ {
			scans(t, "a byte is missing", slices.Delete(slices.Clone(b), at, at+1), l[:i], from)
			scans(t, "a byte more", slices.Insert(slices.Clone(b), at, 'x'), l[:i], from)
			if at > from {
				scans(t, "the rest of a record is missing", slices.Delete(slices.Clone(b), at, end), l[:i], from)
			}
		}
		if i > 0 {
			scans(t, "a record is missing", slices.Delete(slices.Clone(b), from, end), l[:i], from)
		}
		from = end
	}
	scans(t, "the first record is missing", b[ends[0]:], l[1:], len(b)-ends[0])
}

// 9.1: a record that is spoilt, at the beginning, in the middle, at the end, ends the row ahead of it.
func TestScanSpoilt(t *testing.T) {
	l := counted("s", span(1, 6)...)
	b, ends := row(l...)
	from := 0
	for i, end := range ends {
		for at := from; at < end; at++ {
			for mask := 1; mask < 256; mask++ {
				c := slices.Clone(b)
				c[at] ^= byte(mask)
				scans(t, "spoilt", c, l[:i], from)
			}
		}
		c := slices.Clone(b)
		clear(c[from:end])
		scans(t, "noughts", c, l[:i], from)
		from = end
	}
}

// 9.1: a record that is no batch, at the beginning, in the middle, at the end, ends the row ahead of it.
func TestScanNoBatch(t *testing.T) {
	l := counted("b", span(40, 44)...)
	for at := range len(l) + 1 {
		head, ends := row(l[:at]...)
		rest, _ := row(l[at:]...)
		for i, s := range strange(40 + at) {
			what := fmt.Sprint("no batch ", i, " at ", at)
			if _, ok := batch.Get(s); ok {
				t.Fatalf("%s: a batch: %.60q", what, s)
			}
			// An end is the last place of those ahead: nothing stands ahead of the first one.
			end := append([]int{0}, ends...)[at]
			scans(t, what, slices.Concat(head, record(s)), l[:at], end)
			scans(t, what, slices.Concat(head, record(s), rest), l[:at], end)
			scans(t, what, slices.Concat(head, record(s), log("b", 1, 2)), l[:at], end)
		}
	}
}

// 9.1: a record of as many bytes as there may be is no batch.
func TestScanLarge(t *testing.T) {
	l := counted("g", 1, 2)
	b, ends := row(l...)
	large := record(make([]byte, api.MaxFile))
	scans(t, "large, ahead", slices.Concat(large, b), nil, 0)
	scans(t, "large, within", slices.Concat(b[:ends[0]], large, b[ends[0]:]), l[:1], ends[0])
	scans(t, "large, behind", slices.Concat(b, large), l, ends[1])
}

// 9.1: other bytes, or noughts, behind the last one.
func TestScanBehind(t *testing.T) {
	l := counted("q", 3, 4)
	b, ends := row(l...)
	for n := range 100 {
		scans(t, "noughts", append(slices.Clone(b), make([]byte, n)...), l, ends[1])
		scans(t, "others", append(slices.Clone(b), bytes.Repeat([]byte{0xff}, n)...), l, ends[1])
		scans(t, "a text", append(slices.Clone(b), text(n)...), l, ends[1])
		scans(t, "noughts alone", make([]byte, n), nil, 0)
		scans(t, "noughts ahead", append(make([]byte, n+1), b...), nil, 0)
		scans(t, "noughts, and what would go on", slices.Concat(b, make([]byte, n+1), log("q", 5)), l, ends[1])
	}
}

// 9.1: bytes of a batch without a record's head are none; nor is a row told from a place within.
func TestScanWithin(t *testing.T) {
	l := counted("w", 3, 4, 5)
	b, ends := row(l...)
	scans(t, "no head", held(l[0]), nil, 0)
	for at := 1; at < len(b); at++ {
		if i := slices.Index(ends, at); i >= 0 {
			scans(t, "at an end", b[at:], l[i+1:], len(b)-at)
		} else {
			scans(t, "within", b[at:], nil, 0)
		}
	}
}

// slowScan is Scan told in another way: of all records it finds how many are batches that go on by one.
func slowScan(b []byte) (l []api.Batch, good int) {
	records, _ := frame.Scan(b)
	for i, p := range records {
		x, ok := batch.Get(p)
		if !ok || i > 0 && x.Seq-i != l[0].Seq {
			return l, good
		}
		l = append(l, x)
		good += len(frame.Put(p))
	}
	return l, good
}

// slowJoin is Join told in another way: it looks for each number in turn.
func slowJoin(logs [][]byte, last int) (l []api.Batch) {
	var all []api.Batch
	for _, b := range logs {
		told, _ := slowScan(b)
		all = append(all, told...)
	}
	if last < 0 || last >= top {
		return nil
	}
	for want := last + 1; ; want++ {
		i := slices.IndexFunc(all, func(b api.Batch) bool { return b.Seq >= want })
		if i < 0 || all[i].Seq != want {
			return l
		}
		l = append(l, all[i])
		all = all[i+1:]
	}
}

// pieces is what rows of bytes are made of: batches of numbers near each other, and what is none.
func pieces() [][]byte {
	return [][]byte{
		log("a", 1), log("a", 2), log("b", 2), log("a", 3), log("b", 4), log("c", 1, 2), log("c", 3, 4),
		record(nil), record([]byte("x")), {0}, rightly(of(2)), rightly(of(3, put("b", ""), put("a", ""))), log("d", 3)[:9],
	}
}

// 9.1: all rows of up to four pieces, against Scan told in another way.
func TestScanAllShort(t *testing.T) {
	l := pieces()
	lengths := map[int]int{}
	for n := range 5 {
		all := 1
		for range n {
			all *= len(l)
		}
		for i := range all {
			var b []byte
			for range n {
				b = append(b, l[i%len(l)]...)
				i /= len(l)
			}
			want, end := slowScan(b)
			scans(t, "pieces", b, want, end)
			lengths[len(want)]++
		}
	}
	for n := range 5 {
		if lengths[n] < 20 {
			t.Errorf("too few rows of %d batches: %v", n, lengths)
		}
	}
}

// someLog is the records of batches, most of which go on by one; some are spoilt, or cut, or have something else among them.
func someLog(r *rand.Rand) []byte {
	var b []byte
	seq := 1 + r.IntN(12)
	for range r.IntN(8) {
		b = append(b, log(text(1+r.IntN(3)), seq)...)
		seq++
		switch r.IntN(16) {
		case 0, 1:
			seq = max(1, seq-2+r.IntN(4))
		case 2:
			others := [][]byte{{0}, record(nil), record([]byte("x")), rightly(of(seq)), rightly(of(seq, del("b"), del("a"))), held(plain(seq, "s"))}
			b = append(b, others[r.IntN(len(others))]...)
		}
	}
	if len(b) > 0 && r.IntN(4) == 0 {
		b[r.IntN(len(b))] ^= 1 << r.IntN(8)
	}
	if r.IntN(4) == 0 {
		b = b[:r.IntN(len(b)+1)]
	}
	return b
}

// 9.1, 9.2: logs, whole, spoilt or cut, against Scan and Join told in another way.
func TestAsTold(t *testing.T) {
	r := rand.New(rand.NewPCG(1, 2))
	scanned, joined := 0, 0
	for range 20000 {
		logs := make([][]byte, r.IntN(6))
		for i := range logs {
			logs[i] = someLog(r)
			want, end := slowScan(logs[i])
			scans(t, "some log", logs[i], want, end)
			scanned += len(want)
		}
		for range 3 {
			last := r.IntN(16) - 2
			want := slowJoin(logs, last)
			joins(t, "some logs", logs, last, want)
			joined += len(want)
		}
	}
	if scanned < 50000 || joined < 20000 {
		t.Errorf("too few: %d scanned, %d joined", scanned, joined)
	}
}

// 9.2: Join of no logs, of empty ones, of ones without batches.
func TestJoinNothing(t *testing.T) {
	for _, last := range []int{math.MinInt, -1, 0, 1, 7, top, math.MaxInt} {
		for _, logs := range [][][]byte{nil, {}, {nil}, {{}}, {nil, {}, nil}, {{0}, make([]byte, 8), []byte("x")}, {record(nil), record([]byte("x"))}, make([][]byte, 100000)} {
			joins(t, "nothing", logs, last, nil)
		}
	}
}

// 9.2: Join of one log, from each number on: those above last, if they go on just above it.
func TestJoinOne(t *testing.T) {
	l := counted("j", span(1, 9)...)
	b, _ := row(l...)
	for last := range 12 {
		joins(t, "one log", [][]byte{b}, last, l[min(last, 9):])
	}
	l = counted("j", span(5, 9)...)
	b, _ = row(l...)
	for last := -3; last < 15; last++ {
		want := l[len(l):]
		if last >= 4 {
			want = l[min(last-4, 5):]
		}
		joins(t, "one log from 5 on", [][]byte{b}, last, want)
	}
}

// 9.2: last below 0, the least, the greatest: no batch goes on above it.
func TestJoinLast(t *testing.T) {
	for _, logs := range [][][]byte{{log("l", 1)}, {log("l", 1, 2, 3)}, {log("l", 2, 3), log("l", 1)}, {log("l", top-1, top)}, {log("l", top)}, {nil, log("l", 1), log("l", 2)}} {
		for _, last := range []int{math.MinInt, math.MinInt + 1, math.MinInt + 2, -top, -1 << 32, -3, -2, -1, top, top + 1, top + 2, math.MaxInt - 2, math.MaxInt - 1, math.MaxInt} {
			joins(t, "no batch", logs, last, nil)
		}
	}
	l := counted("l", span(top-3, top)...)
	b, _ := row(l...)
	for i := range 5 {
		joins(t, "up to the greatest", [][]byte{b}, top-4+i, l[i:])
		joins(t, "up to the greatest, twice", [][]byte{b, b}, top-4+i, l[i:])
		joins(t, "up to the greatest, and more", [][]byte{b, log("m", 1, 2), log("m", top)}, top-4+i, l[i:])
	}
	joins(t, "1 is above 0", [][]byte{log("l", 1)}, 0, counted("l", 1))
	joins(t, "1 is more than one above -1", [][]byte{log("l", 1)}, -1, nil)
	joins(t, "1 is up to 1", [][]byte{log("l", 1)}, 1, nil)
}

// joinCase is logs by numbers; a batch bears the mark of its log: "0" in the first one, "1" in the second.
type joinCase struct {
	logs [][]int
	last int
	want string
}

func seqs(l []api.Batch) string {
	s := ""
	for _, b := range l {
		s += fmt.Sprint(b.Seq, ":", b.Ops[0].Val, " ")
	}
	return s
}

func marked(logs [][]int) [][]byte {
	var l [][]byte
	for i, seqs := range logs {
		var b []byte
		for _, n := range seqs {
			b = append(b, rightly(of(n, put("k", fmt.Sprint(i))))...)
		}
		l = append(l, b)
	}
	return l
}

// 9.2: several logs: what is in two of them is told of the first; what leaves one out ends it all.
func TestJoinSeveral(t *testing.T) {
	for _, c := range []joinCase{
		{[][]int{{1, 2}, {3, 4}}, 0, "1:0 2:0 3:1 4:1 "},
		{[][]int{{1}, {2}, {3}}, 0, "1:0 2:1 3:2 "},
		{[][]int{{1}, {}, {2}, {}, {}, {3}}, 0, "1:0 2:2 3:5 "},
		// In two logs.
		{[][]int{{1, 2, 3}, {1, 2, 3}}, 0, "1:0 2:0 3:0 "},
		{[][]int{{1, 2}, {2, 3}, {3, 4}}, 0, "1:0 2:0 3:1 4:2 "},
		{[][]int{{1, 2, 3}, {2}, {4}}, 0, "1:0 2:0 3:0 4:2 "},
		{[][]int{{1, 2}, {1, 2, 3}, {1, 2, 3, 4}}, 0, "1:0 2:0 3:1 4:2 "},
		{[][]int{{1, 2, 3}, {1}, {1}, {3, 4}}, 0, "1:0 2:0 3:0 4:3 "},
		// Up to last, and just above it.
		{[][]int{{1, 2}, {3, 4}}, 1, "2:0 3:1 4:1 "},
		{[][]int{{1, 2}, {3, 4}}, 2, "3:1 4:1 "},
		{[][]int{{1, 2}, {3, 4}}, 3, "4:1 "},
		{[][]int{{1, 2}, {3, 4}}, 4, ""},
		{[][]int{{1, 2}, {3, 4}}, 9, ""},
		{[][]int{{5, 6}, {7}}, 4, "5:0 6:0 7:1 "},
		{[][]int{{8, 9}, {1, 2}, {10}}, 8, "9:0 10:2 "},
		{[][]int{{1, 2}, {8, 9}, {3}, {10}}, 8, "9:1 10:3 "},
		{[][]int{{5}, {4}, {3}, {6}}, 5, "6:3 "},
		// The order of the logs is the one handed in.
		{[][]int{{3, 4}, {1, 2}}, 0, ""},
		{[][]int{{3, 4}, {1, 2}}, 2, "3:0 4:0 "},
		{[][]int{{3, 4}, {1, 2}, {3, 4, 5}}, 2, "3:0 4:0 5:2 "},
		// One is left out at first.
		{[][]int{{2}}, 0, ""},
		{[][]int{{2, 3}, {1, 2, 3}}, 0, ""},
		{[][]int{{}, {2, 3}, {1, 2, 3}}, 0, ""},
		{[][]int{{7}, {6}, {7}}, 5, ""},
		{[][]int{{1, 2}, {7}, {6}, {7}}, 5, ""},
		{[][]int{{100}, {6}}, 5, ""},
		// In one log: its Scan ends there, and the next log may go on.
		{[][]int{{1, 3}}, 0, "1:0 "},
		{[][]int{{1, 3}, {2, 3}}, 0, "1:0 2:1 3:1 "},
		{[][]int{{1, 3}, {3}}, 0, "1:0 "},
		{[][]int{{1, 3, 2}, {2}}, 0, "1:0 2:1 "},
		{[][]int{{1, 2, 2, 3}, {3}}, 0, "1:0 2:0 3:1 "},
		{[][]int{{1, 2, 1, 2, 3}, {4}}, 0, "1:0 2:0 "},
		{[][]int{{1, 3}, {1, 3}, {1, 2, 3}}, 0, "1:0 2:2 3:2 "},
		{[][]int{{1, 9}, {5}, {2}}, 0, "1:0 "},
		{[][]int{{4, 6}, {5}}, 5, ""},
		{[][]int{{4, 6}, {5, 6}}, 5, "6:1 "},
		// Between two logs, fitting ones behind.
		{[][]int{{1, 2}, {4, 5}}, 0, "1:0 2:0 "},
		{[][]int{{1, 2}, {4, 5}, {3, 4, 5}}, 0, "1:0 2:0 "},
		{[][]int{{1, 2}, {4}, {3}, {4}}, 0, "1:0 2:0 "},
		{[][]int{{1, 2}, {4}, {1, 2, 3}}, 0, "1:0 2:0 "},
		{[][]int{{1, 2}, {3}, {5}, {4}, {5}, {6}}, 0, "1:0 2:0 3:1 "},
		{[][]int{{1, 2}, {3, 4}, {6}, {5, 6}}, 2, "3:1 4:1 "},
		{[][]int{{1, 2}, {1 << 40}, {3}}, 0, "1:0 2:0 "},
		{[][]int{{1, 2}, {top}, {3}}, 0, "1:0 2:0 "},
		{[][]int{{1, 2}, {1<<32 + 3}, {3}}, 0, "1:0 2:0 "},
	} {
		if s := seqs(Join(marked(c.logs), c.last)); s != c.want {
			t.Errorf("Join(%v, %d) = %q, not %q", c.logs, c.last, s, c.want)
		}
	}
}

// 9.2: all of up to three logs of few numbers, from each last on, against Join told in another way.
func TestJoinAllShort(t *testing.T) {
	rows := [][]int{{}, {1}, {2}, {3}, {4}, {1, 2}, {2, 3}, {3, 4}, {1, 2, 3}, {2, 3, 4}, {1, 3}, {3, 2}, {2, 2}}
	lengths := map[int]int{}
	for _, x := range rows {
		for _, y := range rows {
			for _, z := range rows {
				logs := marked([][]int{x, y, z})
				for last := -2; last < 6; last++ {
					want := slowJoin(logs, last)
					joins(t, "short", logs, last, want)
					lengths[len(want)]++
				}
			}
		}
	}
	for n := range 5 {
		if lengths[n] < 10 {
			t.Errorf("too few of %d batches: %v", n, lengths)
		}
	}
}

// 9.3: logs that were cut: the next one goes on behind what is whole, or it all ends there.
func TestJoinCut(t *testing.T) {
	first, ends := row(counted("f", span(1, 4)...)...)
	for n := range len(first) + 1 {
		whole := 0
		for whole < 4 && ends[whole] <= n {
			whole++
		}
		for from := 1; from < 6; from++ {
			second := log("g", span(from, 6)...)
			want := counted("f", span(1, whole)...)
			if from <= whole+1 {
				want = append(want, counted("g", span(whole+1, 6)...)...)
			}
			joins(t, "the first one cut", [][]byte{first[:n], second}, 0, want)
			joins(t, "the first one cut, noughts behind", [][]byte{append(slices.Clone(first[:n]), make([]byte, 50)...), second}, 0, want)
			joins(t, "the first one cut twice", [][]byte{first[:n], first[:n], second}, 0, want)
		}
		joins(t, "the last one cut", [][]byte{log("e", 1), first[:n]}, 0, append(counted("e", 1), counted("f", span(2, whole)...)...))
		joins(t, "behind a cut one that one is missing from", [][]byte{first[:n], log("g", whole+2), log("g", whole+1)}, 0, counted("f", span(1, whole)...))
	}
}

// 9.2: a log whose record is spoilt, or no batch, goes as far as it goes, and the next one may go on.
func TestJoinSpoilt(t *testing.T) {
	first, ends := row(counted("f", span(1, 3)...)...)
	from := 0
	for i, end := range ends {
		want := append(counted("f", span(1, i)...), counted("g", span(i+1, 5)...)...)
		for at := from; at < end; at++ {
			c := slices.Clone(first)
			c[at] ^= 0x10
			joins(t, "spoilt", [][]byte{c, log("g", span(i+1, 5)...)}, 0, want)
			joins(t, "spoilt, one missing", [][]byte{c, log("g", i+2), log("g", i+1)}, 0, want[:i])
		}
		for _, s := range strange(i + 1) {
			c := slices.Concat(first[:from], record(s), first[from:])
			joins(t, "no batch", [][]byte{c, log("g", span(i+1, 5)...)}, 0, want)
		}
		from = end
	}
}

// 9.2: many logs, of one batch each, and of what was there already.
func TestJoinMany(t *testing.T) {
	var logs [][]byte
	l := counted("y", span(1, 3000)...)
	for i := range l {
		logs = append(logs, rightly(l[i]), nil, log("again", max(1, i), i+1))
	}
	joins(t, "many logs", logs, 0, l)
	joins(t, "many logs", logs, 2500, l[2500:])
	joins(t, "many times one log", slices.Repeat([][]byte{logs[0]}, 50000), 0, l[:1])
}

// fill writes into all of l, its spare room too.
func fill[T any](l []T, with T) {
	room := l[:cap(l)]
	for i := range room {
		room[i] = with
	}
}

// spoil writes into all of a list of batches, and of their operations, their spare room too.
func spoil(l []api.Batch) {
	for _, b := range l {
		fill(append(b.Ops, del("!")), del("!"))
		fill(b.Ops, del("!"))
	}
	fill(append(l, of(9, del("!"))), of(9, del("!")))
	fill(l, of(9, del("!")))
}

// R3: what is handed in is not changed, its spare room neither.
func TestHandedIn(t *testing.T) {
	r := rand.New(rand.NewPCG(3, 4))
	for range 500 {
		logs := make([][]byte, 1+r.IntN(5))
		var was [][]byte
		for i := range logs {
			logs[i] = append(someLog(r), "spare"...)
			was = append(was, slices.Clone(logs[i]))
			logs[i] = logs[i][:len(logs[i])-5]
			Scan(logs[i])
		}
		for last := range 8 {
			Join(logs, last)
			Join(logs[:1], last)
		}
		for i := range logs {
			if whole := logs[i][:len(was[i])]; !bytes.Equal(whole, was[i]) || len(logs[i]) != len(was[i])-5 {
				t.Fatalf("%q was handed in, and is %q", was[i], whole)
			}
		}
		ops := rising(6)
		Put(of(1, ops[:3]...))
		Put(api.Batch{Seq: 1, Ops: ops[:3]})
		slices.Reverse(ops)
		Put(api.Batch{Seq: 1, Ops: ops[:4]})
		slices.Reverse(ops)
		if !slices.Equal(ops, rising(6)) {
			t.Fatalf("operations were handed in, and are %v", ops)
		}
	}
}

// R3: what Put tells is new memory, spare room too.
func TestPutMemory(t *testing.T) {
	for _, b := range batches() {
		was := of(b.Seq, slices.Clone(b.Ops)...)
		first, second := Put(b), Put(b)
		fill(append(second, '!'), '!')
		fill(second, '!')
		if !bytes.Equal(first, rightly(was)) || !same(b, was) {
			t.Errorf("%s: what was told was written into, and something else changed", brief(was))
		}
		fill(b.Ops, api.Op{Kind: 9, Key: "!"})
		if !bytes.Equal(first, rightly(was)) {
			t.Errorf("%s: what was handed in was written into, and what was told changed", brief(was))
		}
	}
}

// R3: what Scan tells is new memory, spare room too, each batch's operations by themselves.
func TestScanMemory(t *testing.T) {
	for _, n := range []int{1, 2, 3, 5, 8, 9, 16, 17} {
		l := counted("x", span(1, n)...)
		b, _ := row(l...)
		was := slices.Clone(b)
		first, end := Scan(b)
		second, _ := Scan(b)
		spoil(second)
		if !alike(first, l) || !bytes.Equal(b, was) {
			t.Errorf("%d: what was told was written into, and something else changed", n)
		}
		fill(b, '!')
		if !alike(first, l) || end != len(b) {
			t.Errorf("%d: what was handed in was written into, and what was told changed", n)
		}
		for i := range first {
			fill(append(first[i].Ops, del("!")), del("!"))
			fill(first[i].Ops, del("!"))
			if !alike(first[i+1:], l[i+1:]) {
				t.Errorf("%d: operations of batch %d were written into, and others changed", n, i)
			}
		}
	}
}

// R3: what Join tells is new memory, spare room too, also where it is what one Scan tells, or comes of one log twice.
func TestJoinMemory(t *testing.T) {
	for _, n := range []int{1, 2, 3, 5, 8, 9, 16, 17} {
		l := counted("x", span(1, n)...)
		b, ends := row(l...)
		for _, logs := range [][][]byte{{b}, {b, b}, {b[:ends[0]], b[ends[0]:]}, {nil, b[:ends[n/2]], b}} {
			was := slices.Clone(b)
			first, second := Join(logs, 0), Join(logs, 0)
			scanned, _ := Scan(b)
			spoil(second)
			if !alike(first, l) || !bytes.Equal(b, was) || !alike(scanned, l) {
				t.Errorf("%d: what was told was written into, and something else changed", n)
			}
			fill(b, '!')
			if !alike(first, l) {
				t.Errorf("%d: what was handed in was written into, and what was told changed", n)
			}
			copy(b, was)
			for i := range first {
				fill(append(first[i].Ops, del("!")), del("!"))
				fill(first[i].Ops, del("!"))
				if !alike(first[i+1:], l[i+1:]) {
					t.Errorf("%d: operations of batch %d were written into, and others changed", n, i)
				}
			}
		}
	}
}

// R1, R5: the same call tells the same again, whatever was asked between.
func TestSameAgain(t *testing.T) {
	r := rand.New(rand.NewPCG(5, 6))
	l := counted("z", span(7, 12)...)
	b, ends := row(l...)
	for range 200 {
		other := someLog(r)
		Scan(other)
		Join([][]byte{other, b, other}, r.IntN(12))
		Put(of(r.IntN(3), rising(r.IntN(40))...))
		scans(t, "again", b, l, len(b))
		joins(t, "again", [][]byte{b[:ends[2]], b}, 12, nil)
		joins(t, "again", [][]byte{b[:ends[2]], b}, 8, l[2:])
		joins(t, "again", [][]byte{b[:ends[2]], b}, 5, nil)
		if !bytes.Equal(Put(l[0]), b[:ends[0]]) || Put(of(1)) != nil {
			t.Fatal("another thing is told")
		}
	}
}
