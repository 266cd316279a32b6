package sum

import (
	"bytes"
	"fmt"
	"hash/crc32"
	"hash/fnv"
	"math/bits"
	"slices"
	"strings"
	"testing"
)

// row is n bytes by a rule of a fixed beginning, so that each run tries the same ones.
func row(n int, from uint32) []byte {
	b := make([]byte, n)
	for i := range b {
		from = from*1664525 + 1013904223
		b[i] = byte(from >> 24)
	}
	return b
}

func rising(n int) []byte {
	b := make([]byte, n)
	for i := range b {
		b[i] = byte(i)
	}
	return b
}

func falling(n int) []byte {
	b := rising(n)
	slices.Reverse(b)
	return b
}

// readCommand is the last example of RFC 3720, B.4.
func readCommand() []byte {
	b := make([]byte, 48)
	b[0], b[1], b[16], b[20], b[22], b[27], b[31], b[32], b[40] = 0x01, 0xc0, 0x14, 0, 0x04, 0x14, 0x18, 0x28, 0x02
	return b
}

// 3.1: sums that are known: of nothing, of one byte, of 0 and of 255, of bytes from 128 on, of rows.
func TestKnownSums(t *testing.T) {
	for _, c := range []struct {
		b    []byte
		want int
	}{
		{nil, 0},
		{[]byte{}, 0},
		{[]byte{1, 2, 3}[1:1], 0},
		{[]byte{0}, 0x527d5351},
		{[]byte{255}, 0xff000000},
		{[]byte{1}, 0xa016d052},
		{[]byte{127}, 0x7df63b78},
		{[]byte{128}, 0xd08b6829},
		{[]byte("a"), 0xc1d04330},
		{[]byte{0, 0}, 0xf16177d2},
		{[]byte{255, 255}, 0xffff0000},
		{make([]byte, 4), 0x48674bc7},
		{bytes.Repeat([]byte{255}, 4), 0xffffffff},
		{[]byte("abc"), 0x364b3fb7},
		{[]byte("message digest"), 0x02bd79d0},
		{[]byte("abcdefghijklmnopqrstuvwxyz"), 0x9ee6ef25},
		{[]byte("123456789"), 0xe3069283},
		{[]byte("The quick brown fox jumps over the lazy dog"), 0x22620404},
		{make([]byte, 32), 0x8a9136aa},
		{bytes.Repeat([]byte{255}, 32), 0x62a8ab43},
		{rising(32), 0x46dd794e},
		{falling(32), 0x113fdb5c},
		{readCommand(), 0xd9963a56},
	} {
		if got := Sum(c.b); got != c.want {
			t.Errorf("Sum(%x) = %#x, want %#x", c.b, got, c.want)
		}
	}
}

// 3.1: of every byte alone, of rows of every short length, and of long ones.
func TestSumsAsCRC32C(t *testing.T) {
	table := crc32.MakeTable(crc32.Castagnoli)
	hold := func(b []byte, of string) {
		t.Helper()
		if got, want := Sum(b), int(crc32.Checksum(b, table)); got != want {
			t.Errorf("Sum of %s = %#x, want %#x", of, got, want)
		}
	}
	for c := range 256 {
		hold([]byte{byte(c)}, fmt.Sprintf("the byte %d", c))
		hold([]byte{byte(c), 0}, fmt.Sprintf("%d and 0", c))
		hold([]byte{0, byte(c)}, fmt.Sprintf("0 and %d", c))
		hold(bytes.Repeat([]byte{byte(c)}, 9), fmt.Sprintf("nine times %d", c))
	}
	for n := range 300 {
		hold(row(n, uint32(n)), fmt.Sprintf("%d bytes", n))
		hold(make([]byte, n), fmt.Sprintf("%d noughts", n))
	}
	for _, n := range []int{1 << 12, 1<<16 - 1, 1 << 16, 1<<16 + 1, 1 << 20} {
		hold(row(n, 7), fmt.Sprintf("%d bytes", n))
		hold(make([]byte, n), fmt.Sprintf("%d noughts", n))
		hold(bytes.Repeat([]byte{255}, n), fmt.Sprintf("%d times 255", n))
	}
}

// 3.1: hashes that are known: of nothing, of one byte, of bytes from 128 on, of texts that are no UTF-8.
func TestKnownHashes(t *testing.T) {
	for _, c := range []struct {
		s    string
		want int
	}{
		{"", 2166136261},
		{"\x00", 0x050c5d1f},
		{"\x00\x00", 0x117697cd},
		{"a", 0xe40c292c},
		{"b", 0xe70c2de5},
		{"\x7f", 0xfa0c4bce},
		{"\x80", 0x850b939f},
		{"\xff", 0x7a0b824e},
		{"é", 0x1e9de8c1},
		{"\xe9", 0x6c0b6c44},
		{"foo", 0xa9f37ed7},
		{"foobar", 0xbf9cf968},
		{"\xff\x00\x00\x01", 0xc48fb86d},
		{"\xef\xbf\xbd", 0x03479c4a},
		{"\xf0\x28\x8c\x28", 0xcd72edf9},
		{"line 1\nline 2\nline 3", 0x97b4ea23},
		{"chongo was here!\n", 0xd49930d5},
		{"127.0.0.1", 0x08a3d11e},
	} {
		if got := Hash(c.s); got != c.want {
			t.Errorf("Hash(%q) = %#x, want %#x", c.s, got, c.want)
		}
	}
}

// 3.1: of every byte alone, of texts of every short length, UTF-8 or not, and of long ones.
func TestHashesAsFNV1a(t *testing.T) {
	hold := func(s string, of string) {
		t.Helper()
		h := fnv.New32a()
		h.Write([]byte(s))
		if got, want := Hash(s), int(h.Sum32()); got != want {
			t.Errorf("Hash of %s = %#x, want %#x", of, got, want)
		}
	}
	for c := range 256 {
		hold(string([]byte{byte(c)}), fmt.Sprintf("the byte %d", c))
		hold(string([]byte{'a', byte(c)}), fmt.Sprintf("a and %d", c))
		hold(string([]byte{byte(c), 'a'}), fmt.Sprintf("%d and a", c))
	}
	for n := range 300 {
		hold(string(row(n, uint32(n))), fmt.Sprintf("%d bytes", n))
		hold(strings.Repeat("é", n), fmt.Sprintf("%d times é", n))
	}
	for _, n := range []int{1 << 12, 1<<16 - 1, 1 << 16, 1<<16 + 1, 1 << 20} {
		hold(string(row(n, 9)), fmt.Sprintf("%d bytes", n))
		hold(strings.Repeat("\x00", n), fmt.Sprintf("%d noughts", n))
		hold(strings.Repeat("\xff", n), fmt.Sprintf("%d times 255", n))
	}
}

// 3.1: bytes that are told apart by place alone, or by noughts at an end, are told apart.
func TestPlacesAndNoughtsCount(t *testing.T) {
	for _, c := range [][2]string{{"ab", "ba"}, {"a", "a\x00"}, {"a", "\x00a"}, {"\x00", ""}, {"\x00", "\x00\x00"}} {
		if Sum([]byte(c[0])) == Sum([]byte(c[1])) {
			t.Errorf("Sum of %q and of %q are one", c[0], c[1])
		}
		if Hash(c[0]) == Hash(c[1]) {
			t.Errorf("Hash of %q and of %q are one", c[0], c[1])
		}
	}
}

// bases is what bits are turned in; each has room for a row of 32 bits at least.
func bases() [][]byte {
	return [][]byte{make([]byte, 4), bytes.Repeat([]byte{255}, 4), make([]byte, 5), row(5, 1), rising(12), row(64, 2), row(300, 3)}
}

// turn tells b with the bits of mask turned from the bit at on: the lowest bit of each byte first, as Sum reads them.
func turn(b []byte, at int, mask uint32) []byte {
	c := slices.Clone(b)
	for i := range 32 {
		if mask>>i&1 == 1 {
			c[(at+i)/8] ^= 1 << ((at + i) % 8)
		}
	}
	return c
}

// masks is rows of n bits, the first and the last of them turned, and what lies between as it comes.
func masks(n int) []uint32 {
	ends := uint32(1) | 1<<(n-1)
	all := ^uint32(0) >> (32 - n)
	l := []uint32{ends, all, ends | 0x55555555&all, ends | 0xaaaaaaaa&all}
	return append(l, ends|0x82f63b78&all, ends|0x1edc6f41&all, ends|0x05ec76f1&all, ends|0xdb710641&all)
}

// 3.2: rows of 1 to 32 bits, at every place: at the beginning, in the midst and at the end.
func TestTurnedRows(t *testing.T) {
	for _, b := range bases() {
		was := Sum(b)
		for n := 1; n <= 32; n++ {
			for at := 0; at+n <= 8*len(b); at++ {
				for _, mask := range masks(n) {
					if Sum(turn(b, at, mask)) == was {
						t.Fatalf("%d bytes, %d bits turned from bit %d on by %#x: the same Sum", len(b), n, at, mask)
					}
				}
			}
		}
	}
}

// 3.2: every row that stands within two bytes, all noughts but for which bits are turned.
func TestTurnedWithinTwoBytes(t *testing.T) {
	for _, b := range [][]byte{make([]byte, 2), row(2, 4), row(9, 5)} {
		was := Sum(b)
		for _, at := range []int{0, len(b)/2 - 1, len(b) - 2} {
			for mask := uint32(1); mask < 1<<16; mask++ {
				if Sum(turn(b, 8*at, mask)) == was {
					t.Fatalf("%d bytes, turned from byte %d on by %#x: the same Sum", len(b), at, mask)
				}
			}
		}
	}
}

// reduce tells what is left of v when the rows of kept are taken off by their highest bits.
func reduce(kept *[32]uint32, v uint32) uint32 {
	for v != 0 && kept[bits.Len32(v)-1] != 0 {
		v ^= kept[bits.Len32(v)-1]
	}
	return v
}

// 3.2: all rows of 32 bits at once: what each bit changes in the Sum is no exclusive or of what the others change.
func TestNoRowOfBitsIsLost(t *testing.T) {
	for _, b := range bases() {
		was := uint32(Sum(b))
		for at := 0; at+32 <= 8*len(b); at++ {
			var kept [32]uint32
			for i := range 32 {
				left := reduce(&kept, was^uint32(Sum(turn(b, at, 1<<i))))
				if left == 0 {
					t.Fatalf("%d bytes, from bit %d on: bit %d changes nothing that the bits ahead don't", len(b), at, i)
				}
				kept[bits.Len32(left)-1] = left
			}
		}
	}
}

// 3.2: the exclusive or of what bits change alone is what they change together, on which the test above rests.
func TestBitsChangeTheSumByThemselves(t *testing.T) {
	for _, b := range bases() {
		was := Sum(b)
		for n := 1; n <= 32; n++ {
			for _, mask := range masks(n) {
				at := 8*len(b) - 32
				want := was
				for i := range 32 {
					if mask>>i&1 == 1 {
						want ^= was ^ Sum(turn(b, at, 1<<i))
					}
				}
				if got := Sum(turn(b, at, mask)); got != want {
					t.Fatalf("%d bytes turned by %#x: Sum %#x, want %#x", len(b), mask, got, want)
				}
			}
		}
	}
}

// 3.2: a row of noughts turns nothing.
func TestNothingTurned(t *testing.T) {
	for _, b := range bases() {
		if Sum(turn(b, 0, 0)) != Sum(b) {
			t.Errorf("%d bytes: another Sum of the same bytes", len(b))
		}
	}
}

// R1, R5: the same call tells the same again, whatever was asked between.
func TestSameAgain(t *testing.T) {
	b := row(40, 6)
	s, h := Sum(b), Hash(string(b))
	for n := range 20 {
		Sum(row(n, 8))
		Hash(string(row(n, 8)))
		if Sum(b) != s || Hash(string(b)) != h {
			t.Fatalf("after %d calls between: another answer", n+1)
		}
	}
}

// R3: what is handed in is not changed, the spare room behind it neither; nor does what stands there count.
func TestHandedInStays(t *testing.T) {
	b := row(50, 10)
	was := slices.Clone(b)
	want := int(crc32.Checksum(was[10:30], crc32.MakeTable(crc32.Castagnoli)))
	if got := Sum(b[10:30]); got != want {
		t.Errorf("Sum of a piece: %#x, want %#x", got, want)
	}
	if !bytes.Equal(b, was) {
		t.Error("Sum changed what was handed in, or what lies around it")
	}
	b[29]++
	if Sum(b[10:30]) == want {
		t.Error("Sum tells what was kept of the bytes")
	}
}

// 3.1: sums and hashes are of 32 bits: never below 0, nor above them.
func TestWithin32Bits(t *testing.T) {
	for n := range 300 {
		b := row(n, uint32(n)+11)
		for _, got := range []int{Sum(b), Hash(string(b))} {
			if got < 0 || got>>32 != 0 {
				t.Errorf("of %x: %#x is no number of 32 bits", b, got)
			}
		}
	}
}
