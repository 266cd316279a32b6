package filter

import (
	"bytes"
	"fmt"
	"hash/fnv"
	"math"
	"math/big"
	"math/rand/v2"
	"slices"
	"strings"
	"testing"
)

// rounded tells a times b by numbers as long as need be, and then by the nearest float64, of two the even one.
func rounded(a, b float64) *big.Float {
	exact := new(big.Float).SetPrec(200).Mul(big.NewFloat(a), big.NewFloat(b))
	near, _ := exact.Float64()
	return big.NewFloat(near)
}

// down tells x rounded down, of a number from 0 on.
func down(x *big.Float) int {
	n, _ := x.Int64()
	return int(n)
}

// probesOf is what 11.1 says of Probes, told in another way.
func probesOf(b float64) int {
	if !(b >= 1) {
		return 0
	}
	for k := 12; k > 1; k-- {
		if math.IsInf(b, 0) || rounded(0.7, b).Cmp(big.NewFloat(float64(k))) >= 0 {
			return k
		}
	}
	return 1
}

// bitsOf is the bits of a key by 11.1, told in another way: numbers of 64 bits, and a step made of two pieces.
func bitsOf(key string, probes, m int) []int {
	told := fnv.New32a()
	told.Write([]byte(key))
	h := uint64(told.Sum32())
	d := h/(1<<17) + h%(1<<17)*(1<<15)
	var l []int
	for j := range uint64(probes) {
		l = append(l, int((h+j*d)%(1<<32)%uint64(m)))
	}
	return l
}

// sizeOf is how many bits a filter has by 11.1, told in another way.
func sizeOf(keys int, b float64) int {
	if b > 64 {
		b = 64
	}
	n := down(rounded(b, float64(keys)))
	if n < 64 {
		n = 64
	}
	for n%8 != 0 {
		n++
	}
	return n
}

// filterOf is what 11.1 says of Make, told in another way: a list of bits, then their bytes.
func filterOf(keys []string, b float64) []byte {
	probes := probesOf(b)
	if probes == 0 {
		return nil
	}
	set := make([]bool, sizeOf(len(keys), b))
	for _, k := range keys {
		for _, i := range bitsOf(k, probes, len(set)) {
			set[i] = true
		}
	}
	f := bytesOf(set)
	return append(f, byte(probes))
}

// bytesOf tells bits as bytes, of each byte the lowest bit first.
func bytesOf(set []bool) []byte {
	f := make([]byte, len(set)/8)
	for i, is := range set {
		if is {
			f[i/8] += []byte{1, 2, 4, 8, 16, 32, 64, 128}[i%8]
		}
	}
	return f
}

// mayOf is what 11.2 says of May, told in another way.
func mayOf(f []byte, key string) bool {
	if len(f) < 2 || f[len(f)-1] == 0 || f[len(f)-1] > 12 {
		return true
	}
	text := ""
	for _, c := range f[:len(f)-1] {
		for range 8 {
			text += string('0' + rune(c%2))
			c /= 2
		}
	}
	for _, i := range bitsOf(key, int(f[len(f)-1]), len(text)) {
		if text[i] == '0' {
			return false
		}
	}
	return true
}

// names is n keys, each another one.
func names(from, n int) []string {
	var l []string
	for i := range n {
		l = append(l, fmt.Sprint("key", from+i))
	}
	return l
}

// strange is keys at the edges: empty, noughts, no UTF-8, the greatest a store takes, and longer.
func strange() []string {
	return []string{"", "\x00", "\x00\x00", "a", "b", "ab", "ba", "a\x00", "\x00a", "é", "\xc3", "\xff", "\xff\x00", "\x80\xfe", "key", "kez",
		strings.Repeat("k", 64), strings.Repeat("k", 65), strings.Repeat("\xff", 64), strings.Repeat("é", 40), strings.Repeat("long", 1000)}
}

// noProbes is bits that have no Probes.
func noProbes() []float64 {
	return []float64{
		math.NaN(), math.Float64frombits(0x7ff0000000000001), math.Float64frombits(0x7fffffffffffffff), math.Float64frombits(0xfff8000000000000), math.Float64frombits(0xffffffffffffffff), math.Float64frombits(0xfff0000000000001),
		math.Inf(-1), 0, math.Copysign(0, -1),
		math.SmallestNonzeroFloat64, -math.SmallestNonzeroFloat64, 0x1p-1022, 1e-300, 0.1, 0.5, 0.7, 0.9, 0.999, below(1), below(below(1)),
		-0.5, below(-1), -1, above(-1), -2, -5, -10, -64, -1e300, -math.MaxFloat64,
	}
}

func below(x float64) float64 { return math.Nextafter(x, math.Inf(-1)) }
func above(x float64) float64 { return math.Nextafter(x, math.Inf(1)) }

// steps is the least number of each count of Probes from 2 on: the first of which 0.7 times it, rounded, is no less.
func steps() map[int]float64 {
	return map[int]float64{
		2:  0x1.6db6db6db6db7p+1,
		3:  0x1.124924924924ap+2,
		4:  0x1.6db6db6db6db7p+2,
		5:  0x1.c924924924925p+2,
		6:  0x1.124924924924ap+3,
		7:  10,
		8:  0x1.6db6db6db6db7p+3,
		9:  0x1.9b6db6db6db6ep+3,
		10: 0x1.c924924924925p+3,
		11: 0x1.f6db6db6db6dcp+3,
		12: 0x1.124924924924ap+4,
	}
}

// perKey is numbers of bits a key that have Probes: at the edges of each count of them, of the greatest size, and some between.
func perKey() []float64 {
	l := []float64{1, above(1), 1.2, 1.42, 1.43, 1.7, 2, 2.5, 3, 3.14159, 4, 5, 6, 6.4, 7.9, 8, 9, 9.6, 11, 12, 13, 16, 17, 18, 20, 24, 31.5, 32, 33.3, 48,
		63, 63.5, below(64), 64, above(64), 65, 100, 1000, 1 << 32, 1 << 53, 1 << 63, 1e19, 1e300, math.MaxFloat64, math.Inf(1)}
	for _, x := range steps() {
		l = append(l, below(x), x, above(x))
	}
	slices.Sort(l)
	return l
}

// 11.1: the number of Probes: ordinary ones, and the edges.
func TestProbes(t *testing.T) {
	for _, c := range []struct {
		bits float64
		want int
	}{
		{1, 1}, {above(1), 1}, {1.1, 1}, {1.42, 1}, {1.43, 1}, {2, 1}, {2.8, 1}, {2.9, 2}, {3, 2}, {4, 2}, {4.3, 3}, {5, 3}, {6, 4}, {7, 4}, {8, 5}, {9, 6},
		{10, 7}, {11, 7}, {12, 8}, {13, 9}, {14, 9}, {15, 10}, {16, 11}, {17, 11}, {17.2, 12}, {below(18), 12}, {18, 12}, {above(18), 12},
		{18.5, 12}, {18.6, 12}, {19, 12}, {20, 12}, {64, 12}, {65, 12}, {100, 12}, {1 << 31, 12}, {1 << 32, 12}, {1 << 62, 12}, {1 << 63, 12}, {1 << 64, 12}, {1e19, 12}, {1e300, 12},
		{below(math.MaxFloat64), 12}, {math.MaxFloat64, 12}, {math.Inf(1), 12},
	} {
		if got := Probes(c.bits); got != c.want {
			t.Errorf("Probes(%v) = %d, not %d", c.bits, got, c.want)
		}
	}
}

// 11.1: no number, below 1, noughts of either sign: 0.
func TestProbesOfNone(t *testing.T) {
	for _, b := range noProbes() {
		if got := Probes(b); got != 0 {
			t.Errorf("Probes(%v) = %d", b, got)
		}
	}
}

// 11.1, R6: where 0.7 times bits passes a whole number, rounded to the nearest, of two alike near to the even one.
func TestProbesAtEachStep(t *testing.T) {
	for k, x := range steps() {
		if got := Probes(x); got != k {
			t.Errorf("Probes(%v) = %d, not %d", x, got, k)
		}
		if got := Probes(above(x)); got != k {
			t.Errorf("Probes just above %v = %d, not %d", x, got, k)
		}
		if got := Probes(below(x)); got != k-1 {
			t.Errorf("Probes just below %v = %d, not %d", x, got, k-1)
		}
	}
}

// 11.1: the Probes of numbers of every kind, against the product told by longer numbers.
func TestProbesOfAnyNumber(t *testing.T) {
	hold := func(b float64) {
		t.Helper()
		if got, want := Probes(b), probesOf(b); got != want {
			t.Fatalf("Probes(%v) = %d, not %d", b, got, want)
		}
	}
	for _, b := range append(perKey(), noProbes()...) {
		hold(b)
		hold(-b)
	}
	by := rand.New(rand.NewPCG(11, 1))
	for range 20000 {
		hold(math.Float64frombits(by.Uint64()))
		hold(by.Float64() * 20)
		hold(by.Float64() * 2)
	}
	for i := range 2000 {
		hold(float64(i) / 100)
	}
}

// 11.1: without Probes there is nothing, however many keys there are.
func TestMakeWithoutProbes(t *testing.T) {
	for _, keys := range [][]string{nil, {}, {""}, {"a"}, names(0, 100)} {
		for _, b := range noProbes() {
			if f := Make(keys, b); len(f) != 0 {
				t.Errorf("Make of %d keys, %v = %v", len(keys), b, f)
			}
		}
	}
}

// 11.1: filters that are known, byte by byte.
func TestMakeKnown(t *testing.T) {
	for _, c := range []struct {
		keys []string
		bits float64
		want []byte
	}{
		{nil, 1, []byte{0, 0, 0, 0, 0, 0, 0, 0, 1}},
		{nil, 10, []byte{0, 0, 0, 0, 0, 0, 0, 0, 7}},
		{nil, math.Inf(1), []byte{0, 0, 0, 0, 0, 0, 0, 0, 12}},
		{[]string{""}, 1, []byte{32, 0, 0, 0, 0, 0, 0, 0, 1}},
		{[]string{"a"}, 2, []byte{0, 0, 0, 0, 0, 16, 0, 0, 1}},
		{[]string{"a"}, 10, []byte{16, 4, 1, 0, 0, 16, 4, 65, 7}},
		{[]string{"a", "b"}, 10, []byte{24, 6, 1, 0, 32, 24, 134, 97, 7}},
		{[]string{"b", "a"}, 10, []byte{24, 6, 1, 0, 32, 24, 134, 97, 7}},
		{[]string{""}, 64, []byte{40, 8, 10, 130, 130, 128, 32, 32, 12}},
		{[]string{"key"}, 18, []byte{65, 4, 17, 68, 0, 17, 68, 16, 12}},
		{[]string{"\xff\x00"}, 5, []byte{0, 4, 0, 2, 0, 1, 0, 0, 3}},
		{[]string{"a", "b", "c"}, 24, []byte{18, 176, 21, 121, 65, 26, 212, 70, 197, 12}},
		{slices.Repeat([]string{"a"}, 10), 10, []byte{0, 1, 16, 0, 5, 0, 0, 0, 4, 64, 0, 16, 0, 7}},
		{[]string{"icebox", "", "far"}, math.Inf(1), []byte{4, 64, 16, 64, 0, 36, 0, 0, 72, 14, 66, 150, 198, 128, 32, 41, 96, 0, 14, 0, 4, 68, 0, 0, 12}},
	} {
		if got := Make(c.keys, c.bits); !bytes.Equal(got, c.want) {
			t.Errorf("Make(%q, %v) = %v, not %v", c.keys, c.bits, got, c.want)
		}
	}
}

// 11.1: how many bytes there are, and the last one: below 64 bits, just 64, above, at multiples of 8 and on both sides of them.
func TestMakeSize(t *testing.T) {
	for _, c := range []struct {
		keys int
		bits float64
		size int
		last byte
	}{
		{0, 1, 8, 1}, {0, 64, 8, 12}, {0, math.Inf(1), 8, 12}, {0, math.MaxFloat64, 8, 12},
		{1, 1, 8, 1}, {1, 10, 8, 7}, {1, 63, 8, 12}, {1, below(64), 8, 12}, {1, 64, 8, 12}, {1, above(64), 8, 12}, {1, 65, 8, 12}, {1, 72, 8, 12}, {1, 1000, 8, 12}, {1, math.MaxFloat64, 8, 12}, {1, math.Inf(1), 8, 12},
		{2, 32, 8, 12}, {2, 32.4, 8, 12}, {2, 32.5, 9, 12}, {2, 36, 9, 12}, {2, 36.4, 9, 12}, {2, 36.5, 10, 12}, {2, below(64), 16, 12}, {2, 63.4, 16, 12}, {2, 60, 15, 12}, {2, 64, 16, 12}, {2, above(64), 16, 12}, {2, 128, 16, 12}, {2, math.Inf(1), 16, 12},
		{63, 1, 8, 1}, {64, 1, 8, 1}, {65, 1, 9, 1}, {71, 1, 9, 1}, {72, 1, 9, 1}, {73, 1, 10, 1}, {80, 1, 10, 1}, {81, 1, 11, 1},
		{64, above(1), 8, 1}, {64, 1.01, 8, 1}, {64, 1.02, 9, 1}, {40, 1.7, 9, 1}, {40, 1.8, 9, 1}, {40, 1.82, 9, 1}, {40, 1.83, 10, 1},
		{5, 10, 8, 7}, {6, 10, 8, 7}, {7, 10, 9, 7}, {8, 10, 10, 7}, {8, below(10), 10, 6}, {8, above(10), 10, 7}, {8, 10.125, 11, 7}, {8, below(10.125), 10, 7}, {9, 10, 12, 7},
		{40, 64, 320, 12}, {40, 1000, 320, 12}, {40, math.MaxFloat64, 320, 12}, {40, math.Inf(1), 320, 12}, {1000, 10, 1250, 7}, {1001, 10, 1252, 7}, {4096, 1e9, 32768, 12},
		// As they are these products are just below 73, 97 and 249; rounded to the nearest float64 they are those.
		{5, 14.6, 10, 10}, {5, 19.4, 13, 12}, {5, 49.8, 32, 12},
	} {
		f := Make(names(0, c.keys), c.bits)
		if len(f) != c.size+1 || f[len(f)-1] != c.last {
			t.Errorf("Make of %d keys, %v: %d bytes, the last one %v; not %d, %d", c.keys, c.bits, len(f), f[max(len(f)-1, 0):], c.size+1, c.last)
		}
	}
}

// 11.1: the size goes by how many keys are handed in, a key that comes twice twice; the bits of each are the same ones.
func TestMakeOfTheSameKey(t *testing.T) {
	if a, b := Make([]string{"a"}, 10), Make([]string{"a", "a"}, 10); !bytes.Equal(a, b) {
		t.Errorf("the same key twice, within 64 bits: %v, not %v", b, a)
	}
	if f := Make(slices.Repeat([]string{"a"}, 20), 10); len(f) != 26 || ones(f[:25]) != 7 {
		t.Errorf("a key 20 times: %v", f)
	}
	if f := Make(append(names(0, 19), "key3"), 10); !bytes.Equal(f, Make(append([]string{"key3"}, names(0, 19)...), 10)) || len(f) != 26 {
		t.Errorf("a key twice among others: %v", f)
	}
}

// ones is how many bits are set.
func ones(f []byte) (n int) {
	for _, c := range f {
		n += strings.Count(fmt.Sprintf("%b", c), "1")
	}
	return n
}

// 11.1: each bit that is set, and that no other is, of each key alone with each number of bits.
func TestMakeOfOneKey(t *testing.T) {
	for _, k := range append(strange(), names(0, 30)...) {
		for _, b := range perKey() {
			if got, want := Make([]string{k}, b), filterOf([]string{k}, b); !bytes.Equal(got, want) {
				t.Fatalf("Make(%q, %v) = %v, not %v", k, b, got, want)
			}
		}
	}
}

// 11.1: each bit that is set, and that no other is, of lists of keys of each length, in any order, some of them twice.
func TestMakeOfMany(t *testing.T) {
	by := rand.New(rand.NewPCG(11, 2))
	all := append(strange(), names(0, 200)...)
	for n := range 90 {
		for _, b := range append(perKey(), 1+by.Float64()*20, 1+by.Float64()*80) {
			var keys []string
			for range n {
				keys = append(keys, all[by.IntN(len(all))])
			}
			got, want := Make(keys, b), filterOf(keys, b)
			if !bytes.Equal(got, want) {
				t.Fatalf("Make(%q, %v) = %v, not %v", keys, b, got, want)
			}
			slices.Reverse(keys)
			if !bytes.Equal(Make(keys, b), want) {
				t.Fatalf("Make(%q, %v) hangs on the order of its keys", keys, b)
			}
		}
	}
	keys := names(7, 5000)
	for _, b := range []float64{1, 1.5, 10, 64, math.Inf(1)} {
		if !bytes.Equal(Make(keys, b), filterOf(keys, b)) {
			t.Errorf("Make of 5000 keys, %v", b)
		}
	}
}

// 11.1: a filter of several keys has the bits of each, of as many of that key alone, and no more.
func TestMakeIsOfEachKey(t *testing.T) {
	keys := names(3, 40)
	for _, b := range []float64{1, 2.9, 10, 30, 64} {
		f := Make(keys, b)
		each := make([]byte, len(f))
		for _, k := range keys {
			for i, c := range Make(slices.Repeat([]string{k}, len(keys)), b) {
				each[i] |= c
			}
		}
		if !bytes.Equal(f, each) {
			t.Errorf("Make of 40, %v: %v, and of each: %v", b, f, each)
		}
	}
}

// 11.2: what is too short, or ends with a byte that is no number of Probes, tells nothing: any key may be there.
func TestMayOfNoFilter(t *testing.T) {
	for _, k := range strange() {
		for c := range 256 {
			if !May([]byte{byte(c)}, k) {
				t.Errorf("May([%d], %q) is false", c, k)
			}
		}
		if !May(nil, k) || !May([]byte{}, k) {
			t.Errorf("May of nothing, %q is false", k)
		}
		for c := range 256 {
			is := c == 0 || c > 12
			for _, size := range []int{1, 2, 3, 8, 9, 100} {
				f := append(make([]byte, size), byte(c))
				if got := May(f, k); got != is {
					t.Errorf("May of %d noughts and %d, %q is %t", size, c, k, got)
				}
				if !May(append(bytes.Repeat([]byte{255}, size), byte(c)), k) {
					t.Errorf("May of %d times 255 and %d, %q is false", size, c, k)
				}
			}
		}
	}
}

// 11.2: a filter of no keys holds none.
func TestMayOfNoKeys(t *testing.T) {
	for _, b := range perKey() {
		f := Make(nil, b)
		for _, k := range append(strange(), names(0, 50)...) {
			if May(f, k) {
				t.Errorf("May of a filter of nothing, %v bits: %q", b, k)
			}
		}
	}
	// Without Probes there is no filter, and any key may be there.
	if !May(Make([]string{"a"}, 0.5), "b") || !May(Make(nil, math.NaN()), "") {
		t.Error("May of what Make tells without Probes is false")
	}
}

// 11.2: all of the bits of a key are asked, and no other: each number of Probes, filters of many sizes, that Make tells and that it doesn't.
func TestMayAsksEachBit(t *testing.T) {
	sizes := []int{1, 2, 3, 4, 5, 6, 7, 8, 9, 10, 11, 13, 16, 17, 31, 32, 33, 100}
	for _, k := range append(strange(), names(0, 6)...) {
		for probes := 1; probes <= 12; probes++ {
			for _, size := range sizes {
				asks(t, k, probes, size)
			}
		}
	}
}

func asks(t *testing.T, k string, probes, size int) {
	t.Helper()
	its := make([]bool, 8*size)
	for _, i := range bitsOf(k, probes, len(its)) {
		its[i] = true
	}
	others := make([]bool, len(its))
	for i, is := range its {
		others[i] = !is
	}
	of := func(set []bool) []byte { return append(bytesOf(set), byte(probes)) }
	if !May(of(its), k) {
		t.Fatalf("%q, %d Probes, %d bytes: all its bits are set, and no other", k, probes, size)
	}
	if May(of(others), k) {
		t.Fatalf("%q, %d Probes, %d bytes: all bits are set but its own", k, probes, size)
	}
	for i, is := range its {
		if !is {
			continue
		}
		its[i], others[i] = false, true
		if May(of(its), k) {
			t.Fatalf("%q, %d Probes, %d bytes: bit %d alone is missing of its own", k, probes, size, i)
		}
		its[i], others[i] = true, false
	}
	all := slices.Repeat([]bool{true}, len(its))
	for i, is := range its {
		all[i] = false
		if May(of(all), k) == is {
			t.Fatalf("%q, %d Probes, %d bytes: bit %d alone is missing of all", k, probes, size, i)
		}
		all[i] = true
	}
}

// 11.2: bytes as they come, against May told in another way.
func TestMayOfAnyBytes(t *testing.T) {
	by := rand.New(rand.NewPCG(11, 3))
	keys := append(strange(), names(0, 100)...)
	told := map[bool]int{}
	for range 20000 {
		f := make([]byte, by.IntN(40))
		for i := range f {
			f[i] = byte(by.Uint32() | by.Uint32() | by.Uint32())
		}
		if len(f) > 0 && by.IntN(8) > 0 {
			f[len(f)-1] = byte(by.IntN(14))
		}
		k := keys[by.IntN(len(keys))]
		got, want := May(f, k), mayOf(f, k)
		if got != want {
			t.Fatalf("May(%v, %q) = %t", f, k, got)
		}
		told[got]++
	}
	if told[true] < 2000 || told[false] < 2000 {
		t.Errorf("too few of one answer: %v", told)
	}
}

// 11.2: a filter of 2^32 bits, and of more: how many there are isn't held within 32 bits.
func TestMayOfAGreatFilter(t *testing.T) {
	const size = 1<<29 + 2
	whole := make([]byte, size+1) // of which few pages are ever touched
	for _, k := range []string{"", "a", "key", "\xff\x00"} {
		for _, f := range [][]byte{whole[:size-1], whole[:size], whole} {
			m := 8 * (len(f) - 1)
			l := bitsOf(k, 12, m)
			f[len(f)-1] = 12
			for _, i := range l {
				if May(f, k) {
					t.Fatalf("%q, of %d bits: bit %d is missing", k, m, i)
				}
				f[i/8] |= 1 << (i % 8)
			}
			if !May(f, k) {
				t.Fatalf("%q, of %d bits: all its bits are set", k, m)
			}
			for _, i := range l {
				f[i/8] = 0
			}
			f[len(f)-1] = 0
		}
	}
}

// 11.3: a key that Make was told of may be there: any keys, any number of bits, with Probes and without.
func TestToldMayBeThere(t *testing.T) {
	lists := [][]string{{""}, {"a"}, {"a", "a"}, strange(), names(0, 1), names(0, 64), names(5, 300), append(names(0, 40), strange()...)}
	for i := range strange() {
		lists = append(lists, strange()[i:])
	}
	for _, keys := range lists {
		for _, b := range append(perKey(), noProbes()...) {
			f := Make(keys, b)
			for _, k := range keys {
				if !May(f, k) {
					t.Fatalf("%d keys, %v bits: %q is told not to be there", len(keys), b, k)
				}
			}
		}
	}
}

// 11.2: most keys that Make was not told of are told not to be there, the fewer may be there the more bits there are.
func TestNotTold(t *testing.T) {
	keys := names(0, 1000)
	for _, c := range []struct {
		bits float64
		most int // of 10000 that may be there still
	}{{1, 7500}, {2, 4500}, {5, 1200}, {10, 200}, {16, 50}, {64, 2}} {
		f := Make(keys, c.bits)
		n := 0
		for _, k := range names(1000, 10000) {
			is := May(f, k)
			if is != mayOfBits(f, k) {
				t.Fatalf("%v bits: May of %q is %t", c.bits, k, is)
			}
			if is {
				n++
			}
		}
		if n > c.most {
			t.Errorf("%v bits: %d of 10000 keys may be there", c.bits, n)
		}
	}
	// In a filter of one key, another one of the same bits may be there, one of others not.
	if f := Make([]string{"a"}, 10); May(f, "b") || May(f, "c") || May(f, "") || !May(f, "a") {
		t.Error("May of keys beside the one there is")
	}
}

// mayOfBits is mayOf without telling all bits as a text first.
func mayOfBits(f []byte, k string) bool {
	return !slices.ContainsFunc(bitsOf(k, int(f[len(f)-1]), 8*len(f)-8), func(i int) bool { return f[i/8]>>(i%8)%2 == 0 })
}

// R3: what is handed in is not changed, the room behind it neither, and not kept.
func TestHandedInStays(t *testing.T) {
	room := append(names(0, 30), strange()...)
	was := slices.Clone(room)
	keys := room[5:20]
	f := Make(keys, 10)
	told := slices.Clone(f)
	if !slices.Equal(room, was) {
		t.Error("Make changed its keys, or what lies around them")
	}
	keys[0], room[20] = "other", "other"
	if !bytes.Equal(f, told) {
		t.Error("a key that is written over changes what was told")
	}
	keys[0] = was[5]
	if !bytes.Equal(Make(keys, 10), told) {
		t.Error("Make tells another filter of the same keys")
	}

	wide := append(append([]byte{9, 9, 9}, f...), 9, 9, 9)
	before := slices.Clone(wide)
	for _, k := range was {
		if May(wide[3:3+len(f)], k) != May(f, k) {
			t.Errorf("May of a piece, %q: what lies around it counts", k)
		}
	}
	if !bytes.Equal(wide, before) || !bytes.Equal(f, told) {
		t.Error("May changed its filter, or what lies around it")
	}
	if !May(f, was[5]) {
		t.Error("a key that is there is told not to be")
	}
	clear(f[:len(f)-1])
	if May(f, was[5]) {
		t.Error("May tells what was kept of a filter")
	}
}

// R3: what is told is new memory, spare room too: whoever writes into it changes nothing else.
func TestToldIsNew(t *testing.T) {
	for _, b := range append(perKey(), noProbes()...) {
		for _, n := range []int{0, 1, 5, 40} {
			keys := names(0, n)
			one, two := Make(keys, b), Make(keys, b)
			was := slices.Clone(one)
			one = one[:cap(one)]
			for i := range one {
				one[i] = 0xa5
			}
			one = append(one, 1, 2, 3)
			if !bytes.Equal(two, was) || !bytes.Equal(Make(keys, b), was) {
				t.Fatalf("%d keys, %v bits: writing into one filter changes another", n, b)
			}
		}
	}
}

// R1, R5: the same call tells the same again, whatever was asked between.
func TestSameAgain(t *testing.T) {
	keys := names(0, 12)
	f := Make(keys, 9.5)
	for n := range 50 {
		Make(names(n, n), float64(n))
		May(Make(strange(), float64(n)), "key3")
		Probes(math.NaN())
		if !bytes.Equal(Make(keys, 9.5), f) || !May(f, "key3") || May(f, "none") || Probes(9.5) != 6 {
			t.Fatalf("after %d calls between: another answer", n+1)
		}
	}
}
