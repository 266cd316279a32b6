package num

import (
	"bytes"
	"math"
	"slices"
	"strings"
	"testing"
)

// numbers is the numbers at the edges of each count of bytes, and some between.
func numbers() []int {
	l := []int{0, 1, 2, 63, 64, 300, 1000000, math.MaxInt}
	for bits := 7; bits < 63; bits += 7 {
		l = append(l, 1<<bits-1, 1<<bits, 1<<bits+1)
	}
	return l
}

// texts is texts at the edges of the lengths of their numbers, and of no letters.
func texts() []string {
	return []string{"", "a", "icebox", "\x00", "\x80\xff\xfe", "né", strings.Repeat("x", 127), strings.Repeat("y", 128), strings.Repeat("z", 16384)}
}

func noNumber(t *testing.T, what string, b []byte, at int) {
	t.Helper()
	if n, next, ok := Get(b, at); ok || n != 0 || next != 0 {
		t.Errorf("%s: Get(%v, %d) = %d, %d, %v", what, b, at, n, next, ok)
	}
}

func noText(t *testing.T, what string, b []byte, at int) {
	t.Helper()
	if s, next, ok := GetText(b, at); ok || s != "" || next != 0 {
		t.Errorf("%s: GetText(%v, %d) = %q, %d, %v", what, b, at, s, next, ok)
	}
}

func noFixed(t *testing.T, what string, b []byte, at, size int) {
	t.Helper()
	if n, ok := GetFixed(b, at, size); ok || n != 0 {
		t.Errorf("%s: GetFixed(%v, %d, %d) = %d, %v", what, b, at, size, n, ok)
	}
}

// 1.1: the bytes of Put.
func TestPut(t *testing.T) {
	for _, c := range []struct {
		n    int
		want []byte
	}{
		{0, []byte{0}},
		{1, []byte{1}},
		{127, []byte{127}},
		{128, []byte{128, 1}},
		{300, []byte{172, 2}},
		{16383, []byte{255, 127}},
		{16384, []byte{128, 128, 1}},
		{1 << 56, []byte{128, 128, 128, 128, 128, 128, 128, 128, 1}},
		{1<<56 - 1, []byte{255, 255, 255, 255, 255, 255, 255, 127}},
		{math.MaxInt, []byte{255, 255, 255, 255, 255, 255, 255, 255, 127}},
	} {
		if got := Put(c.n); !bytes.Equal(got, c.want) {
			t.Errorf("Put(%d) = %v, not %v", c.n, got, c.want)
		}
	}
}

// 1.1: below 0 there is nothing.
func TestPutBelowNought(t *testing.T) {
	for _, n := range []int{-1, -2, -127, -128, -300, math.MinInt, math.MinInt + 1} {
		if b := Put(n); len(b) != 0 {
			t.Errorf("Put(%d) = %v", n, b)
		}
	}
}

// 1.1: no more bytes than it takes, and the highest bit of each but the last one.
func TestPutShape(t *testing.T) {
	for _, n := range numbers() {
		b := Put(n)
		want := 1
		for rest := n >> 7; rest > 0; rest >>= 7 {
			want++
		}
		if len(b) != want {
			t.Fatalf("Put(%d) has %d bytes, not %d", n, len(b), want)
		}
		for i, c := range b {
			if (c >= 128) != (i < len(b)-1) {
				t.Errorf("Put(%d) = %v: the highest bit of byte %d", n, b, i)
			}
		}
	}
}

// 1.1, 1.3: Get of Put is the number, wherever it stands, and whatever stands behind.
func TestGetOfPut(t *testing.T) {
	for _, n := range numbers() {
		for _, ahead := range [][]byte{nil, {0}, {128}, {255, 255, 255}} {
			for _, behind := range [][]byte{nil, {0}, {1}, {128}, {255, 0}} {
				b := slices.Concat(ahead, Put(n), behind)
				end := len(b) - len(behind)
				if got, next, ok := Get(b, len(ahead)); !ok || got != n || next != end {
					t.Errorf("Get(%v, %d) = %d, %d, %v, not %d, %d", b, len(ahead), got, next, ok, n, end)
				}
			}
		}
	}
}

// 1.1: places of which there are none.
func TestGetNoPlace(t *testing.T) {
	for _, b := range [][]byte{nil, {}, {0}, {5}, {1, 2, 3}, {128, 1}} {
		for _, at := range []int{-1, -2, -len(b) - 1, math.MinInt, len(b), len(b) + 1, math.MaxInt} {
			noNumber(t, "no place", b, at)
		}
	}
}

// 1.1: bytes that end too early.
func TestGetNoEnd(t *testing.T) {
	for _, n := range numbers() {
		b := Put(n)
		for k := range b {
			noNumber(t, "cut", b[:k], 0)
			noNumber(t, "cut, behind others", append([]byte{1, 2}, b[:k]...), 2)
		}
	}
	noNumber(t, "no end", []byte{1, 128}, 1)
	noNumber(t, "no end", []byte{255, 255, 255}, 0)
}

// 1.1: at most nine bytes.
func TestGetTooLong(t *testing.T) {
	nine := bytes.Repeat([]byte{255}, 9)
	for _, last := range []byte{0, 1, 127, 128, 255} {
		noNumber(t, "ten bytes", append(slices.Clone(nine), last), 0)
		noNumber(t, "eleven bytes", append(slices.Clone(nine), 128, last), 0)
	}
	noNumber(t, "nine bytes without an end", nine, 0)
	noNumber(t, "many bytes", append(bytes.Repeat([]byte{128}, 1000), 1), 0)
	if n, next, ok := Get(append(slices.Clone(nine), 127), 1); !ok || n != math.MaxInt || next != 10 {
		t.Error("nine bytes behind the first one:", n, next, ok)
	}
}

// 1.1: a last byte of 0 is of the number 0 alone.
func TestGetLastNought(t *testing.T) {
	for k := 1; k < 9; k++ {
		noNumber(t, "a last byte of 0", append(bytes.Repeat([]byte{128}, k), 0), 0)
		noNumber(t, "a last byte of 0", append(bytes.Repeat([]byte{255}, k), 0), 0)
	}
	if n, next, ok := Get([]byte{7, 0, 0}, 1); !ok || n != 0 || next != 2 {
		t.Error("a byte of 0 that is the first:", n, next, ok)
	}
}

// 1.1: PutText is Put of the length, and the bytes.
func TestPutText(t *testing.T) {
	for _, s := range texts() {
		want := append(Put(len(s)), s...)
		if got := PutText(s); !bytes.Equal(got, want) {
			t.Errorf("PutText(%.20q) = %.20v, not %.20v", s, got, want)
		}
	}
	if got := PutText("ab"); !bytes.Equal(got, []byte{2, 'a', 'b'}) {
		t.Error("PutText(ab):", got)
	}
	if got := PutText(""); !bytes.Equal(got, []byte{0}) {
		t.Error("PutText of nothing:", got)
	}
}

// 1.1, 1.3: GetText of PutText is the text; what is cut has none.
func TestGetText(t *testing.T) {
	for _, s := range texts() {
		b := slices.Concat([]byte{9, 200}, PutText(s), []byte{3, 'x'})
		if got, next, ok := GetText(b, 2); !ok || got != s || next != len(b)-2 {
			t.Errorf("GetText of %.20q: %.20q, %d, %v", s, got, next, ok)
		}
		whole := PutText(s)
		if got, next, ok := GetText(whole, 0); !ok || got != s || next != len(whole) {
			t.Errorf("GetText of %.20q alone: %.20q, %d, %v", s, got, next, ok)
		}
		for k := range whole[:min(len(whole), 300)] {
			noText(t, "cut", whole[:k], 0)
		}
		noText(t, "cut by one", whole[:len(whole)-1], 0)
	}
}

// 1.1: what GetText has none of.
func TestGetTextNone(t *testing.T) {
	for _, at := range []int{-1, math.MinInt, 3, 4, math.MaxInt} {
		noText(t, "no place", PutText("ab"), at)
	}
	noText(t, "no bytes", nil, 0)
	noText(t, "a length beyond the bytes", []byte{3, 'a', 'b'}, 0)
	noText(t, "a length without bytes", []byte{1}, 0)
	noText(t, "a length without an end", []byte{129}, 0)
	noText(t, "a length with a last byte of 0", []byte{129, 0, 'a'}, 0)
	noText(t, "a length of ten bytes", append(bytes.Repeat([]byte{128}, 9), 1, 'a'), 0)
	for _, n := range []int{math.MaxInt, math.MaxInt - 1, 1 << 62, 1 << 32, 1 << 31} {
		noText(t, "a length beyond all", append(Put(n), "abc"...), 0)
		noText(t, "a length beyond all, behind others", slices.Concat([]byte{1, 2, 3}, Put(n), []byte("abc")), 3)
	}
}

// 1.2: the bytes of Fixed.
func TestFixed(t *testing.T) {
	for _, c := range []struct {
		n, size int
		want    []byte
	}{
		{0, 1, []byte{0}},
		{258, 1, []byte{2}},
		{258, 2, []byte{1, 2}},
		{258, 4, []byte{0, 0, 1, 2}},
		{0x01020304050607, 7, []byte{1, 2, 3, 4, 5, 6, 7}},
		{0x0102030405060708, 7, []byte{2, 3, 4, 5, 6, 7, 8}},
		{0x0102030405060708, 8, []byte{1, 2, 3, 4, 5, 6, 7, 8}},
		{math.MaxInt, 8, []byte{127, 255, 255, 255, 255, 255, 255, 255}},
		{math.MinInt, 8, []byte{128, 0, 0, 0, 0, 0, 0, 0}},
		{math.MinInt, 7, []byte{0, 0, 0, 0, 0, 0, 0}},
		{-1, 1, []byte{255}},
		{-1, 7, []byte{255, 255, 255, 255, 255, 255, 255}},
		{-2, 8, []byte{255, 255, 255, 255, 255, 255, 255, 254}},
		{-300, 2, []byte{254, 212}},
	} {
		if got := Fixed(c.n, c.size); !bytes.Equal(got, c.want) {
			t.Errorf("Fixed(%d, %d) = %v, not %v", c.n, c.size, got, c.want)
		}
	}
}

// 1.2: sizes of Fixed of which there are none.
func TestFixedNoSize(t *testing.T) {
	for _, size := range []int{0, 9, 10, -1, -7, -8, 64, math.MaxInt, math.MinInt} {
		for _, n := range []int{0, 5, -1, math.MaxInt} {
			if b := Fixed(n, size); len(b) != 0 {
				t.Errorf("Fixed(%d, %d) = %v", n, size, b)
			}
		}
	}
}

// 1.2: GetFixed of Fixed is the number that its lowest bits are.
func TestGetFixedOfFixed(t *testing.T) {
	for _, n := range append(numbers(), -1, -2, -300, math.MinInt) {
		for size := 1; size <= 7; size++ {
			want := n & (1<<(8*size) - 1)
			b := slices.Concat([]byte{255}, Fixed(n, size), []byte{77, 78})
			if got, ok := GetFixed(b, 1, size); !ok || got != want {
				t.Errorf("GetFixed(%v, 1, %d) = %d, %v, not %d", b, size, got, ok, want)
			}
			if got, ok := GetFixed(b[:1+size], 1, size); !ok || got != want {
				t.Errorf("GetFixed at the end, of %d in %d bytes: %d, %v", n, size, got, ok)
			}
			noFixed(t, "one byte too few", b[:size], 1, size)
		}
	}
}

// 1.2: what GetFixed has none of.
func TestGetFixedNone(t *testing.T) {
	b := []byte{1, 2, 3, 4, 5, 6, 7, 8, 9, 10}
	for _, size := range []int{0, 8, 9, 10, -1, -10, math.MaxInt, math.MinInt} {
		for _, at := range []int{0, 1, len(b), math.MaxInt, -1} {
			noFixed(t, "no size", b, at, size)
		}
	}
	for size := 1; size <= 7; size++ {
		for _, at := range []int{-1, -size, math.MinInt, len(b) - size + 1, len(b), len(b) + 1, math.MaxInt} {
			noFixed(t, "no place", b, at, size)
		}
		noFixed(t, "no bytes", nil, 0, size)
		if _, ok := GetFixed(b, len(b)-size, size); !ok {
			t.Errorf("the last %d bytes have none", size)
		}
	}
}

// short goes through all rows of up to three bytes, and rows of more by some bytes.
func short(see func(b []byte)) {
	for a := range 256 {
		see([]byte{byte(a)})
		for c := range 256 {
			see([]byte{byte(a), byte(c)})
			for _, d := range []byte{0, 1, 127, 128, 255} {
				see([]byte{byte(a), byte(c), d})
			}
		}
	}
	var grow func(b []byte)
	grow = func(b []byte) {
		see(b)
		if len(b) == 10 {
			return
		}
		for _, c := range []byte{0, 1, 128} {
			grow(append(slices.Clone(b), c))
		}
	}
	grow(nil)
}

// 1.3: what Get tells Put tells by just those bytes.
func TestPutOfGet(t *testing.T) {
	told := 0
	short(func(b []byte) {
		n, next, ok := Get(b, 0)
		switch {
		case !ok && (n != 0 || next != 0):
			t.Errorf("Get(%v) = %d, %d beside a false", b, n, next)
		case ok && (n < 0 || next < 1 || next > len(b) || !bytes.Equal(Put(n), b[:next])):
			t.Errorf("Get(%v) = %d, %d, and Put tells %v", b, n, next, Put(n))
		case ok:
			told++
		}
	})
	if told == 0 {
		t.Error("nothing was told")
	}
}

// 1.3, of texts: what GetText tells PutText tells by just those bytes.
func TestPutTextOfGetText(t *testing.T) {
	short(func(b []byte) {
		s, next, ok := GetText(b, 0)
		if ok && (next > len(b) || !bytes.Equal(PutText(s), b[:next])) {
			t.Errorf("GetText(%v) = %q, %d, and PutText tells %v", b, s, next, PutText(s))
		}
	})
}

// R3: what is told is new memory, spare room too.
func TestNewMemory(t *testing.T) {
	calls := []func() []byte{
		func() []byte { return Put(5) },
		func() []byte { return Put(math.MaxInt) },
		func() []byte { return Put(-1) },
		func() []byte { return PutText("abc") },
		func() []byte { return PutText("") },
		func() []byte { return Fixed(258, 4) },
		func() []byte { return Fixed(258, 0) },
	}
	for i, call := range calls {
		first := call()
		want := slices.Clone(first)
		second := call()
		room := second[:cap(second)]
		for k := range room {
			room[k] = 99
		}
		if third := call(); !bytes.Equal(first, want) || !bytes.Equal(third, want) {
			t.Errorf("call %d: %v, then %v, not %v", i, first, third, want)
		}
	}
}

// R3: what is handed in is neither changed nor kept.
func TestHandedIn(t *testing.T) {
	whole := slices.Concat(PutText("abc"), Fixed(258, 4))
	b := slices.Clone(whole)
	s, _, _ := GetText(b, 0)
	Get(b, 0)
	GetFixed(b, 4, 4)
	noText(t, "no place", b, 99)
	noFixed(t, "no size", b, 0, 8)
	if !bytes.Equal(b, whole) {
		t.Error("what is handed in is changed:", b)
	}
	clear(b)
	if s != "abc" {
		t.Errorf("what is handed in is kept: %q", s)
	}
	in := whole[:2:len(whole)]
	Get(in, 0)
	GetText(in, 0)
	if want := slices.Concat(PutText("abc"), Fixed(258, 4)); !bytes.Equal(whole, want) {
		t.Error("spare room that is handed in is changed:", whole)
	}
}
