// Package num tells numbers and texts as bytes: see DOC.md, chapter 1.
package num

const (
	low     = 7      // bits of the number in each byte of Put
	more    = 1 << 7 // the bit of a byte of Put behind which another one comes
	longest = 9      // bytes of Put: 63 bits, all that a number from 0 on has
	whole   = 8      // bytes of a number
	widest  = 7      // bytes of GetFixed: of eight the highest bit would be a sign
)

// Put tells n by seven bits a byte, the lowest ones first; below 0 there is nothing.
func Put(n int) []byte {
	if n < 0 {
		return nil
	}
	var b []byte
bytes:
	for {
		switch {
		case n < more:
			b = append(b, byte(n))
			break bytes
		default:
			b = append(b, byte(n)|more)
			n >>= low
		}
	}
	return b
}

// Get tells the number whose Put stands at a place of b, and the place behind it.
func Get(b []byte, at int) (n, next int, ok bool) {
	if at < 0 || at >= len(b) {
		return 0, 0, false
	}
bytes:
	for i, c := range b[at:] {
		switch {
		case i == longest:
			break bytes
		case c >= more:
			n |= int(c-more) << (low * i)
			continue bytes
		case c == 0 && i > 0:
			// Put ends with a byte of 0 at 0 alone: any other is longer than it takes.
			break bytes
		}
		return n | int(c)<<(low*i), at + i + 1, true
	}
	return 0, 0, false
}

// PutText tells Put of the length of s, and its bytes.
func PutText(s string) []byte {
	return append(Put(len(s)), s...)
}

// GetText tells the text whose PutText stands at a place of b, and the place behind it.
func GetText(b []byte, at int) (s string, next int, ok bool) {
	size, from, ok := Get(b, at)
	// Held against what is left: a sum of place and length could wrap round.
	if !ok || size > len(b)-from {
		return "", 0, false
	}
	next = from + size
	return string(b[from:next]), next, true
}

// Fixed tells the lowest 8 times size bits of n, the highest byte first.
func Fixed(n, size int) []byte {
	if size < 1 || size > whole {
		return nil
	}
	b := make([]byte, 0, size)
bytes:
	for left := whole - 1; left >= 0; left-- {
		if left >= size {
			continue bytes
		}
		b = append(b, byte(n>>(8*left)))
	}
	return b
}

// GetFixed tells the number that stands by size bytes at a place of b.
func GetFixed(b []byte, at, size int) (int, bool) {
	if size < 1 || size > widest || at < 0 || at > len(b)-size {
		return 0, false
	}
	n := 0
bytes:
	for i, c := range b[at:] {
		if i == size {
			break bytes
		}
		n = n<<8 | int(c)
	}
	return n, true
}
