// Package wire writes numbers and texts as bytes, in big-endian order, and reads them again.
package wire

const (
	mostOfNumber = 8
	lengthBytes  = 2
	mostOfText   = 1<<16 - 1
)

// Put returns b followed by the lowest n bytes of x, the highest one first; b alone if n is not from 1 to 8.
func Put(b []byte, x uint64, n int) []byte {
	may := within(1, mostOfNumber)
	if !may(n) {
		return own(b, 0)
	}
	out := own(b, n)
	for i := range n {
		out = append(out, byte(x>>(8*(n-1-i))))
	}
	return out
}

// Take returns the number that the first n bytes of b are, the rest of b, and true; false if n is not from 1 to 8, or b has fewer bytes.
func Take(b []byte, n int) (uint64, []byte, bool) {
	may := within(1, min(mostOfNumber, len(b)))
	if !may(n) {
		return 0, nil, false
	}
	return number(b[:n]), own(b[n:], 0), true
}

// PutText returns b followed by the length of text, in two bytes, and its bytes; b alone if text is too long for that.
func PutText(b, text []byte) []byte {
	may := within(0, mostOfText)
	if !may(len(text)) {
		return own(b, 0)
	}
	return append(Put(b, uint64(len(text)), lengthBytes), text...)
}

// TakeText returns the text that b begins with, the rest of b, and true; false if b does not begin with a text, or it has more than most bytes.
func TakeText(b []byte, most int) ([]byte, []byte, bool) {
	if len(b) < lengthBytes {
		return nil, nil, false
	}
	n, rest := int(number(b[:lengthBytes])), b[lengthBytes:]
	may := within(0, min(most, len(rest)))
	if !may(n) {
		return nil, nil, false
	}
	return own(rest[:n], 0), own(rest[n:], 0), true
}

// Unsigned returns x + 2^31.
func Unsigned(x int32) uint64 {
	return uint64(int64(x) + 1<<31)
}

// Signed returns the number for which Unsigned returns the lowest 32 bits of x.
func Signed(x uint64) int32 {
	return int32(int64(uint32(x)) - 1<<31)
}

// within returns what tells whether there may be so many bytes.
func within(least, most int) func(n int) bool {
	return func(n int) bool {
		return least <= n && n <= most
	}
}

// number is told from bytes that are at most eight.
func number(b []byte) uint64 {
	x := uint64(0)
	for i := range len(b) {
		x = x<<8 | uint64(b[i])
	}
	return x
}

// own copies b into new memory with room for more bytes: appending to b itself could write into the caller's spare capacity.
func own(b []byte, more int) []byte {
	return append(make([]byte, 0, len(b)+more), b...)
}
