// Package num is layer 1: counters that stay where they are at their greatest, and bytes as numbers and digits.
package num

import "fairlead/api"

const (
	widest  = 8  // bytes of the greatest number
	longest = 20 // decimal digits of the greatest number
	digits  = "0123456789abcdef"
)

// Sum adds two counters.
func Sum(a int, b int) int {
	a, b = counter(a), counter(b)
	// Held against the room that is left, as the sum of two greatest counters is no int any more.
	if a > api.MaxCount-b {
		return api.MaxCount
	}
	return a + b
}

// Less takes the counter b from the counter a.
func Less(a int, b int) int {
	return max(counter(a)-counter(b), 0)
}

// Put writes the lowest bytes of a number, the highest first.
func Put(x uint64, size int) []byte {
	size = min(max(size, 0), widest)
	b := make([]byte, size)
	for i := range size {
		b[size-1-i] = byte(x >> (8 * i))
	}
	return b
}

// Get reads the number of the last eight bytes, the highest first.
func Get(b []byte) uint64 {
	last := b[max(len(b)-widest, 0):]
	var n uint64
	for i := range len(last) {
		n = n<<8 | uint64(last[i])
	}
	return n
}

// Hex writes bytes as two digits each.
func Hex(b []byte) string {
	text := make([]byte, 2*len(b))
	for i := range len(b) {
		text[2*i] = digits[b[i]>>4]
		text[2*i+1] = digits[b[i]&15]
	}
	return string(text)
}

// Unhex reads what Hex writes, and tells whether it is that.
func Unhex(s string) ([]byte, bool) {
	if len(s)%2 != 0 {
		return nil, false
	}
	b := make([]byte, len(s)/2)
	for i := range len(b) {
		high, highOk := digit(s[2*i])
		low, lowOk := digit(s[2*i+1])
		if !highOk || !lowOk {
			return nil, false
		}
		b[i] = high<<4 | low
	}
	return b, true
}

// Dec writes a number in decimal digits.
func Dec(n uint64) string {
	var text [longest]byte
	first := longest
	// The lowest digit comes first, so the array is filled from its end; 0 has one digit, too.
	for {
		first--
		text[first] = digits[n%10]
		n /= 10
		if n == 0 {
			return string(text[first:])
		}
	}
}

// counter takes a number as the nearest one that a counter may have.
func counter(n int) int {
	return min(max(n, 0), api.MaxCount)
}

// digit reads a digit of Hex. Capitals are none, so that bytes have one text alone.
func digit(c byte) (byte, bool) {
	switch {
	case '0' <= c && c <= '9':
		return c - '0', true
	case 'a' <= c && c <= 'f':
		return c - 'a' + 10, true
	}
	return 0, false
}
