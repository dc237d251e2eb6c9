// Package crc is layer 2: see shared/doc/02-crc.md.
package crc

// polynomial is what is xored where a bit goes beyond the 32. It is odd: so
// taking in a bit can be undone, and no short burst leaves the remainder alike.
const polynomial uint32 = 0x04c11db7

// Rem answers the remainder of all texts, one behind the other.
func Rem(l ...string) uint32 {
	var sum uint32
	for _, s := range l {
		for i := range length(s) {
			sum = twice(sum) ^ bit(s, i)
		}
	}
	return sum
}

// Seal answers s, with the four bytes from at on with which its remainder is 0.
func Seal(s string, at int) (string, bool) {
	if at < 0 || at > len(s)-4 {
		return "", false
	}
	before, behind := s[:at], s[at+4:]
	// The sum is linear: the four bytes must come to just what all the others
	// leave, and they are doubled once for each bit behind them.
	seal := Rem(before, "\x00\x00\x00\x00", behind)
	for range length(behind) {
		seal = half(seal)
	}
	four := []byte{byte(seal >> 24), byte(seal >> 16), byte(seal >> 8), byte(seal)}
	return before + string(four) + behind, true
}

// Right tells whether the remainder is 0.
func Right(s string) bool { return Rem(s) == 0 }

// Burst answers how many bits there are from the first one to the last one in
// which the texts aren't alike: 0, if they are, -1, if their lengths aren't.
func Burst(a, b string) int {
	if len(a) != len(b) {
		return -1
	}
	first, last := -1, -1
	for i := range length(a) {
		if bit(a, i) == bit(b, i) {
			continue
		}
		if first < 0 {
			first = i
		}
		last = i
	}
	if first < 0 {
		return 0
	}
	return last - first + 1
}

// Turn answers s, with its bits from at on turned where bits has ones.
func Turn(s string, at int, bits uint32) string {
	at = min(max(at, 0), length(s))
	turned := make([]byte, len(s))
	copy(turned, s)
	for i := range min(32, length(s)-at) {
		one := byte(bits >> (31 - i) & 1)
		place := at + i
		turned[place/8] ^= one << (7 - place%8)
	}
	return string(turned)
}

// length answers how many bits a text has.
func length(s string) int { return 8 * len(s) }

// bit answers the i-th bit of a text, of each byte the highest first.
func bit(s string, i int) uint32 { return uint32(s[i/8]>>(7-i%8)) & 1 }

// twice doubles a remainder. A product instead of a branch: which bit goes
// beyond can't be foretold, and this is done for each bit of each packet.
func twice(sum uint32) uint32 { return sum<<1 ^ (sum>>31)*polynomial }

// half undoes twice: as the polynomial is odd, a lowest bit 1 says that it was
// xored, and so that a highest bit went beyond.
func half(sum uint32) uint32 {
	if sum&1 == 0 {
		return sum >> 1
	}
	return (sum^polynomial)>>1 | 1<<31
}
