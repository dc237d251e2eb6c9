// Package serial is layer 1: see shared/doc/01-serial.md.
package serial

// farthest is the greatest distance of a last number from 0: so far from both
// ends of an int no difference of 16 bits leads beyond them.
const farthest = 1 << 62

// Diff answers how far b is behind a, going round: -32768 to 32767.
func Diff(a, b uint16) int { return int(int16(b - a)) }

// Less tells whether b is later than a.
func Less(a, b uint16) bool { return Diff(a, b) > 0 }

// Extend answers the whole number nearest to last whose low 16 bits are n.
func Extend(last int, n uint16) int {
	last = min(max(last, -farthest), farthest)
	return last + Diff(uint16(last), n)
}

// Latest answers the last of the numbers that was later than the one so far.
func Latest(first uint16, l ...uint16) uint16 {
	latest := first
	for _, n := range l {
		if Less(latest, n) {
			latest = n
		}
	}
	return latest
}

// Span answers the numbers from from to to, both among them, going round.
func Span(from, to uint16) []uint16 {
	count := int(to-from) + 1
	span := make([]uint16, 0, count)
	for i := range count {
		span = append(span, from+uint16(i))
	}
	return span
}

// Distinct answers each number once, as they come first.
func Distinct(l ...uint16) []uint16 {
	var distinct []uint16
	seen := map[uint16]struct{}{}
	for _, n := range l {
		if _, ok := seen[n]; ok {
			continue
		}
		seen[n] = struct{}{}
		distinct = append(distinct, n)
	}
	return distinct
}
