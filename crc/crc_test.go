package crc_test

import (
	"math"
	"math/big"
	"slices"
	"strings"
	"testing"

	"cordelle/crc"
)

// divisor is the whole one: with the bit that goes beyond the 32.
var divisor = big.NewInt(0x104c11db7)

// remainder is the document's, got another way: a text's bits as one great
// number, from which the divisor is taken, without carries, from above.
func remainder(s string) uint32 {
	left := new(big.Int).SetBytes([]byte(s))
	for n := left.BitLen(); n > 32; n = left.BitLen() {
		left.Xor(left, new(big.Int).Lsh(divisor, uint(n-33)))
	}
	return uint32(left.Uint64())
}

// texts are some of many lengths, with bytes of all kinds.
func texts() []string {
	l := []string{"", "\x00", "\x01", "\x80", "\xff", "abc", "abcd", "abcde", "\x01\x04\xc1\x1d\xb7", strings.Repeat("\x00", 9), strings.Repeat("\xff", 40)}
	next := uint32(12345)
	for n := range 40 {
		b := make([]byte, n+n*n/9)
		for i := range b {
			next = next*1664525 + 1013904223
			b[i] = byte(next >> 24)
		}
		l = append(l, string(b))
	}
	return l
}

// bitOf is the i-th bit of a text, told by its digits.
func bitOf(s string, i int) byte {
	digits := new(big.Int).SetBytes([]byte("\x01" + s)).Text(2)
	return digits[1+i] - '0'
}

func TestP21RemOfSome(t *testing.T) {
	for _, x := range []struct {
		s    string
		want uint32
	}{
		{"", 0},
		{"\x00\x00\x00\x00\x00\x00\x00", 0},
		{"\x01", 1},
		{"\x80", 0x80},
		{"abcd", 0x61626364},
		{"\xff\xff\xff\xff", 0xffffffff},
		{"\x01\x00\x00\x00\x00", 0x04c11db7},
		{"\x02\x00\x00\x00\x00", 0x09823b6e},
		{"\x01\x04\xc1\x1d\xb7", 0},
		{"\x01\x04\xc1\x1d\xb6", 1},
		{"123456789\x00\x00\x00\x00", 0x89a1897f}, // the sum that cksum tells of 123456789, turned
	} {
		if got := crc.Rem(x.s); got != x.want {
			t.Errorf("Rem(%q): %08x, not %08x", x.s, got, x.want)
		}
	}
}

func TestP21RemIsTheRemainder(t *testing.T) {
	for _, s := range texts() {
		if got := crc.Rem(s); got != remainder(s) {
			t.Errorf("Rem(%q): %08x, not %08x", s, got, remainder(s))
		}
	}
}

// TestP21RemOfSeveral: texts count as one, wherever they are cut.
func TestP21RemOfSeveral(t *testing.T) {
	if crc.Rem() != 0 || crc.Rem([]string{}...) != 0 || crc.Rem("", "", "") != 0 {
		t.Error("of no texts, and of empty ones, the remainder is 0")
	}
	s := texts()[30]
	want := remainder(s)
	for cut := range len(s) + 1 {
		if got := crc.Rem(s[:cut], "", s[cut:]); got != want {
			t.Errorf("cut at %d: %08x, not %08x", cut, got, want)
		}
	}
	if got := crc.Rem(strings.Split(s, "")...); got != crc.Rem(strings.Join(strings.Split(s, ""), "")) {
		t.Errorf("byte by byte: %08x", got)
	}
	if crc.Rem("a", "b") == crc.Rem("b", "a") {
		t.Error("the order of the texts doesn't show")
	}
}

func TestP21RemLeavesItsList(t *testing.T) {
	whole := []string{"a", "b", "c", "d"}
	crc.Rem(whole[:2]...)
	if !slices.Equal(whole, []string{"a", "b", "c", "d"}) {
		t.Errorf("the list is now %q", whole)
	}
}

func TestP21Right(t *testing.T) {
	for _, x := range []struct {
		s    string
		want bool
	}{
		{"", true},
		{"\x00", true},
		{"\x00\x00\x00\x00\x00\x00", true},
		{"\x01", false},
		{"\x00\x00\x00\x80", false},
		{"\x80\x00\x00\x00", false},
		{"\x01\x04\xc1\x1d\xb7", true},
		{"\x00\x01\x04\xc1\x1d\xb7", true},
		{"\x01\x04\xc1\x1d\xb7\x00", true},
		{"\x01\x04\xc1\x1d\xb6", false},
		{"\x04\xc1\x1d\xb7", false},
		{"abcd", false},
	} {
		if got := crc.Right(x.s); got != x.want {
			t.Errorf("Right(%q): %v", x.s, got)
		}
	}
}

// TestP23SealOfEachPlace: just four bytes are others, and it is Right.
func TestP23SealOfEachPlace(t *testing.T) {
	for _, s := range texts() {
		for at := range max(len(s)-3, 0) {
			u, ok := crc.Seal(s, at)
			if !ok || len(u) != len(s) || u[:at] != s[:at] || u[at+4:] != s[at+4:] {
				t.Fatalf("Seal(%q, %d): %q, %v", s, at, u, ok)
			}
			if !crc.Right(u) || remainder(u) != 0 {
				t.Fatalf("Seal(%q, %d): %q isn't Right", s, at, u)
			}
		}
	}
}

// TestP23SealIsTheOne: what stood in the four bytes doesn't show, and a text
// that is Right is its own Seal at each place: so there is just one.
func TestP23SealIsTheOne(t *testing.T) {
	u, _ := crc.Seal("head....and some more", 4)
	for at := range len(u) - 3 {
		if v, ok := crc.Seal(u, at); !ok || v != u {
			t.Errorf("at %d: %q, not %q", at, v, u)
		}
	}
	for _, four := range []string{"\x00\x00\x00\x00", "\xff\xff\xff\xff", "abcd", "\x01\x00\x00\x80"} {
		if v, ok := crc.Seal("head"+four+"and some more", 4); !ok || v != u {
			t.Errorf("of %q: %q, not %q", four, v, u)
		}
	}
	for place := 32; place < 64; place++ {
		if crc.Right(crc.Turn(u, place, 1<<31)) {
			t.Errorf("Right also with bit %d turned", place)
		}
	}
}

func TestP23SealOfFewBytes(t *testing.T) {
	for _, x := range []struct {
		s    string
		at   int
		want string
	}{
		{"abcd", 0, "\x00\x00\x00\x00"},
		{"\x01abcd", 1, "\x01\x04\xc1\x1d\xb7"},
		{"\x00abcd", 1, "\x00\x00\x00\x00\x00"},
		{"\x01abcd\x00", 1, "\x01\x04\xc1\x1d\xb7\x00"},
	} {
		if got, ok := crc.Seal(x.s, x.at); !ok || got != x.want {
			t.Errorf("Seal(%q, %d): %q, %v", x.s, x.at, got, ok)
		}
	}
}

func TestP23SealOutside(t *testing.T) {
	for _, s := range []string{"", "a", "abc", "abcd", "abcde", strings.Repeat("x", 40)} {
		for _, at := range []int{math.MinInt, -1 << 40, -5, -4, -3, -2, -1, len(s) - 3, len(s) - 2, len(s) - 1, len(s), len(s) + 1, 1 << 40, math.MaxInt - 4, math.MaxInt - 3, math.MaxInt} {
			if at >= 0 && at+4 > 0 && at+4 <= len(s) {
				continue
			}
			if u, ok := crc.Seal(s, at); ok || u != "" {
				t.Errorf("Seal(%q, %d): %q, %v", s, at, u, ok)
			}
		}
	}
}

// TestP22BurstsOfAllPlaces: of a text that is Right no burst of 1 to 32 bits
// leaves it so: each length, at each place, with inner bits of all kinds.
func TestP22BurstsOfAllPlaces(t *testing.T) {
	for _, s := range []string{"abcd", "abcde", "sixteen bytes .. and ten more"} {
		u, ok := crc.Seal(s, len(s)/2-2)
		if !ok || !crc.Right(u) {
			t.Fatalf("%q isn't sealed", s)
		}
		for long := 1; long <= 32; long++ {
			for place := range 8*len(u) - long + 1 {
				for _, inner := range []uint32{0, 0xffffffff, 0xaaaaaaaa, 0x55555555, 0x04c11db7, 0x82608edb, 0xdeadbeef} {
					tellBurst(t, u, place, long, inner)
				}
			}
		}
	}
}

// tellBurst: a burst of just so many bits, which has these ones inside.
func tellBurst(t *testing.T, u string, place, long int, inner uint32) {
	t.Helper()
	mask := inner<<(32-long) | 1<<31 | 1<<(32-long)
	v := crc.Turn(u, place, mask)
	if v == u || crc.Burst(u, v) != long {
		t.Fatalf("%q, %d bits at %d: %q: %d", u, long, place, v, crc.Burst(u, v))
	}
	if crc.Right(v) {
		t.Fatalf("%q, %d bits (%08x) at %d: %q is Right", u, long, mask, place, v)
	}
}

// TestP22AllShortBursts: each burst of at most 12 bits, at each place.
func TestP22AllShortBursts(t *testing.T) {
	u, _ := crc.Seal("packet....", 6)
	for place := range 8 * len(u) {
		for mask := uint32(1); mask < 1<<12; mask++ {
			v := crc.Turn(u, place, mask<<20)
			if v != u && crc.Right(v) {
				t.Fatalf("%03x at %d: %q is Right", mask, place, v)
			}
		}
	}
}

// TestP22LongerBurstMayPass: the bound is the document's: a burst of 33 bits,
// the divisor's, isn't told.
func TestP22LongerBurstMayPass(t *testing.T) {
	u, _ := crc.Seal("a packet that goes out", 3)
	for place := range 8*len(u) - 32 {
		v := crc.Turn(crc.Turn(u, place, 1<<31), place+1, 0x04c11db7)
		if crc.Burst(u, v) != 33 || !crc.Right(v) {
			t.Errorf("at %d: %d, %v", place, crc.Burst(u, v), crc.Right(v))
		}
	}
}

func TestP21Burst(t *testing.T) {
	long := strings.Repeat("\x00", 500)
	for _, x := range []struct {
		a, b string
		want int
	}{
		{"", "", 0},
		{"", "a", -1},
		{"a", "", -1},
		{"a", "ab", -1},
		{"ab", "a", -1},
		{"abc", "abc", 0},
		{"\x00", "\x01", 1},
		{"\x80", "\x00", 1},
		{"\x00", "\x10", 1},
		{"\x00", "\x81", 8},
		{"\x00", "\x18", 2},
		{"\x00\x00", "\x01\x80", 2},
		{"\x00\x00", "\x80\x01", 16},
		{"\x00\x00\x00", "\x00\x41\x00", 7},
		{"\x00\x00\x00", "\x01\x00\x80", 10},
		{"\xff\xff\xff", "\xfe\xff\x7f", 10},
		{"\x00\x00\x00\x00\x00", "\x01\x00\x00\x00\x80", 26},
		{"\x00\x00\x00\x00\x00", "\x80\x00\x00\x00\x01", 40},
		{long, "\x80" + long[2:] + "\x01", 4000},
		{long, long[1:] + "\x01", 1},
	} {
		if got := crc.Burst(x.a, x.b); got != x.want {
			t.Errorf("Burst(%q, %q): %d, not %d", x.a, x.b, got, x.want)
		}
	}
}

func TestP21BurstOfEachTwoBits(t *testing.T) {
	s := "seven b"
	for first := range 8 * len(s) {
		for last := first; last < 8*len(s); last++ {
			u := crc.Turn(s, first, 1<<31)
			if last > first {
				u = crc.Turn(u, last, 1<<31)
			}
			if crc.Burst(s, u) != last-first+1 || crc.Burst(u, s) != last-first+1 {
				t.Fatalf("bits %d and %d: %d, %d", first, last, crc.Burst(s, u), crc.Burst(u, s))
			}
		}
	}
}

func TestP21TurnOfSome(t *testing.T) {
	for _, x := range []struct {
		s    string
		at   int
		bits uint32
		want string
	}{
		{"", 0, 0xffffffff, ""},
		{"", 5, 0xffffffff, ""},
		{"", -5, 0xffffffff, ""},
		{"a", 0, 0, "a"},
		{"\x00", 0, 1 << 31, "\x80"},
		{"\x00", 7, 1 << 31, "\x01"},
		{"\x00", 0, 1 << 24, "\x01"},
		{"\x00", 0, 1 << 23, "\x00"},
		{"\x00", 6, 0xffffffff, "\x03"},
		{"\x00", 8, 0xffffffff, "\x00"},
		{"\x00", 9, 0xffffffff, "\x00"},
		{"a", 99, 1 << 31, "a"},
		{"\xff\xff", 4, 0xff000000, "\xf0\x0f"},
		{"\x00\x00\x00\x00\x00", 0, 1, "\x00\x00\x00\x01\x00"},
		{"\x00\x00\x00\x00\x00", 1, 1, "\x00\x00\x00\x00\x80"},
		{"\x00\x00\x00\x00\x00", 8, 0x12345678, "\x00\x12\x34\x56\x78"},
		{"\x00\x00\x00\x00\x00", 9, 1, "\x00\x00\x00\x00\x00"},
		{"\x00\x00\x00\x00\x00", -1, 0x80000001, "\x80\x00\x00\x01\x00"},
		{"\x00\x00\x00\x00\x00", -32, 0x80000001, "\x80\x00\x00\x01\x00"},
		{"\x00\x00\x00\x00\x00", math.MinInt, 0x80000001, "\x80\x00\x00\x01\x00"},
		{"abcde", 40, 0xffffffff, "abcde"},
		{"abcde", math.MaxInt, 0xffffffff, "abcde"},
		{"abcde", math.MaxInt - 31, 0xffffffff, "abcde"},
	} {
		if got := crc.Turn(x.s, x.at, x.bits); got != x.want {
			t.Errorf("Turn(%q, %d, %08x): %q, not %q", x.s, x.at, x.bits, got, x.want)
		}
	}
}

// TestP21TurnBitByBit holds each bit of each Turn against the document's words.
func TestP21TurnBitByBit(t *testing.T) {
	s := "turned"
	for at := -2; at <= 8*len(s)+2; at++ {
		from := min(max(at, 0), 8*len(s))
		for _, mask := range []uint32{1, 1 << 31, 0xffffffff, 0xdeadbeef, 0x00ff00f0} {
			got := crc.Turn(s, at, mask)
			if len(got) != len(s) || crc.Turn(got, at, mask) != s {
				t.Fatalf("at %d, %08x: %q, and back %q", at, mask, got, crc.Turn(got, at, mask))
			}
			for i := range 8 * len(s) {
				one := byte(0)
				if i >= from && i < from+32 {
					one = byte(mask >> (31 - (i - from)) & 1)
				}
				if bitOf(got, i) != bitOf(s, i)^one {
					t.Fatalf("at %d, %08x: bit %d of %q", at, mask, i, got)
				}
			}
		}
	}
}
