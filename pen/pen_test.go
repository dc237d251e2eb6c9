package pen_test

import (
	"encoding/binary"
	"math"
	"math/rand"
	"slices"
	"strings"
	"testing"

	"cordelle/api"
	"cordelle/pen"
)

// numbers are below 0, within the bits that are written, and above them.
var numbers = []int{
	0, 1, 2, 127, 128, 254, 255, 256, 257, 258, 32767, 32768, 65534, 65535, 65536, 65537,
	1<<24 - 2, 1<<24 - 1, 1 << 24, 1<<24 + 1, 1<<32 - 1, 1 << 32, 0x0102030405060708, math.MaxInt,
	-1, -2, -127, -128, -255, -256, -257, -65535, -65536, -65537, -1 << 24, -1<<24 - 1, -1 << 32, math.MinInt + 1, math.MinInt,
}

// low answers the low bytes of a number, as many as size says.
func low(n, size int) string {
	return string(binary.BigEndian.AppendUint64(nil, uint64(n)))[8-size:]
}

func TestP31OutOfEachNumber(t *testing.T) {
	for _, n := range numbers {
		for size, s := range map[int]string{
			1: new(pen.Out).U8(n).Bytes(),
			2: new(pen.Out).U16(n).Bytes(),
			3: new(pen.Out).U24(n).Bytes(),
			4: new(pen.Out).U32(uint32(n)).Bytes(),
		} {
			if s != low(n, size) {
				t.Errorf("%d in %d bytes: %x, not %x", n, size, s, low(n, size))
			}
		}
	}
}

func TestP31OutOfSome(t *testing.T) {
	for _, x := range []struct {
		out  *pen.Out
		want string
	}{
		{new(pen.Out), ""},
		{new(pen.Out).U8().U16().U24().U32().Raw(), ""},
		{new(pen.Out).Raw("", ""), ""},
		{new(pen.Out).U8(1, 258).U16(3), "\x01\x02\x00\x03"},
		{new(pen.Out).U8(-1, -2, 255, 256), "\xff\xfe\xff\x00"},
		{new(pen.Out).U16(-2, 65536, 0x123456), "\xff\xfe\x00\x00\x34\x56"},
		{new(pen.Out).U24(-2, 1<<24, 0x12345678), "\xff\xff\xfe\x00\x00\x00\x34\x56\x78"},
		{new(pen.Out).U32(0, 1, 0x12345678, math.MaxUint32), "\x00\x00\x00\x00\x00\x00\x00\x01\x12\x34\x56\x78\xff\xff\xff\xff"},
		{new(pen.Out).Raw("a", "", "\x00\xff", "é"), "a\x00\xff\xc3\xa9"},
		{new(pen.Out).Raw("x").U24(0x010203).Raw("y").U8(4).U32(5).U16(6), "x\x01\x02\x03y\x04\x00\x00\x00\x05\x00\x06"},
	} {
		if s := x.out.Bytes(); s != x.want {
			t.Errorf("%x, not %x", s, x.want)
		}
	}
}

// TestP31OutIsTheSame: each call answers the Out that it was asked of.
func TestP31OutIsTheSame(t *testing.T) {
	var o pen.Out
	for i, same := range []*pen.Out{o.U8(1), o.U16(2), o.U24(3), o.U32(4), o.Raw("r"), o.U8(), o.U16(), o.U24(), o.U32(), o.Raw()} {
		if same != &o {
			t.Errorf("call %d answers another Out", i)
		}
	}
	if s := o.Bytes(); s != "\x01\x00\x02\x00\x00\x03\x00\x00\x00\x04r" {
		t.Errorf("%x", s)
	}
}

func TestP31BytesStay(t *testing.T) {
	var o, other pen.Out
	empty := o.Bytes()
	first := o.Raw(strings.Repeat("a", 100)).Bytes()
	again := o.Bytes()
	second := o.U8(98).Bytes()
	other.Raw("c")
	if empty != "" || first != strings.Repeat("a", 100) || again != first || second != first+"b" || other.Bytes() != "c" {
		t.Errorf("%q, %q, %q, %q, %q", empty, first, again, second, other.Bytes())
	}
}

func TestP31OutLeavesItsLists(t *testing.T) {
	n, u, s := []int{1, -2, 300, 4}, []uint32{1, 2, 3}, []string{"a", "b", "c"}
	o := new(pen.Out).U8(n[:2]...).U16(n[:2]...).U24(n[:2]...).U32(u[:1]...).Raw(s[:1]...)
	if !slices.Equal(n, []int{1, -2, 300, 4}) || !slices.Equal(u, []uint32{1, 2, 3}) || !slices.Equal(s, []string{"a", "b", "c"}) {
		t.Errorf("the lists are now %v, %v, %q", n, u, s)
	}
	was := o.Bytes()
	n[0], u[0], s[0] = 9, 9, "z"
	if o.Bytes() != was {
		t.Error("an Out keeps what it was handed")
	}
}

func TestP31OutOfNil(t *testing.T) {
	var o *pen.Out
	if o.Bytes() != "" || o.U8(1).U8(2).Bytes() != "\x01\x02" || o.U16(1).Bytes() != "\x00\x01" || o.U24(1).Bytes() != "\x00\x00\x01" || o.U32(1).Bytes() != "\x00\x00\x00\x01" || o.Raw("a").Bytes() != "a" {
		t.Error("a nil Out doesn't count as a zero one")
	}
}

// look is what an In is asked without anything being taken.
type look struct {
	left     int
	err, end api.Errno
}

func lookAt(in *pen.In) look { return look{in.Left(), in.Err(), in.End()} }

func (want look) hold(t *testing.T, what string, in *pen.In) {
	t.Helper()
	if got := lookAt(in); got != want {
		t.Errorf("%s: %+v, not %+v", what, got, want)
	}
}

// takes are the calls that take numbers, by how many bytes each takes.
var takes = map[int]func(*pen.In) int{
	1: (*pen.In).U8,
	2: (*pen.In).U16,
	3: (*pen.In).U24,
	4: func(in *pen.In) int { return int(in.U32()) },
}

func TestP31InOfEachLength(t *testing.T) {
	s := "\x81\x02\xf3\x04\x05\x06"
	for size, take := range takes {
		for n := range len(s) + 1 {
			in := pen.Of(s[:n])
			got := take(in)
			if n < size {
				if got != 0 {
					t.Errorf("%d bytes of %d: %d", size, n, got)
				}
				look{0, api.ErrEnd, api.ErrEnd}.hold(t, "bytes are wanting", in)
				continue
			}
			if new(pen.Out).U32(uint32(got)).Bytes()[4-size:] != s[:size] {
				t.Errorf("%d bytes of %d: %x", size, n, got)
			}
			want := look{left: n - size}
			if want.left > 0 {
				want.end = api.ErrForm
			}
			want.hold(t, "taken", in)
		}
	}
}

func TestP31RawOfEachLength(t *testing.T) {
	s := "raw\x00\xff"
	for _, n := range []int{math.MinInt, -6, -1, 0, 1, 2, 4, 5, 6, 7, math.MaxInt - 1, math.MaxInt} {
		in := pen.Of(s)
		got := in.Raw(n)
		if n > len(s) {
			if got != "" {
				t.Errorf("Raw(%d): %q", n, got)
			}
			look{0, api.ErrEnd, api.ErrEnd}.hold(t, "bytes are wanting", in)
			continue
		}
		if got != s[:max(n, 0)] || in.Left() != len(s)-len(got) || in.Err() != api.OK {
			t.Errorf("Raw(%d): %q, %d left, %d", n, got, in.Left(), in.Err())
		}
	}
}

// allZero: behind a first error each call answers 0 or "", and none is left.
func allZero(t *testing.T, in *pen.In, first api.Errno) {
	t.Helper()
	for range 2 {
		if in.U8() != 0 || in.U16() != 0 || in.U24() != 0 || in.U32() != 0 || in.Raw(0) != "" || in.Raw(-1) != "" || in.Raw(1) != "" || in.Raw(99) != "" {
			t.Error("behind an error something is answered")
		}
		look{0, first, first}.hold(t, "behind an error", in)
		in.Fail(api.ErrState)
		in.Fail(api.OK)
	}
}

func TestP31InBehindAnError(t *testing.T) {
	for size, take := range takes {
		in := pen.Of("abcdefgh"[:size-1])
		take(in)
		allZero(t, in, api.ErrEnd)
	}
	in := pen.Of("abcdefgh")
	if in.Raw(9) != "" {
		t.Error("Raw")
	}
	allZero(t, in, api.ErrEnd)
	for _, e := range []api.Errno{api.ErrForm, api.ErrEnd, api.ErrKind, api.ErrState, -1, 99} {
		for _, s := range []string{"", "abcdefgh"} {
			in = pen.Of(s)
			in.Fail(e)
			allZero(t, in, e)
		}
	}
}

func TestP31Fail(t *testing.T) {
	in := pen.Of("abc")
	in.Fail(api.OK)
	look{3, api.OK, api.ErrForm}.hold(t, "Fail of OK", in)
	if in.U8() != 'a' {
		t.Error("Fail of OK takes bytes away")
	}
	in.Fail(api.ErrKind)
	look{0, api.ErrKind, api.ErrKind}.hold(t, "Fail", in)
	in.Fail(api.ErrBig)
	look{0, api.ErrKind, api.ErrKind}.hold(t, "a second Fail", in)

	in = pen.Of("abc")
	in.Raw(3)
	look{}.hold(t, "all taken", in)
	in.Fail(api.ErrSum)
	look{0, api.ErrSum, api.ErrSum}.hold(t, "Fail with none left", in)
}

// TestP31EndStaysNot: that bytes are left is told, and isn't a first error.
func TestP31EndStaysNot(t *testing.T) {
	in := pen.Of("ab")
	if in.End() != api.ErrForm || in.End() != api.ErrForm || in.Err() != api.OK || in.Left() != 2 {
		t.Error("End changes something")
	}
	if in.U16() != 0x6162 || in.End() != api.OK {
		t.Error("behind End nothing can be taken")
	}
	if in.U8() != 0 || in.End() != api.ErrEnd {
		t.Error("End doesn't tell the first error")
	}
}

func TestP31InOfNothing(t *testing.T) {
	look{}.hold(t, "no bytes", pen.Of(""))
	var in pen.In
	look{}.hold(t, "a zero In", &in)
	if in.Raw(0) != "" || in.Raw(-5) != "" || in.End() != api.OK || in.U8() != 0 || in.End() != api.ErrEnd {
		t.Error("a zero In isn't one of no bytes")
	}
}

func TestP31InsAreApart(t *testing.T) {
	s := "abcd"
	one, other := pen.Of(s), pen.Of(s)
	one.U16()
	one.Fail(api.ErrArg)
	if other.Left() != 4 || other.Err() != api.OK || other.U32() != 0x61626364 {
		t.Error("what one takes the other misses")
	}
}

func TestP32EachNumberThereAndBack(t *testing.T) {
	for n := range 256 {
		if got := pen.Of(new(pen.Out).U8(n).Bytes()).U8(); got != n {
			t.Fatalf("U8: %d, not %d", got, n)
		}
	}
	for n := range 65536 {
		if got := pen.Of(new(pen.Out).U16(n).Bytes()).U16(); got != n {
			t.Fatalf("U16: %d, not %d", got, n)
		}
	}
	for bit := range 32 {
		for _, d := range []int{-1, 0, 1} {
			n := 1<<bit + d
			if got := pen.Of(new(pen.Out).U24(n).Bytes()).U24(); got != n&(1<<24-1) {
				t.Errorf("U24: %d, not %d", got, n)
			}
			if got := pen.Of(new(pen.Out).U32(uint32(n)).Bytes()).U32(); got != uint32(n) {
				t.Errorf("U32: %d, not %d", got, n)
			}
		}
	}
}

// TestP32LowBitsThereAndBack: of numbers that don't fit the low bits come back.
func TestP32LowBitsThereAndBack(t *testing.T) {
	for _, n := range numbers {
		in := pen.Of(new(pen.Out).U8(n).U16(n).U24(n).Bytes())
		if a, b, c := in.U8(), in.U16(), in.U24(); a != n&0xff || b != n&0xffff || c != n&0xffffff || in.End() != api.OK {
			t.Errorf("%d: %d, %d, %d", n, a, b, c)
		}
	}
}

// TestP32ManyThereAndBack: calls of all kinds, in any order.
func TestP32ManyThereAndBack(t *testing.T) {
	r := rand.New(rand.NewSource(3))
	for range 300 {
		var o pen.Out
		var back []func(*pen.In) bool
		for range r.Intn(30) {
			n := r.Uint32()
			switch r.Intn(5) {
			case 0:
				o.U8(int(n))
				back = append(back, func(in *pen.In) bool { return in.U8() == int(n&0xff) })
			case 1:
				o.U16(int(n))
				back = append(back, func(in *pen.In) bool { return in.U16() == int(n&0xffff) })
			case 2:
				o.U24(int(n))
				back = append(back, func(in *pen.In) bool { return in.U24() == int(n&0xffffff) })
			case 3:
				o.U32(n)
				back = append(back, func(in *pen.In) bool { return in.U32() == n })
			case 4:
				b := make([]byte, n%40)
				r.Read(b)
				o.Raw(string(b))
				back = append(back, func(in *pen.In) bool { return in.Raw(len(b)) == string(b) })
			}
		}
		in := pen.Of(o.Bytes())
		for i, same := range back {
			if !same(in) {
				t.Fatalf("call %d of %d: another one came back", i, len(back))
			}
		}
		look{}.hold(t, "all came back", in)
	}
}
