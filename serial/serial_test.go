package serial_test

import (
	"math"
	"slices"
	"testing"

	"cordelle/serial"
)

// starts are numbers near the places where 16 bits go round.
var starts = []uint16{0, 1, 2, 255, 256, 32766, 32767, 32768, 32769, 40000, 65534, 65535}

// TestP11DiffOfAll holds Diff and Less against the document's words: the one
// number of the range that, added to a, is b.
func TestP11DiffOfAll(t *testing.T) {
	for _, a := range starts {
		for d := -32768; d <= 32767; d++ {
			b := uint16((int(a) + d + 65536) % 65536)
			if got := serial.Diff(a, b); got != d {
				t.Fatalf("Diff(%d, %d): %d, not %d", a, b, got, d)
			}
			if got := serial.Less(a, b); got != (d > 0) {
				t.Fatalf("Less(%d, %d): %v", a, b, got)
			}
		}
	}
}

func TestP11DiffEdges(t *testing.T) {
	for _, x := range []struct {
		a, b uint16
		diff int
		less bool
	}{
		{7, 7, 0, false},
		{7, 8, 1, true},
		{8, 7, -1, false},
		{65535, 0, 1, true},
		{65535, 1, 2, true},
		{1, 65535, -2, false},
		{0, 32767, 32767, true},
		{0, 32768, -32768, false},
		{32768, 0, -32768, false},
		{32769, 0, 32767, true},
		{32767, 65535, -32768, false},
		{65535, 32766, 32767, true},
		{65535, 32767, -32768, false},
	} {
		if got := serial.Diff(x.a, x.b); got != x.diff {
			t.Errorf("Diff(%d, %d): %d, not %d", x.a, x.b, got, x.diff)
		}
		if got := serial.Less(x.a, x.b); got != x.less {
			t.Errorf("Less(%d, %d): %v", x.a, x.b, got)
		}
	}
}

func TestP11Extend(t *testing.T) {
	const far = 1 << 62
	for _, x := range []struct {
		last int
		n    uint16
		want int
	}{
		{0, 0, 0},
		{0, 1, 1},
		{0, 65535, -1},
		{0, 32767, 32767},
		{0, 32768, -32768},
		{5, 65535, -1},
		{65535, 0, 65536},
		{65536, 65535, 65535},
		{70000, 4463, 69999},
		{70000, 4464, 70000},
		{70000, 4465, 70001},
		{-1, 0, 0},
		{-1, 65534, -2},
		{-1, 32766, 32766},
		{-1, 32767, -32769},
		{-65536, 65535, -65537},
		{-70000, 61073, -69999},
		{far - 1, 0, far},
		{far - 1, 65534, far - 2},
		{far, 0, far},
		{far, 1, far + 1},
		{far, 32767, far + 32767},
		{far, 32768, far - 32768},
		{far + 1, 0, far},
		{far + 1, 1, far + 1},
		{far + 30000, 60000, far - 5536},
		{math.MaxInt, 0, far},
		{math.MaxInt, 5, far + 5},
		{math.MaxInt, 65535, far - 1},
		{math.MaxInt, 32768, far - 32768},
		{-far + 1, 0, -far},
		{-far, 0, -far},
		{-far, 65535, -far - 1},
		{-far, 32768, -far - 32768},
		{-far - 1, 0, -far},
		{-far - 1, 65535, -far - 1},
		{-far - 30000, 5536, -far + 5536},
		{math.MinInt, 0, -far},
		{math.MinInt, 32768, -far - 32768},
		{math.MinInt, 32767, -far + 32767},
	} {
		if got := serial.Extend(x.last, x.n); got != x.want {
			t.Errorf("Extend(%d, %d): %d, not %d", x.last, x.n, got, x.want)
		}
	}
}

// TestP11ExtendOfAll: whatever is last, the answer has n as its low part, and
// is as far from last as Diff says.
func TestP11ExtendOfAll(t *testing.T) {
	for _, last := range []int{-1 << 62, -1 << 40, -65537, -65536, -32768, -1, 0, 1, 32767, 32768, 65535, 65536, 1 << 40, 1 << 62} {
		for n := range 65536 {
			got := serial.Extend(last, uint16(n))
			if ((got%65536)+65536)%65536 != n || got-last < -32768 || got-last > 32767 {
				t.Fatalf("Extend(%d, %d): %d", last, n, got)
			}
		}
	}
}

// TestP12ExtendFindsAll: of numbers less than 32768 apart the low parts are
// enough to find them all.
func TestP12ExtendFindsAll(t *testing.T) {
	steps := []int{1, 1, -1, 32767, 32767, 32767, -32767, -32767, -32767, -32767, 0, 2, 30000, 30000, -5, 12345, -32767, 17, 32766, -1, 1}
	for _, start := range []int{0, 1, -1, 32767, 32768, 65535, 65536, -40000, 1 << 40, -1 << 40} {
		number, found := start, start
		for round := range 2000 {
			number += steps[round%len(steps)] * (1 - round/1000*2)
			found = serial.Extend(found, uint16(number&65535))
			if found != number {
				t.Fatalf("from %d, step %d: %d, not %d", start, round, found, number)
			}
		}
	}
}

// TestP12ExtendAnyLowPart: whatever number of 16 bits is the low part.
func TestP12ExtendAnyLowPart(t *testing.T) {
	for _, step := range []int{1, 3, 257, 32767, -1, -32767} {
		number, found := 0, 0
		seen := [65536]bool{}
		for range 65536 {
			number += step
			low := uint16(number & 65535)
			seen[low] = true
			if found = serial.Extend(found, low); found != number {
				t.Fatalf("step %d: %d, not %d", step, found, number)
			}
		}
		for low, ok := range seen {
			if !ok {
				t.Fatalf("step %d: no number whose low part is %d", step, low)
			}
		}
	}
}

func TestP11Latest(t *testing.T) {
	for _, x := range []struct {
		first uint16
		l     []uint16
		want  uint16
	}{
		{9, nil, 9},
		{9, []uint16{}, 9},
		{9, []uint16{9, 9}, 9},
		{9, []uint16{10, 8}, 10},
		{9, []uint16{8, 7}, 9},
		{65534, []uint16{1, 0, 65533}, 1},
		{65535, []uint16{0}, 0},
		{0, []uint16{65535}, 0},
		{0, []uint16{32767}, 32767},
		{0, []uint16{32768}, 0},
		{32768, []uint16{0}, 32768},
		{0, []uint16{30000, 60000}, 60000},
		{0, []uint16{60000, 30000}, 30000},
		{0, []uint16{30000, 60000, 20000}, 20000},
		{0, []uint16{30000, 60000, 20000, 0}, 20000},
	} {
		if got := serial.Latest(x.first, x.l...); got != x.want {
			t.Errorf("Latest(%d, %v): %d, not %d", x.first, x.l, got, x.want)
		}
	}
}

func TestP11Span(t *testing.T) {
	for _, x := range []struct {
		from, to uint16
		want     []uint16
	}{
		{0, 0, []uint16{0}},
		{7, 7, []uint16{7}},
		{65535, 65535, []uint16{65535}},
		{3, 6, []uint16{3, 4, 5, 6}},
		{65534, 1, []uint16{65534, 65535, 0, 1}},
		{65535, 0, []uint16{65535, 0}},
	} {
		if got := serial.Span(x.from, x.to); !slices.Equal(got, x.want) {
			t.Errorf("Span(%d, %d): %v, not %v", x.from, x.to, got, x.want)
		}
	}
}

func TestP11SpanOfManyNumbers(t *testing.T) {
	for _, x := range []struct {
		from, to uint16
		count    int
	}{
		{0, 65535, 65536},
		{1, 0, 65536},
		{5, 4, 65536},
		{0, 65534, 65535},
		{5, 3, 65535},
		{0, 32767, 32768},
		{0, 32768, 32769},
		{40000, 10, 25547},
	} {
		got := serial.Span(x.from, x.to)
		if len(got) != x.count {
			t.Fatalf("Span(%d, %d): %d numbers, not %d", x.from, x.to, len(got), x.count)
		}
		for i, n := range got {
			if int(n) != (int(x.from)+i)%65536 {
				t.Fatalf("Span(%d, %d): %d at %d", x.from, x.to, n, i)
			}
		}
	}
}

func TestP11SpanIsNew(t *testing.T) {
	one, other := serial.Span(3, 6), serial.Span(3, 6)
	one[0] = 99
	if other[0] != 3 || serial.Span(3, 6)[0] != 3 {
		t.Error("two spans share their memory")
	}
}

func TestP11Distinct(t *testing.T) {
	for _, x := range []struct{ l, want []uint16 }{
		{nil, nil},
		{[]uint16{}, nil},
		{[]uint16{0}, []uint16{0}},
		{[]uint16{0, 0, 0}, []uint16{0}},
		{[]uint16{3, 1, 3}, []uint16{3, 1}},
		{[]uint16{1, 3, 3, 1, 2, 65535, 0, 2, 65535}, []uint16{1, 3, 2, 65535, 0}},
		{[]uint16{5, 4, 3, 2, 1}, []uint16{5, 4, 3, 2, 1}},
	} {
		if got := serial.Distinct(x.l...); !slices.Equal(got, x.want) {
			t.Errorf("Distinct(%v): %v, not %v", x.l, got, x.want)
		}
	}
}

func TestP11DistinctOfAll(t *testing.T) {
	all := serial.Span(40000, 39999)
	if got := serial.Distinct(slices.Concat(all, all, all[:7])...); !slices.Equal(got, all) {
		t.Errorf("%d numbers", len(got))
	}
}

// TestP11DistinctLeavesItsList: neither the list nor its spare room is
// changed, and the answer is memory of its own.
func TestP11DistinctLeavesItsList(t *testing.T) {
	whole := []uint16{4, 4, 2, 4, 9, 9}
	was := slices.Clone(whole)
	got := serial.Distinct(whole[:4]...)
	if !slices.Equal(whole, was) {
		t.Errorf("the list is now %v", whole)
	}
	got[0] = 77
	_ = append(got, 78, 79, 80, 81)
	if !slices.Equal(whole, was) {
		t.Errorf("the answer shares the list's memory: %v", whole)
	}
	alike := []uint16{1, 2, 3}
	serial.Distinct(alike...)[0] = 77
	if alike[0] != 1 {
		t.Error("of numbers that are distinct the answer shares the list's memory")
	}
}

func TestP11LatestLeavesItsList(t *testing.T) {
	whole := []uint16{4, 2, 9, 1}
	was := slices.Clone(whole)
	serial.Latest(3, whole[:2]...)
	if !slices.Equal(whole, was) {
		t.Errorf("the list is now %v", whole)
	}
}
