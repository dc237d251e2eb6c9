package source_test

import (
	"math"
	"math/rand"
	"slices"
	"testing"

	"cordelle/source"
)

// noBad is the Bad that no number is, as the document says it.
const noBad = 65537

// modulo is n, going round from 0 to 65535.
func modulo(n int) int { return (n%65536 + 65536) % 65536 }

// begun is a Source that is anew from n, of which so many count.
func begun(n uint16, received int) source.Source {
	return source.Source{Max: n, Base: int(n), Bad: noBad, Received: received}
}

// updated goes by the document's sentences, with numbers that don't go round by
// themselves.
func updated(s source.Source, n uint16) (source.Source, bool) {
	if s.Probation > 0 {
		if modulo(int(s.Max)+1) != int(n) {
			s.Probation, s.Max = 1, n
			return s, false
		}
		if s.Probation == 1 {
			return begun(n, 1), true
		}
		s.Probation, s.Max = s.Probation-1, n
		return s, false
	}
	ahead := modulo(int(n) - int(s.Max))
	if ahead >= 3000 && ahead <= 65436 {
		if int(n) != s.Bad {
			s.Bad = modulo(int(n) + 1)
			return s, false
		}
		s.Base, s.Max, s.Bad, s.Cycles, s.Received = int(n), n, noBad, 0, 1
		return s, true
	}
	if ahead < 3000 {
		if int(n) < int(s.Max) {
			s.Cycles += 65536
		}
		s.Max = n
	}
	s.Received++
	return s, true
}

// check holds Update of a number against what is wanted.
func check(t *testing.T, s source.Source, n uint16, want source.Source, wantIs bool) {
	t.Helper()
	before := s
	got, is := s.Update(n)
	if got != want || is != wantIs {
		t.Fatalf("%+v.Update(%d): %+v %v, not %+v %v", before, n, got, is, want, wantIs)
	}
	if s != before {
		t.Fatalf("%+v.Update(%d) made it %+v", before, n, s)
	}
}

// of answers the only Source that two numbers, n last, make valid.
func of(n uint16) source.Source {
	s, _ := source.New(n-1).Run(n-1, n)
	return s
}

// ends are numbers at which something goes round, and ordinary ones.
var ends = []uint16{0, 1, 2, 99, 100, 101, 2999, 3000, 3001, 12345, 32767, 32768, 32769, 62535, 62536, 62537, 65435, 65436, 65437, 65533, 65534, 65535}

// The bounds are the document's.
func TestP131Bounds(t *testing.T) {
	if source.Sequential != 2 || source.Dropout != 3000 || source.Misorder != 100 {
		t.Error(source.Sequential, source.Dropout, source.Misorder)
	}
}

// New is of the number one less than the first, going round.
func TestP131New(t *testing.T) {
	for _, x := range []struct {
		first, max uint16
	}{{0, 65535}, {1, 0}, {2, 1}, {7, 6}, {32768, 32767}, {65534, 65533}, {65535, 65534}} {
		want := source.Source{Max: x.max, Base: int(x.first), Bad: 65537, Probation: 2}
		if got := source.New(x.first); got != want {
			t.Errorf("New(%d): %+v", x.first, got)
		}
	}
	for first := range 65536 {
		want := source.Source{Max: uint16(modulo(first - 1)), Base: first, Bad: 65537, Probation: 2}
		if got := source.New(uint16(first)); got != want {
			t.Errorf("New(%d): %+v", first, got)
		}
	}
}

// The document's example.
func TestP131Example(t *testing.T) {
	s := source.New(7)
	s, is := s.Update(7)
	if is {
		t.Error("7 counts")
	}
	s, is = s.Update(8)
	if !is || s.Highest() != 8 || s.Expected() != 1 {
		t.Errorf("%+v %v", s, is)
	}
}

// On probation the number one behind Max, the same one, and others.
func TestP131Probation(t *testing.T) {
	for _, first := range ends {
		on := func(max uint16, probation int) source.Source {
			return source.Source{Max: max, Base: int(first), Bad: 65537, Probation: probation}
		}
		s := source.New(first)
		check(t, s, first, on(first, 1), false)
		check(t, s, first-1, on(first-1, 1), false)
		check(t, s, first-2, on(first-2, 1), false)
		check(t, s, first+1, on(first+1, 1), false)
		check(t, s, first+32768, on(first+32768, 1), false)
		s = on(first, 1)
		check(t, s, first+1, begun(first+1, 1), true)
		check(t, s, first, on(first, 1), false)
		check(t, s, first-1, on(first-1, 1), false)
		check(t, s, first+2, on(first+2, 1), false)
		check(t, s, first+40000, on(first+40000, 1), false)
		// It isn't the first number that makes it valid, but two one behind the other.
		s, _ = on(first, 1).Update(first + 500)
		check(t, s, first+1, on(first+1, 1), false)
		check(t, s, first+501, begun(first+501, 1), true)
	}
}

// Whichever number comes on probation, only the one behind Max is nearer.
func TestP131ProbationOfEach(t *testing.T) {
	for _, max := range ends {
		for _, probation := range []int{1, 2, 3, 100, math.MaxInt} {
			s := source.Source{Max: max, Cycles: 7, Base: 8, Bad: 9, Probation: probation, Received: 10}
			for n := range 65536 {
				want, is := updated(s, uint16(n))
				check(t, s, uint16(n), want, is)
			}
		}
	}
}

// Two that are one behind the other make it valid, and one of them counts.
func TestP131Valid(t *testing.T) {
	for _, n := range ends {
		if got := of(n); got != begun(n, 1) {
			t.Errorf("%d: %+v", n, got)
		}
	}
	s, count := source.New(100).Run(1, 5, 5, 4, 3, 65535, 0, 1)
	want := begun(0, 2)
	want.Max = 1
	if s != want || count != 2 {
		t.Errorf("%+v %d", s, count)
	}
}

// Numbers so far behind Max, at the bounds.
func TestP131Distances(t *testing.T) {
	for _, max := range ends {
		s := begun(max, 5)
		s.Cycles = 3 * 65536
		for _, x := range []struct {
			ahead uint16
			is    bool
			moves bool
		}{
			{0, true, true}, {1, true, true}, {2998, true, true}, {2999, true, true},
			{3000, false, false}, {3001, false, false}, {32767, false, false}, {32768, false, false}, {65435, false, false}, {65436, false, false},
			{65437, true, false}, {65438, true, false}, {65534, true, false}, {65535, true, false},
		} {
			n, want := max+x.ahead, s
			if x.moves {
				want.Max = n
			}
			if x.moves && int(max)+int(x.ahead) > 65535 {
				want.Cycles = 4 * 65536
			}
			if x.is {
				want.Received = 6
			} else {
				want.Bad = modulo(int(max) + int(x.ahead) + 1)
			}
			check(t, s, n, want, x.is)
		}
	}
}

// Whichever number comes to a valid source: each of them.
func TestP131ValidOfEach(t *testing.T) {
	for _, max := range ends {
		for _, bad := range []int{65537, 65536, 0, 1, int(max), modulo(int(max) + 3000), modulo(int(max) + 65436), modulo(int(max) + 30000), -1} {
			s := source.Source{Max: max, Cycles: 65536, Base: 77, Bad: bad, Received: 1000}
			for n := range 65536 {
				want, is := updated(s, uint16(n))
				check(t, s, uint16(n), want, is)
			}
		}
	}
}

// One that goes round adds a round; one that comes late from the round before
// takes none off, and the next one adds none.
func TestP131GoesRound(t *testing.T) {
	s := of(65530)
	for _, x := range []struct {
		n               uint16
		cycles, highest int
	}{
		{65535, 0, 65535}, {0, 65536, 65536}, {65534, 65536, 65536}, {0, 65536, 65536}, {3, 65536, 65539}, {65535, 65536, 65539}, {4, 65536, 65540},
		{3003, 65536, 68539}, {5900, 65536, 71436},
	} {
		u, is := s.Update(x.n)
		if !is || u.Cycles != x.cycles || u.Highest() != x.highest || u.Base != 65530 {
			t.Errorf("%d: %+v %v", x.n, u, is)
		}
		s = u
	}
	s, n := of(65535), 65535
	for range 200 {
		n += 2999
		s, _ = s.Update(uint16(n))
		if s.Highest() != n || s.Cycles != n/65536*65536 || s.Expected() != n-65535+1 {
			t.Errorf("%d: %+v", n, s)
		}
	}
	if s.Received != 201 || s.Cycles != 10*65536 {
		t.Errorf("%+v", s)
	}
}

// One that is too far is Bad; just the one behind it begins anew.
func TestP131TooFar(t *testing.T) {
	for _, max := range ends {
		for _, ahead := range []uint16{3000, 3001, 10000, 32768, 50000, 65400, 65435} {
			s := of(max)
			s, _ = s.Run(max+1, max+2, max)
			if s.Received != 4 {
				t.Fatalf("%+v", s)
			}
			far := max + 2 + ahead
			u, is := s.Update(far)
			want := s
			want.Bad = modulo(int(max) + 2 + int(ahead) + 1)
			if u != want || is {
				t.Errorf("%d far: %+v %v", far, u, is)
			}
			check(t, u, far+1, begun(far+1, 1), true)
			// Another one, and the same one, is Bad itself; one that is near counts,
			// and what is Bad stays.
			check(t, u, far, u, false)
			other := want
			other.Bad = modulo(int(far+3) + 1)
			if d := far + 3 - u.Max; d >= 3000 && d <= 65436 {
				check(t, u, far+3, other, false)
			}
			near := want
			near.Max, near.Received = max+3, 5
			if max+3 < u.Max {
				near.Cycles += 65536
			}
			check(t, u, max+3, near, true)
		}
	}
}

// The one behind a number that was too far begins anew even if others came
// between, and rounds and what was received begin at 0 then.
func TestP131Anew(t *testing.T) {
	s, _ := of(65000).Run(65500, 10, 20)
	if s.Cycles != 65536 || s.Received != 4 {
		t.Fatalf("%+v", s)
	}
	s, count := s.Run(30000, 21, 22)
	if count != 2 || s.Bad != 30001 || s.Highest() != 65536+22 || s.Received != 6 {
		t.Errorf("%+v %d", s, count)
	}
	u, is := s.Update(30001)
	if u != begun(30001, 1) || !is || u.Highest() != 30001 || u.Expected() != 1 {
		t.Errorf("%+v %v", u, is)
	}
	// Of three that are too far the last two are one behind the other.
	u, count = s.Run(40000, 50000, 50001, 50002)
	want := begun(50001, 2)
	want.Max = 50002
	if u != want || count != 2 {
		t.Errorf("%+v %d", u, count)
	}
}

// Bad goes round: 0 is behind 65535. 65537 is no number's.
func TestP131BadAtTheEnd(t *testing.T) {
	s := of(30000)
	if s.Bad != 65537 {
		t.Errorf("%+v", s)
	}
	want := s
	want.Bad = 0
	check(t, s, 65535, want, false)
	check(t, want, 0, begun(0, 1), true)
	again := s
	again.Bad = 2
	check(t, want, 1, again, false)
	check(t, want, 65535, want, false)
	again.Bad = 65535
	check(t, want, 65534, again, false)
	check(t, again, 65535, begun(65535, 1), true)
	// The low bits of 65537 are 1, those of 65536 are 0: neither is a number.
	want.Bad = 2
	check(t, s, 1, want, false)
	s.Bad = 65536
	want.Bad = 1
	check(t, s, 0, want, false)
	s.Bad = -1
	want.Bad = 0
	check(t, s, 65535, want, false)
}

// Highest is Cycles and Max at any time; Expected is 0 on probation.
func TestP131HighestAndExpected(t *testing.T) {
	for _, x := range []struct {
		s                 source.Source
		highest, expected int
	}{
		{source.Source{}, 0, 1},
		{source.New(0), 65535, 0},
		{source.New(1), 0, 0},
		{source.New(65535), 65534, 0},
		{source.Source{Max: 9, Base: 5, Probation: 1}, 9, 0},
		{source.Source{Max: 9, Base: 5, Probation: math.MaxInt}, 9, 0},
		{source.Source{Max: 9, Base: 5}, 9, 5},
		{source.Source{Max: 9, Base: 9}, 9, 1},
		{source.Source{Max: 9, Base: 5, Probation: -1}, 9, 5},
		{source.Source{Max: 9, Base: 5, Probation: math.MinInt}, 9, 5},
		{source.Source{Max: 65535, Base: 0}, 65535, 65536},
		{source.Source{Max: 3, Cycles: 65536, Base: 65530}, 65539, 10},
		{source.Source{Max: 3, Cycles: 7 * 65536, Base: 65530, Bad: 3, Received: 9}, 458755, 393226},
		{source.Source{Max: 3, Cycles: 65536, Base: 65530, Probation: 2}, 65539, 0},
		{source.Source{Max: 3, Cycles: 1, Base: -2}, 4, 7},
		{source.Source{Max: 3, Cycles: -65536, Base: -65540}, -65533, 8},
		{source.Source{Max: 65535, Cycles: 1 << 40, Base: -1 << 40}, 1<<40 + 65535, 1<<41 + 65536},
		{source.Source{Max: 0, Cycles: -1 << 40, Base: 1 << 40}, -1 << 40, -1<<41 + 1},
	} {
		if got := x.s.Highest(); got != x.highest {
			t.Errorf("%+v: highest %d", x.s, got)
		}
		if got := x.s.Expected(); got != x.expected {
			t.Errorf("%+v: expected %d", x.s, got)
		}
	}
}

// What calls make of it, from probation on.
func TestP131ExpectedAsItGoes(t *testing.T) {
	s := source.New(65533)
	for i, x := range []struct {
		n                 uint16
		highest, expected int
	}{
		{65533, 65533, 0}, {65535, 65535, 0}, {0, 0, 1}, {5, 5, 6}, {65535, 5, 6}, {2000, 2000, 2001}, {60000, 2000, 2001}, {60001, 60001, 1}, {62000, 62000, 2000}, {64000, 64000, 4000}, {100, 65636, 5636},
	} {
		s, _ = s.Update(x.n)
		if s.Highest() != x.highest || s.Expected() != x.expected {
			t.Errorf("%d: %+v %d %d", i, s, s.Highest(), s.Expected())
		}
	}
}

// Extend of numbers near Highest, ahead and behind, and of all others.
func TestP131Extend(t *testing.T) {
	for _, x := range []struct {
		s    source.Source
		n    uint16
		want int
	}{
		{source.Source{}, 0, 0}, {source.Source{}, 1, 1}, {source.Source{}, 65535, -1}, {source.Source{}, 32767, 32767}, {source.Source{}, 32768, -32768},
		{source.Source{Max: 65535}, 0, 65536}, {source.Source{Max: 65535}, 65534, 65534},
		{source.Source{Max: 3, Cycles: 65536}, 65535, 65535}, {source.Source{Max: 3, Cycles: 65536}, 4, 65540}, {source.Source{Max: 3, Cycles: 65536}, 3, 65539},
		{source.Source{Max: 3, Cycles: 65536, Probation: 2}, 65535, 65535},
		{source.Source{Max: 3, Cycles: 7}, 11, 11}, {source.Source{Max: 3, Cycles: 65530}, 0, 65536},
		{source.Source{Max: 3, Cycles: -65536}, 2, -65534},
		{source.New(0), 0, 65536}, {source.New(1), 65535, -1},
		{source.Source{Cycles: 1 << 62}, 1, 1<<62 + 1}, {source.Source{Max: 1, Cycles: 1 << 62}, 1, 1<<62 + 1},
	} {
		if got := x.s.Extend(x.n); got != x.want {
			t.Errorf("%+v.Extend(%d): %d, not %d", x.s, x.n, got, x.want)
		}
	}
	for _, max := range ends {
		s := source.Source{Max: max, Cycles: 5 * 65536, Probation: int(max) % 3}
		for d := -32768; d <= 32767; d++ {
			n := 5*65536 + int(max) + d
			if got := s.Extend(uint16(modulo(n))); got != n {
				t.Fatalf("%+v.Extend(%d): %d, not %d", s, modulo(n), got, n)
			}
		}
	}
}

// Run of none, of one, of many.
func TestP131Run(t *testing.T) {
	for _, x := range []struct {
		l    []uint16
		want source.Source
		n    int
	}{
		{nil, source.New(5), 0},
		{[]uint16{}, source.New(5), 0},
		{[]uint16{5}, source.Source{Max: 5, Base: 5, Bad: 65537, Probation: 1}, 0},
		{[]uint16{9}, source.Source{Max: 9, Base: 5, Bad: 65537, Probation: 1}, 0},
		{[]uint16{5, 6}, begun(6, 1), 1},
		{[]uint16{5, 6, 6, 6}, begun(6, 3), 3},
		{[]uint16{5, 7, 8, 9}, source.Source{Max: 9, Base: 8, Bad: 65537, Received: 2}, 2},
		{[]uint16{5, 6, 7, 9000, 8, 9000, 9001, 9000}, source.Source{Max: 9001, Base: 9001, Bad: 65537, Received: 2}, 5},
		{[]uint16{5, 6, 7, 9000}, source.Source{Max: 7, Base: 6, Bad: 9001, Received: 2}, 2},
	} {
		if got, n := source.New(5).Run(x.l...); got != x.want || n != x.n {
			t.Errorf("%d: %+v %d, not %+v %d", x.l, got, n, x.want, x.n)
		}
	}
	if got, n := source.New(5).Run(); got != source.New(5) || n != 0 {
		t.Errorf("%+v %d", got, n)
	}
}

// Run changes no list, its spare room neither.
func TestP131RunLeavesItsList(t *testing.T) {
	room := []uint16{1, 2, 3, 40000, 40001, 7, 8}
	before := slices.Clone(room)
	s := source.New(1)
	first, n := s.Run(room[:5]...)
	again, m := s.Run(room[:5]...)
	if !slices.Equal(room, before) || first != again || n != m || s != source.New(1) {
		t.Error(room, first, again, n, m, s)
	}
}

// A Source with other numbers than calls make counts as it is; a Probation
// below 0 stays what it is.
func TestP131OtherNumbers(t *testing.T) {
	for _, probation := range []int{-1, -2, math.MinInt} {
		s := source.Source{Max: 50, Cycles: 3, Base: -4, Bad: 20000, Probation: probation, Received: -9}
		want := s
		want.Max, want.Received = 51, -8
		check(t, s, 51, want, true)
		want.Max = 50
		check(t, s, 49, want, true)
		want = s
		want.Bad = 10001
		check(t, s, 10000, want, false)
		want = begun(20000, 1)
		want.Probation = probation
		check(t, s, 20000, want, true)
	}
	s := source.Source{Max: 65535, Cycles: -5, Base: 1 << 40, Bad: -7, Received: 1 << 40}
	want := source.Source{Max: 2, Cycles: 65531, Base: 1 << 40, Bad: -7, Received: 1<<40 + 1}
	check(t, s, 2, want, true)
	s.Probation = 5
	want = s
	want.Probation, want.Max = 4, 0
	check(t, s, 0, want, false)
	want.Probation, want.Max = 1, 1
	check(t, s, 1, want, false)
	s.Probation = 1
	check(t, s, 0, begun(0, 1), true)
}

// The zero Source is one of which 0 was the first and counts not.
func TestP131Zero(t *testing.T) {
	var s source.Source
	check(t, s, 0, source.Source{Received: 1}, true)
	check(t, s, 1, source.Source{Max: 1, Received: 1}, true)
	check(t, s, 65535, source.Source{Received: 1}, true)
	check(t, s, 3000, source.Source{Bad: 3001}, false)
	s.Max = 10000
	check(t, s, 0, begun(0, 1), true)
}

// No number is too great, or too small, for any call.
func TestP131Ends(t *testing.T) {
	far := []int{math.MinInt, math.MinInt + 1, -1, 0, 1, math.MaxInt - 1, math.MaxInt}
	for _, cycles := range far {
		for _, base := range far {
			for _, other := range far {
				for _, max := range []uint16{0, 32768, 65535} {
					s := source.Source{Max: max, Cycles: cycles, Base: base, Bad: other, Probation: other, Received: other}
					s.Highest()
					s.Expected()
					s.Extend(max + 5)
					u, _ := s.Update(max + 5)
					u.Run(max+6, max+4, max+40000, max+40001)
				}
			}
		}
	}
}

// Any numbers, behind any numbers, by the document's sentences.
func TestP131Random(t *testing.T) {
	r := rand.New(rand.NewSource(131))
	for range 2000 {
		first := uint16(r.Intn(65536))
		if r.Intn(3) == 0 {
			first = ends[r.Intn(len(ends))]
		}
		s := source.New(first)
		want, count, n := s, 0, first
		var l []uint16
		for range r.Intn(60) {
			switch r.Intn(8) {
			case 0:
				n = uint16(r.Intn(65536))
			case 1:
				n += 2990 + uint16(r.Intn(20))
			case 2:
				n -= 90 + uint16(r.Intn(20))
			case 3:
				n = ends[r.Intn(len(ends))]
			default:
				n += uint16(r.Intn(3))
			}
			u, is := updated(want, n)
			check(t, want, n, u, is)
			if is {
				count++
			}
			want = u
			l = append(l, n)
		}
		if got, n := s.Run(l...); got != want || n != count {
			t.Fatalf("New(%d).Run(%d): %+v %d, not %+v %d", first, l, got, n, want, count)
		}
	}
}

// Two numbers, one behind the other, make a source valid, whatever came ahead
// of them on probation.
func TestP132TwoMakeItValid(t *testing.T) {
	r := rand.New(rand.NewSource(1321))
	for range 3000 {
		s := source.New(uint16(r.Intn(65536)))
		last := -5
		for range r.Intn(10) {
			n := r.Intn(65536)
			if n == modulo(last+1) || n == int(s.Max+1) {
				continue
			}
			u, is := s.Update(uint16(n))
			if is || u.Expected() != 0 {
				t.Fatalf("%+v %d: %v", s, n, is)
			}
			s, last = u, n
		}
		n := uint16(r.Intn(65536))
		if int(n) == modulo(last+1) || n == s.Max+1 {
			continue
		}
		s, is := s.Update(n)
		u, isNext := s.Update(n + 1)
		if is || !isNext || u.Highest() != int(n+1) || u.Expected() != 1 || u.Received != 1 {
			t.Fatalf("%+v %v, %+v %v", s, is, u, isNext)
		}
	}
}

// From then on near numbers all count, and Highest is the greatest one.
func TestP132NearOnesCount(t *testing.T) {
	r := rand.New(rand.NewSource(1322))
	steps := []int{0, 1, 2, 1, 1, 3, 17, 2998, 2999, -1, -2, -98, -99}
	for range 500 {
		first := r.Intn(65536)
		greatest := modulo(first + 1)
		s, count := source.New(uint16(first)).Run(uint16(first), uint16(greatest))
		base := greatest
		for i := range 300 {
			step := steps[r.Intn(len(steps))]
			if i%3 == 0 {
				step = r.Intn(2999+99+1) - 99
			}
			n := greatest + step
			u, is := s.Update(uint16(modulo(n)))
			greatest = max(greatest, n)
			if !is || u.Highest() != greatest || u.Expected() != greatest-base+1 || u.Received != s.Received+1 || u.Extend(uint16(modulo(n))) != n {
				t.Fatalf("%+v, %d: %+v %v", s, n, u, is)
			}
			s = u
			count++
		}
		if s.Received != count || s.Base != base {
			t.Fatalf("%+v %d", s, count)
		}
	}
}

// All that are less than 3000 later, or at most 99 ago, whichever is the
// greatest one; none that is farther.
func TestP132Distances(t *testing.T) {
	for _, last := range ends {
		s := of(last)
		for d := -99; d < 3000; d++ {
			u, is := s.Update(uint16(modulo(int(last) + d)))
			if !is || u.Highest() != int(last)+max(d, 0) || u.Received != 2 {
				t.Errorf("%d %d: %+v %v", last, d, u, is)
			}
		}
		for _, d := range []int{-100, -101, 3000, 3001} {
			u, is := s.Update(uint16(modulo(int(last) + d)))
			if is || u.Highest() != int(last) || u.Received != 1 {
				t.Errorf("%d %d: %+v %v", last, d, u, is)
			}
		}
	}
}
