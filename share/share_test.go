package share_test

import (
	"math"
	"math/big"
	"math/rand"
	"slices"
	"testing"

	"cordelle/share"
)

// The document's bounds, as it says them.
const (
	mostPaths  = 15
	mostWeight = 65535
	most       = 1073741824 // 2^30
)

// model is a Share by the document's sentences.
type model struct {
	weight, carried map[int]int
}

func newModel() *model { return &model{weight: map[int]int{}, carried: map[int]int{}} }

// set is Set; it doesn't sort.
func (m *model) set(l []share.Weight) bool {
	weight := map[int]int{}
	for _, w := range l {
		if _, there := weight[w.Path]; there || len(weight) == mostPaths {
			continue
		}
		switch {
		case w.Weight < 1:
			weight[w.Path] = 1
		case w.Weight > mostWeight:
			weight[w.Path] = mostWeight
		default:
			weight[w.Path] = w.Weight
		}
	}
	same := len(weight) == len(m.weight)
	for path, w := range weight {
		same = same && m.weight[path] == w
	}
	if !same {
		m.weight, m.carried = weight, map[int]int{}
	}
	return !same
}

// pick is Pick, by whole fractions.
func (m *model) pick(may []int) (int, bool) {
	best, there := 0, false
	var least *big.Rat
	for _, path := range m.paths() {
		among := false
		for _, p := range may {
			among = among || p == path
		}
		if !among {
			continue
		}
		if part := big.NewRat(int64(m.carried[path]), int64(m.weight[path])); !there || part.Cmp(least) < 0 {
			best, there, least = path, true, part
		}
	}
	return best, there
}

func (m *model) carry(path, bytes int) bool {
	if m.weight[path] == 0 {
		return false
	}
	switch {
	case bytes > most:
		bytes = most
	case bytes < 0:
		bytes = 0
	}
	m.carried[path] += bytes
	return true
}

func (m *model) total() int {
	sum := 0
	for _, n := range m.carried {
		sum += n
	}
	return sum
}

func (m *model) paths() []int {
	var l []int
	for path := range m.weight {
		l = append(l, path)
	}
	slices.Sort(l)
	return l
}

func (m *model) clone() *model {
	other := newModel()
	for path, w := range m.weight {
		other.weight[path], other.carried[path] = w, m.carried[path]
	}
	return other
}

// check holds all that a Share tells against the model.
func check(t *testing.T, s *share.Share, m *model) {
	t.Helper()
	paths := m.paths()
	if got := s.Paths(); !slices.Equal(got, paths) {
		t.Fatalf("Paths: %v, not %v", got, paths)
	}
	for _, path := range append(around(0, 1, 15), paths...) {
		if got, want := s.Carried(path), m.carried[path]; got != want {
			t.Fatalf("Carried(%d): %d, not %d", path, got, want)
		}
	}
	if got, want := s.Total(), m.total(); got != want {
		t.Fatalf("Total: %d, not %d", got, want)
	}
	checkPick(t, s, m, paths...)
}

func checkPick(t *testing.T, s *share.Share, m *model, may ...int) {
	t.Helper()
	room := may[:cap(may)]
	before := slices.Clone(room)
	want, there := m.pick(may)
	if got, is := s.Pick(may...); got != want || is != there {
		t.Fatalf("Pick(%v) of %v, %v: %d %t, not %d %t", may, m.weight, m.carried, got, is, want, there)
	}
	if !slices.Equal(room, before) {
		t.Fatalf("changed: %v, not %v", room, before)
	}
}

// set does Set to both, and tells whether they are others.
func set(t *testing.T, s *share.Share, m *model, l ...share.Weight) bool {
	t.Helper()
	room := l[:cap(l)]
	before := slices.Clone(room)
	got := s.Set(l...)
	if want := m.set(l); got != want {
		t.Fatalf("Set(%v): %t", l, got)
	}
	if !slices.Equal(room, before) {
		t.Fatalf("changed: %v, not %v", room, before)
	}
	check(t, s, m)
	return got
}

// carry does Carry to both.
func carry(t *testing.T, s *share.Share, m *model, path, bytes int) {
	t.Helper()
	if got, want := s.Carry(path, bytes), m.carry(path, bytes); got != want {
		t.Fatalf("Carry(%d, %d): %t", path, bytes, got)
	}
	check(t, s, m)
}

// of are Weights of pairs of numbers.
func of(l ...int) []share.Weight {
	var weights []share.Weight
	for i := 0; i+1 < len(l); i += 2 {
		weights = append(weights, share.Weight{Path: l[i], Weight: l[i+1]})
	}
	return weights
}

// begun is a Share of these, and its model.
func begun(t *testing.T, l ...share.Weight) (*share.Share, *model) {
	t.Helper()
	s, m := share.New(), newModel()
	check(t, s, m)
	set(t, s, m, l...)
	return s, m
}

// around answers numbers about each of these.
func around(l ...int) []int {
	all := []int{math.MinInt, math.MinInt + 1, math.MaxInt - 1, math.MaxInt}
	for _, n := range l {
		all = append(all, n-1, n, n+1)
	}
	return all
}

// The document's example: weights 2 and 1, packets of 10 bytes.
func TestP181Example(t *testing.T) {
	s, m := begun(t, of(1, 2, 2, 1)...)
	var l []int
	for range 6 {
		path, is := s.Pick(1, 2)
		if !is {
			t.Fatal("none")
		}
		carry(t, s, m, path, 10)
		l = append(l, path)
	}
	if !slices.Equal(l, []int{1, 2, 1, 1, 2, 1}) || s.Carried(1) != 40 || s.Carried(2) != 20 || s.Total() != 60 {
		t.Errorf("%v", l)
	}
}

// Of New, and of a zero one, nobody carried anything.
func TestP181New(t *testing.T) {
	for _, s := range []*share.Share{share.New(), new(share.Share), share.New().Clone()} {
		check(t, s, newModel())
		if path, is := s.Pick(0, 1, 2, 15); path != 0 || is {
			t.Errorf("%d", path)
		}
		if s.Carry(1, 5) || s.Carry(0, 5) || s.Carried(1) != 0 || s.Total() != 0 || len(s.Paths()) != 0 {
			t.Error("New")
		}
		m := newModel()
		if set(t, s, m) || set(t, s, m, []share.Weight{}...) || !set(t, s, m, of(1, 1)...) {
			t.Error("Set")
		}
	}
}

// Set of none, of the same in another order, and of others.
func TestP181Set(t *testing.T) {
	first := of(3, 30, 1, 10, 7, 70)
	for _, x := range []struct {
		l    []share.Weight
		want bool
	}{
		{nil, true},
		{[]share.Weight{}, true},
		{of(3, 30, 1, 10, 7, 70), false},
		{of(1, 10, 3, 30, 7, 70), false},
		{of(7, 70, 3, 30, 1, 10), false},
		{of(7, 70, 3, 30, 1, 10, 7, 9, 1, 9, 3, 9), false},
		{of(1, 10, 3, 30), true},
		{of(1, 10, 3, 30, 7, 70, 8, 80), true},
		{of(1, 10, 3, 30, 7, 71), true},
		{of(1, 11, 3, 30, 7, 70), true},
		{of(1, 10, 3, 30, 8, 70), true},
		{of(1, 10, 3, 70, 7, 30), true},
		{of(7, 69, 3, 30, 1, 10, 7, 70), true},
		{of(10, 1, 30, 3, 70, 7), true},
	} {
		s, m := begun(t, first...)
		for i, path := range []int{1, 3, 7} {
			carry(t, s, m, path, 100+i)
		}
		if got := set(t, s, m, x.l...); got != x.want || (s.Total() == 0) != x.want {
			t.Errorf("%v: %t %d", x.l, got, s.Total())
		}
		if set(t, s, m, x.l...) {
			t.Errorf("%v: once more", x.l)
		}
		// And back again: what was forgotten stays so.
		if got := set(t, s, m, first...); got != x.want || (s.Total() == 0) != x.want {
			t.Errorf("%v: back", x.l)
		}
	}
}

// Of one path twice the first one counts; of more than 15 paths the first 15.
func TestP181SetMany(t *testing.T) {
	s, m := begun(t, of(4, 3, 4, 9, 2, 1, 4, 1, 2, 5)...)
	if set(t, s, m, of(2, 1, 4, 3)...) || !set(t, s, m, of(2, 1, 4, 9)...) {
		t.Error("twice")
	}
	var all, falling []share.Weight
	for path := 1; path <= 17; path++ {
		all = append(all, share.Weight{Path: path, Weight: 100 * path})
		falling = append(falling, share.Weight{Path: 18 - path, Weight: 100 * (18 - path)})
	}
	for n, want := range map[int]int{14: 14, 15: 15, 16: 15, 17: 15} {
		s, _ := begun(t, all[:n]...)
		if got := s.Paths(); len(got) != want || got[0] != 1 || got[want-1] != want {
			t.Errorf("%d: %v", n, got)
		}
		s, _ = begun(t, falling[:n]...)
		if got := s.Paths(); len(got) != want || got[0] != 18-want || got[want-1] != 17 {
			t.Errorf("%d, falling: %v", n, got)
		}
	}
	// Each of the 15 counts once, wherever it stands again.
	twice := append(slices.Clone(all[:8]), all[:15]...)
	s, m = begun(t, append(twice, all...)...)
	if len(s.Paths()) != 15 || set(t, s, m, all[:15]...) || set(t, s, m, all...) || !set(t, s, m, all[1:]...) {
		t.Errorf("%v", s.Paths())
	}
	// The last of 15 carries as the first one.
	for path := 1; path <= 17; path++ {
		carry(t, s, m, path, path)
	}
}

// Weights of 0, 1, 65535 and 65536, and beyond, count as the nearest.
func TestP181Weights(t *testing.T) {
	for _, x := range []struct{ weight, want int }{
		{math.MinInt, 1}, {-1, 1}, {0, 1}, {1, 1}, {2, 2}, {65534, 65534}, {65535, 65535}, {65536, 65535}, {math.MaxInt, 65535},
	} {
		s, m := begun(t, of(1, x.weight, 2, 7)...)
		if set(t, s, m, of(1, x.want, 2, 7)...) || set(t, s, m, of(2, 7, 1, x.weight)...) {
			t.Errorf("%d: others", x.weight)
		}
		if !set(t, s, m, of(1, x.want%mostWeight+1, 2, 7)...) {
			t.Errorf("%d: the same", x.weight)
		}
		// By the weight, a byte of path 2 is as much as so many of path 1.
		s, m = begun(t, of(1, x.weight, 2, 1)...)
		carry(t, s, m, 2, 1)
		carry(t, s, m, 1, x.want-1)
		checkPick(t, s, m, 1, 2)
		carry(t, s, m, 1, 1)
		if path, _ := s.Pick(1, 2); path != 1 {
			t.Errorf("%d: %d", x.weight, path)
		}
		carry(t, s, m, 1, 1)
		if path, _ := s.Pick(1, 2); path != 2 {
			t.Errorf("%d: %d", x.weight, path)
		}
	}
}

// Pick of none, of a path that isn't there, of several that are equal, and of
// one path twice.
func TestP181Pick(t *testing.T) {
	s, m := begun(t, of(9, 4, 5, 2, 12, 6)...)
	for _, x := range []struct {
		may  []int
		want int
	}{
		{nil, 0}, {[]int{}, 0}, {[]int{1}, 0}, {[]int{0}, 0}, {[]int{-1, 16, 4, 6, math.MinInt, math.MaxInt}, 0},
		{[]int{9}, 9}, {[]int{12}, 12}, {[]int{5}, 5}, {[]int{12, 9}, 9}, {[]int{9, 12}, 9}, {[]int{12, 9, 5}, 5}, {[]int{12, 12, 1, 12}, 12}, {[]int{9, 12, 9, 12}, 9}, {[]int{1, 12, 2}, 12},
	} {
		for range 3 { // To be picked carries nothing.
			if path, is := s.Pick(x.may...); path != x.want || is != (x.want > 0) {
				t.Errorf("%v: %d %t", x.may, path, is)
			}
			checkPick(t, s, m, x.may...)
		}
	}
	// 4 by 2, 8 by 4 and 12 by 6 are equal: the least number is it.
	carry(t, s, m, 5, 4)
	carry(t, s, m, 9, 8)
	carry(t, s, m, 12, 12)
	for may, want := range map[[3]int]int{{5, 9, 12}: 5, {12, 9, 5}: 5, {12, 9, 9}: 9, {9, 12, 3}: 9, {12, 3, 3}: 12} {
		if path, is := s.Pick(may[:]...); path != want || !is {
			t.Errorf("%v: %d", may, path)
		}
	}
	// A byte more, and it is another one.
	carry(t, s, m, 5, 1)
	if path, _ := s.Pick(5, 9, 12); path != 9 {
		t.Errorf("%d", path)
	}
	carry(t, s, m, 9, 1)
	if path, _ := s.Pick(12, 9, 5); path != 12 {
		t.Errorf("%d", path)
	}
	// 5 by 2 is more than 9 by 4, which as whole numbers are equal.
	if path, _ := s.Pick(5, 9); path != 9 {
		t.Errorf("%d", path)
	}
}

// Fractions of great sums, up to 2^44, that differ by as little as may be.
func TestP181GreatSums(t *testing.T) {
	const sum = 1 << 44
	for _, x := range [][2]int{{65535, 65534}, {65534, 65535}, {65535, 65535}, {65535, 1}, {1, 65535}, {3, 2}, {1, 1}} {
		s, m := share.New(), newModel()
		s.Set(of(2, x[0], 1, x[1])...)
		m.set(of(2, x[0], 1, x[1]))
		// Up to 2^44 on the one of the greater weight, as much by its weight on the other.
		great, small := 2, 1
		if x[0] < x[1] {
			great, small = 1, 2
		}
		least, greatest := min(x[0], x[1]), max(x[0], x[1])
		many := sum / greatest * greatest
		fill(t, s, m, great, many)
		fill(t, s, m, small, many/greatest*least)
		check(t, s, m)
		if path, _ := s.Pick(1, 2); path != 1 {
			t.Errorf("%v: %d", x, path)
		}
		carry(t, s, m, 1, 1)
		if path, _ := s.Pick(1, 2); path != 2 {
			t.Errorf("%v: %d", x, path)
		}
	}
	// Of two fractions that differ by 1 by (65535 times 65534) the lesser one.
	for _, swapped := range []bool{false, true} {
		lesser, greater := 1, 2
		if swapped {
			lesser, greater = 2, 1
		}
		s, m := share.New(), newModel()
		s.Set(of(lesser, 65535, greater, 65534)...)
		m.set(of(lesser, 65535, greater, 65534))
		carried := sum/65535*65535 - 65534
		fill(t, s, m, lesser, carried)
		fill(t, s, m, greater, (carried*65534+1)/65535)
		check(t, s, m)
		if path, _ := s.Pick(1, 2); path != lesser {
			t.Errorf("%d, not %d", path, lesser)
		}
	}
	s, m := share.New(), newModel()
	s.Set(of(1, 65535, 2, 65535)...)
	m.set(of(1, 65535, 2, 65535))
	fill(t, s, m, 1, sum)
	fill(t, s, m, 2, sum-1)
	check(t, s, m)
	if path, _ := s.Pick(1, 2); path != 2 || s.Carried(1) != sum {
		t.Errorf("%d", path)
	}
}

// fill carries n bytes, as many as may be at a time.
func fill(t *testing.T, s *share.Share, m *model, path, n int) {
	t.Helper()
	for n > 0 {
		part := min(n, most)
		if !s.Carry(path, part) || !m.carry(path, part) {
			t.Fatal("Carry")
		}
		n -= part
	}
}

// Carry of -1, 0, 2^30 and beyond, and of a path that is none.
func TestP181Carry(t *testing.T) {
	for _, x := range []struct{ bytes, want int }{
		{math.MinInt, 0}, {-most, 0}, {-1, 0}, {0, 0}, {1, 1}, {1500, 1500}, {most - 1, most - 1}, {most, most}, {most + 1, most}, {math.MaxInt, most},
	} {
		s, m := begun(t, of(1, 5, 15, 5)...)
		carry(t, s, m, 15, x.bytes)
		if s.Carried(15) != x.want || s.Carried(1) != 0 || s.Total() != x.want {
			t.Errorf("%d: %d %d", x.bytes, s.Carried(15), s.Total())
		}
		carry(t, s, m, 15, x.bytes)
		carry(t, s, m, 1, x.bytes)
		if s.Carried(15) != 2*x.want || s.Carried(1) != x.want || s.Total() != 3*x.want {
			t.Errorf("%d: %d %d", x.bytes, s.Carried(15), s.Total())
		}
		for _, path := range []int{math.MinInt, -1, 0, 2, 14, 16, math.MaxInt} {
			if s.Carry(path, x.bytes) || s.Carried(path) != 0 || s.Total() != 3*x.want {
				t.Errorf("Carry(%d, %d)", path, x.bytes)
			}
			check(t, s, m)
		}
	}
}

// Just a Set of others forgets what was carried.
func TestP181Forgotten(t *testing.T) {
	s, m := begun(t, of(2, 5, 1, 5)...)
	carry(t, s, m, 1, 50)
	carry(t, s, m, 2, 20)
	set(t, s, m, of(1, 5, 2, 5, 1, 9)...)
	s.Pick(1)
	s.Pick()
	s.Clone().Set(of(1, 1)...)
	s.Carry(3, 7)
	if s.Carried(1) != 50 || s.Carried(2) != 20 || s.Total() != 70 {
		t.Error("forgotten")
	}
	if !set(t, s, m, of(1, 5, 2, 5, 3, 5)...) || s.Total() != 0 || s.Carried(1) != 0 {
		t.Error("kept")
	}
	carry(t, s, m, 1, 1)
	if !set(t, s, m) || s.Total() != 0 || s.Carry(1, 5) {
		t.Error("none")
	}
}

// A Clone goes its own way, and so does what it is one of.
func TestP181Clone(t *testing.T) {
	for _, other := range []bool{false, true} {
		s, m := begun(t, of(1, 1, 2, 2, 3, 3)...)
		carry(t, s, m, 2, 10)
		changed, kept := s, s.Clone()
		if other {
			changed, kept = kept, changed
		}
		n := m.clone()
		check(t, kept, m)
		check(t, changed, n)
		carry(t, changed, n, 1, 7)
		carry(t, changed, n, 2, 7)
		check(t, kept, m)
		if set(t, kept, m, of(3, 3, 2, 2, 1, 1)...) {
			t.Error("others")
		}
		set(t, changed, n, of(3, 3, 2, 2, 1, 5, 9, 9)...)
		check(t, kept, m)
		carry(t, kept, m, 3, 4)
		check(t, changed, n)
	}
}

// Paths are new memory, and what was handed in isn't kept.
func TestP181Memory(t *testing.T) {
	l := of(1, 10, 4, 40, 9, 90)
	s, m := begun(t, l...)
	for i := range l {
		l[i] = share.Weight{Path: 7, Weight: 7}
	}
	check(t, s, m)
	paths := s.Paths()
	_ = append(paths[:1], 99)
	paths[0] = 98
	check(t, s, m)
	before := s.Paths()
	set(t, s, m, of(2, 1)...)
	if !slices.Equal(before, []int{1, 4, 9}) {
		t.Errorf("%v", before)
	}
}

// Behind any calls.
func TestP181Calls(t *testing.T) {
	r := rand.New(rand.NewSource(181))
	for range 400 {
		s, m := share.New(), newModel()
		paths, weights := 1+r.Intn(20), 1+r.Intn(9)
		for range 80 {
			switch r.Intn(12) {
			case 0:
				var l []share.Weight
				for range r.Intn(22) {
					l = append(l, share.Weight{Path: r.Intn(paths) - r.Intn(2), Weight: r.Intn(weights+2) * (1 + r.Intn(9)/8*65536)})
				}
				set(t, s, m, l...)
			case 1: // The same ones once more, in another order.
				var l []share.Weight
				for path, w := range m.weight {
					l = append(l, share.Weight{Path: path, Weight: w})
				}
				if set(t, s, m, l...) {
					t.Fatal("others")
				}
			case 2:
				s, m = s.Clone(), m.clone()
			default:
				var may []int
				for range r.Intn(6) {
					may = append(may, r.Intn(paths+1)-1)
				}
				checkPick(t, s, m, may...)
				path, is := s.Pick(may...)
				if !is {
					path = r.Intn(paths + 1)
				}
				carry(t, s, m, path, r.Intn(5)*r.Intn(400)-r.Intn(3))
			}
		}
	}
}

// FAIR: where each packet is carried by the path that is Picked of all, each
// path's bytes differ from its part of all by at most one greatest packet for
// each other path; with unlike packets, unlike weights, and behind each packet.
func TestP182(t *testing.T) {
	r := rand.New(rand.NewSource(182))
	for round := range 400 {
		var l []share.Weight
		var all []int
		sum := 0
		for _, i := range r.Perm(mostPaths)[:1+round%mostPaths] {
			w := 1 + r.Intn([]int{1, 3, 100, mostWeight}[r.Intn(4)])
			l = append(l, share.Weight{Path: i + 1, Weight: w})
			all = append(all, i+1)
			sum += w
		}
		s := share.New()
		s.Set(l...)
		greatest, room := 0, 1+r.Intn(1500)
		for range 500 {
			bytes := r.Intn(room + 1)
			if r.Intn(3) == 0 {
				bytes = room - bytes/8
			}
			greatest = max(greatest, bytes)
			path, is := s.Pick(all...)
			if !is || !s.Carry(path, bytes) {
				t.Fatal("Pick")
			}
			fair(t, s, l, sum, greatest)
			if s.Set(l...) {
				t.Fatal("others")
			}
		}
	}
}

// fair tells whether each path carried its part: all is taken by the sum of the
// weights, so that nothing is rounded.
func fair(t *testing.T, s *share.Share, l []share.Weight, sum, greatest int) {
	t.Helper()
	for _, w := range l {
		apart := s.Carried(w.Path)*sum - s.Total()*w.Weight
		if max(apart, -apart) > (len(l)-1)*greatest*sum {
			t.Fatalf("%v: path %d carried %d of %d", l, w.Path, s.Carried(w.Path), s.Total())
		}
	}
}

// One path carries all; where one of several may not, the others still share.
func TestP182Some(t *testing.T) {
	s, _ := begun(t, of(8, 3)...)
	for range 9 {
		path, _ := s.Pick(8)
		s.Carry(path, 7)
	}
	if s.Carried(8) != 63 || s.Total() != 63 {
		t.Errorf("%d", s.Carried(8))
	}
	s, _ = begun(t, of(1, 9, 2, 2, 3, 1)...)
	for range 30 {
		path, _ := s.Pick(2, 3)
		s.Carry(path, 10)
	}
	if s.Carried(1) != 0 || s.Carried(2) != 200 || s.Carried(3) != 100 {
		t.Errorf("%d %d %d", s.Carried(1), s.Carried(2), s.Carried(3))
	}
	// The one that didn't comes first, as long as it carried less by its weight.
	count := 0
	for range 200 {
		if path, _ := s.Pick(1, 2, 3); path == 1 {
			s.Carry(1, 10)
			count++
		}
	}
	if count != 91 {
		t.Errorf("%d", count)
	}
}
