package split_test

import (
	"maps"
	"math"
	"math/rand"
	"slices"
	"strings"
	"testing"

	"cordelle/media"
	"cordelle/split"
)

// The document's greatest part, and its most parts of a frame, as it says them.
const (
	room  = 1472
	parts = 255
)

// nearest is n as it counts in a range.
func nearest(least, n, most int) int {
	switch {
	case n < least:
		return least
	case n > most:
		return most
	}
	return n
}

// text is one of so many bytes, in which neighbours differ.
func text(n int) string {
	b := make([]byte, n)
	for i := range b {
		b[i] = byte(i*7 + i/251)
	}
	return string(b)
}

// inParts is Split by the document's sentences.
func inParts(data string, size int) []string {
	var l []string
	for part := range slices.Chunk([]byte(data), nearest(1, size, room)) {
		l = append(l, string(part))
	}
	switch {
	case len(l) == 0:
		return []string{""}
	case len(l) > parts:
		return nil
	}
	return l
}

// model is a Frame by the document's sentences.
type model struct {
	time         uint32
	count, first int
	there        map[int]string
}

func newModel(time uint32, count, now int) *model {
	return &model{time: time, count: nearest(1, count, parts), first: now, there: map[int]string{}}
}

func (m *model) clone() *model {
	c := *m
	c.there = maps.Clone(m.there)
	return &c
}

func (m *model) put(p media.Part, data string) int {
	if p.Count != m.count || p.Index >= p.Count || p.Index < 0 {
		return 4
	}
	if _, is := m.there[p.Index]; is {
		return 3
	}
	m.there[p.Index] = data
	if len(m.there) == m.count {
		return 2
	}
	return 1
}

func (m *model) data() (string, []int) {
	all, lacks := "", []int{}
	for i := range m.count {
		s, is := m.there[i]
		all += s
		if !is {
			lacks = append(lacks, i)
		}
	}
	return all, lacks
}

// check holds all that a Frame tells against the model.
func check(t *testing.T, f *split.Frame, m *model) {
	t.Helper()
	if f.Time() != m.time || f.First() != m.first || f.Count() != m.count {
		t.Fatalf("Time, First, Count: %d %d %d, not %d %d %d", f.Time(), f.First(), f.Count(), m.time, m.first, m.count)
	}
	all, lacks := m.data()
	if f.Have() != len(m.there) || f.Bytes() != len(all) {
		t.Fatalf("Have, Bytes: %d %d, not %d %d", f.Have(), f.Bytes(), len(m.there), len(all))
	}
	if got := f.Lacks(); !slices.Equal(got, lacks) {
		t.Fatalf("Lacks: %v, not %v", got, lacks)
	}
	whole := len(lacks) == 0
	if !whole {
		all = ""
	}
	if got, is := f.Data(); got != all || is != whole || f.IsWhole() != whole {
		t.Fatalf("Data, IsWhole: %q %t %t, not %q %t", got, is, f.IsWhole(), all, whole)
	}
}

// put does Put to both, and answers what came of the part.
func put(t *testing.T, f *split.Frame, m *model, index, count int, data string) int {
	t.Helper()
	p := media.Part{Index: index, Count: count}
	got := f.Put(p, data)
	if want := m.put(p, data); got != want {
		t.Fatalf("Put(%+v, %q): %d, not %d", p, data, got, want)
	}
	check(t, f, m)
	return got
}

// begun is a Frame, and its model.
func begun(t *testing.T, time uint32, count, now int) (*split.Frame, *model) {
	t.Helper()
	f, m := split.New(time, count, now), newModel(time, count, now)
	check(t, f, m)
	return f, m
}

// The document's example.
func TestP231Example(t *testing.T) {
	if got := split.Split("abcde", 2); !slices.Equal(got, []string{"ab", "cd", "e"}) {
		t.Errorf("%q", got)
	}
}

// Split of no bytes, of one, of just as many as a part has, of one more; sizes of
// -1, 0, 1, 1472 and beyond; frames that make 255 parts, and 256.
func TestP231Split(t *testing.T) {
	for _, size := range []int{math.MinInt, -1, 0, 1, 2, 3, 256, 257, room - 1, room, room + 1, 65535, math.MaxInt} {
		s := nearest(1, size, room)
		for _, n := range []int{0, 1, 2, s - 1, s, s + 1, 2 * s, 2*s + 1, 254*s + 1, 255*s - 1, 255 * s, 255*s + 1, 256 * s, 256*s + 1} {
			data := text(n)
			if got, want := split.Split(data, size), inParts(data, size); !slices.Equal(got, want) {
				t.Errorf("%d bytes by %d: %d parts, not %d", n, size, len(got), len(want))
			}
		}
	}
	if got := split.Split("", 1); len(got) != 1 || got[0] != "" {
		t.Errorf("no bytes: %q", got)
	}
	if a, b := split.Split(text(255), 1), split.Split(text(256), 1); len(a) != 255 || len(b) != 0 {
		t.Errorf("%d parts, and %d", len(a), len(b))
	}
	if a, b := split.Split(text(255*room), room+1), split.Split(text(255*room+1), room+1); len(a) != 255 || len(b) != 0 {
		t.Errorf("%d parts, and %d", len(a), len(b))
	}
}

// Numbers are as the document says them.
func TestP231Kinds(t *testing.T) {
	if split.Kept != 1 || split.Whole != 2 || split.Twice != 3 || split.Bad != 4 {
		t.Errorf("%d %d %d %d", split.Kept, split.Whole, split.Twice, split.Bad)
	}
	f, m := begun(t, 9, 3, 4)
	for i, x := range []struct {
		index, count int
		data         string
		want         int
	}{
		{2, 3, "c", split.Kept}, {2, 3, "c", split.Twice}, {0, 3, "aa", split.Kept}, {2, 3, "z", split.Twice}, {3, 3, "z", split.Bad},
		{1, 3, "b", split.Whole}, {1, 3, "b", split.Twice}, {0, 3, "", split.Twice}, {3, 3, "z", split.Bad}, {1, 2, "z", split.Bad},
	} {
		if got := put(t, f, m, x.index, x.count, x.data); got != x.want {
			t.Errorf("%d: %d, not %d", i, got, x.want)
		}
	}
	if s, is := f.Data(); s != "aabc" || !is {
		t.Errorf("%q %t", s, is)
	}
}

// New of -1, 0, 1, 255 and 256 parts, of any times and ticks; a zero Frame is like
// one of New of 0s.
func TestP231New(t *testing.T) {
	for _, x := range []struct{ count, want int }{{math.MinInt, 1}, {-1, 1}, {0, 1}, {1, 1}, {2, 2}, {254, 254}, {255, 255}, {256, 255}, {math.MaxInt, 255}} {
		for _, time := range []uint32{0, 1, math.MaxInt32, math.MaxUint32} {
			for _, now := range []int{0, 1, 7, 1 << 40} {
				f, m := begun(t, time, x.count, now)
				if f.Count() != x.want || len(f.Lacks()) != x.want {
					t.Fatalf("%d parts: %d", x.count, f.Count())
				}
				for i := range x.want {
					want := split.Kept
					if i == x.want-1 {
						want = split.Whole
					}
					if got := put(t, f, m, i, x.want, "x"); got != want {
						t.Fatalf("%d of %d: %d", i, x.want, got)
					}
				}
			}
		}
	}
	for _, c := range []func(f *split.Frame) *split.Frame{func(f *split.Frame) *split.Frame { return f }, (*split.Frame).Clone} {
		f, m := c(new(split.Frame)), newModel(0, 0, 0)
		check(t, f, m)
		put(t, f, m, 0, 0, "a")
		put(t, f, m, 1, 1, "a")
		if put(t, f, m, 0, 1, "a") != split.Whole || put(t, f, m, 0, 1, "b") != split.Twice {
			t.Error("a zero Frame")
		}
	}
}

// Put of a part whose Count is another, whose Index is just below the Count, at it,
// below 0: at each of them, whatever is there.
func TestP231Put(t *testing.T) {
	for _, n := range []int{1, 2, 3, 254, 255} {
		counts := []int{math.MinInt, -1, 0, 1, n - 1, n, n + 1, 255, 256, 257, math.MaxInt}
		for _, index := range []int{math.MinInt, -2, -1, 0, 1, n - 2, n - 1, n, n + 1, 254, 255, 256, math.MaxInt} {
			f, m := begun(t, 3, n, 5)
			for _, count := range counts {
				put(t, f, m, index, count, "ab")
				put(t, f, m, index, count, "cde")
			}
			for i := range n {
				put(t, f, m, i, n, "ab")
			}
			for _, count := range counts {
				put(t, f, m, index, count, "fghi")
			}
		}
	}
}

// The same part twice, with other bytes, with none: the first one stays.
func TestP231Twice(t *testing.T) {
	for _, first := range []string{"", "a", "ab"} {
		for _, second := range []string{"", "b", "a", "abc"} {
			f, m := begun(t, 3, 2, 5)
			put(t, f, m, 1, 2, first)
			if put(t, f, m, 1, 2, second) != split.Twice {
				t.Errorf("%q, %q: it was there", first, second)
			}
			put(t, f, m, 0, 2, "z")
			if put(t, f, m, 1, 2, second) != split.Twice {
				t.Errorf("%q, %q: it was there, and all", first, second)
			}
			if s, _ := f.Data(); s != "z"+first {
				t.Errorf("%q, %q: %q", first, second, s)
			}
		}
	}
}

// Parts without bytes are there as others are.
func TestP231Empty(t *testing.T) {
	f, m := begun(t, 3, 3, 5)
	put(t, f, m, 1, 3, "")
	put(t, f, m, 2, 3, "")
	if !slices.Equal(f.Lacks(), []int{0}) || f.Have() != 2 || f.Bytes() != 0 || f.IsWhole() {
		t.Errorf("%v %d %d", f.Lacks(), f.Have(), f.Bytes())
	}
	if put(t, f, m, 0, 3, "") != split.Whole || len(f.Lacks()) != 0 {
		t.Error("all are there")
	}
	if s, is := f.Data(); s != "" || !is {
		t.Errorf("%q %t", s, is)
	}
}

// Any calls behind any others, of a Frame and of its Clones.
func TestP231Calls(t *testing.T) {
	r := rand.New(rand.NewSource(231))
	for range 400 {
		count := r.Intn(6)
		if r.Intn(9) == 0 {
			count = 250 + r.Intn(8)
		}
		f, m := begun(t, r.Uint32(), count, r.Intn(99))
		for range 3 * m.count {
			index, of := r.Intn(m.count), m.count
			switch r.Intn(12) {
			case 0:
				index = r.Intn(2*m.count+4) - m.count - 2
			case 1:
				of += r.Intn(3) - 1
			case 2:
				g, n := f.Clone(), m.clone()
				put(t, g, n, index, of, "other")
				check(t, f, m)
			case 3:
				f, m = f.Clone(), m.clone()
			}
			put(t, f, m, index, of, text(r.Intn(4)))
		}
	}
}

// A Clone goes its own way, and so does what it is one of.
func TestP231Clone(t *testing.T) {
	for have := range 4 {
		f, m := begun(t, 7, 3, 8)
		for i := range have {
			put(t, f, m, i, 3, "x")
		}
		g, n := f.Clone(), m.clone()
		check(t, g, n)
		for i := range 3 {
			put(t, g, n, i, 3, "yy")
			check(t, f, m)
		}
		for i := range 3 {
			put(t, f, m, 2-i, 3, "zzz")
			check(t, g, n)
		}
	}
}

// Answers are new memory each time.
func TestP231Memory(t *testing.T) {
	l := split.Split("abcd", 1)
	l[0], l[1] = "x", "y"
	if l = split.Split("abcd", 1); !slices.Equal(l, []string{"a", "b", "c", "d"}) {
		t.Errorf("%q", l)
	}
	f, m := begun(t, 7, 4, 8)
	put(t, f, m, 1, 4, "x")
	lacks := f.Lacks()
	lacks[0], lacks[1] = 77, 78
	check(t, f, m)
}

// whole looks whether parts, put so, some of them twice, make the frame.
func whole(t *testing.T, data string, l []string, order []int) {
	t.Helper()
	f := split.New(5, len(l), 0)
	seen := map[int]bool{}
	for _, i := range order {
		want := split.Kept
		switch {
		case seen[i]:
			want = split.Twice
		case len(seen) == len(l)-1:
			want = split.Whole
		}
		seen[i] = true
		if got := f.Put(media.Part{Index: i, Count: len(l)}, l[i]); got != want {
			t.Fatalf("%d of %d: %d, not %d", i, len(l), got, want)
		}
	}
	if got, is := f.Data(); got != data || !is || !f.IsWhole() || f.Bytes() != len(data) || f.Have() != len(l) {
		t.Fatalf("%d bytes in %d parts: %d bytes, %t", len(data), len(l), len(got), is)
	}
}

// orders are all orders of the numbers below n.
func orders(n int) [][]int {
	if n == 0 {
		return [][]int{nil}
	}
	var all [][]int
	for _, o := range orders(n - 1) {
		for at := range n {
			all = append(all, slices.Insert(slices.Clone(o), at, n-1))
		}
	}
	return all
}

// BACK: few parts in each order, with each of them twice, at any later place.
func TestP232Orders(t *testing.T) {
	for n := 1; n <= 5; n++ {
		data := text(3*n - 1)
		l := split.Split(data, 3)
		if len(l) != n || strings.Join(l, "") != data {
			t.Fatalf("%q", l)
		}
		for _, o := range orders(n) {
			whole(t, data, l, o)
			for i := range n {
				for at := range n + 1 {
					whole(t, data, l, slices.Insert(slices.Clone(o), at, i))
				}
			}
		}
	}
}

// BACK: frames of any bytes, and parts of any size, in any order, any of them twice.
func TestP232Back(t *testing.T) {
	r := rand.New(rand.NewSource(232))
	for range 600 {
		size := 1 + r.Intn(20)
		if r.Intn(9) == 0 {
			size = room - r.Intn(3)
		}
		n := r.Intn(6 * size)
		if r.Intn(9) == 0 {
			n = 255*size - r.Intn(2*size)
		}
		b := make([]byte, n)
		r.Read(b)
		l := split.Split(string(b), size)
		order := r.Perm(len(l))
		for range r.Intn(2*len(l) + 1) {
			order = slices.Insert(order, r.Intn(len(order)+1), r.Intn(len(l)))
		}
		whole(t, string(b), l, order)
	}
	whole(t, "", split.Split("", 5), []int{0})
	whole(t, "", split.Split("", 5), []int{0, 0})
}
