package gaps_test

import (
	"maps"
	"math"
	"math/rand"
	"slices"
	"testing"

	"cordelle/gaps"
)

// The document's greatest number and tick, and its longest time, as it says them.
const (
	far   = 1 << 40
	ticks = 1048576
)

// nearest is n as it counts in a range.
func nearest(least, n, most int) int {
	switch {
	case n < least:
		return least
	case n > most:
		return most
	}
	return n
}

// packet is one that is wanting: when that was found, and when it was asked for.
type packet struct {
	found int
	asked []int
}

// model is Gaps by the document's sentences: it keeps all ticks at which a packet
// was asked for.
type model struct {
	gaps.Config
	came     bool
	greatest int
	given    int
	wanting  map[int]packet
}

func clip(c gaps.Config) gaps.Config {
	return gaps.Config{Most: nearest(1, c.Most, 1024), Tries: nearest(1, c.Tries, 100), First: nearest(0, c.First, ticks), Again: nearest(1, c.Again, ticks)}
}

func newModel(c gaps.Config) *model {
	return &model{Config: clip(c), wanting: map[int]packet{}}
}

func (m *model) clone() *model {
	c := *m
	c.wanting = maps.Clone(m.wanting)
	return &c
}

func (m *model) numbers() []int { return slices.Sorted(maps.Keys(m.wanting)) }

// at is when a packet is to be asked for.
func (m *model) at(p packet) int {
	if len(p.asked) == 0 {
		return p.found + m.First
	}
	wait := m.Again
	for range p.asked[1:] {
		wait = nearest(0, 2*wait, ticks)
	}
	return p.asked[len(p.asked)-1] + wait
}

func (m *model) hear(n, now int) int {
	n, now = nearest(-far, n, far), nearest(0, now, far)
	if !m.came {
		m.came, m.greatest = true, n
		return 0
	}
	if n <= m.greatest {
		delete(m.wanting, n)
		return 0
	}
	given := 0
	// It goes from one to the next, but for very many, none of which stays.
	if skipped := n - 1 - 3000 - m.greatest; skipped > 0 {
		given = skipped + len(m.wanting)
		clear(m.wanting)
		m.greatest += skipped
	}
	for m.greatest++; m.greatest < n; m.greatest++ {
		m.wanting[m.greatest] = packet{found: now}
	}
	for _, number := range m.numbers() {
		if len(m.wanting) > m.Most {
			delete(m.wanting, number)
			given++
		}
	}
	m.given += given
	return given
}

func (m *model) due(now int) []int {
	now = nearest(0, now, far)
	var l []int
	for _, number := range m.numbers() {
		p := m.wanting[number]
		switch {
		case m.at(p) > now:
		case len(p.asked) == m.Tries:
			delete(m.wanting, number)
			m.given++
		default:
			m.wanting[number] = packet{found: p.found, asked: append(slices.Clone(p.asked), now)}
			l = append(l, number)
		}
	}
	return l
}

func (m *model) next() (int, bool) {
	first, is := 0, false
	for _, p := range m.wanting {
		if at := m.at(p); !is || at < first {
			first, is = at, true
		}
	}
	return first, is
}

func (m *model) forget(upto int) int {
	n := 0
	for _, number := range m.numbers() {
		if number <= upto {
			delete(m.wanting, number)
			n++
		}
	}
	return n
}

// check holds all that Gaps tell against the model.
func check(t *testing.T, g *gaps.Gaps, m *model) {
	t.Helper()
	if got := g.Wanting(); !slices.Equal(got, m.numbers()) || len(got) > m.Most {
		t.Fatalf("Wanting: %v, not %v", got, m.numbers())
	}
	if g.Given() != m.given {
		t.Fatalf("Given: %d, not %d", g.Given(), m.given)
	}
	want, there := m.next()
	if got, is := g.Next(); got != want || is != there {
		t.Fatalf("Next: %d %t, not %d %t", got, is, want, there)
	}
}

// came does Came to both, and answers how many were given up.
func came(t *testing.T, g *gaps.Gaps, m *model, n, now int) int {
	t.Helper()
	got := g.Came(n, now)
	if want := m.hear(n, now); got != want {
		t.Fatalf("Came(%d, %d): %d, not %d", n, now, got, want)
	}
	check(t, g, m)
	return got
}

// due does Due to both, and answers which are.
func due(t *testing.T, g *gaps.Gaps, m *model, now int) []int {
	t.Helper()
	got := g.Due(now)
	if want := m.due(now); !slices.Equal(got, want) {
		t.Fatalf("Due(%d): %v, not %v", now, got, want)
	}
	check(t, g, m)
	return got
}

// forget does Forget to both, and answers how many.
func forget(t *testing.T, g *gaps.Gaps, m *model, upto int) int {
	t.Helper()
	got := g.Forget(upto)
	if want := m.forget(upto); got != want {
		t.Fatalf("Forget(%d): %d, not %d", upto, got, want)
	}
	check(t, g, m)
	return got
}

// begun are Gaps to which these came at tick 0, and their model.
func begun(t *testing.T, c gaps.Config, numbers ...int) (*gaps.Gaps, *model) {
	t.Helper()
	g, m := gaps.New(c), newModel(c)
	check(t, g, m)
	for _, n := range numbers {
		came(t, g, m, n, 0)
	}
	return g, m
}

// wanting looks whether just these are wanting.
func wanting(t *testing.T, g *gaps.Gaps, want ...int) {
	t.Helper()
	if got := g.Wanting(); !slices.Equal(got, want) {
		t.Fatalf("%v, not %v", got, want)
	}
}

// some is a Config of which no number is a bound.
var some = gaps.Config{Most: 6, Tries: 3, First: 2, Again: 5}

// The document's example.
func TestP221Example(t *testing.T) {
	g := gaps.New(some)
	g.Came(1, 0)
	g.Came(4, 0)
	wanting(t, g, 2, 3)
}

// Clip of numbers of -1, 0, 1, as great as may be and beyond.
func TestP221Clip(t *testing.T) {
	most := []struct{ n, want int }{{math.MinInt, 1}, {-1, 1}, {0, 1}, {1, 1}, {2, 2}, {1023, 1023}, {1024, 1024}, {1025, 1024}, {math.MaxInt, 1024}}
	tries := []struct{ n, want int }{{math.MinInt, 1}, {-1, 1}, {0, 1}, {1, 1}, {2, 2}, {99, 99}, {100, 100}, {101, 100}, {math.MaxInt, 100}}
	first := []struct{ n, want int }{{math.MinInt, 0}, {-1, 0}, {0, 0}, {1, 1}, {2, 2}, {ticks - 1, ticks - 1}, {ticks, ticks}, {ticks + 1, ticks}, {math.MaxInt, ticks}}
	again := []struct{ n, want int }{{math.MinInt, 1}, {-1, 1}, {0, 1}, {1, 1}, {2, 2}, {ticks - 1, ticks - 1}, {ticks, ticks}, {ticks + 1, ticks}, {math.MaxInt, ticks}}
	for _, a := range most {
		for _, b := range tries {
			for _, c := range first {
				for _, d := range again {
					x, want := gaps.Config{Most: a.n, Tries: b.n, First: c.n, Again: d.n}, gaps.Config{Most: a.want, Tries: b.want, First: c.want, Again: d.want}
					if got := x.Clip(); got != want || got.Clip() != want {
						t.Errorf("%+v: %+v, not %+v", x, got, want)
					}
				}
			}
		}
	}
}

// New counts each number as the nearest; zero Gaps are like those of New of a zero
// Config.
func TestP221New(t *testing.T) {
	for _, c := range []gaps.Config{
		{}, {Most: -1, Tries: -1, First: -1, Again: -1}, {Most: math.MinInt, Tries: math.MinInt, First: math.MinInt, Again: math.MinInt},
		{Most: 1, Tries: 1, First: 0, Again: 1}, {Most: 2, Tries: 2, First: 1, Again: 2}, {Most: 1024, Tries: 100, First: ticks, Again: ticks},
		{Most: 1025, Tries: 101, First: ticks + 1, Again: ticks + 1}, {Most: math.MaxInt, Tries: math.MaxInt, First: math.MaxInt, Again: math.MaxInt},
	} {
		g, m := begun(t, c, 0)
		came(t, g, m, 1500, 9)
		checkTries(t, g, m)
	}
	g, m := new(gaps.Gaps), newModel(gaps.Config{})
	check(t, g, m)
	check(t, g.Clone(), m)
	if due(t, g, m, far) != nil || forget(t, g, m, far) != 0 {
		t.Error("zero")
	}
	came(t, g, m, 5, 7)
	came(t, g, m, 9, 7)
	wanting(t, g, 8)
	checkTries(t, g, m)
}

// checkTries looks whether all that is wanting is asked for as often as may be, and
// then given up, at just the ticks at which that is to be.
func checkTries(t *testing.T, g *gaps.Gaps, m *model) {
	t.Helper()
	many, given := len(g.Wanting()), g.Given()
	for range m.Tries {
		at, is := g.Next()
		if !is || len(due(t, g, m, at-1)) != 0 || len(due(t, g, m, at)) != many || g.Given() != given {
			t.Fatalf("%+v: at %d", m.Config, at)
		}
	}
	at, _ := g.Next()
	if due(t, g, m, at-1); len(g.Wanting()) != many {
		t.Fatalf("%+v: given up ahead of %d", m.Config, at)
	}
	if len(due(t, g, m, at)) != 0 || len(g.Wanting()) != 0 || g.Given() != given+many {
		t.Fatalf("%+v: not given up at %d", m.Config, at)
	}
}

// The first packet, whatever its number: it is the greatest.
func TestP221First(t *testing.T) {
	for _, x := range []struct{ n, counts int }{{math.MinInt, -far}, {-far - 1, -far}, {-far, -far}, {-1, -1}, {0, 0}, {1, 1}, {70000, 70000}, {far - 3, far - 3}} {
		g, m := begun(t, some)
		if came(t, g, m, x.n, 7) != 0 || came(t, g, m, x.counts-1, 7) != 0 || came(t, g, m, x.counts, 7) != 0 {
			t.Errorf("%d", x.n)
		}
		wanting(t, g)
		came(t, g, m, x.counts+3, 7)
		wanting(t, g, x.counts+1, x.counts+2)
	}
}

// The next one, one that leaves out one, as many as may be, one more, very many,
// with some wanting already.
func TestP221Leap(t *testing.T) {
	for _, x := range []struct {
		numbers []int
		given   int
		wanting []int
	}{
		{[]int{10, 11}, 0, nil},
		{[]int{10, 12}, 0, []int{11}},
		{[]int{10, 16}, 0, []int{11, 12, 13, 14, 15}},
		{[]int{10, 17}, 0, []int{11, 12, 13, 14, 15, 16}},
		{[]int{10, 18}, 1, []int{12, 13, 14, 15, 16, 17}},
		{[]int{10, 19}, 2, []int{13, 14, 15, 16, 17, 18}},
		{[]int{10, 1000010}, 999993, []int{1000004, 1000005, 1000006, 1000007, 1000008, 1000009}},
		{[]int{10, 13, 14}, 0, []int{11, 12}},
		{[]int{10, 13, 15}, 0, []int{11, 12, 14}},
		{[]int{10, 13, 18}, 0, []int{11, 12, 14, 15, 16, 17}},
		{[]int{10, 13, 19}, 1, []int{12, 14, 15, 16, 17, 18}},
		{[]int{10, 13, 20}, 2, []int{14, 15, 16, 17, 18, 19}},
		{[]int{10, 13, 21}, 3, []int{15, 16, 17, 18, 19, 20}},
		{[]int{10, 13, 1013}, 995, []int{1007, 1008, 1009, 1010, 1011, 1012}},
		{[]int{10, 17, 18}, 0, []int{11, 12, 13, 14, 15, 16}},
		{[]int{10, 17, 19}, 1, []int{12, 13, 14, 15, 16, 18}},
		{[]int{10, 17, 15, 19}, 0, []int{11, 12, 13, 14, 16, 18}},
		{[]int{10, 17, 15, 20}, 1, []int{12, 13, 14, 16, 18, 19}},
		{[]int{-10, -7, 1}, 3, []int{-5, -4, -3, -2, -1, 0}},
		{[]int{-far, far}, 2*far - 7, []int{far - 6, far - 5, far - 4, far - 3, far - 2, far - 1}},
		{[]int{-far, -far + 3, far}, 2*far - 8, []int{far - 6, far - 5, far - 4, far - 3, far - 2, far - 1}},
	} {
		last := len(x.numbers) - 1
		g, m := begun(t, some, x.numbers[:last]...)
		if got := came(t, g, m, x.numbers[last], 3); got != x.given || g.Given() != x.given {
			t.Errorf("%v: %d", x.numbers, got)
		}
		wanting(t, g, x.wanting...)
	}
}

// As many as may be, and one more, of each Most; how many were given up in all are
// added up.
func TestP221Most(t *testing.T) {
	for _, most := range []int{1, 2, 3, 100, 1023, 1024} {
		c := some
		c.Most = most
		g, m := begun(t, c, 0)
		if came(t, g, m, most+1, 1) != 0 || len(g.Wanting()) != most {
			t.Errorf("%d", most)
		}
		if came(t, g, m, most+3, 2) != 1 || came(t, g, m, most+4, 2) != 0 || came(t, g, m, most+7, 2) != 2 || g.Given() != 3 {
			t.Errorf("%d: %d", most, g.Given())
		}
		g, m = begun(t, c, 0)
		if came(t, g, m, most+2, 1) != 1 || len(g.Wanting()) != most || g.Wanting()[0] != 2 {
			t.Errorf("%d and one more", most)
		}
	}
}

// A packet that was wanting, one that wasn't, one that came already.
func TestP221Came(t *testing.T) {
	g, m := begun(t, some, 10, 15)
	for _, x := range []struct {
		n    int
		want []int
	}{
		{13, []int{11, 12, 14}}, {13, []int{11, 12, 14}}, {10, []int{11, 12, 14}}, {15, []int{11, 12, 14}}, {9, []int{11, 12, 14}}, {-1, []int{11, 12, 14}}, {math.MinInt, []int{11, 12, 14}},
		{11, []int{12, 14}}, {14, []int{12}}, {12, nil}, {12, nil}, {11, nil}, {16, nil}, {13, nil}, {18, []int{17}}, {16, []int{17}},
	} {
		if came(t, g, m, x.n, 4) != 0 || g.Given() != 0 {
			t.Errorf("%d", x.n)
		}
		wanting(t, g, x.want...)
	}
	// One that was given up, and comes, changes nothing.
	g, m = begun(t, some, 10, 18)
	if came(t, g, m, 11, 1) != 0 || g.Given() != 1 {
		t.Error("given up")
	}
	wanting(t, g, 12, 13, 14, 15, 16, 17)
}

// Numbers of -2^40, 2^40 and beyond: they count as the nearest.
func TestP221Numbers(t *testing.T) {
	for _, n := range []int{far, far + 1, far + 7, math.MaxInt} {
		g, m := begun(t, some, far-3)
		if came(t, g, m, n, 1) != 0 {
			t.Errorf("%d", n)
		}
		wanting(t, g, far-2, far-1)
		for _, more := range []int{far, far + 1, math.MaxInt} {
			if came(t, g, m, more, 1) != 0 {
				t.Errorf("%d behind %d", more, n)
			}
		}
		wanting(t, g, far-2, far-1)
		if forget(t, g, m, far-2) != 1 || forget(t, g, m, n) != 1 {
			t.Errorf("Forget(%d)", n)
		}
	}
	for _, n := range []int{-far, -far - 1, -far - 7, math.MinInt} {
		g, m := begun(t, some, n, -far+3)
		wanting(t, g, -far+1, -far+2)
		if came(t, g, m, n, 1) != 0 || forget(t, g, m, n) != 0 || forget(t, g, m, -far+1) != 1 {
			t.Errorf("%d", n)
		}
		wanting(t, g, -far+2)
	}
}

// Ticks of -1, 2^40 and beyond: they count as the nearest.
func TestP221Ticks(t *testing.T) {
	for _, x := range []struct{ now, counts int }{{math.MinInt, 0}, {-1, 0}, {0, 0}, {1, 1}, {far - 1, far - 1}, {far, far}, {far + 1, far}, {math.MaxInt, far}} {
		g, m := begun(t, some, 1)
		came(t, g, m, 3, x.now)
		if at, is := g.Next(); !is || at != x.counts+2 {
			t.Errorf("found at %d: %d", x.now, at)
		}
		c := some
		c.First = 0
		g, m = begun(t, c, 1)
		came(t, g, m, 3, 0)
		if l := due(t, g, m, x.now); len(l) != 1 {
			t.Errorf("Due(%d): %v", x.now, l)
		}
		if at, is := g.Next(); !is || at != x.counts+5 {
			t.Errorf("asked for at %d: %d", x.now, at)
		}
	}
	// What is to be asked for behind the last tick isn't asked for any more.
	g, m := begun(t, some, 1)
	came(t, g, m, 3, far-1)
	if due(t, g, m, far) != nil || due(t, g, m, math.MaxInt) != nil {
		t.Error("behind the last tick")
	}
	wanting(t, g, 2)
	g, m = begun(t, some, 1)
	came(t, g, m, 3, far-2)
	if due(t, g, m, far-1) != nil || len(due(t, g, m, math.MaxInt)) != 1 || due(t, g, m, math.MaxInt) != nil {
		t.Error("at the last tick")
	}
}

// Due ahead of the tick, just at it, behind it, again and again until one was
// asked for as often as may be.
func TestP221Due(t *testing.T) {
	g, m := begun(t, some, 10, 13) // First 2, Again 5, three Tries.
	for _, x := range []struct {
		now   int
		due   []int
		next  int
		given int
	}{
		{-1, nil, 2, 0}, {0, nil, 2, 0}, {1, nil, 2, 0}, {2, []int{11, 12}, 7, 0}, {2, nil, 7, 0}, {6, nil, 7, 0},
		{7, []int{11, 12}, 17, 0}, {7, nil, 17, 0}, {16, nil, 17, 0},
		{18, []int{11, 12}, 38, 0}, {18, nil, 38, 0}, {37, nil, 38, 0}, {38, nil, 0, 2}, {99, nil, 0, 2},
	} {
		if got := due(t, g, m, x.now); !slices.Equal(got, x.due) || g.Given() != x.given {
			t.Errorf("Due(%d): %v, %d given up", x.now, got, g.Given())
		}
		if at, is := g.Next(); at != x.next || is != (x.next > 0) {
			t.Errorf("Due(%d): Next %d", x.now, at)
		}
	}
	// Behind the tick: from then on it counts.
	g, m = begun(t, some, 10, 12)
	due(t, g, m, 100)
	if at, _ := g.Next(); at != 105 {
		t.Errorf("%d", at)
	}
	if due(t, g, m, 3) != nil || due(t, g, m, 104) != nil || len(due(t, g, m, 105)) != 1 {
		t.Error("Due")
	}
}

// Those that are found at several ticks, asked for at several, and such as come
// between.
func TestP221DueSome(t *testing.T) {
	g, m := begun(t, some, 10, 12)
	came(t, g, m, 14, 3)
	came(t, g, m, 17, 1)
	if at, _ := g.Next(); at != 2 {
		t.Errorf("%d", at)
	}
	for _, x := range []struct {
		now  int
		want []int
	}{{1, nil}, {2, []int{11}}, {3, []int{15, 16}}, {4, nil}, {5, []int{13}}, {6, nil}, {7, []int{11}}, {10, []int{13, 15, 16}}} {
		if got := due(t, g, m, x.now); !slices.Equal(got, x.want) {
			t.Errorf("Due(%d): %v", x.now, got)
		}
	}
	came(t, g, m, 15, 11)
	if got := due(t, g, m, 20); !slices.Equal(got, []int{11, 13, 16}) {
		t.Errorf("%v", got)
	}
	if due(t, g, m, 39) != nil || g.Given() != 0 {
		t.Error("Due(39)")
	}
	if due(t, g, m, 40) != nil || g.Given() != 3 {
		t.Errorf("%d", g.Given())
	}
	// Some are given up while others are asked for.
	c := gaps.Config{Most: 9, Tries: 1, First: 0, Again: 4}
	g, m = begun(t, c, 10, 12)
	due(t, g, m, 0)
	came(t, g, m, 14, 4)
	if got := due(t, g, m, 4); !slices.Equal(got, []int{13}) || g.Given() != 1 {
		t.Errorf("%v", got)
	}
	wanting(t, g, 13)
}

// Distances are doubled, up to 2^20.
func TestP221Doubled(t *testing.T) {
	for _, again := range []int{1, 3, 1000, ticks/2 - 1, ticks / 2, ticks/2 + 1, ticks - 1, ticks} {
		g, m := begun(t, gaps.Config{Most: 1, Tries: 100, First: ticks, Again: again}, 10, 12)
		now, wait := ticks, again
		for n := range 100 {
			if at, is := g.Next(); !is || at != now {
				t.Fatalf("%d, %d: %d, not %d", again, n, at, now)
			}
			if due(t, g, m, now-1) != nil || len(due(t, g, m, now)) != 1 {
				t.Fatalf("%d, %d: Due(%d)", again, n, now)
			}
			now += wait
			wait = nearest(0, wait+wait, 1048576)
		}
		if due(t, g, m, now-1) != nil || len(g.Wanting()) != 1 || due(t, g, m, now) != nil || len(g.Wanting()) != 0 || g.Given() != 1 {
			t.Errorf("%d: not given up at %d", again, now)
		}
	}
}

// One that is to be asked for was asked for as often as may be: it is wanting, and
// may come, until it is to be asked for once more.
func TestP221LastTry(t *testing.T) {
	c := gaps.Config{Most: 9, Tries: 1, First: 1, Again: 5}
	g, m := begun(t, c, 10, 13)
	due(t, g, m, 1)
	wanting(t, g, 11, 12)
	came(t, g, m, 12, 5)
	due(t, g, m, 5)
	wanting(t, g, 11)
	due(t, g, m, 6)
	wanting(t, g)
	if g.Given() != 1 {
		t.Errorf("%d", g.Given())
	}
}

// Forget of a number below all, of one between, beyond them.
func TestP221Forget(t *testing.T) {
	for _, x := range []struct{ upto, want int }{
		{math.MinInt, 0}, {-far - 1, 0}, {-1, 0}, {10, 0}, {11, 1}, {12, 2}, {13, 2}, {14, 3}, {15, 4}, {16, 4}, {17, 4}, {far, 4}, {far + 1, 4}, {math.MaxInt, 4},
	} {
		g, m := begun(t, some, 10, 13, 16)
		if got := forget(t, g, m, x.upto); got != x.want || g.Given() != 0 {
			t.Errorf("Forget(%d): %d", x.upto, got)
		}
		wanting(t, g, []int{11, 12, 14, 15}[x.want:]...)
		if forget(t, g, m, x.upto) != 0 {
			t.Errorf("Forget(%d) once more", x.upto)
		}
		if got := due(t, g, m, 2); len(got) != 4-x.want {
			t.Errorf("Forget(%d): %v", x.upto, got)
		}
	}
	g, m := begun(t, some)
	if forget(t, g, m, 5) != 0 || came(t, g, m, 3, 0) != 0 || forget(t, g, m, 5) != 0 {
		t.Error("of none")
	}
}

// A packet that comes behind a Forget: what is forgotten leaves room, and the
// greatest stays what it was.
func TestP221ForgetCame(t *testing.T) {
	g, m := begun(t, some, 10, 17)
	forget(t, g, m, 14)
	for _, n := range []int{12, 14, 17, 10, 3} {
		came(t, g, m, n, 1)
		wanting(t, g, 15, 16)
	}
	came(t, g, m, 16, 1)
	wanting(t, g, 15)
	if came(t, g, m, 23, 1) != 0 {
		t.Error("there is room")
	}
	wanting(t, g, 15, 18, 19, 20, 21, 22)
	if forget(t, g, m, 1000) != 6 {
		t.Error("Forget")
	}
	// What is wanting only from then on isn't forgotten.
	came(t, g, m, 26, 2)
	wanting(t, g, 24, 25)
	if at, _ := g.Next(); at != 4 || g.Given() != 0 {
		t.Errorf("%d", at)
	}
}

// Clones go their own way, and so does what they are of, however they came to be,
// and whatever is done first with either.
func TestP221Clone(t *testing.T) {
	deeds := []func(g *gaps.Gaps, m *model, n int){
		func(g *gaps.Gaps, m *model, n int) { came(t, g, m, m.greatest+2+n%2, n) },
		func(g *gaps.Gaps, m *model, n int) { came(t, g, m, m.greatest-1-n%4, n) },
		func(g *gaps.Gaps, m *model, n int) { due(t, g, m, n) },
		func(g *gaps.Gaps, m *model, n int) { forget(t, g, m, m.greatest-2-n%3) },
	}
	for many := range 10 {
		for _, one := range deeds {
			for _, two := range deeds {
				g, m := begun(t, some)
				for n := range many { // One by one: so there is room to spare, now and then.
					came(t, g, m, 2*n, n)
				}
				c, n := g.Clone(), m.clone()
				check(t, c, n)
				one(g, m, 34)
				check(t, c, n)
				two(c, n, 47)
				check(t, g, m)
				two(g, m, 55)
				check(t, c, n)
				one(c, n, 61)
				check(t, g, m)
				due(t, c, n, 99)
				check(t, g, m)
			}
		}
	}
	// They have the same Config.
	g, m := begun(t, some, 10, 14)
	due(t, g, m, 2)
	c, n := g.Clone(), m.clone()
	if came(t, c, n, 21, 2) != 3 || g.Given() != 0 {
		t.Error("Most")
	}
	came(t, c, n, 22, 2)
	forget(t, c, n, 17)
	checkTries(t, c, n)
	check(t, g, m)
	due(t, g, m, 7)
	due(t, g, m, 17)
	due(t, g, m, 37)
	wanting(t, g)
}

// What is answered is new memory.
func TestP221Memory(t *testing.T) {
	g, m := begun(t, some, 10, 14)
	first, second := g.Wanting(), g.Wanting()
	_ = append(first[:1], 77)
	first[0] = 78
	_ = append(first, 79)
	check(t, g, m)
	l := due(t, g, m, 2)
	_ = append(l[:1], 88)
	l[0] = 89
	check(t, g, m)
	forget(t, g, m, 12)
	due(t, g, m, 7)
	if !slices.Equal(second, []int{11, 12, 13}) || l[0] != 89 || l[1] != 88 {
		t.Errorf("changed: %v, %v", second, l)
	}
}

// Behind any calls.
func TestP221Calls(t *testing.T) {
	r := rand.New(rand.NewSource(221))
	for range 400 {
		c := gaps.Config{Most: r.Intn(14) - 1, Tries: r.Intn(6) - 1, First: r.Intn(6) - 1, Again: r.Intn(6) - 1}
		g, m := gaps.New(c), newModel(c)
		n, now := r.Intn(50)-25, 0
		for range 150 {
			now += r.Intn(5) - r.Intn(30)/28
			switch r.Intn(12) {
			case 0:
				forget(t, g, m, n-r.Intn(20)+r.Intn(5))
			case 1:
				g, m = g.Clone(), m.clone()
			case 2, 3:
				came(t, g, m, n-r.Intn(15), now)
			case 4, 5, 6, 7:
				due(t, g, m, now)
			default:
				n += 1 + r.Intn(12)/5
				if r.Intn(60) == 0 {
					n += r.Intn(5000)
				}
				came(t, g, m, n, now)
			}
		}
	}
}

// Of any numbers.
func TestP221Any(t *testing.T) {
	r := rand.New(rand.NewSource(2211))
	for range 300 {
		c := gaps.Config{Most: anyNumber(r), Tries: anyNumber(r), First: anyNumber(r), Again: anyNumber(r)}
		if r.Intn(3) > 0 {
			c.Most = r.Intn(50)
		}
		g, m := gaps.New(c), newModel(c)
		for range 30 {
			switch r.Intn(5) {
			case 0:
				forget(t, g, m, anyNumber(r))
			case 1:
				due(t, g, m, anyNumber(r))
			case 2:
				if at, is := g.Next(); is {
					due(t, g, m, at)
				}
			default:
				came(t, g, m, anyNumber(r), anyNumber(r))
			}
		}
	}
}

// anyNumber is one of any size, below 0 too, or one at an edge.
func anyNumber(r *rand.Rand) int {
	edges := []int{math.MinInt, -far - 1, -far, -1, 0, 1, 100, 1024, ticks, far - 1, far, far + 1, math.MaxInt}
	if r.Intn(3) == 0 {
		return edges[r.Intn(len(edges))]
	}
	n := int(r.Uint64() >> r.Intn(64))
	if r.Intn(2) == 0 {
		return -n
	}
	return n
}

// BOUND: never more are wanting than may be, and none is asked for more often than
// may be; each that was left out came, or is wanting, or was given up.
func TestP222(t *testing.T) {
	r := rand.New(rand.NewSource(222))
	often := 0
	for range 200 {
		c := gaps.Config{Most: 1 + r.Intn(20), Tries: 1 + r.Intn(4), First: r.Intn(4), Again: 1 + r.Intn(4)}
		g := gaps.New(c)
		asked := map[int]int{}
		left, found, n := 0, 0, 0
		g.Came(n, 0)
		for now := range 300 {
			for range r.Intn(4) {
				before := len(g.Wanting())
				if r.Intn(3) == 0 {
					g.Came(n-r.Intn(20), now)
					found += before - len(g.Wanting())
					continue
				}
				skip := r.Intn(4)
				n, left = n+1+skip, left+skip
				given := g.Given()
				if got := g.Came(n, now); got != max(before+skip-c.Most, 0) || g.Given() != given+got {
					t.Fatalf("%+v: %d given up", c, got)
				}
			}
			for _, number := range g.Due(now) {
				if asked[number]++; asked[number] > c.Tries {
					t.Fatalf("%+v: %d, %d times", c, number, asked[number])
				}
			}
			if many := len(g.Wanting()); many > c.Most || many != left-found-g.Given() {
				t.Fatalf("%+v: %d of %d, %d came, %d given up", c, many, left, found, g.Given())
			}
		}
		for _, many := range asked {
			often += many / c.Tries
		}
		if found == 0 || g.Given() == 0 {
			t.Errorf("%+v: %d came, %d given up", c, found, g.Given())
		}
	}
	if often < 1000 {
		t.Errorf("only %d were asked for as often as may be", often)
	}
}

// A packet that came isn't wanting, and never is again, nor is it asked for.
func TestP223(t *testing.T) {
	r := rand.New(rand.NewSource(223))
	for range 200 {
		g := gaps.New(gaps.Config{Most: 1 + r.Intn(30), Tries: 1 + r.Intn(5), First: r.Intn(3), Again: 1 + r.Intn(4)})
		came := map[int]int{}
		greatest, late := 0, 0
		for now := range 200 {
			n := greatest + 1 + r.Intn(4)
			if r.Intn(2) == 0 {
				n = greatest - r.Intn(25)
			}
			if slices.Contains(g.Wanting(), n) {
				late++
			}
			g.Came(n, now)
			came[n]++
			greatest = max(n, greatest)
			if r.Intn(20) == 0 {
				g.Forget(greatest - r.Intn(20))
			}
			for _, x := range slices.Concat(g.Due(now), g.Wanting()) {
				if came[x] > 0 || x >= greatest {
					t.Fatalf("%d is wanting, %d came %d times", x, x, came[x])
				}
			}
		}
		if late == 0 {
			t.Error("none came late")
		}
	}
}
