package delay_test

import (
	"math"
	"math/rand"
	"slices"
	"testing"

	"cordelle/delay"
)

// The document's bounds of what lasts, and of the clock, as it says them.
const (
	longest = 1048576
	last    = 1099511627776
)

// edges are numbers below, among and beyond those that last.
var edges = []int{math.MinInt, -1 << 41, -5, -1, 0, 1, 2, 3, 4, 5, 17, longest/4 - 1, longest / 4, longest/4 + 1, longest - 4, longest - 1, longest, longest + 1, 1 << 41, math.MaxInt}

// nearest is n as it counts in a range.
func nearest(least, n, most int) int {
	switch {
	case n < least:
		return least
	case n > most:
		return most
	}
	return n
}

// counts is a Delay as it counts.
func counts(d delay.Delay) delay.Delay {
	d.Least = nearest(0, d.Least, longest)
	d.Most = nearest(d.Least, d.Most, longest)
	d.Now = nearest(d.Least, d.Now, d.Most)
	return d
}

// jitter is Jitter by the document's sentences.
func jitter(d delay.Delay, j int) delay.Delay {
	d = counts(d)
	wanted := d.Least
	for range 4 {
		wanted += nearest(0, j, longest)
	}
	if wanted > d.Most {
		wanted = d.Most
	}
	if wanted > d.Now {
		d.Now = wanted
	} else if wanted < d.Now {
		d.Now = d.Now - 1
	}
	return d
}

// late is Late by the document's sentences.
func late(d delay.Delay, by int) delay.Delay {
	d = counts(d)
	d.Now = nearest(d.Least, d.Now+nearest(0, by, longest), d.Most)
	return d
}

// due is Due by the document's sentences.
func due(d delay.Delay, first, now int) bool {
	return nearest(0, first, last)+counts(d).Now <= nearest(0, now, last)
}

// check does each call to a Delay.
func check(t *testing.T, d delay.Delay, n int) {
	t.Helper()
	before := d
	if got, want := d.Jitter(n), jitter(d, n); got != want {
		t.Fatalf("%+v: Jitter(%d): %+v, not %+v", d, n, got, want)
	}
	if got, want := d.Late(n), late(d, n); got != want {
		t.Fatalf("%+v: Late(%d): %+v, not %+v", d, n, got, want)
	}
	if got, want := d.Run(n), jitter(d, n); got != want {
		t.Fatalf("%+v: Run(%d): %+v, not %+v", d, n, got, want)
	}
	if got, want := d.Run(), counts(d); got != want {
		t.Fatalf("%+v: Run(): %+v, not %+v", d, got, want)
	}
	now := counts(d).Now
	for _, first := range []int{n, last - now, last, 0} {
		for _, by := range []int{now - 1, now, now + 1, 0, -1} {
			at := nearest(math.MinInt/2, first, math.MaxInt/2) + by
			if got, want := d.Due(first, at), due(d, first, at); got != want {
				t.Fatalf("%+v: Due(%d, %d): %t", d, first, at, got)
			}
		}
	}
	if d != before {
		t.Fatalf("%+v was %+v", d, before)
	}
}

// The document's example.
func TestP251Example(t *testing.T) {
	d := delay.New(5, 50)
	if d = d.Jitter(3); d.Now != 17 {
		t.Errorf("%+v", d)
	}
	if d = d.Jitter(0); d.Now != 16 {
		t.Errorf("%+v", d)
	}
}

// New of -1, 0, 1, 2^20 and beyond, and of a Most below Least.
func TestP251New(t *testing.T) {
	for _, x := range []struct {
		least, most int
		want        delay.Delay
	}{
		{0, 0, delay.Delay{}},
		{-1, -1, delay.Delay{}},
		{-1, 1, delay.Delay{Most: 1}},
		{1, 1, delay.Delay{Least: 1, Most: 1, Now: 1}},
		{5, 4, delay.Delay{Least: 5, Most: 5, Now: 5}},
		{5, -4, delay.Delay{Least: 5, Most: 5, Now: 5}},
		{1, longest, delay.Delay{Least: 1, Most: longest, Now: 1}},
		{1, longest + 1, delay.Delay{Least: 1, Most: longest, Now: 1}},
		{longest, longest, delay.Delay{Least: longest, Most: longest, Now: longest}},
		{longest + 1, 7, delay.Delay{Least: longest, Most: longest, Now: longest}},
		{math.MaxInt, math.MaxInt, delay.Delay{Least: longest, Most: longest, Now: longest}},
		{math.MinInt, math.MaxInt, delay.Delay{Most: longest}},
		{math.MaxInt, math.MinInt, delay.Delay{Least: longest, Most: longest, Now: longest}},
	} {
		if got := delay.New(x.least, x.most); got != x.want {
			t.Errorf("New(%d, %d): %+v, not %+v", x.least, x.most, got, x.want)
		}
	}
	for _, least := range edges {
		for _, most := range edges {
			want := counts(delay.Delay{Least: least, Most: most, Now: math.MinInt})
			if got := delay.New(least, most); got != want {
				t.Errorf("New(%d, %d): %+v, not %+v", least, most, got, want)
			}
		}
	}
}

// Jitter of which what is wanted is below Now, at it, above it, above Most.
func TestP251Jitter(t *testing.T) {
	for _, x := range []struct{ now, j, want int }{
		{10, 0, 10}, {10, -1, 10}, {11, 0, 10}, {12, 0, 11}, {12, -7, 11}, {40, 0, 39},
		{10, 1, 14}, {13, 1, 14}, {14, 1, 14}, {15, 1, 14}, {16, 1, 15}, {40, 1, 39},
		{10, 7, 38}, {38, 7, 38}, {39, 7, 38}, {10, 8, 40}, {39, 8, 40}, {40, 8, 40}, {40, 7, 39},
		{10, 100, 40}, {40, 100, 40}, {10, longest, 40}, {10, longest + 1, 40}, {10, math.MaxInt, 40}, {40, math.MaxInt, 40}, {11, math.MinInt, 10},
	} {
		d := delay.Delay{Least: 10, Most: 40, Now: x.now}
		if got := d.Jitter(x.j); got != (delay.Delay{Least: 10, Most: 40, Now: x.want}) {
			t.Errorf("%d: Jitter(%d): %+v", x.now, x.j, got)
		}
	}
	// The greatest jitter that isn't more than may be.
	for _, j := range []int{longest/4 - 1, longest / 4, longest/4 + 1, longest, math.MaxInt} {
		if got := delay.New(1, longest).Jitter(j).Now; got != min(1+4*min(j, longest), longest) {
			t.Errorf("Jitter(%d): %d", j, got)
		}
	}
}

// Late by -1, 0, as much as reaches Most, and more.
func TestP251Late(t *testing.T) {
	for _, x := range []struct{ now, by, want int }{
		{10, -1, 10}, {10, 0, 10}, {10, 1, 11}, {10, 29, 39}, {10, 30, 40}, {10, 31, 40}, {39, 1, 40}, {39, 2, 40}, {40, 0, 40}, {40, 1, 40},
		{10, longest, 40}, {10, longest + 1, 40}, {10, math.MaxInt, 40}, {25, math.MinInt, 25}, {25, 3, 28},
	} {
		d := delay.Delay{Least: 10, Most: 40, Now: x.now}
		if got := d.Late(x.by); got != (delay.Delay{Least: 10, Most: 40, Now: x.want}) {
			t.Errorf("%d: Late(%d): %+v", x.now, x.by, got)
		}
	}
	for _, by := range []int{longest - 1, longest, longest + 1, math.MaxInt} {
		if got := delay.New(0, longest).Late(by).Now; got != min(by, longest) {
			t.Errorf("Late(%d): %d", by, got)
		}
	}
}

// Run of none, of one, of many.
func TestP251Run(t *testing.T) {
	d := delay.New(5, 50)
	if d.Run() != d || d.Run(nil...) != d || d.Run(3) != d.Jitter(3) || d.Run(3, 0) != d.Jitter(3).Jitter(0) || d.Run(0, 3) == d.Run(3, 0) {
		t.Errorf("%+v", d.Run(3, 0))
	}
	rng := rand.New(rand.NewSource(25))
	for range 200 {
		l := make([]int, rng.Intn(60), 60)
		for i := range l {
			l[i] = rng.Intn(20) - 2
		}
		room := slices.Clone(l[:cap(l)])
		want := delay.New(rng.Intn(9), rng.Intn(60)).Late(rng.Intn(30))
		got := want.Run(l...)
		for _, j := range l {
			want = jitter(want, j)
		}
		if got != want || !slices.Equal(l[:cap(l)], room) {
			t.Fatalf("%v: %+v, not %+v", l, got, want)
		}
	}
}

// Due just ahead of it, just at it, behind it; ticks below 0 and beyond 2^40;
// first behind now.
func TestP251Due(t *testing.T) {
	d := delay.New(0, 100).Late(7)
	for _, x := range []struct {
		first, now int
		want       bool
	}{
		{0, 6, false}, {0, 7, true}, {0, 8, true}, {3, 9, false}, {3, 10, true}, {3, 11, true},
		{-50, 6, false}, {-50, 7, true}, {math.MinInt, 6, false}, {math.MinInt, 7, true}, {math.MinInt, math.MaxInt, true},
		{9, 2, false}, {9, 9, false}, {100, 0, false}, {100, -1, false}, {0, -1, false}, {-9, -2, false},
		{last - 7, last, true}, {last - 6, last, false}, {last - 7, last - 1, false}, {last - 6, last + 9, false}, {last - 7, math.MaxInt, true},
		{last, last + 7, false}, {last + 1, last + 9, false}, {math.MaxInt, math.MinInt, false}, {math.MaxInt, math.MaxInt, false},
	} {
		if got := d.Due(x.first, x.now); got != x.want {
			t.Errorf("Due(%d, %d): %t", x.first, x.now, got)
		}
	}
	// With no delay each frame is due once it is there, and none ahead of it.
	d = delay.New(0, 0)
	if !d.Due(5, 5) || !d.Due(5, 6) || d.Due(5, 4) || !d.Due(-1, 0) || !d.Due(0, -1) || !d.Due(last+1, last) {
		t.Error("no delay")
	}
}

// A Delay that New didn't make, with Least, Most and Now below, among and beyond.
func TestP251Counted(t *testing.T) {
	some := []int{math.MinInt, -1, 0, 1, 9, 10, 11, 40, longest - 1, longest, longest + 1, math.MaxInt}
	for _, least := range some {
		for _, most := range some {
			for _, now := range some {
				d := delay.Delay{Least: least, Most: most, Now: now}
				for _, n := range edges {
					check(t, d, n)
				}
			}
		}
	}
}

// With any jitters and lates, Now is never below Least, nor above Most.
func TestP252Among(t *testing.T) {
	rng := rand.New(rand.NewSource(252))
	for range 300 {
		least, most := edges[rng.Intn(len(edges))], edges[rng.Intn(len(edges))]
		d := delay.New(least, most)
		bounds := d
		for range 60 {
			n := edges[rng.Intn(len(edges))]
			if rng.Intn(2) == 0 {
				n = rng.Intn(40) - 3
			}
			switch rng.Intn(3) {
			case 0:
				d = d.Jitter(n)
			case 1:
				d = d.Late(n)
			default:
				d = d.Run(n, n/2)
			}
			if d.Now < d.Least || d.Now > d.Most || d.Least != bounds.Least || d.Most != bounds.Most {
				t.Fatalf("New(%d, %d): %+v", least, most, d)
			}
		}
	}
}

// With jitter 0 it is Least behind as many calls as it is above, and not ahead.
func TestP252Falls(t *testing.T) {
	for _, d := range []delay.Delay{delay.New(0, 0), delay.New(7, 7), delay.New(0, 1).Late(1), delay.New(10, 40).Jitter(3), delay.New(10, 40).Late(500), delay.New(3, longest).Late(2000), delay.New(1, 2000).Jitter(longest)} {
		above := d.Now - d.Least
		for i := range above {
			if d.Now == d.Least {
				t.Fatalf("%+v behind %d of %d", d, i, above)
			}
			d = d.Jitter(0)
		}
		if d.Now != d.Least || d.Jitter(0) != d || d.Run(0, 0, 0) != d {
			t.Errorf("%+v behind %d", d, above)
		}
	}
}
