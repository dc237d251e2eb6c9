package pace_test

import (
	"math"
	"math/rand"
	"testing"

	"cordelle/pace"
)

// The document's bounds, as it says them.
const (
	clock     = 1099511627776 // 2^40
	mostRate  = 65535
	mostBurst = 1048576 // 2^20
)

// nearest is n as it counts in a range.
func nearest(least, n, most int) int {
	switch {
	case n < least:
		return least
	case n > most:
		return most
	}
	return n
}

// counts is a Pace as it counts, by the document's sentences.
func counts(p pace.Pace) pace.Pace {
	burst := nearest(1, p.Burst, mostBurst)
	return pace.Pace{Rate: nearest(1, p.Rate, mostRate), Burst: burst, Tokens: nearest(0, p.Tokens, burst), Last: nearest(0, p.Last, clock)}
}

// at is At, tick by tick, until no more can come.
func at(p pace.Pace, now int) pace.Pace {
	p, now = counts(p), nearest(0, now, clock)
	for p.Last < now {
		if p.Tokens == p.Burst {
			p.Last = now
			break
		}
		p.Last++
		p.Tokens += p.Rate
		if p.Tokens > p.Burst {
			p.Tokens = p.Burst
		}
	}
	return p
}

// take is Take, by the document's sentences.
func take(p pace.Pace, now, n int) (pace.Pace, bool) {
	p = at(p, now)
	if n < 0 {
		n = 0
	}
	if p.Tokens < n {
		return p, false
	}
	p.Tokens -= n
	return p, true
}

// when is When: it goes tick by tick, until no more can come.
func when(p pace.Pace, n int) int {
	for p = counts(p); p.Tokens < n; p = at(p, p.Last+1) {
		if p.Tokens == p.Burst || p.Last == clock {
			return -1
		}
	}
	return p.Last
}

// around answers numbers about each of these.
func around(l ...int) []int {
	all := []int{math.MinInt, math.MinInt + 1, math.MaxInt - 1, math.MaxInt}
	for _, n := range l {
		all = append(all, n-1, n, n+1)
	}
	return all
}

// anyNumber is one of any size.
func anyNumber(r *rand.Rand) int { return int(r.Uint64()) >> r.Intn(64) }

func checkNew(t *testing.T, rate, burst, now int, want pace.Pace) {
	t.Helper()
	if got := pace.New(rate, burst, now); got != want {
		t.Fatalf("New(%d, %d, %d): %+v, not %+v", rate, burst, now, got, want)
	}
}

func checkAt(t *testing.T, p pace.Pace, now int, want pace.Pace) {
	t.Helper()
	if got := p.At(now); got != want {
		t.Fatalf("%+v.At(%d): %+v, not %+v", p, now, got, want)
	}
}

func checkTake(t *testing.T, p pace.Pace, now, n int, want pace.Pace, ok bool) {
	t.Helper()
	if got, is := p.Take(now, n); got != want || is != ok {
		t.Fatalf("%+v.Take(%d, %d): %+v %t, not %+v %t", p, now, n, got, is, want, ok)
	}
}

func checkWhen(t *testing.T, p pace.Pace, n, want int) {
	t.Helper()
	if got := p.When(n); got != want {
		t.Fatalf("%+v.When(%d): %d, not %d", p, n, got, want)
	}
}

func checkChange(t *testing.T, p pace.Pace, now, rate int, want pace.Pace) {
	t.Helper()
	if got := p.Change(now, rate); got != want {
		t.Fatalf("%+v.Change(%d, %d): %+v, not %+v", p, now, rate, got, want)
	}
}

// The document's example.
func TestP191Example(t *testing.T) {
	p := pace.New(10, 100, 0)
	checkTake(t, p, 0, 100, pace.Pace{Rate: 10, Burst: 100}, true)
	p, _ = p.Take(0, 100)
	checkWhen(t, p, 25, 3)
}

// A Rate and a Burst of -1, 0, 1, as great as may be and beyond; the tick too.
func TestP191New(t *testing.T) {
	for _, rate := range []struct{ n, want int }{{math.MinInt, 1}, {-1, 1}, {0, 1}, {1, 1}, {2, 2}, {65534, 65534}, {65535, 65535}, {65536, 65535}, {math.MaxInt, 65535}} {
		for _, burst := range []struct{ n, want int }{{math.MinInt, 1}, {-1, 1}, {0, 1}, {1, 1}, {2, 2}, {1048575, 1048575}, {1048576, 1048576}, {1048577, 1048576}, {math.MaxInt, 1048576}} {
			for _, now := range []struct{ n, want int }{{math.MinInt, 0}, {-1, 0}, {0, 0}, {1, 1}, {clock - 1, clock - 1}, {clock, clock}, {clock + 1, clock}, {math.MaxInt, clock}} {
				checkNew(t, rate.n, burst.n, now.n, pace.Pace{Rate: rate.want, Burst: burst.want, Tokens: burst.want, Last: now.want})
			}
		}
	}
}

// For each tick since Last Rate more, at most Burst; none at a tick that lies
// ahead of Last, which stays.
func TestP191At(t *testing.T) {
	p := pace.Pace{Rate: 7, Burst: 30, Tokens: 1, Last: 10}
	for _, x := range []struct{ now, tokens, last int }{
		{math.MinInt, 1, 10}, {-1, 1, 10}, {0, 1, 10}, {9, 1, 10}, {10, 1, 10}, {11, 8, 11}, {12, 15, 12}, {14, 29, 14}, {15, 30, 15}, {16, 30, 16}, {1000, 30, 1000},
		{clock - 1, 30, clock - 1}, {clock, 30, clock}, {clock + 1, 30, clock}, {math.MaxInt, 30, clock},
	} {
		checkAt(t, p, x.now, pace.Pace{Rate: 7, Burst: 30, Tokens: x.tokens, Last: x.last})
	}
	// Just as many as there may be come.
	checkAt(t, pace.Pace{Rate: 10, Burst: 100}, 10, pace.Pace{Rate: 10, Burst: 100, Tokens: 100, Last: 10})
	checkAt(t, pace.Pace{Rate: 10, Burst: 100}, 9, pace.Pace{Rate: 10, Burst: 100, Tokens: 90, Last: 9})
	// A Rate above Burst.
	checkAt(t, pace.Pace{Rate: 65535, Burst: 3}, 1, pace.Pace{Rate: 65535, Burst: 3, Tokens: 3, Last: 1})
}

// About the ends of the clock.
func TestP191AtClock(t *testing.T) {
	full := pace.Pace{Rate: mostRate, Burst: mostBurst, Tokens: mostBurst, Last: clock}
	empty := pace.Pace{Rate: mostRate, Burst: mostBurst}
	for _, now := range []int{clock, clock + 1, math.MaxInt} {
		checkAt(t, empty, now, full)
		checkAt(t, pace.Pace{Rate: 1, Burst: mostBurst}, now, pace.Pace{Rate: 1, Burst: mostBurst, Tokens: mostBurst, Last: clock})
		checkAt(t, pace.Pace{Rate: 4, Burst: 99, Last: clock - 2}, now, pace.Pace{Rate: 4, Burst: 99, Tokens: 8, Last: clock})
		checkAt(t, pace.Pace{Rate: 4, Burst: 99, Last: clock}, now, pace.Pace{Rate: 4, Burst: 99, Last: clock})
		checkAt(t, pace.Pace{Rate: 4, Burst: 99, Last: clock + 5}, now, pace.Pace{Rate: 4, Burst: 99, Last: clock})
	}
	// 16 ticks of the greatest Rate are 16 bytes less than the greatest Burst.
	checkAt(t, empty, 16, pace.Pace{Rate: mostRate, Burst: mostBurst, Tokens: mostBurst - 16, Last: 16})
	checkAt(t, empty, 17, pace.Pace{Rate: mostRate, Burst: mostBurst, Tokens: mostBurst, Last: 17})
	checkAt(t, empty, -1, empty)
	checkAt(t, pace.Pace{Rate: 4, Burst: 99, Last: -7}, 2, pace.Pace{Rate: 4, Burst: 99, Tokens: 8, Last: 2})
}

// Take of -1, 0, of all there is, of one more, of more than Burst: false, and At
// alone, where there are fewer.
func TestP191Take(t *testing.T) {
	p := pace.Pace{Rate: 10, Burst: 100, Tokens: 20, Last: 5}
	for _, x := range []struct {
		now, n, tokens, last int
		ok                   bool
	}{
		{5, math.MinInt, 20, 5, true}, {5, -1, 20, 5, true}, {5, 0, 20, 5, true}, {5, 1, 19, 5, true}, {5, 19, 1, 5, true}, {5, 20, 0, 5, true}, {5, 21, 20, 5, false},
		{5, 100, 20, 5, false}, {5, 101, 20, 5, false}, {5, math.MaxInt, 20, 5, false},
		{6, 30, 0, 6, true}, {6, 31, 30, 6, false}, {6, -1, 30, 6, true}, {7, 39, 1, 7, true},
		{13, 100, 0, 13, true}, {13, 101, 100, 13, false}, {12, 91, 90, 12, false}, {99, 100, 0, 99, true}, {99, 101, 100, 99, false},
		{4, 20, 0, 5, true}, {4, 21, 20, 5, false}, {0, 20, 0, 5, true}, {-1, 21, 20, 5, false}, {math.MinInt, 1, 19, 5, true},
		{clock, 100, 0, clock, true}, {clock + 1, 100, 0, clock, true}, {clock + 1, 101, 100, clock, false}, {math.MaxInt, math.MaxInt, 100, clock, false},
	} {
		checkTake(t, p, x.now, x.n, pace.Pace{Rate: 10, Burst: 100, Tokens: x.tokens, Last: x.last}, x.ok)
	}
	// What was taken once isn't there again.
	p, _ = p.Take(5, 20)
	checkTake(t, p, 5, 0, pace.Pace{Rate: 10, Burst: 100, Last: 5}, true)
	checkTake(t, p, 5, -1, pace.Pace{Rate: 10, Burst: 100, Last: 5}, true)
	checkTake(t, p, 5, 1, pace.Pace{Rate: 10, Burst: 100, Last: 5}, false)
	checkTake(t, p, 3, 1, pace.Pace{Rate: 10, Burst: 100, Last: 5}, false)
}

// A refused Take leaves just what At does, at any tick.
func TestP191Refused(t *testing.T) {
	p := pace.Pace{Rate: 3, Burst: 50, Tokens: 4, Last: 9}
	for _, now := range around(0, 9, 20, clock) {
		got, ok := p.Take(now, 51)
		if ok || got != p.At(now) {
			t.Errorf("%d: %+v %t", now, got, ok)
		}
	}
}

// When of what there is already, of what comes at the next tick, of what never
// comes.
func TestP191When(t *testing.T) {
	p := pace.Pace{Rate: 10, Burst: 100, Tokens: 5, Last: 7}
	for _, x := range []struct{ n, want int }{
		{math.MinInt, 7}, {-1, 7}, {0, 7}, {4, 7}, {5, 7}, {6, 8}, {14, 8}, {15, 8}, {16, 9}, {25, 9}, {26, 10}, {95, 16}, {96, 17}, {99, 17}, {100, 17},
		{101, -1}, {102, -1}, {math.MaxInt - 1, -1}, {math.MaxInt, -1},
	} {
		checkWhen(t, p, x.n, x.want)
	}
	full := pace.New(10, 100, 7)
	checkWhen(t, full, 100, 7)
	checkWhen(t, full, 101, -1)
	// A Rate of 1, and one above Burst.
	checkWhen(t, pace.Pace{Rate: 1, Burst: mostBurst, Last: 3}, mostBurst, 3+mostBurst)
	checkWhen(t, pace.Pace{Rate: 1, Burst: mostBurst, Last: 3}, mostBurst+1, -1)
	checkWhen(t, pace.Pace{Rate: mostRate, Burst: mostBurst}, mostBurst, 17)
	checkWhen(t, pace.Pace{Rate: mostRate, Burst: mostBurst}, mostBurst-16, 16)
	checkWhen(t, pace.Pace{Rate: mostRate, Burst: 9}, 9, 1)
}

// When of what comes just at the greatest tick, and beyond it.
func TestP191WhenClock(t *testing.T) {
	for _, x := range []struct{ tokens, last, n, want int }{
		{0, clock, 0, clock}, {0, clock, -1, clock}, {0, clock, 1, -1}, {5, clock, 5, clock}, {5, clock, 6, -1},
		{0, clock - 1, 0, clock - 1}, {0, clock - 1, 10, clock}, {0, clock - 1, 11, -1}, {3, clock - 1, 13, clock}, {3, clock - 1, 14, -1},
		{0, clock - 10, 100, clock}, {0, clock - 9, 100, -1}, {0, clock - 10, 90, clock - 1}, {0, clock - 10, 101, -1},
		{5, clock + 1, 5, clock}, {5, clock + 1, 6, -1}, {5, math.MaxInt, 5, clock}, {5, math.MaxInt, 6, -1},
	} {
		checkWhen(t, pace.Pace{Rate: 10, Burst: 100, Tokens: x.tokens, Last: x.last}, x.n, x.want)
	}
	late := pace.Pace{Rate: 1, Burst: mostBurst, Last: clock - mostBurst}
	checkWhen(t, late, mostBurst, clock)
	late.Last++
	checkWhen(t, late, mostBurst, -1)
	checkWhen(t, late, mostBurst-1, clock)
}

// At the tick that When tells so many can be taken, and not one tick ahead.
func TestP191WhenTakes(t *testing.T) {
	r := rand.New(rand.NewSource(1911))
	for range 20000 {
		p := pace.Pace{Rate: 1 + r.Intn(50), Burst: 1 + r.Intn(300), Last: r.Intn(100)}
		if r.Intn(4) == 0 {
			p.Last = clock - r.Intn(20)
		}
		p.Tokens = r.Intn(p.Burst + 1)
		n := r.Intn(p.Burst+5) - 2
		first := p.When(n)
		if want := when(p, n); first != want {
			t.Fatalf("%+v.When(%d): %d, not %d", p, n, first, want)
		}
		if first == -1 {
			if _, ok := p.Take(clock, n); ok {
				t.Fatalf("%+v.When(%d): can be taken", p, n)
			}
			continue
		}
		if _, ok := p.Take(first, n); !ok {
			t.Fatalf("%+v.When(%d): %d", p, n, first)
		}
		if first > p.Last {
			if _, ok := p.Take(first-1, n); ok {
				t.Fatalf("%+v.When(%d): %d, and one ahead", p, n, first)
			}
		}
	}
}

// Change at a tick ahead of the last one and behind it, to the same Rate,
// another one and such as count as the nearest.
func TestP191Change(t *testing.T) {
	p := pace.Pace{Rate: 10, Burst: 100, Tokens: 20, Last: 5}
	for _, now := range []struct{ now, tokens, last int }{
		{math.MinInt, 20, 5}, {-1, 20, 5}, {0, 20, 5}, {4, 20, 5}, {5, 20, 5}, {6, 30, 6}, {7, 40, 7}, {13, 100, 13}, {14, 100, 14}, {clock, 100, clock}, {clock + 1, 100, clock}, {math.MaxInt, 100, clock},
	} {
		for _, rate := range []struct{ n, want int }{
			{10, 10}, {9, 9}, {50, 50}, {2, 2}, {1, 1}, {0, 1}, {-1, 1}, {math.MinInt, 1}, {65534, 65534}, {65535, 65535}, {65536, 65535}, {math.MaxInt, 65535},
		} {
			checkChange(t, p, now.now, rate.n, pace.Pace{Rate: rate.want, Burst: 100, Tokens: now.tokens, Last: now.last})
		}
	}
	// From then on that Rate, until then the one ahead.
	p = p.Change(7, 3)
	checkAt(t, p, 6, pace.Pace{Rate: 3, Burst: 100, Tokens: 40, Last: 7})
	checkAt(t, p, 9, pace.Pace{Rate: 3, Burst: 100, Tokens: 46, Last: 9})
	checkWhen(t, p, 44, 9)
	p = p.Change(8, 0)
	checkAt(t, p, 10, pace.Pace{Rate: 1, Burst: 100, Tokens: 45, Last: 10})
}

// Of a Pace with numbers that New doesn't make they count as the nearest.
func TestP191Nearest(t *testing.T) {
	for _, x := range []struct{ p, want pace.Pace }{
		{pace.Pace{}, pace.Pace{Rate: 1, Burst: 1}},
		{pace.Pace{Rate: -1, Burst: -1, Tokens: -1, Last: -1}, pace.Pace{Rate: 1, Burst: 1}},
		{pace.Pace{Rate: math.MinInt, Burst: math.MinInt, Tokens: math.MinInt, Last: math.MinInt}, pace.Pace{Rate: 1, Burst: 1}},
		{pace.Pace{Rate: 65536, Burst: mostBurst + 1, Tokens: mostBurst + 1, Last: clock + 1}, pace.Pace{Rate: 65535, Burst: mostBurst, Tokens: mostBurst, Last: clock}},
		{pace.Pace{Rate: math.MaxInt, Burst: math.MaxInt, Tokens: math.MaxInt, Last: math.MaxInt}, pace.Pace{Rate: 65535, Burst: mostBurst, Tokens: mostBurst, Last: clock}},
		{pace.Pace{Rate: 5, Burst: 40, Tokens: 41, Last: 3}, pace.Pace{Rate: 5, Burst: 40, Tokens: 40, Last: 3}},
		{pace.Pace{Rate: 5, Burst: 40, Tokens: math.MaxInt, Last: 3}, pace.Pace{Rate: 5, Burst: 40, Tokens: 40, Last: 3}},
		{pace.Pace{Rate: 5, Burst: 40, Tokens: -1, Last: 3}, pace.Pace{Rate: 5, Burst: 40, Last: 3}},
		{pace.Pace{Rate: 5, Burst: 0, Tokens: 9, Last: 3}, pace.Pace{Rate: 5, Burst: 1, Tokens: 1, Last: 3}},
		{pace.Pace{Rate: 0, Burst: 40, Tokens: 9, Last: -5}, pace.Pace{Rate: 1, Burst: 40, Tokens: 9}},
	} {
		checkAt(t, x.p, -1, x.want)
		checkTake(t, x.p, -1, 0, x.want, true)
		checkTake(t, x.p, -1, math.MaxInt, x.want, false)
		checkWhen(t, x.p, x.want.Tokens, x.want.Last)
		checkWhen(t, x.p, x.want.Burst, when(x.want, x.want.Burst))
		checkWhen(t, x.p, x.want.Burst+1, -1)
		changed := x.want
		changed.Rate = 77
		checkChange(t, x.p, -1, 77, changed)
		left := x.want
		left.Tokens = 0
		checkTake(t, x.p, -1, x.want.Tokens, left, true)
		checkTake(t, x.p, -1, x.want.Tokens+1, x.want, false)
	}
}

// Each call, of any numbers.
func TestP191Any(t *testing.T) {
	r := rand.New(rand.NewSource(191))
	for range 100000 {
		p := pace.Pace{Rate: anyNumber(r), Burst: anyNumber(r), Tokens: anyNumber(r), Last: anyNumber(r)}
		if p.Rate < 300 { // The model goes tick by tick.
			p.Burst >>= 50
		}
		now, n, rate := anyNumber(r), anyNumber(r), anyNumber(r)
		checkAt(t, p, now, at(p, now))
		want, ok := take(p, now, n)
		checkTake(t, p, now, n, want, ok)
		want = at(p, now)
		want.Rate = nearest(1, rate, mostRate)
		checkChange(t, p, now, rate, want)
		checkNew(t, p.Rate, p.Burst, now, counts(pace.Pace{Rate: p.Rate, Burst: p.Burst, Tokens: math.MaxInt, Last: now}))
		checkWhen(t, p, n, when(p, n))
	}
}

// Behind any calls, held against the document's sentences.
func TestP191Calls(t *testing.T) {
	r := rand.New(rand.NewSource(1912))
	for range 500 {
		now := r.Intn(50)
		p := pace.New(1+r.Intn(40), 1+r.Intn(200), now)
		for range 100 {
			now += r.Intn(4) - r.Intn(12)/11
			n := r.Intn(p.Burst+9) / (1 + r.Intn(8))
			switch r.Intn(8) {
			case 0:
				rate := r.Intn(60) - 1
				want := at(p, now)
				want.Rate = nearest(1, rate, mostRate)
				checkChange(t, p, now, rate, want)
				p = want
			case 1:
				checkAt(t, p, now, at(p, now))
				checkWhen(t, p, n, when(p, n))
			default:
				want, ok := take(p, now, n)
				checkTake(t, p, now, n, want, ok)
				p = want
			}
		}
	}
}

// BOUND: in any ticks, one behind the other, no more is taken than Burst, and
// Rate for each of them.
func TestP192(t *testing.T) {
	r := rand.New(rand.NewSource(192))
	refused := 0
	for round := range 200 {
		const many = 80
		rate, burst := 1+r.Intn(30), 1+r.Intn(150)
		p := pace.New(rate, burst, r.Intn(9))
		if round%4 == 0 { // With numbers that New doesn't make.
			p.Tokens = math.MaxInt
		}
		var taken [many]int
		for tick := p.Last; tick < many; tick += 1 + r.Intn(9)/7 {
			for range r.Intn(6) {
				n := r.Intn(burst + 10)
				if r.Intn(3) == 0 {
					n = r.Intn(rate + 1)
				}
				now := tick
				if r.Intn(5) == 0 { // One that lies ahead brings nothing.
					now = r.Intn(tick+2) - 1
				}
				next, ok := p.Take(now, n)
				if p = next; ok {
					taken[max(p.Last, 0)] += n
				} else {
					refused++
				}
			}
			if p.When(burst) > p.Last+(burst+rate-1)/rate {
				t.Fatalf("%+v", p)
			}
		}
		for first := range many {
			sum := 0
			for last := first; last < many; last++ {
				if sum += taken[last]; sum > burst+rate*(last-first+1) {
					t.Fatalf("%d, %d: %d from %d to %d", rate, burst, sum, first, last)
				}
			}
		}
	}
	if refused == 0 {
		t.Error("none was refused")
	}
}

// Who takes as soon as may be, and as much, takes just Burst and Rate for each
// tick.
func TestP192Just(t *testing.T) {
	for _, x := range []struct{ rate, burst int }{{1, 1}, {1, 9}, {7, 7}, {10, 100}, {3, 100}, {mostRate, mostBurst}} {
		p, sum := pace.New(x.rate, x.burst, 0), 0
		for now := range 60 {
			for _, n := range []int{x.burst, (x.burst + 1) / 2, x.rate, 1} {
				for {
					next, ok := p.Take(now, n)
					if p = next; !ok {
						break
					}
					sum += n
				}
			}
			if sum != x.burst+x.rate*now {
				t.Fatalf("%+v: %d at %d", x, sum, now)
			}
		}
	}
	// Who took nothing for long has no more than Burst.
	p := pace.New(10, 100, 0)
	p, _ = p.Take(0, 100)
	if _, ok := p.Take(1000, 101); ok {
		t.Error("more than Burst")
	}
	p, ok := p.Take(1000, 100)
	if _, more := p.Take(1000, 1); !ok || more {
		t.Errorf("%+v", p)
	}
}
