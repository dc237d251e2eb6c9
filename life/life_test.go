package life_test

import (
	"math"
	"math/rand"
	"testing"

	"cordelle/life"
)

// The document's bounds, as it says them.
const (
	clock = 1099511627776 // 2^40
	ticks = 1048576       // 2^20
)

// usual is a Config whose numbers are far from one another.
var usual = life.Config{Timeout: 10, Low: 5, High: 50, Strikes: 3}

// states are all of them, and such as are none.
var states = []int{life.Probing, life.Active, life.Congested, life.Inactive, -1, 4, 256, math.MinInt, math.MaxInt}

// nearest is n as it counts in a range.
func nearest(least, n, most int) int {
	switch {
	case n < least:
		return least
	case n > most:
		return most
	}
	return n
}

// clipped is a Config by the document's sentences.
func clipped(c life.Config) life.Config {
	want := life.Config{Timeout: nearest(1, c.Timeout, ticks), Low: nearest(0, c.Low, 255), High: nearest(0, c.High, 255), Strikes: nearest(1, c.Strikes, 100)}
	if want.High < want.Low {
		want.High = want.Low
	}
	return want
}

// counts is a Life as it counts, by the document's sentences.
func counts(l life.Life) life.Life {
	switch l.State {
	case life.Probing, life.Active, life.Congested:
	default:
		l.State = life.Inactive
	}
	if l.Strikes < 0 {
		l.Strikes = 0
	}
	l.Heard = nearest(0, l.Heard, clock)
	return l
}

// reported is what a report makes of a Life, by the document's sentences.
func reported(l life.Life, c life.Config, fraction, now int) (life.Life, bool) {
	l, c = counts(l), clipped(c)
	was := l.State
	l.Heard = nearest(0, now, clock)
	if fraction <= c.Low {
		switch was {
		case life.Probing, life.Congested:
			l.State = life.Active
		case life.Inactive:
			l.State = life.Probing
		}
		l.Strikes = 0
	} else if fraction > c.High {
		many := l.Strikes >= c.Strikes || l.Strikes+1 >= c.Strikes
		switch {
		case many || was == life.Inactive:
			l.State, l.Strikes = life.Inactive, 0
		case was == life.Active:
			l.State, l.Strikes = life.Congested, l.Strikes+1
		default:
			l.Strikes++
		}
	}
	return l, l.State != was
}

// ticked is what a tick makes of a Life, by the document's sentences.
func ticked(l life.Life, c life.Config, now int) (life.Life, bool) {
	l, c = counts(l), clipped(c)
	if l.State != life.Inactive && nearest(0, now, clock) > l.Heard+c.Timeout {
		return life.Life{State: life.Inactive, Heard: l.Heard}, true
	}
	return l, false
}

// around answers numbers about each of these.
func around(l ...int) []int {
	all := []int{math.MinInt, math.MinInt + 1, math.MaxInt - 1, math.MaxInt}
	for _, n := range l {
		all = append(all, n-1, n, n+1)
	}
	return all
}

// anyNumber is one of any size.
func anyNumber(r *rand.Rand) int { return int(r.Uint64()) >> r.Intn(64) }

func checkReport(t *testing.T, l life.Life, c life.Config, fraction, now int, want life.Life, other bool) {
	t.Helper()
	if got, is := l.Report(c, fraction, now); got != want || is != other {
		t.Fatalf("%+v.Report(%+v, %d, %d): %+v %t, not %+v %t", l, c, fraction, now, got, is, want, other)
	}
}

func checkTick(t *testing.T, l life.Life, c life.Config, now int, want life.Life, other bool) {
	t.Helper()
	if got, is := l.Tick(c, now); got != want || is != other {
		t.Fatalf("%+v.Tick(%+v, %d): %+v %t, not %+v %t", l, c, now, got, is, want, other)
	}
}

// The document's example, and the States' numbers.
func TestP171Example(t *testing.T) {
	l := life.New(0)
	if l != (life.Life{}) {
		t.Errorf("%+v", l)
	}
	checkReport(t, l, usual, 5, 1, life.Life{State: 1, Heard: 1}, true)
	checkReport(t, life.Life{State: 1, Heard: 1}, usual, 51, 2, life.Life{State: 2, Heard: 2, Strikes: 1}, true)
	if life.Probing != 0 || life.Active != 1 || life.Congested != 2 || life.Inactive != 3 {
		t.Error("States")
	}
}

// A Config whose numbers are -1, 0, 1, as great as may be and beyond, and High
// below Low.
func TestP171Clip(t *testing.T) {
	for _, x := range []struct{ c, want life.Config }{
		{life.Config{}, life.Config{Timeout: 1, Strikes: 1}},
		{life.Config{Timeout: -1, Low: -1, High: -1, Strikes: -1}, life.Config{Timeout: 1, Strikes: 1}},
		{life.Config{Timeout: 1, Low: 1, High: 1, Strikes: 1}, life.Config{Timeout: 1, Low: 1, High: 1, Strikes: 1}},
		{life.Config{Timeout: 2, Low: 2, High: 3, Strikes: 4}, life.Config{Timeout: 2, Low: 2, High: 3, Strikes: 4}},
		{life.Config{Timeout: ticks - 1, Low: 254, High: 255, Strikes: 99}, life.Config{Timeout: ticks - 1, Low: 254, High: 255, Strikes: 99}},
		{life.Config{Timeout: ticks, Low: 255, High: 255, Strikes: 100}, life.Config{Timeout: ticks, Low: 255, High: 255, Strikes: 100}},
		{life.Config{Timeout: ticks + 1, Low: 256, High: 256, Strikes: 101}, life.Config{Timeout: ticks, Low: 255, High: 255, Strikes: 100}},
		{life.Config{Timeout: 5, Low: 6, High: 5, Strikes: 7}, life.Config{Timeout: 5, Low: 6, High: 6, Strikes: 7}},
		{life.Config{Timeout: 5, Low: 256, High: 5, Strikes: 7}, life.Config{Timeout: 5, Low: 255, High: 255, Strikes: 7}},
		{life.Config{Timeout: 5, Low: 0, High: -9, Strikes: 7}, life.Config{Timeout: 5, Strikes: 7}},
		{life.Config{Timeout: math.MinInt, Low: math.MaxInt, High: math.MinInt, Strikes: math.MaxInt}, life.Config{Timeout: 1, Low: 255, High: 255, Strikes: 100}},
		{life.Config{Timeout: math.MaxInt, Low: math.MinInt, High: math.MaxInt, Strikes: math.MinInt}, life.Config{Timeout: ticks, High: 255, Strikes: 1}},
	} {
		if got := x.c.Clip(); got != x.want || got.Clip() != got {
			t.Errorf("%+v: %+v, not %+v", x.c, got, x.want)
		}
	}
	r := rand.New(rand.NewSource(171))
	for range 50000 {
		c := life.Config{Timeout: anyNumber(r), Low: anyNumber(r), High: anyNumber(r), Strikes: anyNumber(r)}
		if got, want := c.Clip(), clipped(c); got != want {
			t.Fatalf("%+v: %+v, not %+v", c, got, want)
		}
	}
}

// New at ticks of -1, 0, 2^40 and beyond.
func TestP171New(t *testing.T) {
	for _, x := range []struct{ now, heard int }{
		{math.MinInt, 0}, {-1, 0}, {0, 0}, {1, 1}, {77, 77}, {clock - 1, clock - 1}, {clock, clock}, {clock + 1, clock}, {math.MaxInt, clock},
	} {
		if got := life.New(x.now); got != (life.Life{State: life.Probing, Heard: x.heard}) {
			t.Errorf("%d: %+v", x.now, got)
		}
	}
}

// Each State with a low, a middle and a high report, and Strikes one below as
// many as may be, at it and above; it is told whether State is another one.
func TestP171Report(t *testing.T) {
	const probing, active, congested, inactive = life.Probing, life.Active, life.Congested, life.Inactive
	for _, x := range []struct {
		state, strikes, fraction int
		want, left               int
		other                    bool
	}{
		{probing, 0, 5, active, 0, true}, {probing, 2, 5, active, 0, true}, {probing, 9, 5, active, 0, true},
		{active, 0, 5, active, 0, false}, {active, 2, 5, active, 0, false}, {active, 9, 5, active, 0, false},
		{congested, 0, 5, active, 0, true}, {congested, 2, 5, active, 0, true}, {congested, 9, 5, active, 0, true},
		{inactive, 0, 5, probing, 0, true}, {inactive, 2, 5, probing, 0, true}, {inactive, 9, 5, probing, 0, true},
		{probing, 0, 30, probing, 0, false}, {probing, 2, 30, probing, 2, false}, {probing, 3, 30, probing, 3, false}, {probing, 9, 30, probing, 9, false},
		{active, 0, 30, active, 0, false}, {active, 2, 30, active, 2, false}, {active, 3, 30, active, 3, false}, {active, 9, 30, active, 9, false},
		{congested, 0, 30, congested, 0, false}, {congested, 2, 30, congested, 2, false}, {congested, 3, 30, congested, 3, false}, {congested, 9, 30, congested, 9, false},
		{inactive, 0, 30, inactive, 0, false}, {inactive, 2, 30, inactive, 2, false}, {inactive, 9, 30, inactive, 9, false},
		{probing, 0, 51, probing, 1, false}, {probing, 1, 51, probing, 2, false}, {probing, 2, 51, inactive, 0, true}, {probing, 3, 51, inactive, 0, true}, {probing, 4, 51, inactive, 0, true},
		{active, 0, 51, congested, 1, true}, {active, 1, 51, congested, 2, true}, {active, 2, 51, inactive, 0, true}, {active, 3, 51, inactive, 0, true}, {active, 4, 51, inactive, 0, true},
		{congested, 0, 51, congested, 1, false}, {congested, 1, 51, congested, 2, false}, {congested, 2, 51, inactive, 0, true}, {congested, 3, 51, inactive, 0, true}, {congested, 4, 51, inactive, 0, true},
		{inactive, 0, 51, inactive, 0, false}, {inactive, 1, 51, inactive, 0, false}, {inactive, 2, 51, inactive, 0, false}, {inactive, 3, 51, inactive, 0, false},
		{probing, -1, 30, probing, 0, false}, {probing, -1, 51, probing, 1, false}, {active, math.MinInt, 51, congested, 1, true}, {congested, -9, 5, active, 0, true}, {inactive, -1, 30, inactive, 0, false},
		{probing, math.MaxInt, 51, inactive, 0, true}, {active, math.MaxInt - 1, 51, inactive, 0, true}, {congested, math.MaxInt, 30, congested, math.MaxInt, false},
		{4, 0, 5, probing, 0, true}, {-1, 0, 5, probing, 0, true}, {4, 2, 30, inactive, 2, false}, {-1, -2, 30, inactive, 0, false}, {4, 1, 51, inactive, 0, false}, {-1, 0, 51, inactive, 0, false},
	} {
		checkReport(t, life.Life{State: x.state, Heard: 3, Strikes: x.strikes}, usual, x.fraction, 8, life.Life{State: x.want, Heard: 8, Strikes: x.left}, x.other)
	}
}

// A fraction at Low, one above it, at High, one above it, -1, 256 and beyond.
func TestP171Fraction(t *testing.T) {
	const low, middle, high = 0, 1, 2
	for _, x := range []struct{ least, most, fraction, kind int }{
		{5, 50, math.MinInt, low}, {5, 50, -1, low}, {5, 50, 0, low}, {5, 50, 4, low}, {5, 50, 5, low},
		{5, 50, 6, middle}, {5, 50, 49, middle}, {5, 50, 50, middle},
		{5, 50, 51, high}, {5, 50, 255, high}, {5, 50, 256, high}, {5, 50, 257, high}, {5, 50, math.MaxInt, high},
		{0, 0, -1, low}, {0, 0, 0, low}, {0, 0, 1, high},
		{0, 1, 0, low}, {0, 1, 1, middle}, {0, 1, 2, high},
		{0, 255, 0, low}, {0, 255, 1, middle}, {0, 255, 255, middle}, {0, 255, 256, high}, {0, 255, math.MaxInt, high},
		{255, 255, 255, low}, {255, 255, 256, high}, {254, 255, 254, low}, {254, 255, 255, middle},
		{70, 20, 20, low}, {70, 20, 21, low}, {70, 20, 70, low}, {70, 20, 71, high}, // High is at least Low
		{-1, -1, -1, low}, {-1, -1, 0, low}, {-1, -1, 1, high}, {300, 300, 255, low}, {300, 300, 256, high}, {300, 300, 299, high}, {0, 300, 255, middle}, {0, 300, 256, high},
	} {
		c := life.Config{Timeout: 9, Low: x.least, High: x.most, Strikes: 9}
		want := []life.Life{{State: life.Active, Heard: 6}, {State: life.Active, Heard: 6, Strikes: 4}, {State: life.Congested, Heard: 6, Strikes: 5}}[x.kind]
		checkReport(t, life.Life{State: life.Active, Strikes: 4}, c, x.fraction, 6, want, x.kind == high)
	}
}

// As many high ones in a row as may be: 1 and 100 of them, and beyond.
func TestP171Strikes(t *testing.T) {
	for _, x := range []struct{ strikes, want int }{{math.MinInt, 1}, {-1, 1}, {0, 1}, {1, 1}, {2, 2}, {99, 99}, {100, 100}, {101, 100}, {math.MaxInt, 100}} {
		c := life.Config{Timeout: 9, Low: 5, High: 50, Strikes: x.strikes}
		l, count := life.New(0), 0
		for l.Sends() && count < 200 {
			l, _ = l.Report(c, 200, 0)
			count++
		}
		if count != x.want {
			t.Errorf("%d: %d, not %d", x.strikes, count, x.want)
		}
	}
}

// A report at a tick of -1, 0, 2^40 and beyond: Heard is now, also where that is
// ahead of what it was.
func TestP171ReportTicks(t *testing.T) {
	for _, heard := range around(0, 100, clock) {
		for _, x := range []struct{ now, want int }{{math.MinInt, 0}, {-1, 0}, {0, 0}, {1, 1}, {99, 99}, {clock - 1, clock - 1}, {clock, clock}, {clock + 1, clock}, {math.MaxInt, clock}} {
			l := life.Life{State: life.Congested, Heard: heard}
			checkReport(t, l, usual, 0, x.now, life.Life{State: life.Active, Heard: x.want}, true)
			checkReport(t, l, usual, 30, x.now, life.Life{State: life.Congested, Heard: x.want}, false)
			checkReport(t, l, usual, 200, x.now, life.Life{State: life.Congested, Heard: x.want, Strikes: 1}, false)
		}
	}
}

// Tick at Timeout, one more and ahead of Heard, in each State.
func TestP171Tick(t *testing.T) {
	for _, state := range states {
		sends := state >= life.Probing && state <= life.Congested
		counted := state
		if !sends {
			counted = life.Inactive
		}
		for _, x := range []struct {
			heard, now int
			late       bool
		}{
			{100, 110, false}, {100, 111, true}, {100, 112, true}, {100, 109, false}, {100, 100, false}, {100, 99, false}, {100, 0, false}, {100, -1, false}, {100, math.MinInt, false}, {100, math.MaxInt, true},
			{0, 10, false}, {0, 11, true}, {-7, 10, false}, {-7, 11, true}, {math.MinInt, 10, false}, {math.MinInt, 11, true},
			{clock - 10, clock, false}, {clock - 10, clock + 1, false}, {clock - 10, math.MaxInt, false}, {clock - 11, clock, true}, {clock - 11, clock - 1, false}, {clock - 11, clock + 1, true},
			{clock, clock, false}, {clock, clock + 99, false}, {clock + 99, clock, false}, {math.MaxInt, math.MinInt, false}, {math.MinInt, math.MaxInt, true},
		} {
			for _, strikes := range []int{0, 2} {
				l := life.Life{State: state, Heard: x.heard, Strikes: strikes}
				want, other := life.Life{State: counted, Heard: nearest(0, x.heard, clock), Strikes: strikes}, false
				if x.late && sends {
					want.State, want.Strikes, other = life.Inactive, 0, true
				}
				checkTick(t, l, usual, x.now, want, other)
			}
		}
	}
}

// A Timeout of 1 and of 2^20, and beyond; Strikes below 0 count as 0.
func TestP171TickBounds(t *testing.T) {
	for _, x := range []struct{ timeout, last int }{{math.MinInt, 1}, {-1, 1}, {0, 1}, {1, 1}, {2, 2}, {ticks - 1, ticks - 1}, {ticks, ticks}, {ticks + 1, ticks}, {math.MaxInt, ticks}} {
		c := life.Config{Timeout: x.timeout}
		l := life.Life{State: life.Active, Heard: 50, Strikes: -1}
		checkTick(t, l, c, 50+x.last, life.Life{State: life.Active, Heard: 50}, false)
		checkTick(t, l, c, 51+x.last, life.Life{State: life.Inactive, Heard: 50}, true)
	}
	checkTick(t, life.Life{State: life.Probing, Strikes: math.MaxInt}, usual, 3, life.Life{State: life.Probing, Strikes: math.MaxInt}, false)
	checkTick(t, life.Life{State: life.Inactive, Strikes: math.MinInt}, usual, 30, life.Life{State: life.Inactive}, false)
	checkTick(t, life.Life{State: life.Inactive, Strikes: 5}, usual, 30, life.Life{State: life.Inactive, Strikes: 5}, false)
}

// Whatever the numbers are.
func TestP171Any(t *testing.T) {
	configs := []life.Config{{}, usual, {Timeout: -1, Low: -1, High: -1, Strikes: -1}, {Timeout: 1, Low: 1, High: 1, Strikes: 1}, {Timeout: ticks, Low: 255, High: 255, Strikes: 100}, {Timeout: ticks + 1, Low: 256, High: 256, Strikes: 101}, {Timeout: 3, Low: 9, High: 4, Strikes: 2}}
	for _, c := range configs {
		for _, state := range states {
			for _, heard := range around(0, clock) {
				for _, strikes := range around(0, 2, 100) {
					l := life.Life{State: state, Heard: heard, Strikes: strikes}
					for _, now := range around(0, heard, clock) {
						for _, fraction := range around(1, 5, 50, 255) {
							want, other := reported(l, c, fraction, now)
							checkReport(t, l, c, fraction, now, want, other)
						}
						want, other := ticked(l, c, now)
						checkTick(t, l, c, now, want, other)
					}
				}
			}
		}
	}
	r := rand.New(rand.NewSource(1712))
	for range 100000 {
		c := life.Config{Timeout: anyNumber(r), Low: anyNumber(r), High: anyNumber(r), Strikes: anyNumber(r)}
		l := life.Life{State: r.Intn(6) - 1, Heard: anyNumber(r), Strikes: anyNumber(r)}
		fraction, now := anyNumber(r), anyNumber(r)
		want, other := reported(l, c, fraction, now)
		checkReport(t, l, c, fraction, now, want, other)
		want, other = ticked(l, c, now)
		checkTick(t, l, c, now, want, other)
	}
}

// All but an Inactive one sends; a State that is none counts as Inactive.
func TestP171Sends(t *testing.T) {
	for _, state := range states {
		for _, strikes := range around(0, 100) {
			want := state == life.Probing || state == life.Active || state == life.Congested
			if got := (life.Life{State: state, Heard: strikes, Strikes: strikes}).Sends(); got != want {
				t.Errorf("%d: %t", state, got)
			}
		}
	}
}

// Weight of 0, 1, 2, 3, 4, 65535 and 65536, and beyond, in each State.
func TestP171Weight(t *testing.T) {
	for _, x := range []struct{ rate, active, congested, probing int }{
		{math.MinInt, 1, 1, 1}, {-1, 1, 1, 1}, {0, 1, 1, 1}, {1, 1, 1, 1}, {2, 2, 1, 1}, {3, 3, 1, 1}, {4, 4, 2, 1}, {5, 5, 2, 1}, {7, 7, 3, 1}, {8, 8, 4, 2}, {100, 100, 50, 25},
		{65534, 65534, 32767, 16383}, {65535, 65535, 32767, 16383}, {65536, 65535, 32767, 16383}, {65540, 65535, 32767, 16383}, {math.MaxInt, 65535, 32767, 16383},
	} {
		for _, state := range states {
			want := 0
			switch state {
			case life.Active:
				want = x.active
			case life.Congested:
				want = x.congested
			case life.Probing:
				want = x.probing
			}
			for _, l := range []life.Life{{State: state}, {State: state, Heard: -1, Strikes: -1}, {State: state, Heard: clock + 1, Strikes: 101}} {
				if got := l.Weight(x.rate); got != want {
					t.Errorf("%+v.Weight(%d): %d, not %d", l, x.rate, got, want)
				}
			}
		}
	}
}

// A path without a report for Timeout ticks is Inactive by the next one, and not
// ahead of that.
func TestP172(t *testing.T) {
	r := rand.New(rand.NewSource(172))
	for range 3000 {
		c := life.Config{Timeout: 1 + r.Intn(40), Low: r.Intn(100), High: 100 + r.Intn(100), Strikes: 1 + r.Intn(5)}
		now := r.Intn(1000)
		l, heard := life.New(now), now
		for range 150 {
			now++
			if r.Intn(8) == 0 {
				l, _ = l.Report(c, r.Intn(256), now)
				heard = now
			}
			sent := l.Sends()
			next, other := l.Tick(c, now)
			if late := now > heard+c.Timeout; next.Sends() != (sent && !late) || other != (sent && late) || late && next.State != life.Inactive {
				t.Fatalf("%+v: %+v at %d, then %+v", c, l, now, next)
			}
			l = next
		}
	}
}

// A path is Inactive only by that, or by as many high reports in a row as may
// be: those that are neither high nor low don't count.
func TestP173Only(t *testing.T) {
	r := rand.New(rand.NewSource(173))
	ended := 0
	for range 2000 {
		c := life.Config{Timeout: 20, Low: 60, High: 120, Strikes: 1 + r.Intn(6)}
		l, row, heard := life.New(0), 0, 0
		for now := range 120 {
			next, other := l.Tick(c, now)
			if other != (l.Sends() && now-heard > 20) || !other && next != l {
				t.Fatalf("%+v at %d: %+v", l, now, next)
			}
			if l = next; other {
				row = 0
			}
			if r.Intn(4) == 0 {
				continue
			}
			fraction := r.Intn(256)
			next, other = l.Report(c, fraction, now)
			heard = now
			switch {
			case fraction <= 60:
				row = 0
			case fraction > 120 && l.Sends():
				row++
			}
			falls := l.Sends() && row == c.Strikes
			if l.Sends() && next.Sends() == falls || falls && !other {
				t.Fatalf("%+v: %d at %d, %d in a row: %+v", l, fraction, now, row, next)
			}
			if falls {
				row = 0
				ended++
			}
			l = next
		}
	}
	if ended == 0 {
		t.Error("none was Inactive")
	}
}

// Any number of middle reports between the high ones changes nothing; one low
// report does.
func TestP173Row(t *testing.T) {
	for strikes := 1; strikes <= 100; strikes += 9 {
		c := life.Config{Timeout: 9, Low: 5, High: 50, Strikes: strikes}
		for _, begin := range []int{life.Probing, life.Active, life.Congested} {
			l := life.Life{State: begin}
			for range strikes - 1 {
				l, _ = l.Report(c, 51, 0)
				for range 3 {
					l, _ = l.Report(c, 50, 0)
					l, _ = l.Report(c, 6, 0)
				}
			}
			if !l.Sends() || l.Strikes != strikes-1 {
				t.Fatalf("%d: %+v", strikes, l)
			}
			checkReport(t, l, c, 51, 0, life.Life{State: life.Inactive}, true)
			low, _ := l.Report(c, 5, 0)
			if low.State != life.Active || low.Strikes != 0 {
				t.Fatalf("%d: %+v", strikes, low)
			}
		}
	}
}

// One that is Inactive comes back by two low reports: by one it is Probing, and
// sends; others bring it nothing.
func TestP173Back(t *testing.T) {
	for _, state := range []int{life.Inactive, 9, -1} {
		l := life.Life{State: state, Heard: 1}
		for _, fraction := range []int{6, 50, 51, 255, 300} {
			checkReport(t, l, usual, fraction, 2, life.Life{State: life.Inactive, Heard: 2}, false)
		}
		checkReport(t, l, usual, 5, 2, life.Life{State: life.Probing, Heard: 2}, true)
		for _, fraction := range []int{6, 50} {
			checkReport(t, life.Life{State: life.Probing, Heard: 2}, usual, fraction, 3, life.Life{State: life.Probing, Heard: 3}, false)
		}
		checkReport(t, life.Life{State: life.Probing, Heard: 2}, usual, 5, 3, life.Life{State: life.Active, Heard: 3}, true)
	}
	// No tick brings it back.
	for _, now := range around(0, 11, clock) {
		checkTick(t, life.Life{State: life.Inactive, Heard: 1}, usual, now, life.Life{State: life.Inactive, Heard: 1}, false)
	}
}
