package gauge_test

import (
	"math"
	"math/bits"
	"math/rand"
	"slices"
	"sort"
	"testing"

	"cordelle/gauge"
)

// The document's bounds, as it says them.
const (
	clock  = 1099511627776  // 2^40
	scaled = 17592186044416 // 2^44
	trip   = 16777216       // 2^24
	ticks  = 1048576        // 2^20
	bytes  = 1073741824     // 2^30
)

// among brings n among the two.
func among(least, n, most int) int {
	switch {
	case n < least:
		return least
	case n > most:
		return most
	}
	return n
}

// down is a by b, rounded down.
func down(a, b int) int {
	for a%b != 0 {
		a--
	}
	return a / b
}

// apart is how far two numbers are from one another.
func apart(a, b int) int {
	if a < b {
		return b - a
	}
	return a - b
}

// nextJitter is what a Jitter becomes by the document's sentences.
func nextJitter(j gauge.Jitter, sent, came int) gauge.Jitter {
	transit := among(0, came, clock) - among(0, sent, clock)
	want := gauge.Jitter{Scaled: among(0, j.Scaled, scaled), Transit: transit, Has: true}
	if j.Has {
		d := apart(transit, among(-clock, j.Transit, clock))
		want.Scaled = want.Scaled + d - down(want.Scaled+8, 16)
	}
	return want
}

// nextRate is what a Rate becomes by the document's sentences.
func nextRate(r gauge.Rate, now, more int) gauge.Rate {
	r = gauge.Rate{Scaled: among(0, r.Scaled, scaled), Since: among(0, r.Since, clock), Bytes: among(0, r.Bytes, scaled)}
	now = among(0, now, clock)
	if now < r.Since {
		now = r.Since
	}
	r.Bytes += among(0, more, bytes)
	if now >= r.Since+65*64 {
		return gauge.Rate{Since: now - (now-r.Since)%64}
	}
	for now-r.Since >= 64 {
		r.Scaled = r.Scaled - down(r.Scaled, 8) + down(4*r.Bytes, 8)
		r.Bytes = 0
		r.Since += 64
	}
	return r
}

// nextTrip is what a Trip becomes by the document's sentences.
func nextTrip(t gauge.Trip, sample int) gauge.Trip {
	sample = among(0, sample, ticks)
	if !t.Has {
		return gauge.Trip{Smooth: sample * 8, Spread: sample * 2, Has: true}
	}
	smooth, spread := among(0, t.Smooth, trip), among(0, t.Spread, trip)
	d := sample - down(smooth, 8)
	return gauge.Trip{Smooth: smooth + d, Spread: spread + apart(d, 0) - down(spread, 4), Has: true}
}

// around answers numbers about each of these.
func around(l ...int) []int {
	all := []int{math.MinInt, math.MinInt + 1, -1 << 62, 1 << 62, math.MaxInt - 1, math.MaxInt}
	for _, n := range l {
		for i := -2; i <= 2; i++ {
			all = append(all, n+i)
		}
	}
	return all
}

// anyNumber is one of any size.
func anyNumber(r *rand.Rand) int { return int(r.Uint64()) >> r.Intn(64) }

func checkJitter(t *testing.T, j gauge.Jitter, sent, came int, want gauge.Jitter) {
	t.Helper()
	if got := j.Next(sent, came); got != want {
		t.Fatalf("%+v.Next(%d, %d): %+v, not %+v", j, sent, came, got, want)
	}
}

func checkRate(t *testing.T, r gauge.Rate, now, more int, want gauge.Rate) {
	t.Helper()
	if got := r.Next(now, more); got != want {
		t.Fatalf("%+v.Next(%d, %d): %+v, not %+v", r, now, more, got, want)
	}
}

func checkTrip(t *testing.T, x gauge.Trip, sample int, want gauge.Trip) {
	t.Helper()
	if got := x.Next(sample); got != want {
		t.Fatalf("%+v.Next(%d): %+v, not %+v", x, sample, got, want)
	}
}

// The document's example: packets that take 5, 21.
func TestP151Example(t *testing.T) {
	j := gauge.Jitter{}.Next(100, 105).Next(120, 141)
	if j != (gauge.Jitter{Scaled: 16, Transit: 21, Has: true}) || j.Value() != 1 {
		t.Errorf("%+v %d", j, j.Value())
	}
}

// The first packet is only kept; each other one is held against the one ahead
// of it, also one that came ahead of its being sent.
func TestP151Jitter(t *testing.T) {
	for _, x := range []struct {
		j          gauge.Jitter
		sent, came int
		want       gauge.Jitter
	}{
		{gauge.Jitter{}, 0, 0, gauge.Jitter{Has: true}},
		{gauge.Jitter{}, 10, 25, gauge.Jitter{Transit: 15, Has: true}},
		{gauge.Jitter{}, 25, 10, gauge.Jitter{Transit: -15, Has: true}},
		{gauge.Jitter{Scaled: 77, Transit: 9}, 1, 4, gauge.Jitter{Scaled: 77, Transit: 3, Has: true}},
		{gauge.Jitter{Transit: 15, Has: true}, 10, 25, gauge.Jitter{Transit: 15, Has: true}},
		{gauge.Jitter{Transit: 15, Has: true}, 10, 28, gauge.Jitter{Scaled: 3, Transit: 18, Has: true}},
		{gauge.Jitter{Transit: 15, Has: true}, 10, 20, gauge.Jitter{Scaled: 5, Transit: 10, Has: true}},
		{gauge.Jitter{Transit: 15, Has: true}, 10, 3, gauge.Jitter{Scaled: 22, Transit: -7, Has: true}},
		{gauge.Jitter{Transit: -7, Has: true}, 10, 3, gauge.Jitter{Transit: -7, Has: true}},
		{gauge.Jitter{Transit: -7, Has: true}, 9, 1, gauge.Jitter{Scaled: 1, Transit: -8, Has: true}},
		{gauge.Jitter{Transit: -7, Has: true}, 9, 9, gauge.Jitter{Scaled: 7, Has: true}},
		{gauge.Jitter{Scaled: 7, Has: true}, 9, 9, gauge.Jitter{Scaled: 7, Has: true}},
		{gauge.Jitter{Scaled: 8, Has: true}, 9, 9, gauge.Jitter{Scaled: 7, Has: true}},
		{gauge.Jitter{Scaled: 15, Has: true}, 9, 9, gauge.Jitter{Scaled: 14, Has: true}},
		{gauge.Jitter{Scaled: 16, Has: true}, 9, 9, gauge.Jitter{Scaled: 15, Has: true}},
		{gauge.Jitter{Scaled: 23, Has: true}, 9, 9, gauge.Jitter{Scaled: 22, Has: true}},
		{gauge.Jitter{Scaled: 24, Has: true}, 9, 9, gauge.Jitter{Scaled: 22, Has: true}},
		{gauge.Jitter{Scaled: 1000, Has: true}, 0, 100, gauge.Jitter{Scaled: 1037, Transit: 100, Has: true}},
	} {
		checkJitter(t, x.j, x.sent, x.came, x.want)
	}
}

// Ticks, and what was kept, beyond their bounds count as the nearest.
func TestP151JitterBounds(t *testing.T) {
	for _, x := range []struct {
		j          gauge.Jitter
		sent, came int
		want       gauge.Jitter
	}{
		{gauge.Jitter{}, -1, 5, gauge.Jitter{Transit: 5, Has: true}},
		{gauge.Jitter{}, 5, -1, gauge.Jitter{Transit: -5, Has: true}},
		{gauge.Jitter{}, math.MinInt, math.MinInt, gauge.Jitter{Has: true}},
		{gauge.Jitter{}, 0, clock, gauge.Jitter{Transit: clock, Has: true}},
		{gauge.Jitter{}, 0, clock + 1, gauge.Jitter{Transit: clock, Has: true}},
		{gauge.Jitter{}, clock, 0, gauge.Jitter{Transit: -clock, Has: true}},
		{gauge.Jitter{}, clock + 1, 0, gauge.Jitter{Transit: -clock, Has: true}},
		{gauge.Jitter{}, math.MaxInt, math.MinInt, gauge.Jitter{Transit: -clock, Has: true}},
		{gauge.Jitter{}, math.MinInt, math.MaxInt, gauge.Jitter{Transit: clock, Has: true}},
		{gauge.Jitter{Scaled: -1}, 0, 0, gauge.Jitter{Has: true}},
		{gauge.Jitter{Scaled: scaled + 1}, 0, 0, gauge.Jitter{Scaled: scaled, Has: true}},
		{gauge.Jitter{Scaled: -1, Has: true}, 0, 0, gauge.Jitter{Has: true}},
		{gauge.Jitter{Scaled: -1, Has: true}, 0, 9, gauge.Jitter{Scaled: 9, Transit: 9, Has: true}},
		{gauge.Jitter{Scaled: scaled, Has: true}, 0, 0, gauge.Jitter{Scaled: scaled - clock, Has: true}},
		{gauge.Jitter{Scaled: scaled + 1, Has: true}, 0, 0, gauge.Jitter{Scaled: scaled - clock, Has: true}},
		{gauge.Jitter{Scaled: math.MaxInt, Has: true}, 0, 0, gauge.Jitter{Scaled: scaled - clock, Has: true}},
		{gauge.Jitter{Transit: clock, Has: true}, 0, 0, gauge.Jitter{Scaled: clock, Has: true}},
		{gauge.Jitter{Transit: clock + 1, Has: true}, 0, 0, gauge.Jitter{Scaled: clock, Has: true}},
		{gauge.Jitter{Transit: -clock, Has: true}, 0, 0, gauge.Jitter{Scaled: clock, Has: true}},
		{gauge.Jitter{Transit: -clock - 1, Has: true}, 0, 0, gauge.Jitter{Scaled: clock, Has: true}},
		{gauge.Jitter{Transit: math.MinInt, Has: true}, 0, clock, gauge.Jitter{Scaled: 2 * clock, Transit: clock, Has: true}},
		{gauge.Jitter{Transit: math.MaxInt, Has: true}, clock, 0, gauge.Jitter{Scaled: 2 * clock, Transit: -clock, Has: true}},
		{gauge.Jitter{Scaled: scaled, Transit: math.MaxInt, Has: true}, clock, 0, gauge.Jitter{Scaled: scaled + clock, Transit: -clock, Has: true}},
	} {
		checkJitter(t, x.j, x.sent, x.came, x.want)
	}
	l := around(0, clock, -clock)
	for _, sent := range l {
		for _, came := range l {
			for _, transit := range l {
				for _, s := range around(0, 8, 16, scaled) {
					for _, has := range []bool{false, true} {
						j := gauge.Jitter{Scaled: s, Transit: transit, Has: has}
						checkJitter(t, j, sent, came, nextJitter(j, sent, came))
					}
				}
			}
		}
	}
}

// Of any numbers, and of packets one behind the other.
func TestP151JitterRandom(t *testing.T) {
	r := rand.New(rand.NewSource(151))
	for range 50000 {
		j := gauge.Jitter{Scaled: anyNumber(r), Transit: anyNumber(r), Has: r.Intn(8) > 0}
		sent, came := anyNumber(r), anyNumber(r)
		checkJitter(t, j, sent, came, nextJitter(j, sent, came))
	}
	j := gauge.Jitter{}
	for now := range 5000 {
		sent, came := 3*now, 3*now+r.Intn(60)-10
		want := nextJitter(j, sent, came)
		checkJitter(t, j, sent, came, want)
		j = want
	}
}

// The Value is Scaled by 16, rounded down, of what it counts as.
func TestP151JitterValue(t *testing.T) {
	for _, x := range []struct{ scaled, want int }{
		{0, 0}, {7, 0}, {8, 0}, {15, 0}, {16, 1}, {17, 1}, {31, 1}, {32, 2}, {1600, 100},
		{scaled - 1, clock - 1}, {scaled, clock}, {scaled + 1, clock}, {scaled + 16, clock}, {math.MaxInt, clock}, {-1, 0}, {-16, 0}, {math.MinInt, 0},
	} {
		for _, j := range []gauge.Jitter{{Scaled: x.scaled}, {Scaled: x.scaled, Transit: 99, Has: true}} {
			if got := j.Value(); got != x.want {
				t.Errorf("%+v: %d, not %d", j, got, x.want)
			}
		}
	}
}

// A tick ahead of Since, at it, and 63, 64, 65, 64 times 64 and one of them
// more behind it, and far more.
func TestP151Rate(t *testing.T) {
	from := gauge.Rate{Scaled: 1000, Since: 6400, Bytes: 81}
	eight := gauge.Rate{Scaled: 1000 - 125 + 45, Since: 6464} // 4 times 91, by 8, is 45 and a half
	for _, x := range []struct {
		now, more int
		want      gauge.Rate
	}{
		{0, 10, gauge.Rate{Scaled: 1000, Since: 6400, Bytes: 91}},
		{6399, 10, gauge.Rate{Scaled: 1000, Since: 6400, Bytes: 91}},
		{6400, 10, gauge.Rate{Scaled: 1000, Since: 6400, Bytes: 91}},
		{6400, 0, from},
		{6463, 10, gauge.Rate{Scaled: 1000, Since: 6400, Bytes: 91}},
		{6464, 10, eight},
		{6465, 10, eight},
		{6464, 9, eight},
		{6464, 11, gauge.Rate{Scaled: 1000 - 125 + 46, Since: 6464}},
		{6527, 10, eight},
		{6528, 10, gauge.Rate{Scaled: 920 - 115, Since: 6528}},
		{6400 + 64*65, 10, gauge.Rate{Since: 6400 + 64*65}},
		{6400 + 64*65 + 63, 10, gauge.Rate{Since: 6400 + 64*65}},
		{6400 + 64*66, 10, gauge.Rate{Since: 6400 + 64*66}},
		{clock - 1, 10, gauge.Rate{Since: clock - 64}},
		{clock, 10, gauge.Rate{Since: clock}},
		{clock + 64, 10, gauge.Rate{Since: clock}},
		{math.MaxInt, 10, gauge.Rate{Since: clock}},
		{-1, 10, gauge.Rate{Scaled: 1000, Since: 6400, Bytes: 91}},
	} {
		checkRate(t, from, x.now, x.more, x.want)
	}
	// 64 times 64 are gone through one by one: of so many something is left.
	great := gauge.Rate{Scaled: scaled, Since: 64}
	left := scaled
	for range 64 {
		left -= down(left, 8)
	}
	checkRate(t, great, 64*65, 0, gauge.Rate{Scaled: left, Since: 64 * 65})
	checkRate(t, great, 64*65+63, 0, gauge.Rate{Scaled: left, Since: 64 * 65})
	checkRate(t, great, 64*66, 0, gauge.Rate{Since: 64 * 66})
	if left == 0 {
		t.Error("nothing is left")
	}
	// Since is always so many 64 ticks more.
	for since := range 70 {
		r := gauge.Rate{Scaled: 5000, Since: since, Bytes: 700}
		for _, more := range []int{0, 1, 63, 64, 65, 127, 128, 64 * 64, 64*64 + 63, 64 * 65, 64*65 + 1, 64*66 - 1, 64 * 66, 10007} {
			want := nextRate(r, since+more, 3)
			if want.Since != since+more/64*64 {
				t.Fatal(want)
			}
			checkRate(t, r, since+more, 3, want)
		}
	}
}

// Bytes, ticks and what was kept beyond their bounds count as the nearest, also
// where no 64 ticks have gone.
func TestP151RateBounds(t *testing.T) {
	for _, x := range []struct {
		r         gauge.Rate
		now, more int
		want      gauge.Rate
	}{
		{gauge.Rate{}, 5, -1, gauge.Rate{}},
		{gauge.Rate{}, 5, 0, gauge.Rate{}},
		{gauge.Rate{}, 5, bytes, gauge.Rate{Bytes: bytes}},
		{gauge.Rate{}, 5, bytes + 1, gauge.Rate{Bytes: bytes}},
		{gauge.Rate{}, 5, math.MaxInt, gauge.Rate{Bytes: bytes}},
		{gauge.Rate{}, 5, math.MinInt, gauge.Rate{}},
		{gauge.Rate{Scaled: -1, Since: -1, Bytes: -1}, 5, 0, gauge.Rate{}},
		{gauge.Rate{Scaled: math.MinInt, Since: math.MinInt, Bytes: math.MinInt}, math.MinInt, 3, gauge.Rate{Bytes: 3}},
		{gauge.Rate{Scaled: scaled, Since: clock, Bytes: scaled}, 5, 0, gauge.Rate{Scaled: scaled, Since: clock, Bytes: scaled}},
		{gauge.Rate{Scaled: scaled + 1, Since: clock + 1, Bytes: scaled + 1}, 5, 0, gauge.Rate{Scaled: scaled, Since: clock, Bytes: scaled}},
		{gauge.Rate{Scaled: math.MaxInt, Since: math.MaxInt, Bytes: math.MaxInt}, math.MaxInt, math.MaxInt, gauge.Rate{Scaled: scaled, Since: clock, Bytes: scaled + bytes}},
		{gauge.Rate{Since: -5}, 63, 7, gauge.Rate{Bytes: 7}},
		{gauge.Rate{Since: -5}, 64, 8, gauge.Rate{Scaled: 4, Since: 64}},
		{gauge.Rate{Scaled: scaled + 64}, 64, 0, gauge.Rate{Scaled: scaled / 8 * 7, Since: 64}},
		{gauge.Rate{Scaled: -64}, 64, 2, gauge.Rate{Scaled: 1, Since: 64}},
		{gauge.Rate{Bytes: -64}, 64, 2, gauge.Rate{Scaled: 1, Since: 64}},
		{gauge.Rate{Bytes: scaled + 64}, 64, 2, gauge.Rate{Scaled: scaled/2 + 1, Since: 64}},
		{gauge.Rate{Bytes: scaled + 64, Scaled: scaled + 64}, 64, bytes + 2, gauge.Rate{Scaled: scaled/8*7 + scaled/2 + bytes/2, Since: 64}},
	} {
		checkRate(t, x.r, x.now, x.more, x.want)
	}
	for _, s := range around(0, 8, scaled) {
		for _, since := range around(0, 64, clock) {
			for _, b := range around(0, scaled) {
				for _, now := range around(0, 64, 4160, 4224, clock) {
					for _, more := range around(0, bytes) {
						r := gauge.Rate{Scaled: s, Since: since, Bytes: b}
						checkRate(t, r, now, more, nextRate(r, now, more))
					}
				}
			}
		}
	}
}

// Of any numbers, and of bytes one behind the other.
func TestP151RateRandom(t *testing.T) {
	r := rand.New(rand.NewSource(1512))
	for range 50000 {
		x := gauge.Rate{Scaled: anyNumber(r), Since: anyNumber(r), Bytes: anyNumber(r)}
		now, more := anyNumber(r), anyNumber(r)
		if r.Intn(3) > 0 {
			now = among(0, x.Since, clock) + r.Intn(6000) - 50
		}
		checkRate(t, x, now, more, nextRate(x, now, more))
	}
	x := gauge.Rate{}
	for now := 0; now < 100000; now += r.Intn(40) {
		more := r.Intn(1500)
		want := nextRate(x, now, more)
		checkRate(t, x, now, more, want)
		x = want
	}
}

// The Value is Scaled by 256, rounded down, of what it counts as: as many bytes
// as come each tick.
func TestP151RateValue(t *testing.T) {
	for _, x := range []struct{ scaled, want int }{
		{0, 0}, {1, 0}, {255, 0}, {256, 1}, {257, 1}, {511, 1}, {512, 2}, {25600, 100},
		{scaled - 1, 68719476735}, {scaled, 68719476736}, {scaled + 256, 68719476736}, {math.MaxInt, 68719476736}, {-1, 0}, {-256, 0}, {math.MinInt, 0},
	} {
		for _, r := range []gauge.Rate{{Scaled: x.scaled}, {Scaled: x.scaled, Since: 77, Bytes: 99999}} {
			if got := r.Value(); got != x.want {
				t.Errorf("%+v: %d, not %d", r, got, x.want)
			}
		}
	}
	x := gauge.Rate{}
	for now := range 64 * 100 {
		x = x.Next(now, 50)
	}
	if v := x.Value(); v < 49 || v > 50 {
		t.Errorf("%+v: %d", x, v)
	}
}

// The first sample, and each other one, below Smooth by 8 too.
func TestP151Trip(t *testing.T) {
	for _, x := range []struct {
		t      gauge.Trip
		sample int
		want   gauge.Trip
	}{
		{gauge.Trip{}, 0, gauge.Trip{Has: true}},
		{gauge.Trip{}, 1, gauge.Trip{Smooth: 8, Spread: 2, Has: true}},
		{gauge.Trip{}, 10, gauge.Trip{Smooth: 80, Spread: 20, Has: true}},
		{gauge.Trip{Smooth: 99, Spread: 99}, 10, gauge.Trip{Smooth: 80, Spread: 20, Has: true}},
		{gauge.Trip{Smooth: -99, Spread: math.MinInt}, 10, gauge.Trip{Smooth: 80, Spread: 20, Has: true}},
		{gauge.Trip{Smooth: 80, Spread: 20, Has: true}, 10, gauge.Trip{Smooth: 80, Spread: 15, Has: true}},
		{gauge.Trip{Smooth: 80, Spread: 20, Has: true}, 18, gauge.Trip{Smooth: 88, Spread: 23, Has: true}},
		{gauge.Trip{Smooth: 80, Spread: 20, Has: true}, 3, gauge.Trip{Smooth: 73, Spread: 22, Has: true}},
		{gauge.Trip{Smooth: 87, Spread: 23, Has: true}, 10, gauge.Trip{Smooth: 87, Spread: 18, Has: true}},
		{gauge.Trip{Smooth: 87, Spread: 23, Has: true}, 9, gauge.Trip{Smooth: 86, Spread: 19, Has: true}},
		{gauge.Trip{Smooth: 87, Spread: 24, Has: true}, 11, gauge.Trip{Smooth: 88, Spread: 19, Has: true}},
		{gauge.Trip{Smooth: 80, Spread: 3, Has: true}, 0, gauge.Trip{Smooth: 70, Spread: 13, Has: true}},
		{gauge.Trip{Has: true}, 5, gauge.Trip{Smooth: 5, Spread: 5, Has: true}},
	} {
		checkTrip(t, x.t, x.sample, x.want)
	}
}

// Samples, Smooth and Spread beyond their bounds count as the nearest.
func TestP151TripBounds(t *testing.T) {
	for _, x := range []struct {
		t      gauge.Trip
		sample int
		want   gauge.Trip
	}{
		{gauge.Trip{}, -1, gauge.Trip{Has: true}},
		{gauge.Trip{}, math.MinInt, gauge.Trip{Has: true}},
		{gauge.Trip{}, ticks, gauge.Trip{Smooth: 8 * ticks, Spread: 2 * ticks, Has: true}},
		{gauge.Trip{}, ticks + 1, gauge.Trip{Smooth: 8 * ticks, Spread: 2 * ticks, Has: true}},
		{gauge.Trip{}, math.MaxInt, gauge.Trip{Smooth: 8 * ticks, Spread: 2 * ticks, Has: true}},
		{gauge.Trip{Smooth: 80, Spread: 20, Has: true}, -1, gauge.Trip{Smooth: 70, Spread: 25, Has: true}},
		{gauge.Trip{Smooth: 80, Spread: 20, Has: true}, ticks, gauge.Trip{Smooth: 70 + ticks, Spread: 5 + ticks, Has: true}},
		{gauge.Trip{Smooth: 80, Spread: 20, Has: true}, ticks + 1, gauge.Trip{Smooth: 70 + ticks, Spread: 5 + ticks, Has: true}},
		{gauge.Trip{Smooth: -1, Spread: -1, Has: true}, 4, gauge.Trip{Smooth: 4, Spread: 4, Has: true}},
		{gauge.Trip{Smooth: math.MinInt, Spread: math.MinInt, Has: true}, 4, gauge.Trip{Smooth: 4, Spread: 4, Has: true}},
		{gauge.Trip{Smooth: trip, Spread: trip, Has: true}, trip / 8, gauge.Trip{Smooth: trip - trip/16, Spread: trip/4*3 + trip/16, Has: true}},
		{gauge.Trip{Smooth: trip + 8, Spread: trip + 4, Has: true}, 0, gauge.Trip{Smooth: trip / 8 * 7, Spread: trip/4*3 + trip/8, Has: true}},
		{gauge.Trip{Smooth: math.MaxInt, Spread: math.MaxInt, Has: true}, 0, gauge.Trip{Smooth: trip / 8 * 7, Spread: trip/4*3 + trip/8, Has: true}},
	} {
		checkTrip(t, x.t, x.sample, x.want)
	}
	for _, smooth := range around(0, 8, trip) {
		for _, spread := range around(0, 8, trip) {
			for _, sample := range around(0, 8, ticks) {
				for _, has := range []bool{false, true} {
					x := gauge.Trip{Smooth: smooth, Spread: spread, Has: has}
					checkTrip(t, x, sample, nextTrip(x, sample))
				}
			}
		}
	}
	r := rand.New(rand.NewSource(1513))
	for range 50000 {
		x := gauge.Trip{Smooth: anyNumber(r), Spread: anyNumber(r), Has: r.Intn(8) > 0}
		sample := anyNumber(r)
		checkTrip(t, x, sample, nextTrip(x, sample))
	}
}

// The Timeout of none, of the least, of one sample, of many alike, and beyond
// the bounds.
func TestP151Timeout(t *testing.T) {
	for _, x := range []struct {
		t    gauge.Trip
		want int
	}{
		{gauge.Trip{}, 100},
		{gauge.Trip{Smooth: 80, Spread: 20}, 100},
		{gauge.Trip{Has: true}, 1},
		{gauge.Trip{Smooth: 7, Has: true}, 1},
		{gauge.Trip{Smooth: 8, Has: true}, 1},
		{gauge.Trip{Smooth: 15, Has: true}, 1},
		{gauge.Trip{Smooth: 16, Has: true}, 2},
		{gauge.Trip{Spread: 1, Has: true}, 1},
		{gauge.Trip{Spread: 2, Has: true}, 2},
		{gauge.Trip{Smooth: 15, Spread: 1, Has: true}, 2},
		{gauge.Trip{Smooth: 80, Spread: 20, Has: true}, 30},
		{gauge.Trip{Smooth: -1, Spread: -1, Has: true}, 1},
		{gauge.Trip{Smooth: -800, Spread: 20, Has: true}, 20},
		{gauge.Trip{Smooth: 80, Spread: -20, Has: true}, 10},
		{gauge.Trip{Smooth: math.MinInt, Spread: math.MinInt, Has: true}, 1},
		{gauge.Trip{Smooth: trip, Spread: trip, Has: true}, trip/8 + trip},
		{gauge.Trip{Smooth: trip + 8, Spread: 0, Has: true}, trip / 8},
		{gauge.Trip{Smooth: 0, Spread: trip + 1, Has: true}, trip},
		{gauge.Trip{Smooth: math.MaxInt, Spread: math.MaxInt, Has: true}, trip/8 + trip},
	} {
		if got := x.t.Timeout(); got != x.want {
			t.Errorf("%+v: %d, not %d", x.t, got, x.want)
		}
	}
	// Three times the first one; of many alike not much more than one of them.
	for _, sample := range []int{0, 1, 2, 10, 1000, ticks} {
		x := gauge.Trip{}.Next(sample)
		if got := x.Timeout(); got != max(3*sample, 1) {
			t.Errorf("%d: %d", sample, got)
		}
		for range 100 {
			x = x.Next(sample)
		}
		if got := x.Timeout(); got != max(sample+x.Spread, 1) || x.Smooth != 8*sample || x.Spread > 3 {
			t.Errorf("%d: %+v %d", sample, x, got)
		}
	}
}

// Half of none, of one, of two, of an even and an odd number, and of numbers
// that are alike; what is handed in stays.
func TestP151Half(t *testing.T) {
	for _, x := range []struct {
		l    []int
		want int
	}{
		{nil, 0}, {[]int{}, 0}, {[]int{7}, 7}, {[]int{-7}, -7}, {[]int{4, 1}, 1}, {[]int{1, 4}, 1}, {[]int{5, 3, 9}, 5}, {[]int{9, 5, 3}, 5}, {[]int{3, 9, 5}, 5},
		{[]int{4, 2, 3, 1}, 2}, {[]int{1, 2, 3, 4}, 2}, {[]int{5, 4, 3, 2, 1}, 3}, {[]int{6, 5, 4, 3, 2, 1}, 3}, {[]int{2, 2, 2}, 2}, {[]int{2, 2}, 2}, {[]int{9, 2, 2, 2}, 2}, {[]int{9, 9, 2}, 9},
		{[]int{0, -1}, -1}, {[]int{-5, -3, -9, 2}, -5}, {[]int{math.MaxInt, math.MinInt}, math.MinInt}, {[]int{math.MaxInt, math.MinInt, math.MaxInt}, math.MaxInt}, {[]int{math.MaxInt}, math.MaxInt},
	} {
		if got := gauge.Half(x.l...); got != x.want {
			t.Errorf("%v: %d, not %d", x.l, got, x.want)
		}
	}
	r := rand.New(rand.NewSource(1514))
	for n := range 200 {
		l := make([]int, n, n+3)
		for i := range l {
			l[i] = r.Intn(n+1) - n/2
		}
		room := l[:cap(l)]
		before := slices.Clone(room)
		got := gauge.Half(l...)
		if !slices.Equal(room, before) {
			t.Fatalf("changed: %v", before)
		}
		rising := slices.Clone(l)
		sort.Ints(rising)
		want := 0
		if n%2 == 1 {
			want = rising[n/2]
		} else if n > 0 {
			want = rising[n/2-1]
		}
		if got != want {
			t.Fatalf("%v: %d, not %d", l, got, want)
		}
	}
}

// Of packets that all take as long, the jitter falls to 0 in 16 times as many
// packets as its bits, or less.
func TestP152Falls(t *testing.T) {
	check := func(from int) {
		j := gauge.Jitter{Scaled: from, Transit: 7, Has: true}
		last := j.Value()
		for i := range 16 * bits.Len(uint(last)) {
			j = j.Next(20*i, 20*i+7)
			if j.Value() > last {
				t.Fatalf("%d: %d behind %d", from, j.Value(), last)
			}
			last = j.Value()
		}
		if last != 0 {
			t.Fatalf("%d: %d", from, last)
		}
	}
	for from := range 70000 {
		check(from)
	}
	for bit := range 45 {
		check(1 << bit)
		check(1<<bit - 1)
	}
	r := rand.New(rand.NewSource(152))
	for range 5000 {
		check(r.Intn(scaled + 1))
	}
	// And to 7 of Scaled, which stays.
	j := gauge.Jitter{Scaled: scaled, Transit: 7, Has: true}
	for i := range 1000 {
		j = j.Next(i, i+7)
	}
	if j.Scaled != 7 {
		t.Errorf("%+v", j)
	}
}

// A jitter is never more than the greatest distance.
func TestP152Greatest(t *testing.T) {
	r := rand.New(rand.NewSource(1522))
	for range 300 {
		most := 1 + r.Intn(1<<r.Intn(30))
		greatest, last := 0, 0
		j := gauge.Jitter{}
		for i := range 1000 {
			transit := r.Intn(most + 1)
			if r.Intn(2) == 0 { // as far as may be, again and again
				transit = i % 2 * most
			}
			if i > 0 {
				greatest = max(greatest, apart(transit, last))
			}
			last = transit
			j = j.Next(i, i+transit)
			if j.Value() > greatest {
				t.Fatalf("%d: %+v", greatest, j)
			}
		}
	}
	// It comes as near as one to it.
	for _, most := range []int{1, 2, 3, 100, clock} {
		j := gauge.Jitter{}
		for i := range 2000 {
			j = j.Next(0, i%2*most)
		}
		if j.Value() != most-1 {
			t.Errorf("%d: %+v %d", most, j, j.Value())
		}
	}
}

// No Value is below 0.
func TestP153(t *testing.T) {
	check := func(j gauge.Jitter, r gauge.Rate) {
		t.Helper()
		if j.Value() < 0 || r.Value() < 0 {
			t.Fatalf("%+v %d, %+v %d", j, j.Value(), r, r.Value())
		}
	}
	for _, n := range around(0, -16, -256, scaled) {
		check(gauge.Jitter{Scaled: n}, gauge.Rate{Scaled: n})
	}
	r := rand.New(rand.NewSource(153))
	for range 20000 {
		j := gauge.Jitter{Scaled: anyNumber(r), Transit: anyNumber(r), Has: r.Intn(2) > 0}
		x := gauge.Rate{Scaled: anyNumber(r), Since: anyNumber(r), Bytes: anyNumber(r)}
		check(j, x)
		for range 5 {
			j, x = j.Next(anyNumber(r), anyNumber(r)), x.Next(anyNumber(r), anyNumber(r))
			check(j, x)
		}
	}
}
