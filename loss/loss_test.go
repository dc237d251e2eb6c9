package loss_test

import (
	"math"
	"math/big"
	"math/rand"
	"testing"

	"cordelle/loss"
	"cordelle/source"
)

// far is the greatest distance from 0 that the document speaks of.
const far = 1 << 40

// of answers a valid Source that expected, and received, so many.
func of(expected, received int) source.Source {
	return source.Source{Max: 1, Cycles: expected - 1, Base: 1, Received: received}
}

// part is the fraction by the document's sentence, in numbers that have no end.
func part(expected, received *big.Int) int {
	if expected.Sign() <= 0 || received.Cmp(expected) >= 0 {
		return 0
	}
	lost := new(big.Int).Sub(expected, received)
	lost.Mul(lost, big.NewInt(256)).Quo(lost, expected)
	if lost.Cmp(big.NewInt(255)) > 0 {
		return 255
	}
	return int(lost.Int64())
}

// more is how many more there are.
func more(now, before int) *big.Int {
	return new(big.Int).Sub(big.NewInt(int64(now)), big.NewInt(int64(before)))
}

// among brings n among the two.
func among(least, n, most int) int {
	switch {
	case n < least:
		return least
	case n > most:
		return most
	}
	return n
}

// checkNext holds Next against what is wanted.
func checkNext(t *testing.T, before loss.Tally, s source.Source, want loss.Tally, fraction, lost int) {
	t.Helper()
	got, f, n := before.Next(s)
	if got != want || f != fraction || n != lost {
		t.Errorf("%+v.Next(%+v): %+v %d %d, not %+v %d %d", before, s, got, f, n, want, fraction, lost)
	}
}

// The document's examples.
func TestP141Examples(t *testing.T) {
	if a, b, c := loss.Fraction(10, 5), loss.Fraction(4, 0), loss.Fraction(4, 5); a != 128 || b != 255 || c != 0 {
		t.Error(a, b, c)
	}
}

// Next of a zero Tally, and of the Tally that it answers.
func TestP141Next(t *testing.T) {
	s, _ := source.New(100).Run(99, 100, 101, 103, 109)
	checkNext(t, loss.Tally{}, s, loss.Tally{Expected: 10, Received: 4}, 153, 6)
	first, _, _ := loss.Tally{}.Next(s)
	checkNext(t, first, s, first, 0, 6)
	// All that come are new: of these none is lost, but of all as many as were.
	s, _ = s.Run(110, 111, 112)
	checkNext(t, first, s, loss.Tally{Expected: 13, Received: 7}, 0, 6)
	second, _, _ := first.Next(s)
	// Three that come late: none more are expected.
	s, _ = s.Run(104, 105, 106)
	checkNext(t, second, s, loss.Tally{Expected: 13, Received: 10}, 0, 3)
	// Against the first one it is three of three and three more.
	checkNext(t, first, s, loss.Tally{Expected: 13, Received: 10}, 0, 3)
	third, _, _ := second.Next(s)
	s, _ = s.Update(120)
	checkNext(t, third, s, loss.Tally{Expected: 21, Received: 11}, 224, 10)
	checkNext(t, loss.Tally{}, s, loss.Tally{Expected: 21, Received: 11}, 121, 10)
}

// A source on probation expects none; one that begins anew expects fewer than
// it did.
func TestP141NextOfSources(t *testing.T) {
	checkNext(t, loss.Tally{}, source.Source{}, loss.Tally{Expected: 1}, 255, 1)
	checkNext(t, loss.Tally{}, source.New(7), loss.Tally{}, 0, 0)
	checkNext(t, loss.Tally{Expected: 5, Received: 3}, source.New(7), loss.Tally{}, 0, 0)
	checkNext(t, loss.Tally{}, source.Source{Max: 9, Probation: 1, Received: 4}, loss.Tally{Received: 4}, 0, -4)
	s, _ := source.New(1).Run(1, 2, 50, 60)
	before, _, _ := loss.Tally{}.Next(s)
	s, _ = s.Run(30000, 30001)
	checkNext(t, before, s, loss.Tally{Expected: 1, Received: 1}, 0, 0)
}

// More received than expected, as many, none, and none more expected.
func TestP141NextMore(t *testing.T) {
	for _, x := range []struct {
		before             loss.Tally
		expected, received int
		fraction, lost     int
	}{
		{loss.Tally{}, 10, 5, 128, 5},
		{loss.Tally{}, 10, 10, 0, 0},
		{loss.Tally{}, 10, 11, 0, -1},
		{loss.Tally{}, 10, 0, 255, 10},
		{loss.Tally{}, 10, -1, 255, 11},
		{loss.Tally{}, 0, 0, 0, 0},
		{loss.Tally{}, 0, -3, 0, 3},
		{loss.Tally{}, -3, -9, 0, 6},
		{loss.Tally{Expected: 10, Received: 5}, 20, 15, 0, 5},
		{loss.Tally{Expected: 10, Received: 5}, 20, 16, 0, 4},
		{loss.Tally{Expected: 10, Received: 5}, 20, 14, 25, 6},
		{loss.Tally{Expected: 10, Received: 5}, 20, 6, 230, 14},
		{loss.Tally{Expected: 10, Received: 5}, 20, 5, 255, 15},
		{loss.Tally{Expected: 10, Received: 5}, 20, 4, 255, 16},
		{loss.Tally{Expected: 10, Received: 5}, 10, 5, 0, 5},
		{loss.Tally{Expected: 10, Received: 5}, 10, 1, 0, 9},
		{loss.Tally{Expected: 10, Received: 5}, 9, 1, 0, 8},
		{loss.Tally{Expected: 10, Received: 5}, 11, 5, 255, 6},
		{loss.Tally{Expected: -10, Received: -5}, 0, 0, 128, 0},
		{loss.Tally{Expected: -10, Received: -5}, -6, -4, 192, -2},
		{loss.Tally{Expected: -10, Received: -5}, -11, -6, 0, -5},
	} {
		checkNext(t, x.before, of(x.expected, x.received), loss.Tally{Expected: x.expected, Received: x.received}, x.fraction, x.lost)
	}
}

// The count of all that are lost is brought among the numbers of 24 bits.
func TestP141Count(t *testing.T) {
	for _, x := range []struct{ lost, want int }{
		{-far, -8388608}, {-8388610, -8388608}, {-8388609, -8388608}, {-8388608, -8388608}, {-8388607, -8388607}, {-1, -1}, {0, 0}, {1, 1},
		{8388606, 8388606}, {8388607, 8388607}, {8388608, 8388607}, {8388609, 8388607}, {1 << 24, 8388607}, {far, 8388607},
	} {
		for _, expected := range []int{1, 0, -5, 1000, 1 << 30} {
			s := of(expected, expected-x.lost)
			want := loss.Tally{Expected: expected, Received: expected - x.lost}
			// Against itself no more are expected.
			checkNext(t, want, s, want, 0, x.want)
			if _, _, lost := (loss.Tally{}).Next(s); lost != x.want {
				t.Errorf("%d of %d: %d, not %d", x.lost, expected, lost, x.want)
			}
		}
	}
}

// A Source's and a Tally's numbers from -2^40 to 2^40: what is lost since is
// told of all of them.
func TestP141NextFar(t *testing.T) {
	l := []int{-far, -far + 1, -far / 2, -256, -1, 0, 1, 255, 256, 257, far / 2, far - 1, far}
	for _, expected := range l {
		for _, received := range l {
			s := of(expected, received)
			now := loss.Tally{Expected: expected, Received: received}
			lost := among(-8388608, expected-received, 8388607)
			for _, a := range l {
				for _, b := range l {
					checkNext(t, loss.Tally{Expected: a, Received: b}, s, now, part(more(expected, a), more(received, b)), lost)
				}
			}
		}
	}
	// A Source's own numbers, each as far as may be, make more than that.
	s := source.Source{Max: 65535, Cycles: far, Base: -far, Received: far}
	now := loss.Tally{Expected: 2*far + 65536, Received: far}
	checkNext(t, loss.Tally{Expected: -far, Received: far}, s, now, 255, 8388607)
	checkNext(t, loss.Tally{Expected: -far, Received: -far}, s, now, 85, 8388607)
	checkNext(t, loss.Tally{Expected: far, Received: far / 2}, s, now, 128, 8388607)
	s = source.Source{Cycles: -far, Base: far, Received: -far}
	now = loss.Tally{Expected: -2*far + 1, Received: -far}
	checkNext(t, loss.Tally{Expected: -far, Received: far}, s, now, 0, -8388608)
}

// Next of any numbers.
func TestP141NextRandom(t *testing.T) {
	r := rand.New(rand.NewSource(141))
	for range 20000 {
		size := 1 << r.Intn(40)
		number := func() int { return r.Intn(2*size+1) - size }
		expected, received := number(), number()
		before := loss.Tally{Expected: number(), Received: number()}
		now := loss.Tally{Expected: expected, Received: received}
		checkNext(t, before, of(expected, received), now, part(more(expected, before.Expected), more(received, before.Received)), among(-8388608, expected-received, 8388607))
	}
}

// Next of what a source makes of numbers, of which some are lost.
func TestP141NextAsItGoes(t *testing.T) {
	r := rand.New(rand.NewSource(1412))
	for range 200 {
		n := r.Intn(65536)
		s, _ := source.New(uint16(n)).Run(uint16(n), uint16(n+1))
		n++
		tally, fraction, lost := loss.Tally{}.Next(s)
		if tally != (loss.Tally{Expected: 1, Received: 1}) || fraction != 0 || lost != 0 {
			t.Fatalf("%+v %d %d", tally, fraction, lost)
		}
		all := 0
		for range 20 {
			gone, come := r.Intn(50), r.Intn(50)+1
			for i := range gone + come {
				if i >= gone {
					s, _ = s.Update(uint16(n + i + 1))
				}
			}
			n += gone + come
			all += gone
			next, fraction, lost := tally.Next(s)
			want := loss.Tally{Expected: tally.Expected + gone + come, Received: tally.Received + come}
			if next != want || fraction != gone*256/(gone+come) || lost != all {
				t.Fatalf("%+v %d of %d: %+v %d %d", tally, gone, come, next, fraction, lost)
			}
			tally = next
		}
	}
}

// Fraction of 0 expected, of 1 of 256 lost, of less, of 255 of 256, of all.
func TestP141Fraction(t *testing.T) {
	for _, x := range []struct{ expected, received, want int }{
		{0, 0, 0}, {0, 1, 0}, {0, -1, 0}, {-1, -1, 0}, {-1, -2, 0}, {-5, -9, 0}, {-9, 5, 0},
		{256, 255, 1}, {256, 256, 0}, {256, 257, 0}, {257, 256, 0}, {255, 254, 1}, {512, 511, 0}, {512, 510, 1}, {513, 511, 0}, {1 << 20, 1<<20 - 4095, 0}, {1 << 20, 1<<20 - 4096, 1},
		{256, 1, 255}, {256, 0, 255}, {256, -1, 255}, {256, 2, 254}, {255, 1, 254}, {1000, 3, 255}, {1000, 4, 254}, {1, 0, 255}, {1, -1, 255}, {1, 1, 0}, {1, 2, 0},
		{2, 1, 128}, {3, 2, 85}, {3, 1, 170}, {10, 9, 25}, {10, 5, 128}, {10, 0, 255}, {4, 5, 0}, {10, -100, 255},
	} {
		if got := loss.Fraction(x.expected, x.received); got != x.want {
			t.Errorf("Fraction(%d, %d): %d, not %d", x.expected, x.received, got, x.want)
		}
	}
	for expected := -5; expected < 600; expected++ {
		for received := -5; received < 605; received++ {
			want := part(big.NewInt(int64(expected)), big.NewInt(int64(received)))
			if got := loss.Fraction(expected, received); got != want {
				t.Fatalf("Fraction(%d, %d): %d, not %d", expected, received, got, want)
			}
		}
	}
}

// Numbers beyond -2^40 and 2^40 count as the nearest.
func TestP141FractionFar(t *testing.T) {
	for _, x := range []struct{ expected, received, want int }{
		{far, far, 0}, {far, far - 1, 0}, {far, far / 2, 128}, {far, 0, 255}, {far, 1, 255}, {far, -far, 255}, {far, far - far/256, 1}, {far, far - far/256 + 1, 0},
		{far + 1, far, 0}, {2 * far, far, 0}, {math.MaxInt, far, 0}, {math.MaxInt, math.MaxInt - 1, 0}, {4 * far, 2 * far, 0},
		{2 * far, far / 2, 128}, {math.MaxInt, far / 2, 128}, {math.MaxInt, far / 4, 192}, {math.MaxInt, 0, 255}, {math.MaxInt, math.MinInt, 255},
		{1, math.MinInt, 255}, {1, math.MaxInt, 0}, {0, math.MinInt, 0}, {math.MinInt, math.MinInt, 0}, {math.MinInt, math.MaxInt, 0}, {math.MinInt, 0, 0}, {-far, -far - 1, 0},
	} {
		if got := loss.Fraction(x.expected, x.received); got != x.want {
			t.Errorf("Fraction(%d, %d): %d, not %d", x.expected, x.received, got, x.want)
		}
	}
	r := rand.New(rand.NewSource(1413))
	for range 50000 {
		expected, received := int(r.Uint64())>>r.Intn(64), int(r.Uint64())>>r.Intn(64)
		want := part(big.NewInt(int64(among(-far, expected, far))), big.NewInt(int64(among(-far, received, far))))
		if got := loss.Fraction(expected, received); got != want {
			t.Fatalf("Fraction(%d, %d): %d, not %d", expected, received, got, want)
		}
	}
}

// Percent rounds down, and brings among 0 and 256.
func TestP141Percent(t *testing.T) {
	for _, x := range []struct{ fraction, want int }{
		{math.MinInt, 0}, {-256, 0}, {-1, 0}, {0, 0}, {1, 0}, {2, 0}, {3, 1}, {25, 9}, {26, 10}, {64, 25}, {127, 49}, {128, 50}, {129, 50}, {192, 75},
		{253, 98}, {254, 99}, {255, 99}, {256, 100}, {257, 100}, {512, 100}, {math.MaxInt, 100},
	} {
		if got := loss.Percent(x.fraction); got != x.want {
			t.Errorf("Percent(%d): %d, not %d", x.fraction, got, x.want)
		}
	}
	for fraction := range 257 {
		got := loss.Percent(fraction)
		if got*256 > fraction*100 || (got+1)*256 <= fraction*100 {
			t.Errorf("Percent(%d): %d", fraction, got)
		}
	}
}

// Whatever the numbers are, Next answers.
func TestP142Ends(t *testing.T) {
	l := []int{math.MinInt, math.MinInt + 1, -1 << 62, -far - 1, -1, 0, 1, far + 1, 1 << 56, 1 << 62, math.MaxInt - 1, math.MaxInt}
	for _, expected := range l {
		for _, received := range l {
			s := source.Source{Cycles: expected, Received: received}
			for _, a := range l {
				for _, b := range l {
					_, fraction, lost := loss.Tally{Expected: a, Received: b}.Next(s)
					if fraction < 0 || fraction > 255 || lost < -8388608 || lost > 8388607 {
						t.Errorf("%d %d, %+v: %d %d", a, b, s, fraction, lost)
					}
				}
			}
			if f := loss.Fraction(expected, received); f < 0 || f > 255 {
				t.Errorf("Fraction(%d, %d): %d", expected, received, f)
			}
		}
	}
}

// A fraction is 0 to 255, 0 if nothing is lost, and more lost of as many is no
// less.
func TestP142Rises(t *testing.T) {
	for _, expected := range []int{-far, -1, 0, 1, 2, 3, 7, 100, 255, 256, 257, 1000, 65536, far - 1, far} {
		last := 0
		for i := -20; i <= 1100; i++ {
			lost := i
			if expected > 1000 {
				lost = expected / 1000 * i
			}
			got := loss.Fraction(expected, expected-lost)
			_, f, _ := loss.Tally{Expected: 9, Received: 4}.Next(of(9+expected, 4+expected-lost))
			if got < last || got > 255 || lost <= 0 && got != 0 || f != got {
				t.Fatalf("%d of %d: %d, %d, behind %d", lost, expected, got, f, last)
			}
			last = got
		}
		if expected > 0 && last != 255 {
			t.Errorf("%d: %d", expected, last)
		}
	}
}

// So it is for any numbers.
func TestP142Random(t *testing.T) {
	r := rand.New(rand.NewSource(142))
	for range 50000 {
		expected := int(r.Uint64()) >> r.Intn(64)
		a, b := int(r.Uint64())>>r.Intn(64), int(r.Uint64())>>r.Intn(64)
		if a > b {
			a, b = b, a
		}
		more, less := loss.Fraction(expected, a), loss.Fraction(expected, b)
		if more < less || less < 0 || more > 255 {
			t.Fatalf("of %d: %d of %d, %d of %d", expected, more, a, less, b)
		}
		if same := loss.Fraction(expected, expected); same != 0 {
			t.Fatalf("of %d: %d", expected, same)
		}
	}
}
