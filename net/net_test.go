package net_test

import (
	"math"
	"slices"
	"testing"

	"cordelle/crc"
	"cordelle/net"
)

// The document's bounds, as it says them.
const (
	mostPaths  = 15
	mostPacket = 1500
	mostUnder  = 1024
	mostBytes  = 1 << 24
)

// roomy is a Config with room for whatever a test sends.
var roomy = net.Config{Most: mostUnder, Bytes: mostBytes}

// text is one of so many bytes, in which neighbours differ.
func text(n int) string {
	b := make([]byte, n)
	for i := range b {
		b[i] = byte(i*7 + i/251)
	}
	return string(b)
}

// is tells of a Net what is under way on a path, and on no other.
func is(t *testing.T, n *net.Net, way, path int, want ...string) {
	t.Helper()
	if got := n.All(way, path); !slices.Equal(got, want) {
		t.Errorf("All(%d, %d): %q, not %q", way, path, got, want)
	}
	if got := n.Len(way, path); got != len(want) {
		t.Errorf("Len(%d, %d): %d, not %d", way, path, got, len(want))
	}
	if got := slices.Contains(n.Paths(way), path); got != (len(want) > 0) {
		t.Errorf("Paths(%d): %v", way, n.Paths(way))
	}
}

// counts holds what a Net counts against what it must.
func counts(t *testing.T, n *net.Net, want net.Counts) {
	t.Helper()
	if got := n.Counts(); got != want {
		t.Errorf("Counts: %+v, not %+v", got, want)
	}
}

// The document's example.
func TestP281Example(t *testing.T) {
	n := net.New(roomy)
	if !n.Send(net.There, 1, "a") || !n.Twin(net.There, 1, 0) {
		t.Error("Send, Twin")
	}
	if data, there := n.Take(net.There, 1, 0); data != "a" || !there {
		t.Errorf("Take: %q %t", data, there)
	}
	if n.Len(net.There, 1) != 1 {
		t.Errorf("Len: %d", n.Len(net.There, 1))
	}
}

// Behind New nothing is under way, on whichever path, of either way, and of none.
func TestP281New(t *testing.T) {
	if net.There != 0 || net.Back != 1 {
		t.Error("ways")
	}
	for _, c := range []net.Config{{}, roomy, {Most: -5, Bytes: -5}} {
		n := net.New(c)
		for _, way := range []int{math.MinInt, -1, 0, 1, 2, math.MaxInt} {
			for _, path := range []int{math.MinInt, -1, 0, 1, 15, 16, math.MaxInt} {
				is(t, n, way, path)
			}
			if l := n.Paths(way); len(l) != 0 {
				t.Errorf("Paths(%d): %v", way, l)
			}
		}
		counts(t, n, net.Counts{})
	}
}

// A Config with numbers below 1, among those that may be, at the most, beyond.
func TestP281Clip(t *testing.T) {
	nearest := func(n, most int) int {
		switch {
		case n < 1:
			return 1
		case n > most:
			return most
		}
		return n
	}
	for _, most := range []int{math.MinInt, -1, 0, 1, 2, 1023, 1024, 1025, math.MaxInt} {
		for _, bytes := range []int{math.MinInt, -1, 0, 1, 2, 16777215, 16777216, 16777217, math.MaxInt} {
			c := net.Config{Most: most, Bytes: bytes}
			want := net.Config{Most: nearest(most, 1024), Bytes: nearest(bytes, 16777216)}
			if got := c.Clip(); got != want || got.Clip() != want {
				t.Errorf("%+v: %+v, not %+v", c, got, want)
			}
		}
	}
}

// Send and Forge of a way that is neither, of each path, and of none: they are lost.
func TestP281Places(t *testing.T) {
	for _, way := range []int{math.MinInt, -1, 0, 1, 2, 3, math.MaxInt} {
		for _, path := range []int{math.MinInt, -1, 0, 1, 2, 7, 14, 15, 16, 17, math.MaxInt} {
			n := net.New(roomy)
			want := (way == 0 || way == 1) && path >= 1 && path <= mostPaths
			if got := n.Send(way, path, "a"); got != want {
				t.Errorf("Send(%d, %d): %t", way, path, got)
			}
			if got := n.Forge(way, path, "b"); got != want {
				t.Errorf("Forge(%d, %d): %t", way, path, got)
			}
			if want {
				is(t, n, way, path, "a", "b")
				is(t, n, 1-way, path)
				counts(t, n, net.Counts{Sent: 1, Forged: 1})
				continue
			}
			is(t, n, way, path)
			counts(t, n, net.Counts{Lost: 2})
			for w := range 2 {
				if l := n.Paths(w); len(l) != 0 {
					t.Errorf("(%d, %d): Paths(%d): %v", way, path, w, l)
				}
			}
		}
	}
}

// Of no bytes, of 1, of as many as a packet may have, and of more.
func TestP281Bytes(t *testing.T) {
	for _, x := range []struct {
		bytes int
		want  bool
	}{{0, false}, {1, true}, {2, true}, {1499, true}, {1500, true}, {1501, false}, {3000, false}, {100000, false}} {
		n := net.New(roomy)
		data := text(x.bytes)
		if got := n.Send(net.There, 15, data); got != x.want {
			t.Errorf("Send of %d: %t", x.bytes, got)
		}
		if got := n.Forge(net.Back, 1, data); got != x.want {
			t.Errorf("Forge of %d: %t", x.bytes, got)
		}
		if x.want {
			is(t, n, net.There, 15, data)
			is(t, n, net.Back, 1, data)
			counts(t, n, net.Counts{Sent: 1, Forged: 1})
		} else {
			is(t, n, net.There, 15)
			is(t, n, net.Back, 1)
			counts(t, n, net.Counts{Lost: 2})
		}
	}
}

// As many datagrams as may be, and one more: on each path, in each direction, for
// itself. With one taken there is room again.
func TestP281Most(t *testing.T) {
	for _, most := range []int{-1, 0, 1, 2, 3, 1023, 1024, 1025} {
		n := net.New(net.Config{Most: most, Bytes: mostBytes})
		may := min(max(most, 1), mostUnder)
		for i := range may + 3 {
			put := n.Send
			if i%2 == 1 {
				put = n.Forge
			}
			if got := put(net.There, 3, "a"); got != (i < may) {
				t.Fatalf("Most %d: the %d-th: %t", most, i, got)
			}
		}
		if n.Len(net.There, 3) != may || n.Counts().Lost != 3 || n.Counts().Sent+n.Counts().Forged != may {
			t.Errorf("Most %d: %d, %+v", most, n.Len(net.There, 3), n.Counts())
		}
		if !n.Send(net.Back, 3, "a") || !n.Send(net.There, 2, "a") || !n.Send(net.There, 4, "a") {
			t.Errorf("Most %d: another place is full, too", most)
		}
		if n.Twin(net.There, 3, 0) || n.Counts().Twins != 0 || n.Counts().Lost != 3 {
			t.Errorf("Most %d: Twin: %+v", most, n.Counts())
		}
		n.Take(net.There, 3, may-1)
		if !n.Send(net.There, 3, "a") || n.Send(net.There, 3, "a") {
			t.Errorf("Most %d: behind Take", most)
		}
		n.Lose(net.There, 3, 0)
		// Of one alone nothing is left to be there twice.
		if n.Twin(net.There, 3, 0) != (may > 1) || n.Twin(net.There, 3, 0) {
			t.Errorf("Most %d: behind Lose", most)
		}
	}
}

// As many bytes as may be, and one more; with one lost there is room again.
func TestP281MostBytes(t *testing.T) {
	for _, x := range []struct {
		bytes int
		sizes []int
		want  []bool
	}{
		{-1, []int{2, 1, 1}, []bool{false, true, false}},
		{0, []int{1, 1}, []bool{true, false}},
		{1, []int{2, 1, 1}, []bool{false, true, false}},
		{5, []int{6, 3, 3, 2, 1}, []bool{false, true, false, true, false}},
		{5, []int{5, 1}, []bool{true, false}},
		{1500, []int{1500, 1}, []bool{true, false}},
		{1499, []int{1500, 1499, 1}, []bool{false, true, false}},
		{3001, []int{1500, 1500, 2, 1, 1}, []bool{true, true, false, true, false}},
	} {
		n := net.New(net.Config{Most: 100, Bytes: x.bytes})
		lost := 0
		for i, size := range x.sizes {
			if got := n.Send(net.Back, 9, text(size)); got != x.want[i] {
				t.Errorf("Bytes %d: %d of %v: %t", x.bytes, i, x.sizes, got)
			}
			if !x.want[i] {
				lost++
			}
		}
		counts(t, n, net.Counts{Sent: len(x.sizes) - lost, Lost: lost})
		if n.Twin(net.Back, 9, 0) {
			t.Errorf("Bytes %d: Twin", x.bytes)
		}
		if !n.Send(net.There, 9, "a") || !n.Send(net.Back, 8, "a") {
			t.Errorf("Bytes %d: another place is full, too", x.bytes)
		}
		size := len(n.All(net.Back, 9)[0])
		n.Lose(net.Back, 9, 0)
		if n.Send(net.Back, 9, text(size+1)) || !n.Send(net.Back, 9, text(size)) {
			t.Errorf("Bytes %d: behind Lose", x.bytes)
		}
	}
	// At the most no place holds so many bytes: 1024 of 1500 are fewer.
	n := net.New(net.Config{Most: math.MaxInt, Bytes: math.MaxInt})
	for i := range 1025 {
		if got := n.Send(net.There, 1, text(1500)); got != (i < 1024) {
			t.Fatalf("%d: %t", i, got)
		}
	}
}

// Take, Lose, Twin, Turn of the first one, of one between, of the last one; of i of
// -1, of as many as there are, and beyond.
func TestP281Of(t *testing.T) {
	all := []string{"aa", "bb", "cc", "dd"}
	begun := func() *net.Net {
		n := net.New(net.Config{Most: 5, Bytes: 10})
		for _, data := range all {
			n.Send(net.There, 2, data)
		}
		n.Send(net.Back, 2, "back")
		n.Send(net.There, 3, "three")
		return n
	}
	const sent = 6
	for _, i := range []int{math.MinInt, -2, -1, 0, 1, 2, 3, 4, 5, math.MaxInt} {
		there := i >= 0 && i < len(all)
		left, twice, turned, data := all, all, all, ""
		if there {
			data = all[i]
			left = slices.Delete(slices.Clone(all), i, i+1)
			twice = append(slices.Clone(all), data)
			turned = slices.Clone(all)
			turned[i] = crc.Turn(data, 3, 0xe0000000)
		}
		one := 0
		if there {
			one = 1
		}
		others := func(n *net.Net) {
			t.Helper()
			is(t, n, net.Back, 2, "back")
			is(t, n, net.There, 3, "three")
		}

		n := begun()
		if got, is := n.Take(net.There, 2, i); got != data || is != there {
			t.Errorf("Take %d: %q %t", i, got, is)
		}
		is(t, n, net.There, 2, left...)
		others(n)
		counts(t, n, net.Counts{Sent: sent, Taken: one})

		n = begun()
		if n.Lose(net.There, 2, i) != there {
			t.Errorf("Lose %d", i)
		}
		is(t, n, net.There, 2, left...)
		others(n)
		counts(t, n, net.Counts{Sent: sent, Lost: one})

		n = begun()
		if n.Twin(net.There, 2, i) != there {
			t.Errorf("Twin %d", i)
		}
		is(t, n, net.There, 2, twice...)
		others(n)
		counts(t, n, net.Counts{Sent: sent, Twins: one})

		n = begun()
		if n.Turn(net.There, 2, i, 3, 0xe0000000) != there {
			t.Errorf("Turn %d", i)
		}
		is(t, n, net.There, 2, turned...)
		others(n)
		counts(t, n, net.Counts{Sent: sent, Turned: one})
	}
}

// Take, Lose, Twin, Turn where none is: of another way, another path, of no such.
func TestP281None(t *testing.T) {
	n := net.New(roomy)
	n.Send(net.There, 5, "a")
	for _, way := range []int{math.MinInt, -1, 0, 1, 2, math.MaxInt} {
		for _, path := range []int{math.MinInt, -1, 0, 1, 4, 5, 6, 15, 16, math.MaxInt} {
			if way == net.There && path == 5 {
				continue
			}
			if data, there := n.Take(way, path, 0); data != "" || there {
				t.Errorf("Take(%d, %d): %q %t", way, path, data, there)
			}
			if n.Lose(way, path, 0) || n.Twin(way, path, 0) || n.Turn(way, path, 0, 0, 1<<31) {
				t.Errorf("(%d, %d): true", way, path)
			}
		}
	}
	is(t, n, net.There, 5, "a")
	counts(t, n, net.Counts{Sent: 1})
}

// Twin with no room, of datagrams or of bytes: nothing is lost by that.
func TestP281TwinRoom(t *testing.T) {
	for _, c := range []net.Config{{Most: 2, Bytes: 100}, {Most: 100, Bytes: 7}} {
		n := net.New(c)
		n.Send(net.There, 1, "abc")
		n.Send(net.There, 1, "de")
		if n.Twin(net.There, 1, 0) {
			t.Errorf("%+v: Twin of 3", c)
		}
		want := net.Counts{Sent: 2}
		l := []string{"abc", "de"}
		if c.Most > 2 {
			l = append(l, "de")
			want.Twins = 1
		}
		if got := n.Twin(net.There, 1, 1); got != (c.Most > 2) {
			t.Errorf("%+v: Twin of 2: %t", c, got)
		}
		is(t, n, net.There, 1, l...)
		counts(t, n, want)
	}
}

// A twin is one of its own: what becomes of it doesn't of the other one.
func TestP281TwinOwn(t *testing.T) {
	n := net.New(roomy)
	n.Send(net.There, 1, "a")
	n.Send(net.There, 1, "b")
	n.Twin(net.There, 1, 0)
	n.Turn(net.There, 1, 0, 6, 1<<31)
	is(t, n, net.There, 1, "c", "b", "a")
	n.Turn(net.There, 1, 2, 7, 1<<31)
	is(t, n, net.There, 1, "c", "b", "`")
	n.Twin(net.There, 1, 2)
	n.Lose(net.There, 1, 2)
	is(t, n, net.There, 1, "c", "b", "`")
	counts(t, n, net.Counts{Sent: 2, Twins: 2, Turned: 2, Lost: 1})
}

// Turn at the first bit, at the last one, beyond, and ahead; of one bit, of some, of
// none: as layer 2 has it.
func TestP281Turn(t *testing.T) {
	for _, x := range []struct {
		at   int
		mask uint32
		want string
	}{
		{0, 1 << 31, "\x80\x00\x00"},
		{23, 1 << 31, "\x00\x00\x01"},
		{24, 1 << 31, "\x00\x00\x00"},
		{25, 0xffffffff, "\x00\x00\x00"},
		{math.MaxInt, 0xffffffff, "\x00\x00\x00"},
		{23, 0xffffffff, "\x00\x00\x01"},
		{20, 0xffffffff, "\x00\x00\x0f"},
		{4, 0xff000001, "\x0f\xf0\x00"},
		{-1, 1 << 31, "\x80\x00\x00"},
		{math.MinInt, 0x00000001, "\x00\x00\x00"},
		{math.MinInt, 0x00000100, "\x00\x00\x01"},
		{3, 0, "\x00\x00\x00"},
	} {
		n := net.New(roomy)
		n.Send(net.Back, 4, "\x00\x00\x00")
		n.Send(net.Back, 4, "\x00\x00\x00")
		if !n.Turn(net.Back, 4, 1, x.at, x.mask) {
			t.Errorf("at %d: false", x.at)
		}
		is(t, n, net.Back, 4, "\x00\x00\x00", x.want)
		counts(t, n, net.Counts{Sent: 2, Turned: 1})
		// Turned once more it is as it was.
		n.Turn(net.Back, 4, 1, x.at, x.mask)
		is(t, n, net.Back, 4, "\x00\x00\x00", "\x00\x00\x00")
		counts(t, n, net.Counts{Sent: 2, Turned: 2})
	}
}

// The paths on which any are, rising, for each way; one of which the last one is gone
// isn't among them.
func TestP281Paths(t *testing.T) {
	n := net.New(roomy)
	for _, path := range []int{9, 15, 1, 10, 2} {
		n.Send(net.There, path, "a")
		n.Forge(net.Back, 16-path, "b")
	}
	n.Send(net.There, 9, "a")
	if l := n.Paths(net.There); !slices.Equal(l, []int{1, 2, 9, 10, 15}) {
		t.Errorf("There: %v", l)
	}
	if l := n.Paths(net.Back); !slices.Equal(l, []int{1, 6, 7, 14, 15}) {
		t.Errorf("Back: %v", l)
	}
	n.Take(net.There, 9, 0)
	n.Take(net.There, 10, 0)
	n.Lose(net.There, 1, 0)
	if l := n.Paths(net.There); !slices.Equal(l, []int{2, 9, 15}) {
		t.Errorf("There: %v", l)
	}
	n.Lose(net.There, 9, 0)
	n.Send(net.There, 1, "c")
	if l := n.Paths(net.There); !slices.Equal(l, []int{1, 2, 15}) {
		t.Errorf("There: %v", l)
	}
	if l := n.Paths(net.Back); !slices.Equal(l, []int{1, 6, 7, 14, 15}) {
		t.Errorf("Back: %v", l)
	}
	for path := 1; path <= mostPaths; path++ {
		n.Send(net.Back, path, "z")
	}
	if l := n.Paths(net.Back); !slices.Equal(l, []int{1, 2, 3, 4, 5, 6, 7, 8, 9, 10, 11, 12, 13, 14, 15}) {
		t.Errorf("Back: %v", l)
	}
}

// A Clone goes its own way, and so does what it is one of, whatever is done first
// with either.
func TestP281Clone(t *testing.T) {
	deeds := []func(n *net.Net){
		func(n *net.Net) { n.Send(net.There, 1, "new") },
		func(n *net.Net) { n.Send(net.Back, 7, "new") },
		func(n *net.Net) { n.Forge(net.There, 2, "forged") },
		func(n *net.Net) { n.Take(net.There, 1, 0) },
		func(n *net.Net) { n.Take(net.There, 2, 0) },
		func(n *net.Net) { n.Lose(net.There, 1, 1) },
		func(n *net.Net) { n.Twin(net.There, 1, 1) },
		func(n *net.Net) { n.Turn(net.There, 1, 0, 3, 0xf0000000) },
		func(n *net.Net) { n.Turn(net.There, 1, 2, 3, 0xf0000000) },
		func(n *net.Net) { n.Send(net.There, 0, "lost") },
	}
	begun := func() *net.Net {
		n := net.New(net.Config{Most: 4, Bytes: 50})
		for _, data := range []string{"one", "two", "three"} {
			n.Send(net.There, 1, data)
		}
		n.Send(net.There, 2, "other")
		return n
	}
	for i, one := range deeds {
		for j, two := range deeds {
			n, alone, aloneToo := begun(), begun(), begun()
			one(alone)
			two(aloneToo)
			c := n.Clone()
			alike(t, c, begun())
			one(n)
			alike(t, c, begun())
			two(c)
			alike(t, n, alone)
			alike(t, c, aloneToo)
			if t.Failed() {
				t.Fatalf("deeds %d and %d", i, j)
			}
		}
	}
}

// alike holds all that a Net tells against another one's.
func alike(t *testing.T, n, other *net.Net) {
	t.Helper()
	counts(t, n, other.Counts())
	for way := range 2 {
		for path := 1; path <= mostPaths; path++ {
			is(t, n, way, path, other.All(way, path)...)
		}
	}
}

// What a call answers is its own: to change it changes nothing else.
func TestP281Memory(t *testing.T) {
	n := net.New(roomy)
	for i := range 5 {
		n.Send(net.There, 1, text(i+1))
		n.Send(net.There, 3, "x")
	}
	for range 2 {
		l := n.All(net.There, 1)
		l = l[:cap(l)]
		for i := range l {
			l[i] = "other"
		}
		paths := n.Paths(net.There)
		clear(paths[:cap(paths)])
	}
	is(t, n, net.There, 1, text(1), text(2), text(3), text(4), text(5))
	if l := n.Paths(net.There); !slices.Equal(l, []int{1, 3}) {
		t.Errorf("%v", l)
	}
	// Nor does a list that was answered change later.
	l := n.All(net.There, 1)
	n.Take(net.There, 1, 0)
	n.Turn(net.There, 1, 0, 0, 1<<31)
	n.Send(net.There, 1, "z")
	if !slices.Equal(l, []string{text(1), text(2), text(3), text(4), text(5)}) {
		t.Errorf("%q", l)
	}
}

// A zero Net is as New of a zero Config: one datagram of one byte may be under way.
func TestP281Zero(t *testing.T) {
	calls := []func(n *net.Net){
		func(n *net.Net) { n.Send(net.There, 1, "a") },
		func(n *net.Net) { n.Send(net.There, 1, "ab") },
		func(n *net.Net) { n.Forge(net.Back, 15, "a") },
		func(n *net.Net) { n.Take(net.There, 1, 0) },
		func(n *net.Net) { n.Lose(net.There, 1, 0) },
		func(n *net.Net) { n.Twin(net.There, 1, 0) },
		func(n *net.Net) { n.Turn(net.There, 1, 0, 0, 1) },
		func(n *net.Net) { n.Clone().Send(net.There, 1, "c") },
		func(n *net.Net) { n.Counts() },
		func(n *net.Net) { n.Len(net.There, 1) },
		func(n *net.Net) { n.All(net.There, 1) },
		func(n *net.Net) { n.Paths(net.There) },
	}
	for _, one := range calls {
		for _, two := range calls {
			zero, made := new(net.Net), net.New(net.Config{})
			for _, n := range []*net.Net{zero, made} {
				one(n)
				two(n)
			}
			alike(t, zero, made)
			alike(t, zero.Clone(), made)
		}
	}
}
