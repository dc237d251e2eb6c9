package net_test

import (
	"math/rand"
	"slices"
	"testing"

	"cordelle/crc"
	"cordelle/net"
)

// datagram is one under way, in a model: which of all that were sent or forged it
// is, where, and how it is now.
type datagram struct {
	origin    int
	way, path int
	data      string
	turns     int
}

// model is a Net by the document's sentences: one list of all that are under way,
// wherever they are.
type model struct {
	most, bytes int
	under       []datagram
	net.Counts
	// What was sent, or forged, and how many were lost once they were under way.
	begun []datagram
	gone  int
}

// at answers where in the list the i-th one of a place is, -1, if there is none.
func (m *model) at(way, path, i int) int {
	for k, d := range m.under {
		if d.way != way || d.path != path {
			continue
		}
		if i == 0 {
			return k
		}
		i--
	}
	return -1
}

// room tells whether there is room for so many bytes more.
func (m *model) room(way, path, bytes int) bool {
	n := 0
	for _, d := range m.under {
		if d.way == way && d.path == path {
			n++
			bytes += len(d.data)
		}
	}
	return n < m.most && bytes <= m.bytes
}

// begin is Send, or Forge.
func (m *model) begin(way, path int, data string, count *int) bool {
	if way < 0 || way > 1 || path < 1 || path > mostPaths || len(data) == 0 || len(data) > mostPacket || !m.room(way, path, len(data)) {
		m.Lost++
		return false
	}
	d := datagram{origin: len(m.begun), way: way, path: path, data: data}
	m.begun = append(m.begun, d)
	m.under = append(m.under, d)
	*count++
	return true
}

// leave makes one be under way no more.
func (m *model) leave(k int) datagram {
	d := m.under[k]
	m.under = slices.Delete(m.under, k, k+1)
	return d
}

// holds holds all that a Net tells against its model.
func (m *model) holds(t *testing.T, n *net.Net) {
	t.Helper()
	counts(t, n, m.Counts)
	for way := -1; way <= 2; way++ {
		var paths []int
		for path := -1; path <= mostPaths+2; path++ {
			var l []string
			for _, d := range m.under {
				if d.way == way && d.path == path {
					l = append(l, d.data)
				}
			}
			is(t, n, way, path, l...)
			if len(l) > 0 {
				paths = append(paths, path)
			}
			if len(l) > m.most {
				t.Errorf("%d under way, of %d", len(l), m.most)
			}
		}
		if got := n.Paths(way); !slices.Equal(got, paths) {
			t.Errorf("Paths(%d): %v, not %v", way, got, paths)
		}
	}
	if t.Failed() {
		t.FailNow()
	}
}

// run does anything with a Net and its model.
type run struct {
	t   *testing.T
	rng *rand.Rand
	n   *net.Net
	m   *model
}

func (r *run) deed() {
	r.t.Helper()
	way, path, i := r.rng.Intn(2), 1+r.rng.Intn(3), r.rng.Intn(6)
	switch r.rng.Intn(40) {
	case 0:
		way = r.rng.Intn(6) - 2
	case 1:
		path = r.rng.Intn(20) - 1
	case 2:
		i = -1 - r.rng.Intn(2)
	}
	switch r.rng.Intn(9) {
	case 0, 1, 2:
		data := r.bytes()
		r.same(r.n.Send(way, path, data), r.m.begin(way, path, data, &r.m.Sent))
	case 3:
		data := r.bytes()
		r.same(r.n.Forge(way, path, data), r.m.begin(way, path, data, &r.m.Forged))
	case 4, 5:
		r.take(way, path, i)
	case 6:
		k := r.m.at(way, path, i)
		if k >= 0 {
			r.m.leave(k)
			r.m.Lost++
			r.m.gone++
		}
		r.same(r.n.Lose(way, path, i), k >= 0)
	case 7:
		k := r.m.at(way, path, i)
		may := k >= 0 && r.m.room(way, path, len(r.m.under[k].data))
		if may {
			r.m.under = append(r.m.under, r.m.under[k])
			r.m.Twins++
		}
		r.same(r.n.Twin(way, path, i), may)
	case 8:
		k := r.m.at(way, path, i)
		at, mask := r.rng.Intn(120)-8, r.rng.Uint32()
		if k >= 0 {
			r.m.under[k].data = crc.Turn(r.m.under[k].data, at, mask)
			r.m.under[k].turns++
			r.m.Turned++
		}
		r.same(r.n.Turn(way, path, i, at, mask), k >= 0)
	}
}

// take takes one: it is what was sent, or forged, there, but for turns.
func (r *run) take(way, path, i int) {
	r.t.Helper()
	data, there := r.n.Take(way, path, i)
	k := r.m.at(way, path, i)
	r.same(there, k >= 0)
	if k < 0 {
		if data != "" {
			r.t.Fatalf("%q beside false", data)
		}
		return
	}
	d := r.m.leave(k)
	r.m.Taken++
	begun := r.m.begun[d.origin]
	if data != d.data || begun.way != way || begun.path != path || d.turns == 0 && data != begun.data {
		r.t.Fatalf("%q arrives on %d, not %q, which was %q", data, path, d.data, begun.data)
	}
}

func (r *run) same(got, want bool) {
	r.t.Helper()
	if got != want {
		r.t.Fatalf("%t, not %t", got, want)
	}
}

// bytes are some that may be, now and then too few or too many.
func (r *run) bytes() string {
	n := 1 + r.rng.Intn(12)
	switch r.rng.Intn(30) {
	case 0:
		n = 0
	case 1:
		n = mostPacket
	case 2:
		n = mostPacket + 1
	}
	b := make([]byte, n)
	r.rng.Read(b)
	return string(b)
}

// newRun is of a Config of small numbers, some of which count as the nearest.
func newRun(t *testing.T, seed int64) *run {
	rng := rand.New(rand.NewSource(seed))
	c := net.Config{Most: rng.Intn(8) - 1, Bytes: rng.Intn(60) - 1}
	if rng.Intn(3) == 0 {
		c.Bytes = 4000
	}
	return &run{t: t, rng: rng, n: net.New(c), m: &model{most: max(c.Most, 1), bytes: max(c.Bytes, 1)}}
}

// Each call, behind any calls, and of a Clone at any time.
func TestP281Run(t *testing.T) {
	for seed := range int64(100) {
		r := newRun(t, seed)
		for range 60 {
			for range 3 {
				r.deed()
			}
			r.m.holds(t, r.n)
			if r.rng.Intn(8) > 0 {
				continue
			}
			other := *r
			same := *r.m
			same.under, same.begun = slices.Clone(r.m.under), slices.Clone(r.m.begun)
			other.n, other.m = r.n.Clone(), &same
			for range 4 {
				other.deed()
				r.m.holds(t, r.n)
				other.m.holds(t, other.n)
			}
			r.deed()
			other.m.holds(t, other.n)
			if r.rng.Intn(2) == 0 {
				r.n, r.m = other.n, other.m
			}
		}
	}
}

// What arrives is what was sent, or forged, there, but for turns; Sent, Twins and
// Forged are as many as Taken, were lost once they were under way, and are under way.
func TestP282Bag(t *testing.T) {
	taken, lost, refused := 0, 0, 0
	for seed := range int64(200) {
		r := newRun(t, 1000+seed)
		for range 300 {
			r.deed()
			c, under := r.n.Counts(), 0
			for way := range 2 {
				for _, path := range r.n.Paths(way) {
					under += r.n.Len(way, path)
				}
			}
			if c.Sent+c.Twins+c.Forged != c.Taken+r.m.gone+under {
				t.Fatalf("%+v: %d were lost under way, %d are", c, r.m.gone, under)
			}
		}
		taken += r.m.Taken
		lost += r.m.gone
		refused += r.m.Lost - r.m.gone
	}
	if taken < 1000 || lost < 1000 || refused < 1000 {
		t.Errorf("%d arrived, %d were lost under way, %d ahead", taken, lost, refused)
	}
}

// All that are under way arrive, in their order, where the first one is taken each
// time; without turns and twins each of them once, and byte by byte.
func TestP282InOrder(t *testing.T) {
	n := net.New(roomy)
	var want [2][mostPaths + 1][]string
	rng := rand.New(rand.NewSource(28))
	for range 2000 {
		way, path := rng.Intn(2), 1+rng.Intn(mostPaths)
		data := text(1 + rng.Intn(mostPacket))
		if rng.Intn(2) == 0 && n.Send(way, path, data) || n.Forge(way, path, data) {
			want[way][path] = append(want[way][path], data)
		}
	}
	for way := range 2 {
		for path := 1; path <= mostPaths; path++ {
			for _, data := range want[way][path] {
				if got, there := n.Take(way, path, 0); got != data || !there {
					t.Fatalf("(%d, %d): %d bytes, not %d", way, path, len(got), len(data))
				}
			}
			is(t, n, way, path)
		}
	}
	if c := n.Counts(); c.Sent+c.Forged != 2000 || c.Taken != 2000 || c.Lost != 0 {
		t.Errorf("%+v", c)
	}
}
