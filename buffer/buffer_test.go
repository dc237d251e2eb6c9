package buffer_test

import (
	"maps"
	"math"
	"math/rand"
	"slices"
	"strings"
	"testing"

	"cordelle/buffer"
	"cordelle/media"
	"cordelle/split"
)

// The document's bounds, as it says them.
const (
	mostFrames  = 1024
	mostPackets = 65536
	mostBytes   = 67108864
	last        = 1 << 40
	lastTime    = math.MaxUint32
)

// nearest is n as it counts in a range.
func nearest(least, n, most int) int {
	switch {
	case n < least:
		return least
	case n > most:
		return most
	}
	return n
}

// frame is one that waits: its parts, by their Indexes.
type frame struct {
	first, count int
	parts        map[int]string
}

// whole is all its bytes, if all its parts are there.
func (f frame) whole() (string, bool) {
	all := ""
	for i := range f.count {
		s, is := f.parts[i]
		if !is {
			return "", false
		}
		all += s
	}
	return all, true
}

// model is a Buffer by the document's sentences: it counts what waits anew each
// time.
type model struct {
	buffer.Config
	waiting                  map[uint32]frame
	horizon                  int
	played, dropped, evicted []uint32
}

func clip(c buffer.Config) buffer.Config {
	return buffer.Config{Frames: nearest(1, c.Frames, mostFrames), Packets: nearest(1, c.Packets, mostPackets), Bytes: nearest(1, c.Bytes, mostBytes)}
}

func newModel(c buffer.Config) *model {
	return &model{Config: clip(c), waiting: map[uint32]frame{}, horizon: -1}
}

func (m *model) clone() *model {
	c := *m
	c.waiting = maps.Clone(m.waiting)
	for time, f := range c.waiting {
		f.parts = maps.Clone(f.parts)
		c.waiting[time] = f
	}
	c.played, c.dropped, c.evicted = slices.Clone(m.played), slices.Clone(m.dropped), slices.Clone(m.evicted)
	return &c
}

func (m *model) times() []uint32 { return slices.Sorted(maps.Keys(m.waiting)) }

// sums are how many parts wait, of how many bytes.
func (m *model) sums() (int, int) {
	packets, bytes := 0, 0
	for _, f := range m.waiting {
		packets += len(f.parts)
		for _, s := range f.parts {
			bytes += len(s)
		}
	}
	return packets, bytes
}

func (m *model) tooMany() bool {
	packets, bytes := m.sums()
	return len(m.waiting) > m.Frames || packets > m.Packets || bytes > m.Bytes
}

// leave makes the frame of the least time wait no more.
func (m *model) leave() uint32 {
	time := m.times()[0]
	delete(m.waiting, time)
	m.horizon = int(time)
	return time
}

func (m *model) put(time uint32, p media.Part, data string, now int) buffer.Came {
	if int(time) <= m.horizon {
		return buffer.Came{Kind: 5}
	}
	if p.Count < 1 || p.Count > 255 || p.Index < 0 || p.Index >= p.Count {
		return buffer.Came{Kind: 4}
	}
	f, is := m.waiting[time]
	if !is {
		f = frame{first: nearest(0, now, last), count: p.Count, parts: map[int]string{}}
		m.waiting[time] = f
	}
	if p.Count != f.count {
		return buffer.Came{Kind: 4}
	}
	if _, is := f.parts[p.Index]; is {
		return buffer.Came{Kind: 3}
	}
	f.parts[p.Index] = data
	c := buffer.Came{Kind: 1}
	if len(f.parts) == f.count {
		c.Kind = 2
	}
	for m.tooMany() {
		c.Evicted = append(c.Evicted, m.leave())
	}
	m.evicted = append(m.evicted, c.Evicted...)
	if slices.Contains(c.Evicted, time) {
		c.Kind = 6
	}
	return c
}

func (m *model) play(now, delay, most int) ([]buffer.Frame, []uint32) {
	var played []buffer.Frame
	var dropped []uint32
	for _, time := range m.times() {
		f := m.waiting[time]
		age := nearest(0, now, last) - f.first
		data, whole := f.whole()
		if whole && age >= delay {
			played = append(played, buffer.Frame{Time: m.leave(), Data: data})
			m.played = append(m.played, time)
			continue
		}
		if age < most {
			break
		}
		dropped = append(dropped, m.leave())
	}
	m.dropped = append(m.dropped, dropped...)
	return played, dropped
}

// check holds all that a Buffer tells against the model.
func check(t *testing.T, b *buffer.Buffer, m *model) {
	t.Helper()
	if got := b.Times(); !slices.Equal(got, m.times()) || b.Len() != len(m.waiting) {
		t.Fatalf("Times, Len: %v %d, not %v", got, b.Len(), m.times())
	}
	packets, bytes := m.sums()
	if b.Packets() != packets || b.Bytes() != bytes {
		t.Fatalf("Packets, Bytes: %d %d, not %d %d", b.Packets(), b.Bytes(), packets, bytes)
	}
	if b.Len() > m.Frames || b.Packets() > m.Packets || b.Bytes() > m.Bytes {
		t.Fatalf("%d frames, %d parts, %d bytes of %+v", b.Len(), b.Packets(), b.Bytes(), m.Config)
	}
	if b.Horizon() != m.horizon {
		t.Fatalf("Horizon: %d, not %d", b.Horizon(), m.horizon)
	}
	played, dropped, evicted := b.Counts()
	if played != len(m.played) || dropped != len(m.dropped) || evicted != len(m.evicted) {
		t.Fatalf("Counts: %d %d %d, not %d %d %d", played, dropped, evicted, len(m.played), len(m.dropped), len(m.evicted))
	}
}

// put does Put to both, and answers what came of the part.
func put(t *testing.T, b *buffer.Buffer, m *model, time uint32, index, count int, data string, now int) buffer.Came {
	t.Helper()
	p := media.Part{Index: index, Count: count}
	got, want := b.Put(time, p, data, now), m.put(time, p, data, now)
	if got.Kind != want.Kind || !slices.Equal(got.Evicted, want.Evicted) {
		t.Fatalf("Put(%d, %+v, %q, %d): %+v, not %+v", time, p, data, now, got, want)
	}
	check(t, b, m)
	return got
}

// play does Play to both, and answers what is played, and what dropped.
func play(t *testing.T, b *buffer.Buffer, m *model, now, delay, most int) ([]buffer.Frame, []uint32) {
	t.Helper()
	got, gone := b.Play(now, delay, most)
	want, wanted := m.play(now, delay, most)
	if !slices.Equal(got, want) || !slices.Equal(gone, wanted) {
		t.Fatalf("Play(%d, %d, %d): %v %v, not %v %v", now, delay, most, got, gone, want, wanted)
	}
	check(t, b, m)
	return got, gone
}

// begun is a Buffer in which no frame waits, and its model.
func begun(t *testing.T, c buffer.Config) (*buffer.Buffer, *model) {
	t.Helper()
	b, m := buffer.New(c), newModel(c)
	check(t, b, m)
	return b, m
}

// some is a Config of which no number is a bound.
var some = buffer.Config{Frames: 6, Packets: 12, Bytes: 40}

// The document's example.
func TestP241Example(t *testing.T) {
	b := buffer.New(some)
	b.Put(7, media.Part{Index: 0, Count: 1}, "a", 0)
	if l, _ := b.Play(4, 5, 9); len(l) != 0 {
		t.Errorf("at 4: %v", l)
	}
	if l, _ := b.Play(5, 5, 9); !slices.Equal(l, []buffer.Frame{{Time: 7, Data: "a"}}) {
		t.Errorf("at 5: %v", l)
	}
}

// Numbers are as the document says them, the first ones as layer 23 has them.
func TestP241Kinds(t *testing.T) {
	got := []int{buffer.Kept, buffer.Whole, buffer.Twice, buffer.Bad, buffer.Late, buffer.Evicted}
	if !slices.Equal(got, []int{1, 2, 3, 4, 5, 6}) || !slices.Equal(got[:4], []int{split.Kept, split.Whole, split.Twice, split.Bad}) {
		t.Errorf("%v", got)
	}
}

// Clip of numbers of -1, 0, 1, as great as may be and beyond.
func TestP241Clip(t *testing.T) {
	numbers := func(most int) []int {
		return []int{math.MinInt, -1, 0, 1, 2, most - 1, most, most + 1, math.MaxInt}
	}
	for _, x := range numbers(mostFrames) {
		for _, y := range numbers(mostPackets) {
			for _, z := range numbers(mostBytes) {
				c := buffer.Config{Frames: x, Packets: y, Bytes: z}
				if got := c.Clip(); got != clip(c) || got.Clip() != got {
					t.Errorf("%+v: %+v, not %+v", c, got, clip(c))
				}
			}
		}
	}
}

// New counts each number as the nearest; a zero Buffer is like that of New of a
// zero Config.
func TestP241New(t *testing.T) {
	for _, n := range []int{math.MinInt, -1, 0, 1, 2, 3} {
		for _, c := range []buffer.Config{{Frames: n, Packets: 9, Bytes: 9}, {Frames: 9, Packets: n, Bytes: 9}, {Frames: 9, Packets: 9, Bytes: n}} {
			b, m := begun(t, c)
			for i := range 5 {
				put(t, b, m, uint32(i), 0, 1, "x", i)
			}
			if b.Len() != nearest(1, n, 3) {
				t.Errorf("%+v: %d", c, b.Len())
			}
		}
	}
	for _, like := range []func(b *buffer.Buffer) *buffer.Buffer{func(b *buffer.Buffer) *buffer.Buffer { return b }, (*buffer.Buffer).Clone} {
		b, m := like(new(buffer.Buffer)), newModel(buffer.Config{})
		check(t, b, m)
		play(t, b, m, 0, 0, 0)
		put(t, b, m, 0, 0, 1, "a", 0)
		put(t, b, m, 0, 0, 1, "a", 0)
		put(t, b, m, 1, 0, 2, "", 0)
		put(t, b, m, 2, 0, 2, "bb", 0)
		put(t, b, m, 3, 0, 1, "c", 0)
		play(t, b, m, 0, 0, 0)
	}
}

// As many frames, parts and bytes may wait as may at most.
func TestP241Most(t *testing.T) {
	b, m := begun(t, buffer.Config{Frames: math.MaxInt, Packets: math.MaxInt, Bytes: math.MaxInt})
	for i := range mostFrames + 2 {
		got, want := b.Put(uint32(i), media.Part{Count: 1}, "", 0), m.put(uint32(i), media.Part{Count: 1}, "", 0)
		if got.Kind != buffer.Whole || !slices.Equal(got.Evicted, want.Evicted) || (i < mostFrames) != (len(got.Evicted) == 0) {
			t.Fatalf("frame %d: %+v, not %+v", i, got, want)
		}
	}
	check(t, b, m)

	b = buffer.New(buffer.Config{Frames: math.MaxInt, Packets: math.MaxInt, Bytes: math.MaxInt})
	for i := range mostPackets {
		if c := b.Put(uint32(i/255), media.Part{Index: i % 255, Count: 255}, "", 0); len(c.Evicted) != 0 || b.Packets() != i+1 {
			t.Fatalf("part %d: %+v", i, c)
		}
	}
	if c := b.Put(1000, media.Part{Index: 3, Count: 255}, "", 0); c.Kind != buffer.Kept || !slices.Equal(c.Evicted, []uint32{0}) || b.Packets() != mostPackets+1-255 {
		t.Errorf("one part more: %+v, %d", c, b.Packets())
	}

	b, m = begun(t, buffer.Config{Frames: math.MaxInt, Packets: math.MaxInt, Bytes: math.MaxInt})
	half := strings.Repeat("x", mostBytes/2)
	for i := range 3 {
		for j, data := range []string{half, "a", ""} {
			got, want := b.Put(uint32(i), media.Part{Index: j, Count: 3}, data, 0), m.put(uint32(i), media.Part{Index: j, Count: 3}, data, 0)
			if got.Kind != want.Kind || !slices.Equal(got.Evicted, want.Evicted) {
				t.Fatalf("frame %d, part %d: %+v, not %+v", i, j, got, want)
			}
			check(t, b, m)
		}
	}
	if b.Horizon() != 1 {
		t.Errorf("the horizon is %d", b.Horizon())
	}
	b, m = begun(t, buffer.Config{Frames: math.MaxInt, Packets: math.MaxInt, Bytes: math.MaxInt})
	for i, data := range []string{half, half, "", "a"} {
		got := b.Put(uint32(i), media.Part{Count: 1}, data, 0)
		m.put(uint32(i), media.Part{Count: 1}, data, 0)
		if (i < 3) != (len(got.Evicted) == 0) {
			t.Fatalf("frame %d: %+v", i, got)
		}
		check(t, b, m)
	}
}

// A part of a time at the horizon, below it, above it.
func TestP241Horizon(t *testing.T) {
	for _, h := range []uint32{0, 1, 2, 77, math.MaxInt32, math.MaxInt32 + 1, lastTime - 1, lastTime} {
		for _, way := range []func(b *buffer.Buffer, m *model){
			func(b *buffer.Buffer, m *model) {
				put(t, b, m, h, 0, 1, "a", 0)
				play(t, b, m, 0, 0, 9)
			},
			func(b *buffer.Buffer, m *model) {
				put(t, b, m, h, 0, 2, "a", 0)
				play(t, b, m, 0, 0, 0)
			},
			func(b *buffer.Buffer, m *model) { put(t, b, m, h, 0, 1, strings.Repeat("a", 41), 0) },
		} {
			b, m := begun(t, some)
			way(b, m)
			if b.Horizon() != int(h) {
				t.Fatalf("%d: %d", h, b.Horizon())
			}
			for _, time := range []uint32{0, h - 1, h, h + 1, lastTime} {
				want := buffer.Kept
				if time <= h {
					want = buffer.Late
				}
				for _, x := range []struct{ index, count int }{{0, 2}, {-1, 2}, {0, 0}, {2, 2}, {0, 256}} {
					if want == buffer.Kept && (x.index != 0 || x.count != 2) {
						want = buffer.Bad
					}
					if got := put(t, b.Clone(), m.clone(), time, x.index, x.count, "z", 0); got.Kind != want {
						t.Errorf("the horizon is %d, %d comes, %+v: %+v", h, time, x, got)
					}
				}
			}
		}
	}
	b, m := begun(t, some)
	for _, time := range []uint32{lastTime, 0, 1, lastTime - 1} {
		put(t, b, m, time, 0, 1, "a", 0)
	}
	if l, _ := play(t, b, m, 0, 0, 0); len(l) != 4 || b.Horizon() != lastTime {
		t.Errorf("%v %d", l, b.Horizon())
	}
	for _, time := range []uint32{0, 1, lastTime - 1, lastTime} {
		if put(t, b, m, time, 0, 1, "a", 0).Kind != buffer.Late {
			t.Errorf("%d is over", time)
		}
	}
}

// Counts of 0, 1, 255, 256, Indexes of -1, just below the Count, at it; a part whose
// Count isn't that of the frame that waits.
func TestP241Bad(t *testing.T) {
	counts := []int{math.MinInt, -1, 0, 1, 2, 3, 254, 255, 256, math.MaxInt}
	for _, count := range counts {
		for _, index := range []int{math.MinInt, -1, 0, 1, count - 1, count, count + 1, 254, 255, 256, math.MaxInt} {
			b, m := begun(t, buffer.Config{Frames: 9, Packets: 999, Bytes: 999})
			got := put(t, b, m, 5, index, count, "a", 3)
			if may := count >= 1 && count <= 255 && index >= 0 && index < count; may != (got.Kind != buffer.Bad) || may != (b.Len() == 1) {
				t.Fatalf("%d of %d: %+v", index, count, got)
			}
			put(t, b, m, 5, 0, 3, "b", 3)
			for _, other := range counts {
				put(t, b, m, 5, index, other, "c", 3)
				put(t, b, m, 5, index, other, "c", 3)
			}
		}
	}
}

// What came of a part is layer 23's Put: Kept, Whole, Twice and Bad in turn, of
// several frames that wait, parts without bytes among them.
func TestP241Put(t *testing.T) {
	b, m := begun(t, some)
	for i, x := range []struct {
		time         uint32
		index, count int
		data         string
		want         int
	}{
		{10, 0, 2, "a", buffer.Kept}, {20, 0, 1, "b", buffer.Whole}, {10, 0, 2, "xx", buffer.Twice}, {10, 1, 3, "z", buffer.Bad},
		{5, 1, 3, "", buffer.Kept}, {5, 1, 3, "zz", buffer.Twice}, {20, 0, 1, "", buffer.Twice}, {20, 0, 2, "", buffer.Bad},
		{10, 1, 2, "c", buffer.Whole}, {10, 1, 2, "c", buffer.Twice}, {10, 2, 2, "c", buffer.Bad}, {5, 2, 3, "", buffer.Kept}, {5, 0, 3, "", buffer.Whole},
	} {
		if got := put(t, b, m, x.time, x.index, x.count, x.data, 0); got.Kind != x.want || len(got.Evicted) != 0 {
			t.Errorf("%d: %+v", i, got)
		}
	}
	if l, _ := play(t, b, m, 0, 0, 0); !slices.Equal(l, []buffer.Frame{{Time: 5}, {Time: 10, Data: "ac"}, {Time: 20, Data: "b"}}) {
		t.Errorf("%v", l)
	}
}

// First is when the first part came, not a later one, of a frame that begins with it:
// one that was told as Bad doesn't begin one.
func TestP241First(t *testing.T) {
	b, m := begun(t, some)
	put(t, b, m, 10, 2, 2, "z", 1)
	put(t, b, m, 10, 1, 2, "b", 4)
	put(t, b, m, 10, 1, 2, "b", 5)
	put(t, b, m, 10, 0, 2, "a", 6)
	if l, _ := play(t, b, m, 8, 5, 99); len(l) != 0 {
		t.Errorf("at 8: %v", l)
	}
	if l, _ := play(t, b, m, 9, 5, 99); !slices.Equal(l, []buffer.Frame{{Time: 10, Data: "ab"}}) {
		t.Errorf("at 9: %v", l)
	}
	put(t, b, m, 20, 0, 2, "a", 10)
	put(t, b, m, 20, 1, 2, "b", 30)
	if l, _ := play(t, b, m, 14, 5, 99); len(l) != 0 {
		t.Errorf("at 14: %v", l)
	}
	if l, _ := play(t, b, m, 15, 5, 99); !slices.Equal(l, []buffer.Frame{{Time: 20, Data: "ab"}}) {
		t.Errorf("at 15: %v", l)
	}
}

// One frame more, one part more, one byte more than may wait.
func TestP241Evicted(t *testing.T) {
	for _, x := range []struct {
		buffer.Config
		time    uint32
		index   int
		data    string
		kind    int
		evicted []uint32
	}{
		// What waits: of 10 two parts of three, 3 bytes; of 20 one of three, 2 bytes; of 30 one of three, none.
		{buffer.Config{Frames: 4, Packets: 5, Bytes: 6}, 40, 0, "a", buffer.Kept, nil},
		{buffer.Config{Frames: 3, Packets: 5, Bytes: 6}, 40, 0, "a", buffer.Kept, []uint32{10}},
		{buffer.Config{Frames: 4, Packets: 4, Bytes: 6}, 40, 0, "a", buffer.Kept, []uint32{10}},
		{buffer.Config{Frames: 4, Packets: 5, Bytes: 5}, 40, 0, "a", buffer.Kept, []uint32{10}},
		{buffer.Config{Frames: 3, Packets: 5, Bytes: 6}, 25, 0, "a", buffer.Kept, []uint32{10}},
		{buffer.Config{Frames: 3, Packets: 5, Bytes: 6}, 5, 0, "a", buffer.Evicted, []uint32{5}},
		{buffer.Config{Frames: 4, Packets: 4, Bytes: 6}, 5, 0, "a", buffer.Evicted, []uint32{5}},
		{buffer.Config{Frames: 4, Packets: 5, Bytes: 5}, 5, 0, "a", buffer.Evicted, []uint32{5}},
		{buffer.Config{Frames: 4, Packets: 5, Bytes: 5}, 10, 2, "", buffer.Whole, nil},
		{buffer.Config{Frames: 3, Packets: 4, Bytes: 5}, 10, 2, "", buffer.Evicted, []uint32{10}},
		{buffer.Config{Frames: 3, Packets: 5, Bytes: 5}, 10, 2, "a", buffer.Evicted, []uint32{10}},
		{buffer.Config{Frames: 3, Packets: 4, Bytes: 9}, 20, 1, "a", buffer.Kept, []uint32{10}},
		{buffer.Config{Frames: 3, Packets: 4, Bytes: 9}, 30, 1, "a", buffer.Kept, []uint32{10}},
		{buffer.Config{Frames: 3, Packets: 9, Bytes: 7}, 20, 1, "12345", buffer.Kept, []uint32{10}},
		{buffer.Config{Frames: 3, Packets: 9, Bytes: 7}, 20, 1, "123456", buffer.Evicted, []uint32{10, 20}},
		{buffer.Config{Frames: 3, Packets: 9, Bytes: 7}, 30, 1, "123456", buffer.Kept, []uint32{10, 20}},
		{buffer.Config{Frames: 3, Packets: 9, Bytes: 7}, 30, 1, "1234567", buffer.Kept, []uint32{10, 20}},
		{buffer.Config{Frames: 3, Packets: 9, Bytes: 7}, 30, 1, "12345678", buffer.Evicted, []uint32{10, 20, 30}},
		{buffer.Config{Frames: 3, Packets: 9, Bytes: 7}, 10, 2, "12345678", buffer.Evicted, []uint32{10}},
		{buffer.Config{Frames: 4, Packets: 9, Bytes: 7}, 40, 0, "12345678", buffer.Evicted, []uint32{10, 20, 30, 40}},
		{buffer.Config{Frames: 4, Packets: 9, Bytes: 7}, 25, 0, "12345678", buffer.Evicted, []uint32{10, 20, 25}},
	} {
		b, m := begun(t, x.Config)
		put(t, b, m, 10, 0, 3, "a", 0)
		put(t, b, m, 20, 0, 3, "cc", 0)
		put(t, b, m, 10, 1, 3, "bb", 0)
		put(t, b, m, 30, 0, 3, "", 0)
		if b.Len() != 3 {
			t.Fatalf("%+v: %d wait", x.Config, b.Len())
		}
		if got := put(t, b, m, x.time, x.index, 3, x.data, 0); got.Kind != x.kind || !slices.Equal(got.Evicted, x.evicted) {
			t.Errorf("%+v: %+v", x, got)
		}
		if n := len(x.evicted); n > 0 && b.Horizon() != int(x.evicted[n-1]) {
			t.Errorf("%+v: the horizon is %d", x, b.Horizon())
		}
	}
}

// Many that are evicted at once, and the part's own frame, also as the only one.
func TestP241EvictedMany(t *testing.T) {
	for _, time := range []uint32{0, 150, 999} {
		b, m := begun(t, buffer.Config{Frames: 400, Packets: 999, Bytes: 300})
		for i := range 300 {
			put(t, b, m, uint32(i+1), 0, 1, "x", 0)
		}
		for _, n := range []int{1, 2, 100, 300, 301} {
			put(t, b.Clone(), m.clone(), time, 1, 2, strings.Repeat("y", n), 0)
		}
	}
	b, m := begun(t, some)
	if got := put(t, b, m, 9, 0, 1, strings.Repeat("y", 41), 0); got.Kind != buffer.Evicted || !slices.Equal(got.Evicted, []uint32{9}) || b.Horizon() != 9 {
		t.Errorf("the only one: %+v", got)
	}
	b, m = begun(t, buffer.Config{Frames: 1, Packets: 2, Bytes: 9})
	put(t, b, m, 9, 0, 3, "", 0)
	put(t, b, m, 9, 1, 3, "", 0)
	if got := put(t, b, m, 9, 2, 3, "", 0); got.Kind != buffer.Evicted || !slices.Equal(got.Evicted, []uint32{9}) {
		t.Errorf("the only one, of one part more: %+v", got)
	}
}

// Play ahead of the delay, just at it, behind it, ahead of most, just at it, behind
// it, with a most below the delay, of a frame that is whole, and of one that isn't.
func TestP241Play(t *testing.T) {
	for _, first := range []int{0, 1, 100, last - 50, last} {
		for _, delay := range []int{math.MinInt, -1, 0, 1, 5, 10, 20, last, math.MaxInt} {
			for _, most := range []int{math.MinInt, -1, 0, 1, 5, 10, 20, last, math.MaxInt} {
				for _, age := range []int{0, 1, 4, 5, 6, 9, 10, 11, 19, 20, 21} {
					for count := 1; count <= 2; count++ {
						b, m := begun(t, some)
						put(t, b, m, 30, 0, count, "a", first)
						l, gone := play(t, b, m, first+age, delay, most)
						if len(l)+len(gone)+b.Len() != 1 {
							t.Fatalf("%v %v %v", l, gone, b.Times())
						}
					}
				}
			}
		}
	}
	for _, x := range []struct{ now, delay, most, played, dropped int }{
		{4, 5, 9, 0, 0}, {5, 5, 9, 1, 0}, {6, 5, 9, 1, 0}, {9, 5, 9, 1, 0}, {8, 10, 9, 0, 0}, {9, 10, 9, 0, 1}, {10, 10, 9, 1, 0}, {0, 0, 0, 1, 0}, {0, 1, 0, 0, 1},
	} {
		b, m := begun(t, some)
		put(t, b, m, 30, 0, 1, "a", 0)
		if l, gone := play(t, b, m, x.now, x.delay, x.most); len(l) != x.played || len(gone) != x.dropped {
			t.Errorf("%+v: %v %v", x, l, gone)
		}
	}
}

// Ticks count as the nearest of 0 to 2^40; one may be ahead of an earlier one.
func TestP241Ticks(t *testing.T) {
	ticks := []int{math.MinInt, -last - 1, -1, 0, 1, 6, last - 6, last - 1, last, last + 1, 2 * last, math.MaxInt}
	for _, first := range ticks {
		for _, now := range ticks {
			for _, delay := range []int{math.MinInt, -last, -6, -1, 0, 1, 6, last - 1, last, last + 1, math.MaxInt} {
				b, m := begun(t, some)
				put(t, b, m, 30, 0, 1, "a", first)
				play(t, b, m, now, delay, math.MaxInt)
				b, m = begun(t, some)
				put(t, b, m, 30, 0, 2, "a", first)
				play(t, b, m, now, 0, delay)
			}
		}
	}
}

// A frame that lacks parts ahead of one that is whole holds that up, until it is
// dropped; so does one that came later.
func TestP241Order(t *testing.T) {
	b, m := begun(t, some)
	put(t, b, m, 10, 0, 2, "a", 0)
	put(t, b, m, 20, 0, 1, "b", 0)
	put(t, b, m, 30, 1, 2, "c", 0)
	put(t, b, m, 40, 0, 1, "d", 0)
	if l, gone := play(t, b, m, 8, 5, 9); len(l) != 0 || len(gone) != 0 {
		t.Errorf("at 8: %v %v", l, gone)
	}
	c, n := b.Clone(), m.clone()
	if l, gone := play(t, b, m, 9, 5, 9); !slices.Equal(l, []buffer.Frame{{Time: 20, Data: "b"}, {Time: 40, Data: "d"}}) || !slices.Equal(gone, []uint32{10, 30}) {
		t.Errorf("at 9: %v %v", l, gone)
	}
	put(t, c, n, 10, 1, 2, "z", 8)
	if l, gone := play(t, c, n, 8, 5, 9); !slices.Equal(l, []buffer.Frame{{Time: 10, Data: "az"}, {Time: 20, Data: "b"}}) || len(gone) != 0 {
		t.Errorf("at 8, the first one whole: %v %v", l, gone)
	}
	b, m = begun(t, some)
	put(t, b, m, 20, 0, 1, "b", 0)
	put(t, b, m, 10, 0, 1, "a", 3)
	if l, _ := play(t, b, m, 7, 5, 9); len(l) != 0 {
		t.Errorf("at 7: %v", l)
	}
	if l, _ := play(t, b, m, 8, 5, 9); !slices.Equal(l, []buffer.Frame{{Time: 10, Data: "a"}, {Time: 20, Data: "b"}}) {
		t.Errorf("at 8: %v", l)
	}
	if l, gone := play(t, b, m, 99, 0, 0); len(l) != 0 || len(gone) != 0 {
		t.Errorf("none waits: %v %v", l, gone)
	}
}

// Any calls behind any others, of a Buffer and of its Clones, by small bounds.
func TestP241Calls(t *testing.T) {
	r := rand.New(rand.NewSource(241))
	for range 600 {
		b, m := begun(t, buffer.Config{Frames: r.Intn(8), Packets: r.Intn(14), Bytes: r.Intn(24)})
		now, base := r.Intn(20), uint32(r.Intn(2)*(lastTime-70))
		for range 120 {
			now += r.Intn(2)
			time := base + uint32(max(0, now/3+r.Intn(9)-3))
			count := 1 + int(time*7%4)
			index := r.Intn(count)
			switch r.Intn(24) {
			case 0:
				index = r.Intn(9) - 2
			case 1:
				count = r.Intn(6)
			case 2:
				time = r.Uint32()
			case 3:
				c, n := b.Clone(), m.clone()
				put(t, c, n, time, index, count, "other", now)
				play(t, c, n, now+r.Intn(9), r.Intn(4), r.Intn(9))
				check(t, b, m)
			case 4:
				b, m = b.Clone(), m.clone()
			}
			if r.Intn(6) == 0 {
				play(t, b, m, now, r.Intn(6), r.Intn(12))
			} else {
				put(t, b, m, time, index, count, strings.Repeat("x", r.Intn(5)), now)
			}
		}
	}
}

// A Clone goes its own way, and so does what it is one of.
func TestP241Clone(t *testing.T) {
	b, m := begun(t, some)
	put(t, b, m, 10, 0, 2, "a", 0)
	put(t, b, m, 20, 0, 3, "b", 1)
	put(t, b, m, 30, 0, 1, "c", 2)
	c, n := b.Clone(), m.clone()
	check(t, c, n)
	put(t, c, n, 10, 1, 2, "x", 3)
	put(t, c, n, 25, 0, 1, "y", 3)
	put(t, c, n, 5, 0, 1, "y", 3)
	check(t, b, m)
	put(t, b, m, 10, 1, 2, "zz", 4)
	put(t, b, m, 20, 1, 3, "z", 4)
	check(t, c, n)
	play(t, b, m, 9, 0, 5)
	check(t, c, n)
	put(t, c, n, 60, 0, 1, strings.Repeat("v", 40), 5)
	put(t, c, n, 70, 0, 1, strings.Repeat("w", 39), 5)
	check(t, b, m)
	play(t, c, n, 90, 0, 0)
	check(t, b, m)
}

// Answers are new memory each time.
func TestP241Memory(t *testing.T) {
	b, m := begun(t, buffer.Config{Frames: 3, Packets: 9, Bytes: 9})
	for i := range 3 {
		put(t, b, m, uint32(i), 0, 1+i%2, "a", 0)
	}
	times := b.Times()
	times[0], times[2] = 77, 78
	check(t, b, m)
	evicted := put(t, b, m, 3, 0, 1, "12345678", 0).Evicted
	evicted[0] = 99
	check(t, b, m)
	l, gone := play(t, b, m, 9, 9, 9)
	again, _ := b.Clone().Play(9, 9, 9)
	if len(l) != 2 || len(gone) != 0 || len(again) != 0 {
		t.Fatalf("%v %v %v", l, gone, again)
	}
	l[0] = buffer.Frame{}
	check(t, b, m)
	put(t, b, m, 10, 0, 2, "a", 10)
	put(t, b, m, 11, 0, 2, "a", 10)
	_, gone = play(t, b, m, 19, 9, 9)
	gone[0] = 99
	check(t, b, m)
}

// stream is frames that were split, and came to a Buffer in some order, some parts
// twice, some never, as far as they were played.
type stream struct {
	sent   []string
	played []buffer.Frame
	gone   []uint32
}

// run sends so many frames of times 3, 13, .. to a Buffer.
func run(t *testing.T, r *rand.Rand, c buffer.Config, frames int) stream {
	t.Helper()
	type packet struct {
		time uint32
		media.Part
		data string
		at   int
	}
	b, s := buffer.New(c), stream{}
	var under []packet
	for i := range frames {
		data := make([]byte, r.Intn(30))
		r.Read(data)
		s.sent = append(s.sent, string(data))
		l := split.Split(string(data), 7)
		for j, part := range l {
			for range r.Intn(20) % 3 {
				under = append(under, packet{uint32(10*i + 3), media.Part{Index: j, Count: len(l)}, part, i + r.Intn(1+r.Intn(9))})
			}
		}
	}
	r.Shuffle(len(under), func(i, j int) { under[i], under[j] = under[j], under[i] })
	for now := range frames + 20 {
		for _, p := range under {
			if p.at == now {
				s.gone = append(s.gone, b.Put(p.time, p.Part, p.data, now).Evicted...)
			}
			if d := b.Config.Clip(); b.Len() > d.Frames || b.Packets() > d.Packets || b.Bytes() > d.Bytes {
				t.Fatalf("%d frames, %d parts, %d bytes of %+v", b.Len(), b.Packets(), b.Bytes(), d)
			}
		}
		l, dropped := b.Play(now, r.Intn(6), 4+r.Intn(9))
		s.played = append(s.played, l...)
		s.gone = append(s.gone, dropped...)
	}
	if n, d, e := b.Counts(); n != len(s.played) || d+e != len(s.gone) {
		t.Fatalf("%d %d %d, but %d and %d", n, d, e, len(s.played), len(s.gone))
	}
	return s
}

// RISING: times of frames that are played rise; of each time there is one at most;
// its bytes are those of its parts.
func TestP242Rising(t *testing.T) {
	r := rand.New(rand.NewSource(242))
	played, gone := 0, 0
	for range 200 {
		c := buffer.Config{Frames: 3 + r.Intn(9), Packets: 9 + r.Intn(20), Bytes: 40 + r.Intn(90)}
		s := run(t, r, c, 60)
		for i, f := range s.played {
			if i > 0 && s.played[i-1].Time >= f.Time {
				t.Fatalf("%d behind %d", f.Time, s.played[i-1].Time)
			}
			if f.Time%10 != 3 || f.Data != s.sent[f.Time/10] {
				t.Fatalf("%d: %q", f.Time, f.Data)
			}
			if slices.Contains(s.gone, f.Time) {
				t.Fatalf("%d is gone", f.Time)
			}
		}
		played += len(s.played)
		gone += len(s.gone)
	}
	if played < 1000 || gone < 1000 {
		t.Errorf("%d were played, %d are gone", played, gone)
	}
}

// What was played, dropped or evicted never waits again, and never more wait than
// may, whatever comes.
func TestP243Bound(t *testing.T) {
	r := rand.New(rand.NewSource(243))
	for range 300 {
		b, m := begun(t, buffer.Config{Frames: 1 + r.Intn(5), Packets: 1 + r.Intn(9), Bytes: 1 + r.Intn(20)})
		over := map[uint32]bool{}
		for now := range 60 {
			time := uint32(now/2 + r.Intn(12))
			c := put(t, b, m, time, r.Intn(3), 1+r.Intn(3), strings.Repeat("x", r.Intn(9)), now)
			if over[time] && c.Kind != buffer.Late {
				t.Fatalf("%d is over: %+v", time, c)
			}
			l, gone := play(t, b, m, now, r.Intn(9), r.Intn(9))
			for _, f := range l {
				over[f.Time] = true
			}
			for _, time := range append(gone, c.Evicted...) {
				over[time] = true
			}
			for _, time := range b.Times() {
				if over[time] || int(time) <= b.Horizon() {
					t.Fatalf("%d waits, and is over", time)
				}
			}
		}
	}
}

// Parts of a frame that was played, dropped or evicted are Late, those that it
// lacked, too, and nothing changes.
func TestP243Late(t *testing.T) {
	for _, way := range []func(b *buffer.Buffer, m *model){
		func(b *buffer.Buffer, m *model) { play(t, b, m, 5, 0, 99) },
		func(b *buffer.Buffer, m *model) { play(t, b, m, 5, 99, 0) },
		func(b *buffer.Buffer, m *model) { put(t, b, m, 50, 0, 2, strings.Repeat("x", 41), 0) },
	} {
		for count := 1; count <= 2; count++ {
			b, m := begun(t, some)
			put(t, b, m, 10, 0, count, "a", 0)
			way(b, m)
			for _, time := range []uint32{0, 9, 10} {
				for index := range 3 {
					c := put(t, b, m, time, index, count, "b", 6)
					if b.Horizon() >= 10 && (c.Kind != buffer.Late || c.Evicted != nil) {
						t.Errorf("%d, part %d of %d: %+v", time, index, count, c)
					}
				}
			}
		}
	}
}
