package receiver_test

import (
	"math"
	"slices"
	"strings"
	"testing"

	"cordelle/api"
	"cordelle/buffer"
	"cordelle/compound"
	"cordelle/gaps"
	"cordelle/media"
	"cordelle/nack"
	"cordelle/notes"
	"cordelle/piece"
	"cordelle/receiver"
	"cordelle/report"
	"cordelle/subflow"
	"cordelle/table"
)

// some is a Config of which no number is a bound.
var some = receiver.Config{
	Source: 2, About: 1, Name: "you",
	Buffer: buffer.Config{Frames: 9, Packets: 99, Bytes: 999},
	Gaps:   gaps.Config{Most: 9, Tries: 2, First: 1, Again: 4},
	Least:  3, Most: 20, Every: 10, Paths: 3,
}

// with is some, but for what is changed.
func with(change func(c *receiver.Config)) receiver.Config {
	c := some
	change(&c)
	return c
}

// edges are numbers below, among and beyond those that count.
func edges(most int) []int {
	return []int{math.MinInt, -1, 0, 1, 2, 3, most - 1, most, most + 1, math.MaxInt}
}

// onPaths are the paths on which something goes out.
func onPaths(l []receiver.Out) []int {
	var paths []int
	for _, o := range l {
		paths = append(paths, o.Path)
	}
	return paths
}

// said is what goes out, alike on all paths.
func said(t *testing.T, l []receiver.Out) compound.Bag {
	t.Helper()
	if len(l) == 0 {
		t.Fatal("nothing goes out")
	}
	for _, o := range l {
		if o.Data != l[0].Data {
			t.Fatalf("%s", tell(l))
		}
	}
	return says(t, l[0].Data)
}

// frames are those of some parts, each of one alone.
func frames(l ...packet) []buffer.Frame {
	var all []buffer.Frame
	for _, p := range l {
		all = append(all, buffer.Frame{Time: uint32(p.time), Data: p.data})
	}
	return all
}

// one is a part that is a frame.
func one(seq, time, path, number int) packet {
	return packet{seq: seq, time: time, path: path, number: number, count: 1, data: "x"}
}

// The document's example: a part that is a frame is played Least ticks later.
func TestP271Example(t *testing.T) {
	r, m := begun(t, some)
	p := one(7, 100, 1, 0)
	if e := came(t, r, m, 1, 5, p.bytes()); e != api.OK {
		t.Errorf("Media: %d", e)
	}
	for now, want := range map[int]int{5: 0, 6: 0, 7: 0} {
		if _, played := step(t, r, m, now); len(played) != want {
			t.Errorf("at %d: %v", now, played)
		}
	}
	if _, played := step(t, r, m, 8); !slices.Equal(played, frames(p)) {
		t.Errorf("at 8: %v", played)
	}
}

// Behind New nothing came, there is no path, and it is the least delay.
func TestP271New(t *testing.T) {
	r, m := begun(t, some)
	if r.Counts() != (receiver.Counts{}) || len(r.Flows())+len(r.Wanting())+len(r.Table())+r.Buffer().Len() != 0 || r.Delay() != 3 || r.Gone() || r.Buffer().Horizon() != -1 {
		t.Errorf("%+v", r)
	}
	for _, now := range []int{0, 9, 10, 20, lastTick} {
		if out, played := step(t, r, m, now); len(out)+len(played) != 0 {
			t.Errorf("at %d: %s %v", now, tell(out), played)
		}
	}
}

// A part counts for its path: the first one there, and the next ones.
func TestP271Flows(t *testing.T) {
	r, m := begun(t, some)
	for i, x := range []struct {
		p    packet
		now  int
		want []receiver.Flow
	}{
		// The first one is on probation, the next one makes the source valid.
		{packet{1, 10, 2, 500, 0, 1, "abc"}, 10, []receiver.Flow{{2, 500, 0, 0, 31, 0}}},
		{packet{2, 11, 2, 501, 0, 1, ""}, 11, []receiver.Flow{{2, 501, 1, 1, 59, 0}}},
		{packet{3, 12, 2, 503, 0, 1, "d"}, 12, []receiver.Flow{{2, 503, 3, 2, 88, 0}}},
		// Its transit is 16 more than that of the one ahead: the jitter becomes 1.
		{packet{4, 13, 2, 502, 0, 1, "e"}, 29, []receiver.Flow{{2, 503, 3, 3, 117, 1}}},
		{packet{5, 14, 1, 9, 0, 1, "f"}, 29, []receiver.Flow{{1, 9, 0, 0, 29, 0}, {2, 503, 3, 3, 117, 1}}},
		// One that doesn't go on there begins anew; one too far doesn't count for the source.
		{packet{6, 15, 1, 11, 0, 1, "g"}, 30, []receiver.Flow{{1, 11, 0, 0, 58, 0}, {2, 503, 3, 3, 117, 1}}},
		{packet{7, 16, 1, 12, 0, 1, "h"}, 31, []receiver.Flow{{1, 12, 1, 1, 87, 0}, {2, 503, 3, 3, 117, 1}}},
		{packet{8, 17, 1, 3012, 0, 1, "i"}, 32, []receiver.Flow{{1, 12, 1, 1, 116, 0}, {2, 503, 3, 3, 117, 1}}},
		{packet{9, 18, 15, 65535, 0, 1, "j"}, 33, []receiver.Flow{{1, 12, 1, 1, 116, 0}, {2, 503, 3, 3, 117, 1}, {15, 65535, 0, 0, 29, 0}}},
	} {
		if e := came(t, r, m, x.p.path, x.now, x.p.bytes()); e != api.OK || !slices.Equal(r.Flows(), x.want) {
			t.Errorf("%d: %d %+v, not %+v", i, e, r.Flows(), x.want)
		}
		if r.Counts() != (receiver.Counts{Media: i + 1}) {
			t.Errorf("%d: %+v", i, r.Counts())
		}
	}
}

// A path need not be there for media to count on it, nor be Up.
func TestP271FlowsOfAnyPath(t *testing.T) {
	r, m := begun(t, some)
	path(t, r, m, 3, false, 9)
	for id := 1; id <= mostPaths; id++ {
		if e := came(t, r, m, id, id, one(id, 50+id, id, 7).bytes()); e != api.OK {
			t.Errorf("%d: %d", id, e)
		}
	}
	if l := r.Flows(); len(l) != mostPaths || l[14].ID != 15 {
		t.Errorf("%+v", l)
	}
}

// Numbers on a path go round behind 65535.
func TestP271PathRound(t *testing.T) {
	r, m := begun(t, some)
	for i, number := range []int{65533, 65534, 65535, 0, 1, 65532 + 1, 3} {
		came(t, r, m, 4, i, one(i, 100+i, 4, number).bytes())
	}
	if l := r.Flows(); !slices.Equal(l, []receiver.Flow{{4, 65539, 6, 6, 7 * 29, 0}}) {
		t.Errorf("%+v", l)
	}
	// The first one there may be the last of a round.
	came(t, r, m, 5, 9, one(9, 200, 5, 65535).bytes())
	came(t, r, m, 5, 9, one(10, 201, 5, 0).bytes())
	if l := r.Flows(); l[1] != (receiver.Flow{5, 0, 1, 1, 58, 0}) {
		t.Errorf("%+v", l)
	}
}

// Numbers go round behind 65535: which are wanting is told by whole ones, and asked
// for by their low 16 bits; the first one counts as it is.
func TestP271Round(t *testing.T) {
	r, m := begun(t, some)
	path(t, r, m, 1, true, 9)
	step(t, r, m, 0)
	for i, x := range []struct {
		seq     int
		wanting []int
	}{
		{65533, nil},
		{65534, nil},
		{1, []int{65535, 65536}},
		{65535, []int{65536}},
		{4, []int{65536, 65538, 65539}},
		{3, []int{65536, 65538}},
	} {
		came(t, r, m, 1, 1, one(x.seq, 100+i, 1, i).bytes())
		if l := r.Wanting(); !slices.Equal(l, x.wanting) {
			t.Errorf("%d: %v, not %v", i, l, x.wanting)
		}
	}
	out, _ := step(t, r, m, 2)
	b := said(t, out)
	if len(b.Nacks) != 1 || !slices.Equal(b.Nacks[0].Numbers(), []uint16{0, 2}) {
		t.Errorf("%+v", b)
	}
	if x, is := b.Reports[0].About(1); !is || x.Highest != 65540 {
		t.Errorf("%+v", x)
	}
}

// Of two numbers that are as near, and as far as can be, the lesser one counts: and
// it doesn't make the greatest one less.
func TestP271RoundFar(t *testing.T) {
	for _, x := range []struct {
		first, next int
		// How many are wanting, and which is the greatest.
		wanting, greatest int
	}{
		{0, 32767, 32766, 32767}, {0, 32768, 0, 0}, {0, 32769, 0, 0}, {0, 65535, 0, 0},
		{40000, 7231, 32766, 72767}, {40000, 7232, 0, 40000}, {40000, 40001, 0, 40001}, {40000, 40000, 0, 40000},
		{65535, 0, 0, 65536}, {65535, 1, 1, 65537}, {5, 65500, 0, 5},
	} {
		r, m := begun(t, with(func(c *receiver.Config) { c.Gaps.Most, c.Every = mostWanting, 1 }))
		path(t, r, m, 1, true, 9)
		came(t, r, m, 1, 0, one(x.first, 1, 1, 0).bytes())
		came(t, r, m, 1, 0, one(x.next, 2, 1, 1).bytes())
		if got := len(r.Wanting()); got != min(x.wanting, mostWanting) {
			t.Errorf("%+v: %d", x, got)
		}
		out, _ := step(t, r, m, 0)
		if b, is := said(t, out).Reports[0].About(1); !is || b.Highest != uint32(x.greatest) {
			t.Errorf("%+v: %+v", x, b)
		}
		// The next one is by the greatest, not by the last one.
		came(t, r, m, 1, 1, one(x.greatest+1, 3, 1, 2).bytes())
		if got := len(r.Wanting()); got != min(x.wanting, mostWanting) {
			t.Errorf("%+v: %d behind the next one", x, got)
		}
	}
}

// Many rounds: numbers become ever greater.
func TestP271ManyRounds(t *testing.T) {
	r := receiver.New(with(func(c *receiver.Config) { c.Every = 1 }))
	r.Path(table.Entry{ID: 1, Up: true})
	n := 0
	for i := range 12 {
		r.Media(1, 0, one(n, i, 1, i).bytes())
		n += 30000
	}
	out, _ := r.Step(1)
	if b, _ := said(t, out).Reports[0].About(1); b.Highest != 330000 {
		t.Errorf("%+v", b)
	}
	if l := r.Wanting(); len(l) != 9 || l[0] != 329991 || l[8] != 329999 {
		t.Errorf("%v", l)
	}
}

// What came of a part, and what it does to the counts, the jitter and the delay.
func TestP271Kinds(t *testing.T) {
	r, m := begun(t, with(func(c *receiver.Config) { c.Buffer = buffer.Config{Frames: 3, Packets: 5, Bytes: 20} }))
	for i, x := range []struct {
		what  string
		p     packet
		now   int
		want  receiver.Counts
		delay int
	}{
		{"Kept", packet{0, 100, 1, 0, 0, 3, "a"}, 100, receiver.Counts{Media: 1}, 3},
		{"Kept", packet{1, 100, 1, 1, 1, 3, "b"}, 116, receiver.Counts{Media: 2}, 3 + 4},
		{"Twice", packet{1, 100, 1, 2, 1, 3, "b"}, 150, receiver.Counts{Media: 3, Twice: 1}, 7},
		{"Twice, of other bytes", packet{1, 100, 1, 3, 1, 3, "z"}, 150, receiver.Counts{Media: 4, Twice: 2}, 7},
		{"Bad", packet{2, 100, 1, 4, 0, 2, "c"}, 160, receiver.Counts{Media: 5, Twice: 2}, 7},
		{"Bad, of an Index that is there", packet{3, 100, 1, 5, 1, 4, "c"}, 170, receiver.Counts{Media: 6, Twice: 2}, 7},
		{"Whole", packet{4, 100, 1, 6, 2, 3, "d"}, 117, receiver.Counts{Media: 7, Twice: 2}, 7},
		{"Kept, that evicts", packet{5, 130, 1, 7, 0, 9, strings.Repeat("e", 18)}, 147, receiver.Counts{Media: 8, Twice: 2}, 6},
		{"Late", packet{6, 100, 1, 8, 0, 1, "f"}, 148, receiver.Counts{Media: 9, Late: 1, Twice: 2}, 7},
		{"Late", packet{7, 99, 1, 9, 0, 1, "f"}, 500, receiver.Counts{Media: 10, Late: 2, Twice: 2}, 8},
		{"Late, that would be Bad", packet{7, 99, 1, 9, 3, 7, "f"}, 500, receiver.Counts{Media: 11, Late: 3, Twice: 2}, 9},
		{"Evicted", packet{8, 110, 1, 10, 0, 1, "fff"}, 999, receiver.Counts{Media: 12, Late: 3, Twice: 2}, 9},
		{"Late, by what was evicted", packet{8, 110, 1, 11, 0, 1, "fff"}, 999, receiver.Counts{Media: 13, Late: 4, Twice: 2}, 10},
	} {
		if e := came(t, r, m, 1, x.now, x.p.bytes()); e != api.OK || r.Counts() != x.want || r.Delay() != x.delay {
			t.Errorf("%d: %s: %d %+v %d, not %+v %d", i, x.what, e, r.Counts(), r.Delay(), x.want, x.delay)
		}
	}
	if l := r.Flows(); l[0].Jitter != 0 || l[0].Received == 0 {
		t.Errorf("%+v", l)
	}
}

// What isn't Kept or Whole leaves the path's jitter as it is: the next one that is is
// held against the last one that was.
func TestP271KindsJitter(t *testing.T) {
	for i, between := range []packet{
		{1, 50, 1, 1, 0, 2, "twice"},
		{1, 50, 1, 1, 1, 3, "bad"},
		{1, 10, 1, 1, 0, 1, "late"},
		{1, 45, 1, 1, 0, 1, strings.Repeat("evicted", 5)},
	} {
		r, m := begun(t, with(func(c *receiver.Config) { c.Buffer.Bytes, c.Most = 30, 100 }))
		came(t, r, m, 1, 0, packet{0, 40, 1, 0, 0, 1, "first"}.bytes())
		if _, played := step(t, r, m, 9); len(played) != 1 {
			t.Fatalf("%v", played)
		}
		came(t, r, m, 1, 50, packet{0, 50, 1, 0, 0, 2, "one"}.bytes())
		had := r.Flows()[0].Jitter
		came(t, r, m, 1, 5000, between.bytes())
		if got := r.Flows()[0].Jitter; got != had || had != 2 {
			t.Errorf("%d: %d, not %d", i, got, had)
		}
		came(t, r, m, 1, 52, packet{2, 52, 1, 2, 0, 1, "y"}.bytes())
		if got := r.Flows()[0].Jitter; got != 2 {
			t.Errorf("%d: %d behind it", i, got)
		}
	}
}

// The delay goes by the greatest jitter of all paths, whichever path the part came
// on; each path's jitter by what came there alone.
func TestP271Delay(t *testing.T) {
	r, m := begun(t, with(func(c *receiver.Config) { c.Most = 40 }))
	for i, x := range []struct {
		time, path, now int
		delay           int
		jitters         []int
	}{
		{100, 1, 100, 3, []int{0}},
		{101, 2, 500, 3, []int{0, 0}},
		{102, 1, 166, 19, []int{4, 0}},
		{103, 2, 502, 19, []int{4, 0}},
		{104, 2, 503, 19, []int{4, 0}},
		{105, 3, 0, 19, []int{4, 0, 0}},
		{106, 3, 97, 27, []int{4, 0, 6}},
		{107, 1, 171, 27, []int{3, 0, 6}},
		{108, 3, 99, 26, []int{3, 0, 5}},
		{109, 3, 100, 25, []int{3, 0, 5}},
		{110, 3, 101, 24, []int{3, 0, 4}},
		{111, 3, 3102, 40, []int{3, 0, 192}},
		{112, 1, 176, 40, []int{3, 0, 192}},
	} {
		came(t, r, m, x.path, x.now, one(i, x.time, x.path, i).bytes())
		var jitters []int
		for _, f := range r.Flows() {
			jitters = append(jitters, f.Jitter)
		}
		if r.Delay() != x.delay || !slices.Equal(jitters, x.jitters) {
			t.Errorf("%d: %d %v, not %d %v", i, r.Delay(), jitters, x.delay, x.jitters)
		}
	}
}

// Whichever path has the greatest jitter, the delay goes by it.
func TestP271DelayOfAnyPath(t *testing.T) {
	for id := 1; id <= mostPaths; id++ {
		r, m := begun(t, some)
		came(t, r, m, id, 0, one(0, 50, id, 0).bytes())
		came(t, r, m, id, 33, one(1, 51, id, 1).bytes())
		if r.Delay() != 3+4*2 {
			t.Errorf("%d: %d", id, r.Delay())
		}
		// What comes evenly on another one makes it no less.
		came(t, r, m, 1+id%15, 34, one(2, 52, 1+id%15, 0).bytes())
		if r.Delay() != 3+4*2 {
			t.Errorf("%d: %d behind another one", id, r.Delay())
		}
	}
}

// As long as the delay is, frames wait; with Most they are dropped, if they aren't
// whole.
func TestP271Plays(t *testing.T) {
	r, m := begun(t, some)
	whole := one(0, 100, 1, 0)
	came(t, r, m, 1, 50, whole.bytes())
	came(t, r, m, 1, 51, packet{1, 101, 1, 1, 0, 2, "half"}.bytes())
	last := one(2, 102, 1, 2)
	came(t, r, m, 1, 60, last.bytes())
	d := r.Delay()
	if d != 3 {
		t.Fatalf("%d", d)
	}
	for _, x := range []struct {
		now  int
		want []buffer.Frame
	}{{52, nil}, {53, frames(whole)}, {63, nil}, {70, nil}, {71, frames(last)}, {72, nil}} {
		if _, played := step(t, r, m, x.now); !slices.Equal(played, x.want) {
			t.Errorf("at %d: %v, not %v", x.now, played, x.want)
		}
	}
	if played, dropped, evicted := r.Buffer().Counts(); played != 2 || dropped != 1 || evicted != 0 {
		t.Errorf("%d %d %d", played, dropped, evicted)
	}
	came(t, r, m, 1, 72, packet{3, 101, 1, 3, 1, 2, "other"}.bytes())
	if r.Counts().Late != 1 || r.Delay() != 4 {
		t.Errorf("%+v %d", r.Counts(), r.Delay())
	}
}

// The delay as it is when the Step comes counts, also of frames that came ahead.
func TestP271PlaysByDelay(t *testing.T) {
	r, m := begun(t, some)
	came(t, r, m, 1, 100, one(0, 100, 1, 0).bytes())
	came(t, r, m, 1, 117, one(1, 101, 1, 1).bytes())
	if r.Delay() != 7 {
		t.Fatalf("%d", r.Delay())
	}
	if _, played := step(t, r, m, 117); len(played) != 1 {
		t.Errorf("%v", played)
	}
	if _, played := step(t, r, m, 123); len(played) != 0 {
		t.Errorf("%v", played)
	}
	if _, played := step(t, r, m, 124); len(played) != 1 {
		t.Errorf("%v", played)
	}
}

// Each number of a Config counts as the nearest.
func TestP271Config(t *testing.T) {
	for _, least := range edges(longest) {
		for _, most := range edges(longest) {
			low := nearest(0, least, longest)
			high := max(low, nearest(0, most, longest))
			r, m := begun(t, with(func(c *receiver.Config) { c.Least, c.Most = least, most }))
			came(t, r, m, 1, 5, packet{0, 1, 1, 0, 0, 2, "half"}.bytes())
			came(t, r, m, 1, 6, one(1, 2, 1, 1).bytes())
			// The half one is ahead, until it is dropped.
			if _, played := step(t, r, m, 5+high-1); len(played) > 0 || r.Buffer().Len() != 2 {
				t.Errorf("Least %d, Most %d: %v", least, most, played)
			}
			if _, played := step(t, r, m, 5+high); (len(played) > 0) != (high > low) || r.Buffer().Horizon() < 1 {
				t.Errorf("Least %d, Most %d: %v", least, most, played)
			}
			if step(t, r, m, 6+high); r.Buffer().Horizon() != 2 {
				t.Errorf("Least %d, Most %d: %d", least, most, r.Buffer().Horizon())
			}
			for i := range 3 {
				came(t, r, m, 1, 7+high, one(2+i, 1, 1, 2+i).bytes())
				if d := r.Delay(); d != min(low+1+i, high) {
					t.Errorf("Least %d, Most %d: %d", least, most, d)
				}
			}
		}
	}
	for _, n := range edges(8) {
		r, m := begun(t, with(func(c *receiver.Config) {
			c.Buffer = buffer.Config{Frames: n, Packets: n, Bytes: n}
			c.Gaps = gaps.Config{Most: n, Tries: n, First: n, Again: n}
		}))
		path(t, r, m, 1, true, 1)
		for i := range 12 {
			came(t, r, m, 1, i, one(3*i, i, 1, 3*i).bytes())
			step(t, r, m, 2*i)
		}
	}
}

// Path: layer 16's errors, in its order; and more paths than may be. Nothing changes
// then.
func TestP271Path(t *testing.T) {
	for _, most := range edges(mostPaths) {
		r, m := begun(t, with(func(c *receiver.Config) { c.Paths = most }))
		may := nearest(1, most, mostPaths)
		for id := -1; id <= 17; id++ {
			for _, rate := range []int{math.MinInt, -1, 65536, math.MaxInt} {
				if other, e := path(t, r, m, id, true, rate); other || e != api.ErrArg {
					t.Errorf("%d, %d: %t %d", id, rate, other, e)
				}
			}
			other, e := path(t, r, m, id, id%2 == 0, 65535)
			want := api.OK
			switch {
			case id < 1 || id > 15:
				want = api.ErrArg
			case id > may:
				want = api.ErrFull
			}
			if e != want || other != (want == api.OK) {
				t.Errorf("Paths %d: %d: %t %d", most, id, other, e)
			}
		}
		if len(r.Table()) != may {
			t.Errorf("Paths %d: %v", most, r.Table())
		}
	}
}

// Step ahead of the tick Every, just at it and behind it; then Every behind when it
// did report, be that late; on each path that is Up, by rising numbers.
func TestP271Reports(t *testing.T) {
	for _, every := range edges(longest) {
		r, m := begun(t, with(func(c *receiver.Config) { c.Every = every }))
		may := nearest(1, every, longest)
		path(t, r, m, 3, true, 5)
		path(t, r, m, 1, true, 5)
		path(t, r, m, 2, false, 5)
		for i, x := range []struct {
			now  int
			want bool
		}{
			{0, true}, // As the paths are others.
			{0, false}, {may - 1, may == 1 && false}, {may, true}, {may, false}, {2*may - 1, false}, {2 * may, true},
			{3*may + may/2, true}, {4*may + may/2 - 1, false}, {4*may + may/2, true},
		} {
			if may == 1 && i == 2 {
				continue
			}
			out, _ := step(t, r, m, x.now)
			var want []int
			if x.want {
				want = []int{1, 3}
			}
			if got := onPaths(out); !slices.Equal(got, want) {
				t.Errorf("Every %d: at %d: %v, not %v", every, x.now, got, want)
			}
		}
	}
}

// Without another Path the first report is at the tick Every; the time goes by where
// no path is Up, too.
func TestP271ReportsUnheard(t *testing.T) {
	r, m := begun(t, some)
	at := func(now, want int) {
		t.Helper()
		if out, _ := step(t, r, m, now); len(out) != want {
			t.Errorf("at %d: %s", now, tell(out))
		}
	}
	at(9, 0)
	at(10, 0)
	path(t, r, m, 1, false, 4)
	at(13, 0) // It is another one, and so it is time: the next one is at 23.
	path(t, r, m, 1, false, 4)
	at(22, 0)
	path(t, r, m, 1, true, 4)
	at(22, 1)
	at(31, 0)
	at(32, 1)
	at(41, 0)
	path(t, r, m, 1, true, 5) // Another Rate.
	at(41, 1)
	at(42, 0)
	at(50, 0)
	at(51, 1)
	path(t, r, m, 1, true, 5) // The same.
	at(52, 0)
	path(t, r, m, 1, true, 65536) // None that may be.
	path(t, r, m, 0, true, 5)
	at(53, 0)
	path(t, r, m, 2, false, 0) // A new one, not Up.
	at(54, 1)
	path(t, r, m, 2, true, 0)
	path(t, r, m, 2, false, 0) // As it was at the last Step.
	at(55, 1)
	path(t, r, m, 3, true, 0)
	path(t, r, m, 4, true, 0) // There is no room.
	at(56, 2)
	at(57, 0)
	path(t, r, m, 4, true, 0)
	at(58, 0)
}

// What a report says, piece by piece: without media, and with.
func TestP271ReportSays(t *testing.T) {
	c := with(func(c *receiver.Config) { c.Source, c.About = math.MaxUint32, 1 })
	r, m := begun(t, c)
	path(t, r, m, 2, true, 100)
	out, _ := step(t, r, m, 0)
	pieces, _ := compound.Parse(out[0].Data)
	want := []piece.Piece{
		report.Report{Source: math.MaxUint32}.Piece(),
		notes.Names(notes.Name{Source: math.MaxUint32, Text: "you"}),
		subflow.Lines{Source: math.MaxUint32, All: []subflow.Line{{Path: 2}}}.Piece(),
		subflow.Adverts{Source: math.MaxUint32, All: []subflow.Advert{{Path: 2, Up: true, Rate: 100}}}.Piece(),
	}
	if !slices.Equal(pieces, want) {
		t.Errorf("%+v", compound.Open(pieces...))
	}
	came(t, r, m, 2, 1, one(65000, 1, 2, 0).bytes())
	came(t, r, m, 2, 33, one(65002, 2, 2, 1).bytes())
	out, _ = step(t, r, m, 34)
	pieces, _ = compound.Parse(out[0].Data)
	want = []piece.Piece{
		report.Report{Source: math.MaxUint32, Blocks: []report.Block{{Source: 1, Highest: 65002, Jitter: 7}}}.Piece(),
		notes.Names(notes.Name{Source: math.MaxUint32, Text: "you"}),
		nack.Ask(math.MaxUint32, 1, 65001).Piece(),
		subflow.Lines{Source: math.MaxUint32, All: []subflow.Line{{Path: 2, Highest: 1, Jitter: 1, Bytes: 58}}}.Piece(),
		subflow.Adverts{Source: math.MaxUint32, All: []subflow.Advert{{Path: 2, Up: true, Rate: 100}}}.Piece(),
	}
	if !slices.Equal(pieces, want) {
		t.Errorf("%+v", compound.Open(pieces...))
	}
	// Asked for ahead of the time: neither Lines nor Adverts.
	out, _ = step(t, r, m, 38)
	pieces, _ = compound.Parse(out[0].Data)
	if !slices.Equal(pieces, want[:3]) {
		t.Errorf("%+v", compound.Open(pieces...))
	}
}

// A Block is there once media counted, not by what was refused, nor by control
// packets; also if what counted was Late or Bad.
func TestP271ReportBlock(t *testing.T) {
	r, m := begun(t, with(func(c *receiver.Config) { c.Every = 1 }))
	path(t, r, m, 1, true, 1)
	now := 0
	block := func(want ...report.Block) {
		t.Helper()
		now++
		out, _ := step(t, r, m, now)
		if got := said(t, out).Reports[0]; !slices.Equal(got.Blocks, want) || got.IsSender || got.Source != 2 {
			t.Errorf("at %d: %+v, not %+v", now, got, want)
		}
	}
	block()
	came(t, r, m, 1, now, "none")
	came(t, r, m, 1, now, one(0, 1, 1, 0).of(3))
	came(t, r, m, 1, now, one(0, 1, 2, 0).bytes())
	hears(t, r, m, 1, now, from(1, 5))
	block()
	came(t, r, m, 1, now, one(0, 0, 1, 0).bytes())
	block(report.Block{Source: 1, Jitter: 3})
	for range 5 {
		block(report.Block{Source: 1, Jitter: 3})
	}
	came(t, r, m, 1, now, one(7, 0, 1, 0).bytes())
	block(report.Block{Source: 1, Highest: 7, Jitter: 4})
	came(t, r, m, 1, now, one(5, 0, 1, 0).bytes())
	block(report.Block{Source: 1, Highest: 7, Jitter: 5})
}

// The name: of none, of one, of as many bytes as count, and of more; of any bytes.
func TestP271Name(t *testing.T) {
	for _, x := range []struct{ name, want string }{
		{"", "r"}, {"r", "r"}, {"s", "s"}, {"me", "me"}, {"\x00", "\x00"}, {"\xff\xfe", "\xff\xfe"},
		{strings.Repeat("n", 254) + "o", strings.Repeat("n", 254) + "o"},
		{strings.Repeat("n", 255) + "o", strings.Repeat("n", 255)},
		{strings.Repeat("no", 500), strings.Repeat("no", 127) + "n"},
		{strings.Repeat("x", 100000), strings.Repeat("x", 255)},
	} {
		r, m := begun(t, with(func(c *receiver.Config) { c.Name = x.name }))
		path(t, r, m, 1, true, 1)
		out, _ := step(t, r, m, 1)
		if l := said(t, out).Names; !slices.Equal(l, []notes.Name{{Source: 2, Text: x.want}}) {
			t.Errorf("%q: %+v", x.name, l)
		}
	}
}

// Numbers that are Due are asked for: as often as may be, then given up; without
// any, ahead of the time, nothing goes out.
func TestP271Due(t *testing.T) {
	r, m := begun(t, with(func(c *receiver.Config) {
		c.Gaps, c.Every = gaps.Config{Most: 9, Tries: 2, First: 3, Again: 4}, 1000
	}))
	path(t, r, m, 3, true, 1)
	path(t, r, m, 2, true, 1)
	step(t, r, m, 0)
	came(t, r, m, 1, 10, one(5, 100, 1, 0).bytes())
	came(t, r, m, 1, 10, one(8, 101, 1, 1).bytes())
	for _, x := range []struct {
		now  int
		want []uint16
	}{{10, nil}, {12, nil}, {13, []uint16{6, 7}}, {14, nil}, {16, nil}, {17, []uint16{6, 7}}, {18, nil}, {24, nil}, {25, nil}, {26, nil}, {100, nil}} {
		out, _ := step(t, r, m, x.now)
		if len(x.want) == 0 {
			if len(out) != 0 {
				t.Errorf("at %d: %s", x.now, tell(out))
			}
			continue
		}
		if !slices.Equal(onPaths(out), []int{2, 3}) {
			t.Errorf("at %d: %s", x.now, tell(out))
		}
		b := said(t, out)
		if len(b.Nacks) != 1 || b.Nacks[0].From != 2 || b.Nacks[0].About != 1 || !slices.Equal(b.Nacks[0].Numbers(), x.want) || b.Lines != nil || b.Adverts != nil || b.Byes != nil {
			t.Errorf("at %d: %+v", x.now, b)
		}
	}
	if len(r.Wanting()) != 0 {
		t.Errorf("%v", r.Wanting())
	}
}

// Numbers are asked for, as far as is told, where no path is Up, too: the time that
// they are Due goes by. One that came isn't asked for.
func TestP271DueUnheard(t *testing.T) {
	r, m := begun(t, with(func(c *receiver.Config) { c.Gaps.Tries = 1 }))
	came(t, r, m, 1, 0, one(5, 100, 1, 0).bytes())
	came(t, r, m, 1, 0, one(8, 101, 1, 1).bytes())
	came(t, r, m, 1, 0, one(7, 102, 1, 2).bytes())
	if out, _ := step(t, r, m, 1); len(out) != 0 || !slices.Equal(r.Wanting(), []int{6}) {
		t.Errorf("%s, %v", tell(out), r.Wanting())
	}
	path(t, r, m, 1, true, 1)
	out, _ := step(t, r, m, 2)
	if b := said(t, out); b.Nacks != nil {
		t.Errorf("%+v", b)
	}
	if out, _ := step(t, r, m, 5); len(out) != 0 || len(r.Wanting()) != 0 {
		t.Errorf("%s, %v", tell(out), r.Wanting())
	}
}

// alone makes it that as many numbers are wanting, each too far from the others for
// one Pair to name both.
func alone(t *testing.T, r *receiver.Receiver, m *model, numbers, now int) {
	t.Helper()
	const apart = 17
	for seq := 1; seq < 2+apart*numbers; seq++ {
		if (seq-2)%apart == 0 {
			continue
		}
		data := one(seq, 1, 1, seq).bytes()
		if e := r.Media(1, now, data); e != m.media(1, now, data) {
			t.Fatal(e)
		}
	}
	check(t, r, m)
	if got := len(r.Wanting()); got != numbers {
		t.Fatalf("%d are wanting, not %d", got, numbers)
	}
}

// As many Pairs as may be, and one more; and where the packet would be too big: then
// all the rest goes out.
func TestP271Pairs(t *testing.T) {
	for _, x := range []struct {
		name, numbers, paths int
		reports, want        bool
	}{
		{1, 299, 1, false, true}, {1, 300, 1, false, true}, {1, 301, 1, false, false}, {1, 900, 1, false, false},
		// 16 of the seal, 8 and 24 of the report, 12 of the Nack, 4 and 264 of the name
		// leave 1172 bytes: 293 Pairs.
		{255, 292, 1, false, true}, {255, 293, 1, false, true}, {255, 294, 1, false, false}, {255, 300, 1, false, false},
		// Lines take 8 and 28 for each path, Adverts 8 and 4: with two, 80.
		{255, 273, 2, true, true}, {255, 274, 2, true, false}, {255, 293, 2, true, false},
		// With all paths 496, and 12 of the name.
		{1, 232, 15, true, true}, {1, 233, 15, true, true}, {1, 234, 15, true, false}, {1, 300, 15, true, false}, {1, 300, 15, false, true},
	} {
		r, m := begun(t, with(func(c *receiver.Config) {
			c.Name, c.Paths, c.Every = strings.Repeat("n", x.name), 15, 1000
			c.Gaps = gaps.Config{Most: mostWanting, Tries: 2, First: 5, Again: 100}
		}))
		for id := 1; id <= x.paths; id++ {
			path(t, r, m, id, true, 5)
		}
		if !x.reports {
			step(t, r, m, 0)
		}
		alone(t, r, m, x.numbers, 0)
		out, _ := step(t, r, m, 6)
		if len(out) != x.paths || len(out[0].Data) > mostPacket {
			t.Fatalf("%+v: %s", x, tell(out))
		}
		b := said(t, out)
		if got := len(b.Nacks) == 1 && len(b.Nacks[0].Numbers()) == x.numbers; got != x.want || len(b.Nacks) > 1 {
			t.Errorf("%+v: %d Nacks of %d bytes", x, len(b.Nacks), len(out[0].Data))
		}
		if (len(b.Lines) == 1) != x.reports || (len(b.Adverts) == 1) != x.reports || len(b.Reports) != 1 || len(b.Names) != 1 || len(b.Reports[0].Blocks) != 1 {
			t.Errorf("%+v: %+v", x, b)
		}
		// They count as asked for, all the same.
		if out, _ := step(t, r, m, 105); len(out) != 0 {
			t.Errorf("%+v: %s", x, tell(out))
		}
		if out, _ := step(t, r, m, 106); len(out) != x.paths {
			t.Errorf("%+v: %s", x, tell(out))
		}
	}
}

// Lines are of all paths that are Up, or on which media counted, or both.
func TestP271Lines(t *testing.T) {
	r, m := begun(t, with(func(c *receiver.Config) { c.Paths = 15 }))
	path(t, r, m, 9, true, 1)
	path(t, r, m, 4, false, 1)
	path(t, r, m, 2, true, 1)
	path(t, r, m, 5, false, 1)
	for i, id := range []int{9, 15, 5, 1} {
		came(t, r, m, id, 2, packet{i, 1 + i, id, 70 + id, 0, 1, strings.Repeat("x", i)}.bytes())
	}
	hears(t, r, m, 2, 1, from(1, 77))
	hears(t, r, m, 4, 1, from(1, 78))
	hears(t, r, m, 5, 2, from(1, 79))
	out, _ := step(t, r, m, 3)
	b := said(t, out)
	want := []subflow.Line{
		{Path: 1, Highest: 71, Bytes: 31},
		{Path: 2, Last: 77, Delay: 2},
		{Path: 5, Highest: 75, Bytes: 30, Last: 79, Delay: 1},
		{Path: 9, Highest: 79, Bytes: 28},
		{Path: 15, Highest: 85, Bytes: 29},
	}
	if !slices.Equal(onPaths(out), []int{2, 9}) || len(b.Lines) != 1 || b.Lines[0].Source != 2 || !slices.Equal(b.Lines[0].All, want) {
		t.Errorf("%s", tell(out))
	}
	wantAdverts := []subflow.Advert{{Path: 2, Up: true, Rate: 1}, {Path: 4, Rate: 1}, {Path: 5, Rate: 1}, {Path: 9, Up: true, Rate: 1}}
	if len(b.Adverts) != 1 || b.Adverts[0].Source != 2 || !slices.Equal(b.Adverts[0].All, wantAdverts) {
		t.Errorf("%+v", b.Adverts)
	}
}

// Fraction and Lost are since it was time the last time, also if nothing went out
// then.
func TestP271LinesLost(t *testing.T) {
	r, m := begun(t, some)
	path(t, r, m, 1, true, 1)
	seq := 0
	lane := func(id int, numbers ...int) {
		t.Helper()
		for _, n := range numbers {
			seq++
			came(t, r, m, id, 1, one(seq, seq, id, n).bytes())
		}
	}
	lines := func(now int, want ...subflow.Line) {
		t.Helper()
		out, _ := step(t, r, m, now)
		l := said(t, out).Lines[0].All
		for i := range l {
			l[i] = subflow.Line{Path: l[i].Path, Fraction: l[i].Fraction, Lost: l[i].Lost, Highest: l[i].Highest}
		}
		if !slices.Equal(l, want) {
			t.Errorf("at %d: %+v, not %+v", now, l, want)
		}
	}
	lane(1, 10)
	lines(2, subflow.Line{Path: 1, Highest: 10})
	lane(1, 11, 14)
	lane(3, 65533, 65534, 65535, 0)
	lines(12, subflow.Line{Path: 1, Fraction: 128, Lost: 2, Highest: 14}, subflow.Line{Path: 3, Highest: 65536})
	lane(1, 15, 17)
	lines(22, subflow.Line{Path: 1, Fraction: 85, Lost: 3, Highest: 17}, subflow.Line{Path: 3, Highest: 65536})
	// Nothing more: nothing more is lost.
	lines(32, subflow.Line{Path: 1, Lost: 3, Highest: 17}, subflow.Line{Path: 3, Highest: 65536})
	// What comes late, and twice, makes it less.
	lane(1, 12, 13, 16, 17, 17)
	lines(42, subflow.Line{Path: 1, Lost: -2, Highest: 17}, subflow.Line{Path: 3, Highest: 65536})
	// It is time at 52, though no path is Up then: what was lost ahead isn't told.
	lane(1, 27)
	lane(3, 8)
	path(t, r, m, 1, false, 1)
	if out, _ := step(t, r, m, 52); len(out) != 0 {
		t.Errorf("%s", tell(out))
	}
	lane(1, 28, 29, 31)
	lane(3, 10)
	path(t, r, m, 2, true, 1)
	lines(53, subflow.Line{Path: 1, Fraction: 64, Lost: 8, Highest: 31}, subflow.Line{Path: 2}, subflow.Line{Path: 3, Fraction: 128, Lost: 8, Highest: 65546})
	// Numbers that are Due make a packet go out, but it isn't time.
	lane(1, 41)
	seq += 2
	lane(3, 20)
	out, _ := step(t, r, m, 54)
	if b := said(t, out); len(b.Nacks) != 1 || len(b.Lines) != 0 || len(b.Adverts) != 0 {
		t.Errorf("%+v", b)
	}
	lines(63, subflow.Line{Path: 1, Fraction: 230, Lost: 17, Highest: 41}, subflow.Line{Path: 2}, subflow.Line{Path: 3, Fraction: 230, Lost: 17, Highest: 65556})
}

// Last and Delay are those of the last report of About that came on the path: on each
// for itself, on 1 and 15, and on none else; not of others, nor of a receiver's.
func TestP271Heard(t *testing.T) {
	r, m := begun(t, with(func(c *receiver.Config) { c.Paths, c.Every = 15, 1 }))
	for _, id := range []int{1, 2, 15} {
		path(t, r, m, id, true, 1)
	}
	lines := func(now int, want ...subflow.Line) {
		t.Helper()
		out, _ := step(t, r, m, now)
		if l := said(t, out).Lines[0].All; !slices.Equal(l, want) {
			t.Errorf("at %d: %+v, not %+v", now, l, want)
		}
	}
	line := func(path, last, delay int) subflow.Line {
		return subflow.Line{Path: path, Last: uint32(last), Delay: uint32(delay)}
	}
	lines(0, line(1, 0, 0), line(2, 0, 0), line(15, 0, 0))
	for _, id := range []int{math.MinInt, -1, 0, 16, 17, math.MaxInt} {
		hears(t, r, m, id, 3, from(1, 5))
	}
	hears(t, r, m, 1, 3, from(2, 5))
	hears(t, r, m, 2, 3, from(0, 5))
	mute := from(1, 5)
	mute.Reports = []report.Report{{Source: 1}, {Source: 3, IsSender: true, Sent: report.Sent{Clock: 6}}}
	hears(t, r, m, 15, 3, mute)
	lines(5, line(1, 0, 0), line(2, 0, 0), line(15, 0, 0))
	hears(t, r, m, 1, 6, from(1, 70))
	hears(t, r, m, 15, 7, from(1, 71))
	lines(7, line(1, 70, 1), line(2, 0, 0), line(15, 71, 0))
	lines(100, line(1, 70, 94), line(2, 0, 0), line(15, 71, 93))
	// The last one of a packet, the low bits of a Clock alone, also 0 of them.
	several := from(1, 80)
	several.Reports = append(several.Reports, from(1, 81).Reports[0], from(4, 82).Reports[0])
	hears(t, r, m, 2, 101, several)
	hears(t, r, m, 1, 102, from(1, 1<<32+9))
	hears(t, r, m, 15, 103, from(1, 1<<33))
	lines(104, line(1, 9, 2), line(2, 81, 3), line(15, 0, 1))
	hears(t, r, m, 1, 105, from(1, lastTick))
	hears(t, r, m, 2, 105, from(1, 1<<32-1))
	// A Clock may be less than that of the one ahead.
	hears(t, r, m, 15, 106, from(1, 1))
	lines(107, line(1, 0, 2), line(2, 1<<32-1, 2), line(15, 1, 1))
	if r.Counts() != (receiver.Counts{Reports: 6 + 3 + 2 + 3 + 3}) {
		t.Errorf("%+v", r.Counts())
	}
}

// A Bye of About: the sender is gone. Not by one of others.
func TestP271Gone(t *testing.T) {
	for _, x := range []struct {
		b    compound.Bag
		want bool
	}{
		{from(1, 0), false},
		{bye(1, 1), true},
		{bye(7, 1), true},
		{bye(1), false},
		{bye(1, 2), false},
		{bye(1, 0, 2, 3, 257, math.MaxUint32), false},
		{bye(1, 0, 2, 3, 1), true},
		{bye(1, 1, 2), true},
		{bye(1, 1, 1), true},
	} {
		for _, id := range []int{1, 15, 0, 16, -1} {
			r, m := begun(t, some)
			path(t, r, m, 2, true, 1)
			hears(t, r, m, id, 4, x.b)
			if r.Gone() != x.want {
				t.Errorf("%+v: %t", x.b, r.Gone())
			}
			hears(t, r, m, id, 4, from(1, 3))
			hears(t, r, m, id, 4, bye(1, 9))
			if r.Gone() != x.want || r.Counts().Reports != 3 {
				t.Errorf("%+v, and on: %t, %+v", x.b, r.Gone(), r.Counts())
			}
			// All else goes on.
			came(t, r, m, 1, 5, one(3, 5, 1, 0).bytes())
			if out, _ := step(t, r, m, 6); len(out) != 1 {
				t.Errorf("%s", tell(out))
			}
			if _, played := step(t, r, m, 8); len(played) != 1 {
				t.Errorf("%v", played)
			}
		}
	}
}

// What else a control packet says doesn't matter to it: no path comes by an Advert,
// nothing is sent by a Nack.
func TestP271ControlElse(t *testing.T) {
	r, m := begun(t, some)
	b := from(1, 9)
	b.Apps = []notes.App{{Source: 1, Name: "else"}}
	b.Nacks = []nack.Nack{nack.Ask(1, 2, 0, 1, 2), nack.Ask(1, 1, 5)}
	b.Lines = []subflow.Lines{{Source: 1, All: []subflow.Line{{Path: 1, Highest: 9, Last: 3}}}}
	b.Adverts = []subflow.Adverts{{Source: 1, All: []subflow.Advert{{Path: 1, Up: true, Rate: 7}}}}
	hears(t, r, m, 1, 3, b)
	if out, _ := step(t, r, m, 4); len(out) != 0 || len(r.Table()) != 0 {
		t.Errorf("%s, %v", tell(out), r.Table())
	}
}

// Adverts are all paths, as they are now: of one, of many; one that isn't Up hears
// nothing.
func TestP271Adverts(t *testing.T) {
	r, m := begun(t, with(func(c *receiver.Config) { c.Paths = 15 }))
	for n := 1; n <= 15; n++ {
		id := 1 + 7*n%15
		path(t, r, m, id, n%3 > 0, 65535/n)
		out, _ := step(t, r, m, n)
		b := said(t, out)
		var up []int
		var want []subflow.Advert
		for _, e := range r.Table() {
			want = append(want, subflow.Advert{Path: e.ID, Up: e.Up, Rate: e.Rate})
			if e.Up {
				up = append(up, e.ID)
			}
		}
		if len(want) != n || len(b.Adverts) != 1 || !slices.Equal(b.Adverts[0].All, want) || !slices.Equal(onPaths(out), up) {
			t.Errorf("%d: %+v on %v", n, b.Adverts, onPaths(out))
		}
	}
}

// A Clone goes its own way, and so does what it is one of, whatever is done first
// with either.
func TestP271Clone(t *testing.T) {
	deeds := []func(r *receiver.Receiver, m *model){
		func(r *receiver.Receiver, m *model) { path(t, r, m, 1, false, 7) },
		func(r *receiver.Receiver, m *model) { path(t, r, m, 3, true, 7) },
		func(r *receiver.Receiver, m *model) { came(t, r, m, 1, 40, one(1, 90, 1, 3).bytes()) },
		func(r *receiver.Receiver, m *model) { came(t, r, m, 2, 40, one(9, 91, 2, 3).bytes()) },
		func(r *receiver.Receiver, m *model) {
			came(t, r, m, 3, 90, packet{6, 41, 3, 3, 1, 2, "other"}.bytes())
		},
		func(r *receiver.Receiver, m *model) { came(t, r, m, 1, 40, "none") },
		func(r *receiver.Receiver, m *model) { hears(t, r, m, 2, 41, from(1, 33)) },
		func(r *receiver.Receiver, m *model) { hears(t, r, m, 1, 41, bye(1, 1)) },
		func(r *receiver.Receiver, m *model) { step(t, r, m, 42) },
		func(r *receiver.Receiver, m *model) { step(t, r, m, 60) },
	}
	for _, first := range deeds {
		for _, second := range deeds {
			r, m := begun(t, some)
			path(t, r, m, 1, true, 5)
			path(t, r, m, 2, true, 5)
			came(t, r, m, 1, 40, one(0, 40, 1, 0).bytes())
			came(t, r, m, 1, 40, packet{3, 41, 1, 1, 0, 2, "half"}.bytes())
			came(t, r, m, 2, 40, one(5, 42, 2, 0).bytes())
			hears(t, r, m, 1, 40, from(1, 30))
			c, n := r.Clone(), m.clone()
			check(t, c, n)
			first(r, m)
			check(t, c, n)
			second(c, n)
			check(t, r, m)
			// And on: what isn't told at once is held against it, too.
			for _, now := range []int{61, 65, 80} {
				came(t, r, m, 1, now, one(now, now, 1, 4).bytes())
				came(t, c, n, 1, now, one(now, now+1, 1, 5).bytes())
				step(t, r, m, now)
				step(t, c, n, now)
				check(t, r, m)
			}
		}
	}
}

// A clone of the buffer goes its own way.
func TestP271Buffer(t *testing.T) {
	r, m := begun(t, some)
	came(t, r, m, 1, 1, packet{0, 50, 1, 0, 0, 2, "a"}.bytes())
	came(t, r, m, 1, 1, one(1, 51, 1, 1).bytes())
	b := r.Buffer()
	if b.Put(50, media.Part{Index: 1, Count: 2}, "b", 1).Kind != buffer.Whole {
		t.Error("Put")
	}
	if l, _ := b.Play(100, 0, 100); len(l) != 2 || l[0].Data != "ab" {
		t.Errorf("%v", l)
	}
	check(t, r, m)
	b = r.Buffer()
	came(t, r, m, 1, 1, packet{2, 50, 1, 2, 1, 2, "c"}.bytes())
	if _, played := step(t, r, m, 9); len(played) != 2 || played[0].Data != "ac" {
		t.Errorf("%v", played)
	}
	if !slices.Equal(b.Times(), []uint32{50, 51}) || b.Packets() != 2 || b.Horizon() != -1 {
		t.Errorf("%v %d %d", b.Times(), b.Packets(), b.Horizon())
	}
}

// What a call answers is its own: to change it changes nothing else.
func TestP271Memory(t *testing.T) {
	r, m := begun(t, some)
	path(t, r, m, 1, true, 99)
	path(t, r, m, 2, true, 99)
	for i := range 6 {
		came(t, r, m, 1, 3*i, one(3*i, 3*i, 1, i).bytes())
		out, played := r.Step(4 * i)
		m.step(4 * i)
		clear(out[:cap(out)])
		clear(played[:cap(played)])
		flows, wanting, entries := r.Flows(), r.Wanting(), r.Table()
		clear(flows[:cap(flows)])
		clear(wanting[:cap(wanting)])
		clear(entries[:cap(entries)])
		check(t, r, m)
	}
}

// Ticks at both ends of the clock, beyond them, and such as fall: each call answers.
func TestP271Ticks(t *testing.T) {
	ticks := []int{math.MinInt, -1 << 41, -1, 0, 1, 9, 10, 1 << 32, lastTick - 1, lastTick, lastTick + 1, math.MaxInt}
	for _, a := range ticks {
		for _, b := range ticks {
			r := receiver.New(some)
			r.Path(table.Entry{ID: 1, Up: true, Rate: 9})
			r.Media(1, a, one(0, 5, 1, 0).bytes())
			r.Control(1, a, packed(t, from(1, 4)))
			r.Step(b)
			r.Media(1, b, one(3, 6, 1, 3).bytes())
			r.Media(1, a, one(4, math.MaxUint32, 1, 3).bytes())
			out, _ := r.Step(a)
			for _, o := range out {
				says(t, o.Data)
			}
			r.Step(b)
		}
	}
	// The last tick counts as it is.
	r, m := begun(t, with(func(c *receiver.Config) { c.Every = longest }))
	path(t, r, m, 1, true, 9)
	hears(t, r, m, 1, lastTick-40, from(1, 5))
	came(t, r, m, 1, lastTick-30, one(0, 5, 1, 0).bytes())
	came(t, r, m, 1, lastTick-2, one(1, 9, 1, 1).bytes())
	out, played := step(t, r, m, lastTick)
	if l := said(t, out).Lines[0].All; len(played) != 1 || l[0].Last != 5 || l[0].Delay != 40 || l[0].Jitter != 1 {
		t.Errorf("%+v, %v", l, played)
	}
	// A jitter, and a Delay, of more than 32 bits are told by their low ones.
	r, m = begun(t, with(func(c *receiver.Config) { c.Every = 1 }))
	path(t, r, m, 1, true, 9)
	hears(t, r, m, 1, 7, from(1, 6))
	came(t, r, m, 1, 0, one(0, 0, 1, 0).bytes())
	came(t, r, m, 1, lastTick, one(1, 1, 1, 1).bytes())
	out, _ = step(t, r, m, lastTick)
	if l := said(t, out).Lines[0].All; l[0].Delay != 1<<32-7 || int(l[0].Jitter) != (lastTick-1)/16%(1<<32) {
		t.Errorf("%+v", l)
	}
}

// Each call to a zero Receiver answers, as one of New of a zero Config does.
func TestP271Zero(t *testing.T) {
	// Its About is 0.
	of := func(p packet) string { return p.of(0) }
	calls := []func(r *receiver.Receiver, m *model){
		func(r *receiver.Receiver, m *model) { path(t, r, m, 1, true, 9) },
		func(r *receiver.Receiver, m *model) { path(t, r, m, 2, true, 9) },
		func(r *receiver.Receiver, m *model) { came(t, r, m, 1, 0, of(one(0, 5, 1, 0))) },
		func(r *receiver.Receiver, m *model) { came(t, r, m, 1, 0, of(one(4, 6, 1, 0))) },
		func(r *receiver.Receiver, m *model) { came(t, r, m, 1, 0, of(packet{4, 7, 1, 0, 0, 2, "xy"})) },
		func(r *receiver.Receiver, m *model) { came(t, r, m, 1, 0, "x") },
		func(r *receiver.Receiver, m *model) { hears(t, r, m, 1, 0, bye(0, 0)) },
		func(r *receiver.Receiver, m *model) { step(t, r, m, 0) },
		func(r *receiver.Receiver, m *model) { check(t, r.Clone(), m) },
	}
	for _, first := range calls {
		for _, second := range calls {
			r, m := new(receiver.Receiver), newModel(receiver.Config{})
			check(t, r, m)
			first(r, m)
			second(r, m)
			step(t, r, m, 1)
			step(t, r.Clone(), m.clone(), 2)
			step(t, r, m, 2)
		}
	}
}
