package sender_test

import (
	"math"
	"math/rand"
	"slices"
	"strings"
	"testing"

	"cordelle/api"
	"cordelle/compound"
	"cordelle/gauge"
	"cordelle/life"
	"cordelle/media"
	"cordelle/nack"
	"cordelle/notes"
	"cordelle/piece"
	"cordelle/report"
	"cordelle/sender"
	"cordelle/subflow"
	"cordelle/table"
)

// some is a Config of which no number is a bound.
var some = sender.Config{
	Source: 1, Name: "me", Size: 10, Frame: 100, Queue: 20, Kept: 9, Tries: 2, Burst: 500, Every: 50, Paths: 4,
	Life: life.Config{Timeout: 100, Low: 10, High: 100, Strikes: 2},
}

// with is some, but for what is changed.
func with(change func(c *sender.Config)) sender.Config {
	c := some
	change(&c)
	return c
}

// edges are numbers below, among and beyond those that count.
func edges(most int) []int {
	return []int{math.MinInt, -1, 0, 1, 2, 3, most - 1, most, most + 1, math.MaxInt}
}

// bytes is a text of so many, in which neighbours differ.
func bytes(n int) string {
	b := make([]byte, n)
	for i := range b {
		b[i] = byte(i*7 + i/251)
	}
	return string(b)
}

// onPaths are the paths on which something goes out.
func onPaths(l []sender.Out) []int {
	var paths []int
	for _, o := range l {
		paths = append(paths, o.Path)
	}
	return paths
}

// reports are what goes out as control packets, each opened.
func reports(t *testing.T, l []sender.Out) []compound.Bag {
	t.Helper()
	var all []compound.Bag
	for _, o := range l {
		if pieces, e := compound.Parse(o.Data); e == api.OK {
			all = append(all, compound.Open(pieces...))
		}
	}
	return all
}

// The document's example: a path 1 that is Up, a frame of 5 bytes.
func TestP261Example(t *testing.T) {
	s, m := begun(t, some)
	path(t, s, m, 0, 1, true, 10)
	submit(t, s, m, 7, "frame")
	out := step(t, s, m, 0)
	if len(out) != 1 || out[0].Path != 1 || len(out[0].Data) != 33 {
		t.Fatalf("%s", tell(out))
	}
	want := media.Media{Source: 1, Time: 7, Track: media.Track{Path: 1}, Part: media.Part{Count: 1}, Data: "frame"}
	if got, e := media.Parse(out[0].Data); e != api.OK || got != want {
		t.Errorf("%+v %d", got, e)
	}
}

// Behind New nothing was submitted, there is no path, nothing waits or is kept.
func TestP261New(t *testing.T) {
	s, m := begun(t, some)
	if s.Paths() != nil || s.Table() != nil || s.Waiting()+s.Kept()+s.Taken()+s.Again() != 0 || s.Closed() {
		t.Errorf("%+v", s.Paths())
	}
	if time, is := s.Last(); time != 0 || is {
		t.Errorf("%d", time)
	}
	for _, now := range []int{0, 49, 50, 100, lastTick} {
		if out := step(t, s, m, now); len(out) != 0 {
			t.Errorf("at %d: %s", now, tell(out))
		}
	}
}

// The first error: of one that is closed, of a frame that is too big, of a time that
// isn't above, of parts that don't fit.
func TestP261SubmitOrder(t *testing.T) {
	s, m := begun(t, with(func(c *sender.Config) { c.Queue = 3 }))
	big, fits, small := bytes(101), bytes(31), bytes(30)
	for i, x := range []struct {
		time uint32
		data string
		want api.Errno
	}{
		{5, big, api.ErrBig}, {5, fits, api.ErrFull}, {5, small[:20], api.OK},
		{5, big, api.ErrBig}, {4, big, api.ErrBig}, {5, fits, api.ErrTime}, {4, small, api.ErrTime}, {5, "", api.ErrTime}, {0, "", api.ErrTime},
		{6, big, api.ErrBig}, {6, fits, api.ErrFull}, {6, small[:11], api.ErrFull}, {6, small[:10], api.OK}, {7, "", api.ErrFull}, {6, "", api.ErrTime},
	} {
		if e := submit(t, s, m, x.time, x.data); e != x.want {
			t.Errorf("%d: %d, not %d", i, e, x.want)
		}
	}
	end(t, s, m, 0)
	for _, data := range []string{big, fits, small, ""} {
		for _, time := range []uint32{0, 5, 6, 7, math.MaxUint32} {
			if e := submit(t, s, m, time, data); e != api.ErrClosed {
				t.Errorf("closed: %d", e)
			}
		}
	}
}

// A frame of no bytes, of as many as may be, of one more; also where more than 255
// parts would be.
func TestP261SubmitBytes(t *testing.T) {
	for _, frame := range edges(mostFrame) {
		for _, size := range []int{1, 2, 256, 257, 258, 1000, mostPart} {
			s, m := begun(t, with(func(c *sender.Config) { c.Frame, c.Size, c.Queue = frame, size, 9999 }))
			bound := min(nearest(0, frame, mostFrame), size*mostParts)
			for i, n := range []int{0, bound - 1, bound, bound + 1, 100000} {
				want := api.OK
				if n > bound {
					want = api.ErrBig
				}
				if e := submit(t, s, m, uint32(10*i), bytes(max(n, 0))); e != want {
					t.Errorf("Frame %d, Size %d: %d bytes: %d", frame, size, n, e)
				}
			}
		}
	}
}

// A time at that of the last frame that was taken, below it, above it: of refused
// ones the time doesn't count.
func TestP261SubmitTime(t *testing.T) {
	s, m := begun(t, some)
	for i, x := range []struct {
		time uint32
		data string
		want api.Errno
	}{
		{0, "a", api.OK}, {0, "b", api.ErrTime}, {9, bytes(101), api.ErrBig}, {1, "c", api.OK}, {1, "d", api.ErrTime}, {0, "e", api.ErrTime},
		{1 << 31, "f", api.OK}, {1<<31 - 1, "g", api.ErrTime}, {2, "g", api.ErrTime}, {math.MaxUint32 - 1, "h", api.OK}, {math.MaxUint32, "i", api.OK}, {math.MaxUint32, "j", api.ErrTime}, {0, "k", api.ErrTime},
	} {
		if e := submit(t, s, m, x.time, x.data); e != x.want {
			t.Errorf("%d: %d, not %d", i, e, x.want)
		}
	}
	if time, is := s.Last(); time != math.MaxUint32 || !is {
		t.Errorf("%d %t", time, is)
	}
	// One that didn't fit can come later, with the number that it would have had.
	s, m = begun(t, with(func(c *sender.Config) { c.Queue = 2 }))
	path(t, s, m, 0, 1, true, 100)
	submit(t, s, m, 3, bytes(20))
	if submit(t, s, m, 4, "x") != api.ErrFull {
		t.Error("it isn't full")
	}
	step(t, s, m, 0)
	if submit(t, s, m, 4, "x") != api.OK {
		t.Error("it is full")
	}
	if l := mediaOf(t, step(t, s, m, 1)); len(l) != 1 || l[0].Seq != 2 || l[0].Time != 4 {
		t.Errorf("%+v", l)
	}
}

// Parts of so many bytes: of 0, 1, 1472 and more.
func TestP261Size(t *testing.T) {
	for _, size := range edges(mostPart) {
		s, m := begun(t, with(func(c *sender.Config) { c.Size, c.Frame, c.Queue, c.Burst = size, 3000, 9999, longest }))
		path(t, s, m, 0, 1, true, 1)
		counts := nearest(1, size, mostPart)
		for i, n := range []int{0, 1, counts, counts + 1, min(2*counts, 3000)} {
			submit(t, s, m, uint32(i), bytes(n))
		}
		for i, p := range mediaOf(t, step(t, s, m, 0)) {
			if len(p.Data) > counts || p.Seq != uint16(i) || !p.Last() && len(p.Data) != counts {
				t.Errorf("Size %d: %+v", size, p)
			}
		}
	}
}

// As many packets wait as may, and no more.
func TestP261Queue(t *testing.T) {
	for _, most := range []int{math.MinInt, -1, 0, 1, 2, 3, 30} {
		s, m := begun(t, with(func(c *sender.Config) { c.Queue = most }))
		counts := max(most, 1)
		for i := range counts + 2 {
			if e := submit(t, s, m, uint32(i), "x"); (e == api.OK) != (i < counts) {
				t.Errorf("Queue %d: %d of them: %d", most, i, e)
			}
		}
	}
	// Just as many parts as there is room for, behind one and behind none.
	for _, first := range []int{0, 1, 10} {
		s, m := begun(t, with(func(c *sender.Config) { c.Queue = 5 }))
		room := 50
		if first > 0 {
			submit(t, s, m, 1, bytes(first))
			room = 40
		}
		if submit(t, s, m, 2, bytes(room+1)) != api.ErrFull || submit(t, s, m, 2, bytes(room)) != api.OK || submit(t, s, m, 3, "") != api.ErrFull {
			t.Errorf("behind %d bytes", first)
		}
	}
	for _, most := range []int{1 << 30, 1<<30 + 1, math.MaxInt} {
		s, m := begun(t, with(func(c *sender.Config) { c.Queue = most }))
		for i := range 300 {
			submit(t, s, m, uint32(i), bytes(i%101))
		}
		if s.Waiting() < 1000 {
			t.Errorf("%d", s.Waiting())
		}
	}
}

// Numbers go round behind 65535, those of a path, too; then the greatest packet of
// a number is the one that is asked for.
func TestP261Round(t *testing.T) {
	c := with(func(c *sender.Config) {
		c.Size, c.Frame, c.Queue, c.Kept, c.Burst, c.Every = 1, 255, 1<<18, 70000, longest, longest
		c.Life.Timeout = longest
	})
	s := sender.New(c)
	s.Path(table.Entry{ID: 3, Up: true, Rate: 65535}, 0)
	seq, frames := 0, 2*65536/255+2
	for i := range frames {
		if e := s.Submit(uint32(i), bytes(255)); e != api.OK {
			t.Fatalf("%d: %d", i, e)
		}
		for _, p := range mediaOf(t, s.Step(i)) {
			if p.Seq != uint16(seq) || p.PathSeq != uint16(seq) {
				t.Fatalf("%+v is the packet %d", p, seq)
			}
			seq++
		}
	}
	if seq != frames*255 || s.Taken() != seq || s.Kept() != mostKept || s.Paths()[0].Sent != seq {
		t.Fatalf("%d went out, %d were taken, %d are kept", seq, s.Taken(), s.Kept())
	}
	// The last one, the eldest that is kept, and the number of the one ahead of that,
	// which a packet bore that is kept no more.
	ask := func(n int) []media.Media {
		out, e := s.Control(frames, heard(t, asks(1, uint16(n))))
		if e != api.OK {
			t.Fatal(e)
		}
		return mediaOf(t, out)
	}
	for i, at := range []int{seq - 1, seq - 2, seq - 65535, 2*65536 + 5, 2*65536 - 1} {
		l := ask(at)
		if len(l) != 1 || l[0].Seq != uint16(at) || l[0].Time != uint32(at/255) || l[0].Index != at%255 || l[0].PathSeq != uint16(seq+i) {
			t.Errorf("%d: %+v", at, l)
		}
	}
	if l := ask(seq - 65536); len(l) != 0 || s.Again() != 5 {
		t.Errorf("%+v", l)
	}
}

// A path comes to be Up, stays so with the same Rate and with another one, isn't Up
// any more, and is again: then it begins anew.
func TestP261Path(t *testing.T) {
	s, m := begun(t, with(func(c *sender.Config) { c.Size, c.Queue = 72, 99 }))
	for i := range 30 {
		submit(t, s, m, uint32(i), bytes(72))
	}
	wait := func(now, want int) {
		t.Helper()
		if out := step(t, s, m, now); len(mediaOf(t, out)) != want {
			t.Errorf("at %d: %s, not %d", now, tell(out), want)
		}
	}
	for i, x := range []struct {
		now  int
		up   bool
		rate int
		want bool
		// How many packets of 100 bytes go out then.
		out int
	}{
		{0, true, 10, true, 5}, {0, true, 10, false, 0}, {9, true, 10, false, 0}, {10, true, 10, false, 1},
		// Behind 6 ticks of 10 bytes it is slow: 4 of 1 more are 64, and 36 of 1 are wanting.
		{16, true, 1, true, 0}, {20, true, 1, false, 0}, {55, true, 1, false, 0}, {56, true, 1, false, 1},
		// Below 1 it is 1.
		{57, true, 0, true, 0}, {155, true, 0, false, 0}, {156, true, 0, false, 1},
		{156, true, 65535, true, 0}, {157, true, 65535, false, 5},
		{158, false, 65535, true, 0}, {159, false, 65535, false, 0}, {159, false, 7, true, 0},
		{160, true, 7, true, 5}, {161, false, 7, true, 0}, {161, true, 7, true, 5},
	} {
		other, e := path(t, s, m, x.now, 2, x.up, x.rate)
		if other != x.want || e != api.OK {
			t.Errorf("%d: %t %d", i, other, e)
		}
		if x.now >= 100 { // Something is to be heard of it.
			control(t, s, m, x.now, lines(subflow.Line{Path: 2, Last: 1}))
		}
		wait(x.now, x.out)
	}
}

// A path that begins anew is as if nothing ever went out there: its numbers, what
// is told of it, its life; and one that was never Up is only told by its number.
func TestP261PathAnew(t *testing.T) {
	s, m := begun(t, some)
	path(t, s, m, 3, 4, true, 30)
	path(t, s, m, 3, 2, false, 30)
	submit(t, s, m, 1, bytes(30))
	step(t, s, m, 4)
	control(t, s, m, 10, lines(subflow.Line{Path: 4, Fraction: 101, Last: 4, Delay: 1}))
	want := []sender.State{{ID: 2}, {ID: 4, Up: true, Sends: true, Life: life.Life{Heard: 10, Strikes: 1}, Sent: 3, Bytes: 114, Trip: gauge.Trip{Smooth: 40, Spread: 10, Has: true}}}
	if got := s.Paths(); !slices.Equal(got, want) {
		t.Errorf("%+v, not %+v", got, want)
	}
	path(t, s, m, 11, 4, false, 30)
	if got := s.Paths(); !slices.Equal(got, []sender.State{{ID: 2}, {ID: 4}}) {
		t.Errorf("%+v", got)
	}
	path(t, s, m, 12, 4, true, 30)
	path(t, s, m, 13, 2, true, 30)
	want = []sender.State{{ID: 2, Up: true, Sends: true, Life: life.Life{Heard: 13}}, {ID: 4, Up: true, Sends: true, Life: life.Life{Heard: 12}}}
	if got := s.Paths(); !slices.Equal(got, want) {
		t.Errorf("%+v, not %+v", got, want)
	}
	submit(t, s, m, 2, bytes(60))
	for _, p := range mediaOf(t, step(t, s, m, 14)) {
		if int(p.PathSeq) != (p.Index)/2 {
			t.Errorf("%+v", p)
		}
	}
}

// Layer 16's errors, in its order; and more paths than may be. Nothing changes then.
func TestP261PathErrors(t *testing.T) {
	for _, most := range edges(mostPaths) {
		s, m := begun(t, with(func(c *sender.Config) { c.Paths = most }))
		counts := nearest(1, most, mostPaths)
		for id := -1; id <= 17; id++ {
			for _, rate := range []int{math.MinInt, -1, 65536, math.MaxInt} {
				if other, e := path(t, s, m, 0, id, true, rate); other || e != api.ErrArg {
					t.Errorf("%d, %d: %t %d", id, rate, other, e)
				}
			}
			other, e := path(t, s, m, 0, id, id%2 == 0, 65535)
			want := api.OK
			switch {
			case id < 1 || id > 15:
				want = api.ErrArg
			case id > counts:
				want = api.ErrFull
			}
			if e != want || other != (want == api.OK) {
				t.Errorf("Paths %d: %d: %t %d", most, id, other, e)
			}
		}
		if len(s.Paths()) != counts || len(s.Table()) != counts {
			t.Errorf("Paths %d: %v", most, s.Table())
		}
	}
}

// It reports at the tick Every, not ahead of it; then Every behind when it did, be
// that late; on each path that sends.
func TestP261Reports(t *testing.T) {
	for _, every := range edges(longest) {
		s, m := begun(t, with(func(c *sender.Config) { c.Every = every }))
		path(t, s, m, 0, 3, true, 5)
		path(t, s, m, 0, 1, true, 5)
		path(t, s, m, 0, 2, false, 5)
		at := func(now int, want ...int) {
			t.Helper()
			control(t, s, m, now, lines(subflow.Line{Path: 1}, subflow.Line{Path: 3}))
			if got := onPaths(step(t, s, m, now)); !slices.Equal(got, want) {
				t.Errorf("Every %d: at %d: %v, not %v", every, now, got, want)
			}
		}
		counts := nearest(1, every, longest)
		late := 3*counts + counts/2
		at(0)
		at(counts - 1)
		at(counts, 1, 3)
		at(counts)
		at(2*counts - 1)
		at(2*counts, 1, 3)
		at(late, 1, 3)
		at(late + counts - 1)
		at(late+counts, 1, 3)
	}
}

// The time to report goes by where no path sends, too.
func TestP261ReportsUnheard(t *testing.T) {
	s, m := begun(t, some)
	step(t, s, m, 70)
	path(t, s, m, 71, 1, true, 9)
	for _, x := range []struct {
		now  int
		want int
	}{{71, 0}, {119, 0}, {120, 1}, {121, 0}, {169, 0}, {171, 1}, {172, 0}} {
		if out := step(t, s, m, x.now); len(out) != x.want {
			t.Errorf("at %d: %s", x.now, tell(out))
		}
	}
	// At 220 it has heard nothing for more than 100 ticks.
	if out := step(t, s, m, 300); len(out) != 0 {
		t.Errorf("at 300: %s", tell(out))
	}
	control(t, s, m, 301, lines(subflow.Line{Path: 1}))
	if out := step(t, s, m, 349); len(out) != 0 {
		t.Errorf("at 349: %s", tell(out))
	}
	if out := step(t, s, m, 350); len(out) != 1 {
		t.Errorf("at 350: %s", tell(out))
	}
}

// What a report says: the clock, the last frame that was taken, what went out of
// media, once more, too; and the name.
func TestP261ReportSays(t *testing.T) {
	s, m := begun(t, with(func(c *sender.Config) { c.Source = math.MaxUint32 }))
	path(t, s, m, 0, 2, true, 100)
	says := func(now int, want report.Sent) {
		t.Helper()
		l := reports(t, step(t, s, m, now))
		if len(l) != 1 || len(l[0].Reports) != 1 || !slices.Equal(l[0].Names, []notes.Name{{Source: math.MaxUint32, Text: "me"}}) {
			t.Fatalf("at %d: %+v", now, l)
		}
		r := l[0].Reports[0]
		if r.Source != math.MaxUint32 || !r.IsSender || r.Sent != want || len(r.Blocks) != 0 {
			t.Errorf("at %d: %+v", now, r)
		}
		if rest := l[0]; rest.Apps != nil || rest.Nacks != nil || rest.Lines != nil || rest.Adverts != nil || rest.Byes != nil {
			t.Errorf("at %d: %+v", now, rest)
		}
	}
	says(50, report.Sent{Clock: 50})
	submit(t, s, m, 1<<31, bytes(30))
	// The report goes out ahead of what waits.
	says(100, report.Sent{Clock: 100, Time: 1 << 31})
	control(t, s, m, 101, lines(subflow.Line{Path: 2}))
	submit(t, s, m, math.MaxUint32, "")
	says(150, report.Sent{Clock: 150, Time: math.MaxUint32, Packets: 3, Bytes: 114})
	control(t, s, m, 151, asks(math.MaxUint32, 0, 1))
	says(200, report.Sent{Clock: 200, Time: math.MaxUint32, Packets: 6, Bytes: 218})
	// All that went out counts, also of a path that began anew.
	path(t, s, m, 201, 2, false, 1)
	path(t, s, m, 201, 2, true, 1)
	submit(t, s, m, 5, "")
	says(250, report.Sent{Clock: 250, Time: math.MaxUint32, Packets: 6, Bytes: 218})
}

// A name counts with its first 255 bytes; the empty one is s.
func TestP261Name(t *testing.T) {
	long := bytes(300)
	for name, want := range map[string]string{"": "s", "s": "s", "x": "x", "\x00": "\x00", "\xff\xfe": "\xff\xfe", long[:254]: long[:254], long[:255]: long[:255], long[:256]: long[:255], long: long[:255]} {
		s, m := begun(t, with(func(c *sender.Config) { c.Name = name }))
		path(t, s, m, 0, 1, true, 1)
		for _, l := range [][]sender.Out{step(t, s, m, 50), end(t, s, m, 51)} {
			if b := reports(t, l); len(b) != 1 || !slices.Equal(b[0].Names, []notes.Name{{Source: 1, Text: want}}) {
				t.Errorf("%q: %s", name, tell(l))
			}
		}
	}
}

// Paces that have just as much as a packet, and one byte less; Bursts of 0, 1, 2^20
// and beyond.
func TestP261Burst(t *testing.T) {
	for _, burst := range []int{math.MinInt, -1, 0, 1, 37, 38, 39, 75, 76, 77, longest - 1, longest, longest + 1, math.MaxInt} {
		s, m := begun(t, with(func(c *sender.Config) { c.Burst, c.Size, c.Frame, c.Queue = burst, 10, 2000, 99999 }))
		path(t, s, m, 0, 1, true, 1)
		counts := nearest(1, burst, longest)
		for i := range 139 { // Some more than 2^20 bytes.
			if counts > 1000 || i == 0 {
				submit(t, s, m, uint32(i), bytes(2000))
			}
		}
		want := min(counts/38, s.Waiting())
		if out := step(t, s, m, 0); len(out) != want || want < s.Taken() {
			t.Errorf("Burst %d: %d, not %d", burst, len(out), want)
		}
		if wait := 38 - counts%38; counts >= 38 && wait < 38 {
			if out := step(t, s, m, wait-1); len(out) != 0 {
				t.Errorf("Burst %d: %d a tick too early", burst, len(out))
			}
			if out := step(t, s, m, wait); len(out) != 1 {
				t.Errorf("Burst %d: %d when there are as many", burst, len(out))
			}
		}
	}
	if sum := 139 * 200 * 38; sum <= longest {
		t.Errorf("%d", sum)
	}
}

// One that can't go out holds up all behind it, also those that could.
func TestP261InOrder(t *testing.T) {
	s, m := begun(t, with(func(c *sender.Config) { c.Burst, c.Size = 60, 60 }))
	path(t, s, m, 0, 1, true, 1)
	submit(t, s, m, 1, bytes(33))
	submit(t, s, m, 2, "")
	if out := step(t, s, m, 0); len(out) != 0 || s.Waiting() != 2 {
		t.Errorf("%s", tell(out))
	}
	// A path that could carry it is there, but it isn't that one's turn: it goes all
	// the same.
	s, m = begun(t, with(func(c *sender.Config) { c.Burst, c.Size = 60, 60 }))
	path(t, s, m, 0, 1, true, 1)
	path(t, s, m, 0, 2, true, 50)
	submit(t, s, m, 1, bytes(32))
	submit(t, s, m, 2, bytes(32))
	submit(t, s, m, 3, bytes(32))
	for now, want := range [][]int{{1, 2}, {}, {2}} {
		if got := onPaths(step(t, s, m, now)); !slices.Equal(got, want) {
			t.Errorf("at %d: %v, not %v", now, got, want)
		}
	}
}

// Several paths of unlike weights: by their Rates, and by how they are.
func TestP261Weights(t *testing.T) {
	count := func(out []sender.Out) (n [3]int) {
		for _, p := range mediaOf(t, out) {
			n[p.Path-1]++
		}
		return n
	}
	s, m := begun(t, with(func(c *sender.Config) { c.Queue, c.Burst, c.Every = 999, longest, longest }))
	path(t, s, m, 0, 1, true, 300)
	path(t, s, m, 0, 2, true, 100)
	path(t, s, m, 0, 3, true, 0)
	control(t, s, m, 0, lines(subflow.Line{Path: 1}, subflow.Line{Path: 2}))
	frames := func(now int) [3]int {
		for range 8 {
			submit(t, s, m, uint32(len(m.times)), bytes(100))
		}
		return count(step(t, s, m, now))
	}
	if n := frames(1); n[0] < 58 || n[0] > 60 || n[1] < 19 || n[1] > 21 || n[2] != 1 {
		t.Errorf("300, 100 and 1: %v", n)
	}
	// With a high report 1 is worth half of it; with none 3 is Probing, with a quarter.
	control(t, s, m, 2, lines(subflow.Line{Path: 1, Fraction: 200}))
	path(t, s, m, 2, 3, true, 400)
	if n := frames(2); n[0] < 33 || n[0] > 35 || n[1] < 22 || n[1] > 24 || n[2] < 22 || n[2] > 24 {
		t.Errorf("150, 100 and 100: %v", n)
	}
	// Other weights forget what was carried, the same ones don't.
	control(t, s, m, 3, lines(subflow.Line{Path: 1}, subflow.Line{Path: 2}))
	path(t, s, m, 3, 3, false, 0)
	path(t, s, m, 3, 1, true, 100)
	if n := frames(3); n != [3]int{40, 40} {
		t.Errorf("100 and 100: %v", n)
	}
	submit(t, s, m, 1000, "odd")
	step(t, s, m, 4)
	submit(t, s, m, 1001, "odd")
	if n := count(step(t, s, m, 5)); n != [3]int{0, 1} {
		t.Errorf("then it is the other one's turn: %v", n)
	}
	// The share is Set also where nothing waits: so it is forgotten in between.
	submit(t, s, m, 1002, "odd")
	step(t, s, m, 6)
	control(t, s, m, 6, lines(subflow.Line{Path: 2, Fraction: 200}))
	step(t, s, m, 7)
	control(t, s, m, 7, lines(subflow.Line{Path: 2}))
	submit(t, s, m, 1003, "odd")
	if n := count(step(t, s, m, 8)); n != [3]int{1} {
		t.Errorf("forgotten: %v", n)
	}
}

// Step without a path, without one that sends, and with nothing that waits.
func TestP261StepNothing(t *testing.T) {
	s, m := begun(t, some)
	submit(t, s, m, 1, bytes(30))
	none := func(now int) {
		t.Helper()
		if out := step(t, s, m, now); len(out) != 0 || s.Waiting() != 3 {
			t.Errorf("at %d: %s", now, tell(out))
		}
	}
	none(0)
	path(t, s, m, 0, 1, false, 9)
	none(60)
	path(t, s, m, 60, 2, true, 9)
	// Just by this Step it is Inactive.
	none(161)
	path(t, s, m, 162, 2, false, 9)
	none(162)
	path(t, s, m, 163, 2, true, 9)
	if out := step(t, s, m, 163); len(mediaOf(t, out)) != 3 || s.Waiting() != 0 {
		t.Errorf("%s", tell(out))
	}
	if out := step(t, s, m, 164); len(out) != 0 {
		t.Errorf("%s", tell(out))
	}
}

// Control of bytes that are no packet: layer 12's error, and nothing changes.
func TestP261ControlErrors(t *testing.T) {
	s, m := begun(t, some)
	path(t, s, m, 0, 1, true, 99)
	submit(t, s, m, 1, bytes(30))
	step(t, s, m, 1)
	good := compound.Bag{
		Lines:   []subflow.Lines{{All: []subflow.Line{{Path: 1, Last: 1}}}},
		Adverts: []subflow.Adverts{{All: []subflow.Advert{{Path: 1}, {Path: 2, Up: true, Rate: 7}}}},
		Nacks:   []nack.Nack{nack.Ask(2, 1, 0, 1)},
		Byes:    []notes.Bye{{Sources: []uint32{2}}},
	}
	data := heard(t, good)
	part, _ := media.Parse(step(t, s, m, 50)[0].Data)
	l := []string{"", "x", data[:len(data)-1], data + "\x00", data + data, data[4:], "x" + data[1:], strings.Repeat(data, 20), bytes(1501), bytes(100000), part.Pack(), strings.Repeat("\x00", 64)}
	for i := range data {
		turned := []byte(data)
		turned[i] ^= 1 << (i % 8)
		l = append(l, string(turned))
	}
	for _, x := range l {
		_, want := compound.Parse(x)
		if got, e := s.Control(60, x); e != want || e == api.OK || got != nil {
			t.Fatalf("%d bytes: %d, not %d: %s", len(x), e, want, tell(got))
		}
		check(t, s, m)
	}
	// Pieces that layer 12 doesn't let go together.
	for _, x := range []struct {
		l    []piece.Piece
		want api.Errno
	}{
		{[]piece.Piece{notes.Names(notes.Name{Text: "r"})}, api.ErrForm},
		{[]piece.Piece{report.Report{}.Piece()}, api.ErrForm},
		{[]piece.Piece{report.Report{}.Piece(), notes.Names(notes.Name{Text: "r"}), {Kind: 206}}, api.ErrKind},
	} {
		data := sealed(t, x.l)
		if got, e := s.Control(60, data); e != x.want || got != nil {
			t.Errorf("%v: %d", x.l, e)
		}
		check(t, s, m)
	}
	// And then the good one does.
	control(t, s, m, 60, good)
	if !s.Closed() {
		t.Error("not closed")
	}
}

// sealed is pieces as they would be packed, if they might go together.
func sealed(t *testing.T, l []piece.Piece) string {
	t.Helper()
	whole := heard(t, compound.Bag{})
	end := piece.Pack(notes.App{Name: "csum", Data: whole[len(whole)-4:]}.Piece())
	return reseal(piece.Pack(l...) + end)
}

// Random bytes, and packets of which anything is changed and which are sealed anew:
// each is answered, and where it is refused nothing changes.
func TestP261ControlBytes(t *testing.T) {
	taken := 0
	for seed := range int64(40) {
		r := newRun(t, 4000+seed)
		for range 40 {
			r.deed()
		}
		for range 40 {
			data := []byte(heard(t, r.anyBag()))
			for range 1 + r.rng.Intn(4) {
				data[r.rng.Intn(len(data))] = byte(r.rng.Intn(256))
			}
			all := string(data)
			if r.rng.Intn(4) > 0 {
				all = reseal(all[:min(len(all), 4*r.rng.Intn(len(all)))] + all[min(len(all), 4*r.rng.Intn(len(all))):])
			}
			pieces, want := compound.Parse(all)
			got, e := r.s.Control(r.now, all)
			if e != want {
				t.Fatalf("%x: %d, not %d", all, e, want)
			}
			if e != api.OK {
				if got != nil {
					t.Fatalf("%x: %s", all, tell(got))
				}
				check(t, r.s, r.m)
				continue
			}
			taken++
			if l := r.m.control(r.now, compound.Open(pieces...)); !slices.Equal(got, l) {
				t.Fatalf("%x: %s, not %s", all, tell(got), tell(l))
			}
			check(t, r.s, r.m)
		}
	}
	if taken < 100 {
		t.Errorf("%d were taken", taken)
	}
}

// Adverts, each done as Path: those that don't hold are left, and what comes behind
// them is done.
func TestP261Adverts(t *testing.T) {
	s, m := begun(t, with(func(c *sender.Config) { c.Paths = 2 }))
	path(t, s, m, 0, 5, false, 1)
	control(t, s, m, 7, adverts(subflow.Advert{Path: 1, Up: true, Rate: 8}, subflow.Advert{Path: 2, Up: true, Rate: 9}, subflow.Advert{Path: 5, Up: true, Rate: 65535}, subflow.Advert{Path: 15}))
	want := []table.Entry{{ID: 1, Up: true, Rate: 8}, {ID: 5, Up: true, Rate: 65535}}
	if got := s.Table(); !slices.Equal(got, want) {
		t.Errorf("%+v", got)
	}
	if l := s.Paths(); l[0].Life != life.New(7) || l[1].Life != life.New(7) {
		t.Errorf("%+v", l)
	}
	// Each Adverts, one behind the other; whose they are doesn't matter, and none are
	// as good.
	b := adverts(subflow.Advert{Path: 1})
	b.Adverts = append(b.Adverts, subflow.Adverts{Source: 1, All: []subflow.Advert{{Path: 1, Up: true, Rate: 8}, {Path: 5}}}, subflow.Adverts{})
	control(t, s, m, 9, b)
	if l := s.Paths(); l[0].Life != life.New(9) || l[1] != (sender.State{ID: 5}) {
		t.Errorf("%+v", l)
	}
	control(t, s, m, 10, compound.Bag{})
}

// Adverts are done ahead of Lines, these ahead of Nacks, and these ahead of a Bye.
func TestP261ControlOrder(t *testing.T) {
	s, m := begun(t, with(func(c *sender.Config) { c.Every = 1000 }))
	path(t, s, m, 0, 1, true, 99)
	submit(t, s, m, 1, bytes(20))
	step(t, s, m, 0)
	// By the Adverts there is path 2, by the Lines it is Active, and so the Nacks are
	// answered there; and then it is closed.
	b := compound.Bag{
		Lines:   []subflow.Lines{{All: []subflow.Line{{Path: 2, Last: 3, Delay: 1}}}},
		Adverts: []subflow.Adverts{{All: []subflow.Advert{{Path: 2, Up: true, Rate: 5}}}},
		Nacks:   []nack.Nack{nack.Ask(2, 1, 1), nack.Ask(2, 1, 0)},
		Byes:    []notes.Bye{{Sources: []uint32{9}}},
	}
	out := control(t, s, m, 8, b)
	if !slices.Equal(onPaths(out), []int{2, 2}) || !s.Closed() {
		t.Errorf("%s", tell(out))
	}
	if l := mediaOf(t, out); l[0].Seq != 1 || l[0].PathSeq != 0 || l[1].Seq != 0 || l[1].PathSeq != 1 {
		t.Errorf("%s", tell(out))
	}
	if x := s.Paths()[1]; x.Life != (life.Life{State: life.Active, Heard: 8}) || x.Trip != (gauge.Trip{}).Next(4) || x.Sent != 2 || x.Bytes != 76 {
		t.Errorf("%+v", x)
	}
	// A Line makes a path send again, and another one not, and then the Nacks see it.
	s, m = begun(t, with(func(c *sender.Config) { c.Every, c.Life.Strikes = 1000, 1 }))
	path(t, s, m, 0, 1, true, 99)
	path(t, s, m, 0, 2, true, 99)
	submit(t, s, m, 1, bytes(10))
	step(t, s, m, 0)
	b = asks(1, 0)
	b.Lines = []subflow.Lines{{All: []subflow.Line{{Path: 2, Fraction: 101}}}}
	if out := control(t, s, m, 1, b); !slices.Equal(onPaths(out), []int{1}) {
		t.Errorf("%s", tell(out))
	}
	b.Lines = []subflow.Lines{{All: []subflow.Line{{Path: 1, Fraction: 101}, {Path: 2, Fraction: 10}}}}
	if out := control(t, s, m, 2, b); !slices.Equal(onPaths(out), []int{2}) {
		t.Errorf("%s", tell(out))
	}
}

// Lines of paths that are Up, and of such as aren't, or aren't there: a path's life
// has its report, at that tick.
func TestP261Lines(t *testing.T) {
	s, m := begun(t, some)
	path(t, s, m, 0, 1, true, 99)
	path(t, s, m, 0, 2, false, 99)
	for i, x := range []struct {
		now, fraction int
		want          life.Life
	}{
		{3, 11, life.Life{Heard: 3}}, {5, 10, life.Life{State: life.Active, Heard: 5}}, {6, 100, life.Life{State: life.Active, Heard: 6}},
		{7, 101, life.Life{State: life.Congested, Heard: 7, Strikes: 1}}, {8, 255, life.Life{State: life.Inactive, Heard: 8}}, {9, 0, life.Life{Heard: 9}}, {9, 0, life.Life{State: life.Active, Heard: 9}},
	} {
		control(t, s, m, x.now, lines(subflow.Line{Path: 1, Fraction: x.fraction}, subflow.Line{Path: 2, Fraction: x.fraction, Last: 1}, subflow.Line{Path: 3, Last: 1}))
		want := sender.State{ID: 1, Up: true, Sends: x.want.State != life.Inactive, Life: x.want}
		if got := s.Paths(); got[0] != want || got[1] != (sender.State{ID: 2}) || len(got) != 2 {
			t.Errorf("%d: %+v", i, got)
		}
	}
	// All Lines of all pieces.
	b := lines(subflow.Line{Path: 1, Fraction: 200})
	b.Lines = append(b.Lines, subflow.Lines{Source: 7, All: []subflow.Line{{Path: 1, Fraction: 200}}})
	control(t, s, m, 10, b)
	if x := s.Paths()[0]; x.Sends {
		t.Errorf("%+v", x)
	}
}

// A Last of 0, and one above now less Delay, tell no round trip; others do.
func TestP261Trips(t *testing.T) {
	const now = 1 << 35
	for _, x := range []struct {
		now         int
		last, delay uint32
		want        int
	}{
		{100, 0, 0, -1}, {100, 0, 50, -1}, {100, 100, 0, 0}, {100, 101, 0, -1}, {100, 99, 0, 1}, {100, 99, 1, 0}, {100, 99, 2, -1}, {100, 1, 99, 0}, {100, 1, 98, 1}, {100, 1, 100, -1}, {100, 1, 101, -1},
		{100, math.MaxUint32, 0, -1}, {100, 1, math.MaxUint32, -1}, {100, math.MaxUint32, math.MaxUint32, -1}, {100, 60, 7, 33},
		{0, 1, 0, -1}, {1, 1, 0, 0}, {longest + 1, 1, 0, longest}, {longest + 9, 1, 0, longest}, {longest + 9, 1, 10, longest - 2},
		{now, math.MaxUint32, math.MaxUint32, longest}, {1 << 33, math.MaxUint32, math.MaxUint32, 2}, {1<<33 - 2, math.MaxUint32, math.MaxUint32, 0}, {1<<33 - 3, math.MaxUint32, math.MaxUint32, -1}, {lastTick, 1, 0, longest},
	} {
		s, m := begun(t, some)
		path(t, s, m, x.now, 1, true, 9)
		path(t, s, m, x.now, 2, true, 9)
		control(t, s, m, x.now, lines(subflow.Line{Path: 1, Last: x.last, Delay: x.delay}))
		want := gauge.Trip{}
		if x.want >= 0 {
			want = want.Next(x.want)
		}
		if l := s.Paths(); l[0].Trip != want || l[1].Trip != (gauge.Trip{}) || l[0].Life.State != life.Active {
			t.Errorf("%+v: %+v", x, l)
		}
	}
	s, m := begun(t, some)
	path(t, s, m, 0, 1, true, 9)
	want := gauge.Trip{}
	for i := range 20 {
		control(t, s, m, 100+i, lines(subflow.Line{Path: 1, Last: uint32(90 - i%7), Delay: uint32(i % 3)}))
		want = want.Next(10 + i + i%7 - i%3)
	}
	if got := s.Paths()[0].Trip; got != want {
		t.Errorf("%+v, not %+v", got, want)
	}
}

// Nacks About another source, and of numbers that weren't taken, or aren't kept.
func TestP261NacksOfNothing(t *testing.T) {
	s, m := begun(t, with(func(c *sender.Config) { c.Kept = 3 }))
	none := func(about uint32, l ...uint16) {
		t.Helper()
		if out := control(t, s, m, 1, asks(about, l...)); len(out) != 0 {
			t.Errorf("%v: %s", l, tell(out))
		}
	}
	path(t, s, m, 0, 1, true, 99)
	none(1, 0, 1, 65535)
	submit(t, s, m, 1, bytes(50))
	none(1, 0, 1, 2, 3, 4)
	step(t, s, m, 0)
	none(2, 0, 1, 2, 3, 4)
	none(0, 2)
	none(1, 0, 1, 5, 6, 65535, 32768)
	if out := control(t, s, m, 1, asks(1, 0, 1, 2, 3, 4, 5)); len(out) != 3 || s.Again() != 3 {
		t.Errorf("%s", tell(out))
	}
	// What waits isn't taken.
	path(t, s, m, 1, 1, false, 99)
	submit(t, s, m, 2, bytes(10))
	none(1, 5)
	// Several: some About it, some not.
	path(t, s, m, 1, 1, true, 99)
	b := compound.Bag{Nacks: []nack.Nack{nack.Ask(2, 9, 4), nack.Ask(2, 1, 3, 4, 3), nack.Ask(1, 1, 2), nack.Ask(9, 2, 2)}}
	if out := control(t, s, m, 1, b); len(out) != 3 {
		t.Errorf("%s", tell(out))
	}
}

// Those that were sent once more as often as may be aren't any more.
func TestP261Tries(t *testing.T) {
	for _, tries := range edges(mostTries) {
		s, m := begun(t, with(func(c *sender.Config) { c.Tries, c.Burst = tries, longest }))
		path(t, s, m, 0, 1, true, 99)
		path(t, s, m, 0, 2, true, 99)
		submit(t, s, m, 1, bytes(30))
		step(t, s, m, 0)
		counts := nearest(0, tries, mostTries)
		for i := range counts + 3 {
			out := control(t, s, m, 1, asks(1, 1))
			if want := min(1, max(counts-i, 0)); len(out) != want {
				t.Errorf("Tries %d: the %d. time: %s", tries, i+1, tell(out))
			}
		}
		if s.Again() != counts {
			t.Errorf("Tries %d: %d", tries, s.Again())
		}
		control(t, s, m, 1, asks(1, 0, 1, 2))
		if s.Again() != counts+2*min(counts, 1) {
			t.Errorf("Tries %d: %d", tries, s.Again())
		}
	}
}

// So many are kept, and no more.
func TestP261Kept(t *testing.T) {
	for _, kept := range []int{math.MinInt, -1, 0, 1, 2, 10, 20, 21, 99} {
		s, m := begun(t, with(func(c *sender.Config) { c.Kept, c.Burst = kept, longest }))
		path(t, s, m, 0, 1, true, 99)
		submit(t, s, m, 1, bytes(100))
		step(t, s, m, 0)
		submit(t, s, m, 2, bytes(100))
		step(t, s, m, 1)
		counts := nearest(1, kept, 20)
		if s.Kept() != counts {
			t.Errorf("Kept %d: %d", kept, s.Kept())
		}
		for n := range uint16(22) {
			if out := control(t, s, m, 2, asks(1, n)); (len(out) == 1) != (int(n) < 20 && int(n) >= 20-counts) {
				t.Errorf("Kept %d: %d: %s", kept, n, tell(out))
			}
		}
	}
}

// A packet goes out again on another path, the least that can; on the same one, if
// no other can; on none, if that can't: then it may be sent as often as ahead.
func TestP261Again(t *testing.T) {
	s, m := begun(t, with(func(c *sender.Config) { c.Burst, c.Tries, c.Every, c.Paths = 76, 20, 1000, 5 }))
	path(t, s, m, 0, 3, true, 1)
	submit(t, s, m, 1, bytes(10))
	step(t, s, m, 0)
	asked := func(now int, want ...int) {
		t.Helper()
		out := control(t, s, m, now, asks(1, 0))
		if !slices.Equal(onPaths(out), want) {
			t.Errorf("at %d: %s, not %v", now, tell(out), want)
		}
		for _, p := range mediaOf(t, out) {
			if p.Seq != 0 || p.Data != bytes(10) || p.Time != 1 || p.Count != 1 || int(p.PathSeq) != s.Paths()[slices.IndexFunc(s.Paths(), func(x sender.State) bool { return x.ID == p.Path })].Sent-1 {
				t.Errorf("%+v", p)
			}
		}
	}
	asked(0, 3) // No other: on the same one.
	asked(0)    // It has no byte left.
	asked(37)   // One is wanting.
	asked(38, 3)
	again := s.Again()
	asked(39)
	if s.Again() != again {
		t.Error("its tries grew")
	}
	path(t, s, m, 40, 9, true, 1)
	path(t, s, m, 40, 4, true, 1)
	path(t, s, m, 40, 1, false, 1)
	asked(40, 4) // The least of those that can.
	asked(40, 9) // Other than where it went last: 3 can't.
	asked(40, 4) // And back.
	asked(40, 9) // 4 can't any more.
	asked(40)    // Neither can 9.
	path(t, s, m, 40, 2, true, 1)
	asked(40, 2)
	path(t, s, m, 40, 2, false, 1)
	asked(40) // Where it went last isn't Up.
	if s.Again() != 7 {
		t.Errorf("%d", s.Again())
	}
	path(t, s, m, 40, 2, true, 1)
	asked(40, 2) // It is again, anew.
	for now := 41; now < 150; now += 3 {
		control(t, s, m, now, lines(subflow.Line{Path: 3, Fraction: 255}, subflow.Line{Path: 4}))
		step(t, s, m, now)
	}
	asked(150, 4) // Paths that don't send carry nothing.
	asked(150, 4)
	asked(150)
	if s.Again() != 10 {
		t.Errorf("%d", s.Again())
	}
}

// What goes out again counts in the share.
func TestP261AgainShared(t *testing.T) {
	s, m := begun(t, some)
	path(t, s, m, 0, 1, true, 40)
	path(t, s, m, 0, 2, true, 40)
	submit(t, s, m, 1, bytes(20))
	step(t, s, m, 0) // 1 and 2 carried as much.
	submit(t, s, m, 2, "0123456789")
	control(t, s, m, 1, asks(1, 1)) // So 1 carried more.
	if got := onPaths(step(t, s, m, 1)); !slices.Equal(got, []int{2}) {
		t.Errorf("%v", got)
	}
	submit(t, s, m, 3, bytes(20))
	if got := onPaths(step(t, s, m, 2)); !slices.Equal(got, []int{1, 2}) {
		t.Errorf("%v", got)
	}
	// A path that isn't shared among yet carries all the same.
	path(t, s, m, 3, 3, true, 40)
	if got := onPaths(control(t, s, m, 3, asks(1, 0))); !slices.Equal(got, []int{2}) {
		t.Errorf("%v", got)
	}
	if got := onPaths(control(t, s, m, 3, asks(1, 0, 3))); !slices.Equal(got, []int{1, 2}) {
		t.Errorf("%v", got)
	}
	path(t, s, m, 3, 1, false, 40)
	path(t, s, m, 3, 2, false, 40)
	if got := onPaths(control(t, s, m, 3, asks(1, 2, 3))); !slices.Equal(got, []int{3, 3}) || s.Paths()[2].Sent != 2 {
		t.Errorf("%v", got)
	}
}

// A Bye of its own source alone, or of none, is nothing; one of another source, and
// be it among others, closes it: nothing more waits.
func TestP261Byes(t *testing.T) {
	for _, x := range []struct {
		l    []notes.Bye
		want bool
	}{
		{[]notes.Bye{{}}, false}, {[]notes.Bye{{Reason: "so"}}, false}, {[]notes.Bye{{Sources: []uint32{1}}}, false}, {[]notes.Bye{{Sources: []uint32{1, 1, 1}}}, false},
		{[]notes.Bye{{Sources: []uint32{2}}}, true}, {[]notes.Bye{{Sources: []uint32{0}}}, true}, {[]notes.Bye{{Sources: []uint32{1, 2}}}, true}, {[]notes.Bye{{Sources: []uint32{2, 1}}}, true}, {[]notes.Bye{{Sources: []uint32{1, 1, 77, 1}}}, true},
	} {
		s, m := begun(t, some)
		path(t, s, m, 0, 1, true, 100)
		submit(t, s, m, 1, bytes(30))
		step(t, s, m, 0)
		submit(t, s, m, 2, bytes(20))
		if out := control(t, s, m, 1, compound.Bag{Byes: x.l}); len(out) != 0 || s.Closed() != x.want {
			t.Errorf("%+v: %t %s", x.l, s.Closed(), tell(out))
		}
		if !x.want {
			if out := step(t, s, m, 1); len(out) != 2 {
				t.Errorf("%+v: %s", x.l, tell(out))
			}
			continue
		}
		if e := submit(t, s, m, 3, ""); e != api.ErrClosed {
			t.Errorf("%+v: %d", x.l, e)
		}
		if out := end(t, s, m, 2); len(out) != 0 {
			t.Errorf("%+v: it says goodbye: %s", x.l, tell(out))
		}
		if out := step(t, s, m, 50); len(out) != 0 || s.Taken() != 3 || s.Kept() != 3 {
			t.Errorf("%+v: %s", x.l, tell(out))
		}
	}
}

// Close: the report, the name and a Bye, on each path that sends; once more it is
// nothing; and each call behind it.
func TestP261Close(t *testing.T) {
	s, m := begun(t, some)
	for id, up := range map[int]bool{4: true, 2: true, 3: false, 1: true} {
		path(t, s, m, 0, id, up, 50)
	}
	control(t, s, m, 1, lines(subflow.Line{Path: 1, Fraction: 255}))
	control(t, s, m, 1, lines(subflow.Line{Path: 1, Fraction: 255}))
	submit(t, s, m, 8, bytes(25))
	step(t, s, m, 2)
	submit(t, s, m, 9, bytes(25))
	out := end(t, s, m, 3)
	if !slices.Equal(onPaths(out), []int{2, 4}) || !s.Closed() || s.Waiting() != 0 || s.Taken() != 3 || s.Kept() != 3 {
		t.Fatalf("%s", tell(out))
	}
	for _, b := range reports(t, out) {
		if len(b.Reports) != 1 || b.Reports[0].Sent != (report.Sent{Clock: 3, Time: 9, Packets: 3, Bytes: 109}) || b.Names[0] != (notes.Name{Source: 1, Text: "me"}) || len(b.Byes) != 1 || b.Byes[0].Reason != "" || !slices.Equal(b.Byes[0].Sources, []uint32{1}) {
			t.Errorf("%+v", b)
		}
	}
	if out := end(t, s, m, 4); out != nil {
		t.Errorf("%s", tell(out))
	}
	if submit(t, s, m, 10, "") != api.ErrClosed {
		t.Error("Submit")
	}
	for _, now := range []int{5, 50, 60} {
		if out := step(t, s, m, now); len(out) != 0 {
			t.Errorf("at %d: %s", now, tell(out))
		}
	}
	// Lives go on, paths come and go.
	if _, e := path(t, s, m, 61, 1, false, 5); e != api.OK {
		t.Error(e)
	}
	control(t, s, m, 62, lines(subflow.Line{Path: 2, Last: 3}))
	control(t, s, m, 62, adverts(subflow.Advert{Path: 1, Up: true, Rate: 7}))
	step(t, s, m, 120)
	if l := s.Paths(); !l[0].Sends || !l[1].Sends || l[3].Sends || l[1].Trip == (gauge.Trip{}) {
		t.Errorf("%+v", l)
	}
	if time, is := s.Last(); time != 9 || !is {
		t.Errorf("%d %t", time, is)
	}
	c := s.Clone()
	if !c.Closed() || c.Close(121) != nil || c.Submit(99, "") != api.ErrClosed {
		t.Error("a Clone of it")
	}
	// Of one without a path nothing goes out.
	s, m = begun(t, some)
	if out := end(t, s, m, 0); len(out) != 0 || !s.Closed() {
		t.Errorf("%s", tell(out))
	}
}

// Close at a tick: what hasn't been heard for too long is told only by a Step.
func TestP261CloseLate(t *testing.T) {
	s, m := begun(t, some)
	path(t, s, m, 0, 1, true, 50)
	if out := end(t, s, m, 500); len(out) != 1 || reports(t, out)[0].Reports[0].Clock != 500 {
		t.Errorf("%s", tell(out))
	}
}

// A Clone goes its own way, and so does what it is one of, whatever is done first
// with either.
func TestP261Clone(t *testing.T) {
	deeds := []func(s *sender.Sender, m *model){
		func(s *sender.Sender, m *model) { submit(t, s, m, 90, bytes(20)) },
		func(s *sender.Sender, m *model) { path(t, s, m, 21, 1, true, 7) },
		func(s *sender.Sender, m *model) { path(t, s, m, 21, 1, false, 7) },
		func(s *sender.Sender, m *model) { path(t, s, m, 21, 3, true, 7) },
		func(s *sender.Sender, m *model) { step(t, s, m, 22) },
		func(s *sender.Sender, m *model) { step(t, s, m, 60) },
		func(s *sender.Sender, m *model) { step(t, s, m, 200) },
		func(s *sender.Sender, m *model) { control(t, s, m, 23, asks(1, 0, 1, 2, 3, 4)) },
		func(s *sender.Sender, m *model) { control(t, s, m, 23, lines(subflow.Line{Path: 2, Last: 5})) },
		func(s *sender.Sender, m *model) { control(t, s, m, 23, byes(2)) },
		func(s *sender.Sender, m *model) { end(t, s, m, 24) },
	}
	for i, one := range deeds {
		for j, two := range deeds {
			s, m := begun(t, with(func(c *sender.Config) { c.Burst, c.Kept = 120, 4 }))
			path(t, s, m, 0, 1, true, 5)
			path(t, s, m, 0, 2, true, 5)
			submit(t, s, m, 1, bytes(100))
			step(t, s, m, 0)
			step(t, s, m, 20)
			c, n := s.Clone(), m.clone()
			check(t, c, n)
			one(s, m)
			check(t, c, n)
			two(c, n)
			check(t, s, m)
			// And on: what isn't told at once is held against it, too.
			for _, now := range []int{201, 210, 250} {
				submit(t, s, m, uint32(now), "of the one")
				submit(t, c, n, uint32(now)+1, "of the other")
				control(t, s, m, now, asks(1, uint16(i), 2, 5))
				step(t, s, m, now)
				step(t, c, n, now)
				control(t, c, n, now, asks(1, uint16(j), 3))
			}
		}
	}
}

// What a call answers is its own: to change it changes nothing else.
func TestP261Memory(t *testing.T) {
	s, m := begun(t, some)
	path(t, s, m, 0, 1, true, 99)
	path(t, s, m, 0, 2, true, 99)
	for i := range 5 {
		submit(t, s, m, uint32(i), bytes(40))
		for _, l := range [][]sender.Out{s.Step(30 * i), s.Clone().Close(30 * i)} {
			for j := range l[:cap(l)] {
				l[:cap(l)][j] = sender.Out{Path: 15, Data: "other"}
			}
		}
		out, _ := s.Control(30*i, heard(t, asks(1, 0, 1, 2)))
		clear(out[:cap(out)])
		m.step(30 * i)
		m.control(30*i, asks(1, 0, 1, 2))
		paths, entries := s.Paths(), s.Table()
		clear(paths[:cap(paths)])
		clear(entries[:cap(entries)])
		check(t, s, m)
	}
}

// Ticks below 0, beyond 2^40, and such as fall: each call answers, and what goes out
// is what may.
func TestP261Ticks(t *testing.T) {
	rng := rand.New(rand.NewSource(26))
	ticks := []int{math.MinInt, -1 << 41, -1, 0, 1, 49, 50, 51, 1 << 32, lastTick - 1, lastTick, lastTick + 1, math.MaxInt}
	for range 300 {
		s := sender.New(anyConfig(rng))
		for i := range 40 {
			now := ticks[rng.Intn(len(ticks))]
			s.Path(table.Entry{ID: 1 + rng.Intn(3), Up: rng.Intn(3) > 0, Rate: rng.Intn(100)}, now)
			s.Submit(uint32(i), bytes(rng.Intn(80)))
			mediaOf(t, s.Step(ticks[rng.Intn(len(ticks))]))
			out, e := s.Control(ticks[rng.Intn(len(ticks))], heard(t, compound.Bag{
				Lines: []subflow.Lines{{All: []subflow.Line{{Path: 1, Last: rng.Uint32(), Delay: rng.Uint32()}, {Path: 2, Last: 1}}}},
				Nacks: []nack.Nack{nack.Ask(2, 1, uint16(rng.Intn(9)))},
			}))
			if mediaOf(t, out); e != api.OK {
				t.Fatal(e)
			}
		}
		mediaOf(t, s.Close(ticks[rng.Intn(len(ticks))]))
	}
	// The first tick and the last one are told as they are.
	for _, now := range []int{50, 1 << 32, lastTick} {
		s, m := begun(t, some)
		path(t, s, m, now, 1, true, 1)
		if b := reports(t, step(t, s, m, now)); len(b) != 1 || b[0].Reports[0].Clock != now {
			t.Errorf("%d: %+v", now, b)
		}
	}
}

// Each call to a zero Sender answers.
func TestP261Zero(t *testing.T) {
	calls := []func(s *sender.Sender){
		func(s *sender.Sender) { s.Clone().Step(1) },
		func(s *sender.Sender) { s.Submit(0, "") },
		func(s *sender.Sender) { s.Submit(5, bytes(70000)) },
		func(s *sender.Sender) { s.Path(table.Entry{ID: 1, Up: true, Rate: 9}, 0) },
		func(s *sender.Sender) { s.Step(0) },
		func(s *sender.Sender) { s.Control(0, "x") },
		func(s *sender.Sender) {
			s.Control(0, heard(t, compound.Bag{Adverts: adverts(subflow.Advert{Path: 1, Up: true}).Adverts, Nacks: asks(0, 0).Nacks, Byes: byes(0).Byes}))
		},
		func(s *sender.Sender) { s.Close(0) },
		func(s *sender.Sender) { s.Paths() },
		func(s *sender.Sender) { s.Waiting() },
		func(s *sender.Sender) { s.Kept() },
		func(s *sender.Sender) { s.Taken() },
		func(s *sender.Sender) { s.Again() },
		func(s *sender.Sender) { s.Table() },
	}
	for _, one := range calls {
		for _, two := range calls {
			s := new(sender.Sender)
			one(s)
			two(s)
			s.Step(1)
		}
	}
	s := new(sender.Sender)
	if time, is := s.Last(); time != 0 || is || s.Closed() || len(s.Paths()) != 0 || s.Waiting()+s.Kept()+s.Taken()+s.Again() != 0 {
		t.Errorf("%d %t", time, is)
	}
}
