package sender_test

import (
	"math/rand"
	"runtime"
	"slices"
	"strings"
	"testing"

	"cordelle/api"
	"cordelle/compound"
	"cordelle/life"
	"cordelle/media"
	"cordelle/nack"
	"cordelle/notes"
	"cordelle/report"
	"cordelle/rtp"
	"cordelle/sender"
	"cordelle/subflow"
	"cordelle/table"
)

// run is a Sender, and its model, to which anything is done.
type run struct {
	t    *testing.T
	rng  *rand.Rand
	s    *sender.Sender
	m    *model
	now  int
	time uint32
	// What was submitted, and taken, part by part.
	parts []media.Media
}

// anyConfig is one of small numbers, some of which count as the nearest.
func anyConfig(rng *rand.Rand) sender.Config {
	return sender.Config{
		Source: 1, Name: strings.Repeat("n", rng.Intn(3)),
		Size: rng.Intn(20), Frame: rng.Intn(90), Queue: rng.Intn(16), Kept: rng.Intn(12), Tries: rng.Intn(4),
		Burst: rng.Intn(300), Every: rng.Intn(40), Paths: rng.Intn(6),
		Life: life.Config{Timeout: rng.Intn(60), Low: rng.Intn(60), High: rng.Intn(200), Strikes: rng.Intn(4)},
	}
}

func newRun(t *testing.T, seed int64) *run {
	rng := rand.New(rand.NewSource(seed))
	s, m := begun(t, anyConfig(rng))
	return &run{t: t, rng: rng, s: s, m: m}
}

// deed does anything, and answers what goes out.
func (r *run) deed() []sender.Out {
	r.t.Helper()
	switch n := r.rng.Intn(100); {
	case n < 30:
		r.submit()
	case n < 45:
		path(r.t, r.s, r.m, r.now, r.rng.Intn(7), r.rng.Intn(4) > 0, r.anyRate())
	case n < 75:
		r.now += r.rng.Intn(12)
		return step(r.t, r.s, r.m, r.now)
	case n < 77:
		r.garbage()
	case n < 99:
		r.now += r.rng.Intn(3)
		return control(r.t, r.s, r.m, r.now, r.anyBag())
	case r.rng.Intn(6) == 0:
		return end(r.t, r.s, r.m, r.now)
	}
	return nil
}

// submit submits a frame of a time that may be, or may not.
func (r *run) submit() {
	r.t.Helper()
	time := r.time + uint32(r.rng.Intn(4))
	data := make([]byte, r.rng.Intn(100))
	r.rng.Read(data)
	if submit(r.t, r.s, r.m, time, string(data)) != api.OK {
		return
	}
	r.time = time
	size := max(r.m.Size, 1)
	for i := 0; i == 0 || i*size < len(data); i++ {
		p := media.Media{Source: 1, Seq: uint16(len(r.parts)), Time: time, Data: string(data[i*size : min((i+1)*size, len(data))])}
		p.Index = i
		r.parts = append(r.parts, p)
	}
	count := r.parts[len(r.parts)-1].Index + 1
	for i := len(r.parts) - count; i < len(r.parts); i++ {
		r.parts[i].Count = count
	}
}

// garbage is bytes that are no control packet: nothing changes.
func (r *run) garbage() {
	r.t.Helper()
	data := []byte(heard(r.t, r.anyBag()))
	at := r.rng.Intn(len(data))
	data[at] ^= byte(1 + r.rng.Intn(255))
	if got, e := r.s.Control(r.now, string(data)); got != nil || e != api.ErrSum {
		r.t.Fatalf("Control: %v %d", got, e)
	}
	check(r.t, r.s, r.m)
}

// anyRate is a rate, often one that was.
func (r *run) anyRate() int { return []int{-1, 0, 1, 7, 7, 20, 20, 65535, 65536}[r.rng.Intn(9)] }

// anyBag is what a receiver may say.
func (r *run) anyBag() compound.Bag {
	var b compound.Bag
	for range r.rng.Intn(3) {
		var l subflow.Lines
		for id := 1; id <= 6; id++ {
			if r.rng.Intn(2) == 0 {
				l.All = append(l.All, subflow.Line{Path: id, Fraction: r.rng.Intn(256), Last: uint32(r.rng.Intn(r.now + 2)), Delay: uint32(r.rng.Intn(9))})
			}
		}
		b.Lines = append(b.Lines, l)
	}
	for range r.rng.Intn(3) {
		var numbers []uint16
		for range 1 + r.rng.Intn(6) {
			numbers = append(numbers, uint16(len(r.m.taken)-r.rng.Intn(14)))
		}
		b.Nacks = append(b.Nacks, nack.Ask(2, uint32(1+r.rng.Intn(5)/4), numbers...))
	}
	for range r.rng.Intn(5) / 3 {
		var a subflow.Adverts
		for id := 1; id <= 6; id++ {
			if r.rng.Intn(3) == 0 {
				a.All = append(a.All, subflow.Advert{Path: id, Up: r.rng.Intn(4) > 0, Rate: r.rng.Intn(40)})
			}
		}
		b.Adverts = append(b.Adverts, a)
	}
	if r.rng.Intn(9) == 0 {
		b.Apps = []notes.App{{Source: 2, Name: "else"}}
		b.Reports = []report.Report{{Source: 3, IsSender: true, Sent: report.Sent{Clock: r.now}}}
	}
	switch r.rng.Intn(150) {
	case 0:
		b.Byes = []notes.Bye{{Sources: []uint32{1, 2}}}
	case 1, 2, 3:
		b.Byes = []notes.Bye{{Sources: []uint32{1, 1}[:r.rng.Intn(3)]}}
	}
	return b
}

// mediaOf are the parts that go out, each with its path.
func mediaOf(t *testing.T, out []sender.Out) []media.Media {
	t.Helper()
	var l []media.Media
	for _, o := range out {
		if rtp.IsControl(o.Data) {
			if _, e := compound.Parse(o.Data); e != api.OK {
				t.Fatalf("%x: %d", o.Data, e)
			}
			continue
		}
		m, e := media.Parse(o.Data)
		if e != api.OK || m.Path != o.Path {
			t.Fatalf("%+v on %d: %d", m, o.Path, e)
		}
		l = append(l, m)
	}
	return l
}

// Each call, behind any calls, and of a Clone at any time.
func TestP261Run(t *testing.T) {
	for seed := range int64(300) {
		r := newRun(t, seed)
		for range 40 {
			for range 4 {
				r.deed()
			}
			if r.rng.Intn(6) == 0 {
				other := *r
				other.s, other.m = r.s.Clone(), r.m.clone()
				check(t, other.s, other.m)
				for range 5 {
					other.deed()
					check(t, r.s, r.m)
				}
				r.deed()
				check(t, other.s, other.m)
				if r.rng.Intn(2) == 0 {
					r.s, r.m, r.now, r.time = other.s, other.m, max(r.now, other.now), other.time
				}
			}
		}
	}
}

// Nothing of media goes out on a path that doesn't send: neither ahead of the
// call, or made so by it, nor behind it.
func TestP262Sends(t *testing.T) {
	media, refused := 0, 0
	for seed := range int64(200) {
		r := newRun(t, 1000+seed)
		for range 150 {
			out := r.deed()
			sends := map[int]bool{}
			for _, x := range r.s.Paths() {
				sends[x.ID] = x.Sends
				if x.Sends && (!x.Up || x.Life.State == life.Inactive) {
					t.Fatalf("%+v", x)
				}
				if x.Up && !x.Sends {
					refused++
				}
			}
			for _, e := range r.s.Table() {
				if !e.Up && sends[e.ID] {
					t.Fatalf("%+v sends", e)
				}
			}
			for _, p := range mediaOf(t, out) {
				media++
				if !sends[p.Path] {
					t.Fatalf("%+v on %d", p, p.Path)
				}
			}
		}
	}
	if media < 1000 || refused < 1000 {
		t.Errorf("%d of media, %d times a path didn't send", media, refused)
	}
}

// A path that is Inactive by its life sends nothing, however much waits, until two
// low reports; nor does one that is Up no more.
func TestP262Inactive(t *testing.T) {
	s := sender.New(sender.Config{Source: 1, Size: 10, Frame: 100, Queue: 100, Kept: 100, Tries: 9, Burst: 10000, Every: 10, Paths: 2, Life: life.Config{Timeout: 5, Low: 10, High: 100, Strikes: 2}})
	s.Path(table.Entry{ID: 1, Up: true, Rate: 100}, 0)
	s.Submit(1, "first")
	if out := s.Step(5); len(mediaOf(t, out)) != 1 {
		t.Fatalf("at 5: %s", tell(out))
	}
	s.Submit(2, "second")
	again := heard(t, asks(1, 0))
	for now := 6; now < 40; now++ {
		if out := s.Step(now); len(out) != 0 {
			t.Fatalf("at %d: %s", now, tell(out))
		}
		if out, _ := s.Control(now, again); len(out) != 0 {
			t.Fatalf("at %d: %s", now, tell(out))
		}
	}
	low := heard(t, lines(subflow.Line{Path: 1}))
	s.Control(40, low)
	if out := s.Step(40); len(mediaOf(t, out)) != 1 {
		t.Errorf("behind a low report it is Probing, and sends: %s", tell(out))
	}
	s.Path(table.Entry{ID: 1, Rate: 100}, 41)
	s.Submit(3, "third")
	s.Control(41, low)
	if out := s.Step(41); len(out) != 0 {
		t.Errorf("Up no more: %s", tell(out))
	}
	if out, _ := s.Control(41, again); len(out) != 0 {
		t.Errorf("Up no more: %s", tell(out))
	}
}

// What goes out is just what was submitted, part by part, in order; each once, and
// once more at most as often as may be; on each path the numbers there go up by 1.
func TestP263InOrder(t *testing.T) {
	again := 0
	for seed := range int64(200) {
		r := newRun(t, 2000+seed)
		times := map[int]int{}
		ahead := 0
		for range 150 {
			before := r.s.Taken()
			for _, p := range mediaOf(t, r.deed()) {
				p.Track = media.Track{}
				if before == r.s.Taken() { // Sent once more.
					at := before - 1
					for at >= 0 && r.parts[at].Seq != p.Seq {
						at--
					}
					if at < 0 || r.parts[at] != p {
						t.Fatalf("%+v wasn't sent", p)
					}
					times[at]++
					again++
					continue
				}
				if p != r.parts[ahead] {
					t.Fatalf("%+v, not %+v", p, r.parts[ahead])
				}
				ahead++
			}
			if ahead != r.s.Taken() {
				t.Fatalf("%d went out, %d were taken", ahead, r.s.Taken())
			}
		}
		for at, n := range times {
			if n > r.m.Tries {
				t.Fatalf("%d: %d times once more, of %d", at, n, r.m.Tries)
			}
		}
	}
	if again < 500 {
		t.Errorf("%d once more", again)
	}
}

// A whole frame comes out of its parts, as it was submitted.
func TestP263Frames(t *testing.T) {
	for _, size := range []int{1, 2, 7, 100, mostPart} {
		s := sender.New(sender.Config{Source: 5, Size: size, Frame: mostFrame, Queue: 9999, Kept: 1, Burst: longest, Every: 1, Paths: 3})
		for id := 1; id <= 3; id++ {
			s.Path(table.Entry{ID: id, Up: true, Rate: 65535}, 0)
		}
		var want, got []string
		for i, n := range []int{0, 1, size - 1, size, size + 1, 2 * size, 3*size - 1, 100 * size, 255 * size} {
			data := make([]byte, min(n, mostFrame))
			for j := range data {
				data[j] = byte(i + j + j/251)
			}
			if e := s.Submit(uint32(10*i), string(data)); e != api.OK {
				t.Fatalf("%d bytes: %d", n, e)
			}
			want = append(want, string(data))
		}
		for _, p := range mediaOf(t, s.Step(0)) {
			if p.First() {
				got = append(got, "")
			}
			if int(p.Time) != 10*(len(got)-1) || p.Source != 5 {
				t.Fatalf("%+v", p)
			}
			got[len(got)-1] += p.Data
		}
		if !slices.Equal(got, want) {
			t.Errorf("%d frames of %d", len(got), len(want))
		}
	}
}

// No more waits, is kept, than may be.
func TestP264Bounds(t *testing.T) {
	full, most := 0, 0
	for seed := range int64(200) {
		r := newRun(t, 3000+seed)
		for range 150 {
			r.deed()
			if r.s.Waiting() > r.m.Queue || r.s.Kept() > r.m.Kept || len(r.s.Paths()) > r.m.Paths {
				t.Fatalf("%d wait of %d, %d are kept of %d, %d paths of %d", r.s.Waiting(), r.m.Queue, r.s.Kept(), r.m.Kept, len(r.s.Paths()), r.m.Paths)
			}
			if r.s.Waiting() == r.m.Queue {
				full++
			}
			if r.s.Kept() == r.m.Kept {
				most++
			}
		}
	}
	if full < 100 || most < 100 {
		t.Errorf("%d times full, %d times as many kept as may be", full, most)
	}
}

// Of no more than 2^26 bytes in all may packets wait.
func TestP264Bytes(t *testing.T) {
	const most = 1 << 26
	s := sender.New(sender.Config{Size: mostPart, Frame: mostFrame, Queue: 1 << 30})
	data := strings.Repeat("x", mostFrame)
	n := 0
	for s.Submit(uint32(n), data) == api.OK {
		n++
	}
	// Whether a packet's header counts, too, the document leaves open.
	if n*mostFrame > most || (n+1)*(mostFrame+45*overhead) <= most || s.Waiting() != 45*n {
		t.Errorf("%d frames, %d packets", n, s.Waiting())
	}
}

// Packets that are kept no more take no memory.
func TestP264Memory(t *testing.T) {
	const frames = 200
	s := sender.New(sender.Config{Size: mostPart, Frame: mostFrame, Queue: 99, Kept: 3, Burst: longest, Every: longest, Life: life.Config{Timeout: longest}})
	s.Path(table.Entry{ID: 1, Up: true, Rate: 65535}, 0)
	before := inUse()
	for i := range frames {
		s.Submit(uint32(i), strings.Repeat(string(rune('a'+i%26)), mostFrame))
		s.Step(2 * i)
	}
	if grown := inUse() - before; s.Kept() != 3 || s.Waiting() != 0 || grown > frames*mostFrame/4 {
		t.Errorf("%d bytes more in use, %d are kept, %d wait", grown, s.Kept(), s.Waiting())
	}
}

// inUse is how many bytes of memory are.
func inUse() int {
	runtime.GC()
	var m runtime.MemStats
	runtime.ReadMemStats(&m)
	return int(m.HeapAlloc)
}

// No path carries more than its pace lets: in any ticks, one behind the other, no
// more than Burst, and its Rate for each of them.
func TestP264Pace(t *testing.T) {
	type carried struct{ now, bytes int }
	for seed := range int64(60) {
		rng := rand.New(rand.NewSource(seed))
		burst := 40 + rng.Intn(300)
		rates := []int{0, 1 + rng.Intn(9), 5 + rng.Intn(60), 1000}
		s := sender.New(sender.Config{Source: 1, Size: 1 + rng.Intn(60), Frame: 200, Queue: 50, Kept: 20, Tries: 9, Burst: burst, Every: 9, Paths: 4, Life: life.Config{Timeout: longest}})
		for i, rate := range rates {
			s.Path(table.Entry{ID: i + 1, Up: true, Rate: rate}, 0)
		}
		log := map[int][]carried{}
		now := 0
		for i := range 200 {
			now += rng.Intn(9)
			s.Submit(uint32(i), strings.Repeat("x", rng.Intn(200)))
			out := s.Step(now)
			more, _ := s.Control(now, heard(t, asks(1, uint16(s.Taken()-1-rng.Intn(9)), uint16(s.Taken()-1-rng.Intn(9)))))
			for _, o := range append(out, more...) {
				if !rtp.IsControl(o.Data) {
					log[o.Path] = append(log[o.Path], carried{now, len(o.Data)})
				}
			}
		}
		for id, l := range log {
			rate := max(rates[id-1], 1)
			for i := range l {
				sum := 0
				for _, x := range l[i:] {
					if sum += x.bytes; sum > burst+rate*(x.now-l[i].now) {
						t.Fatalf("seed %d, path %d: %d bytes from %d to %d", seed, id, sum, l[i].now, x.now)
					}
				}
			}
		}
	}
}
