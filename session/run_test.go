package session_test

import (
	"fmt"
	"math/rand"
	"slices"
	"strings"
	"testing"

	"cordelle/api"
	"cordelle/buffer"
	"cordelle/compound"
	"cordelle/gaps"
	"cordelle/life"
	"cordelle/media"
	"cordelle/nack"
	"cordelle/net"
	"cordelle/notes"
	"cordelle/receiver"
	"cordelle/report"
	"cordelle/sender"
	"cordelle/session"
	"cordelle/subflow"
	"cordelle/table"
)

// place is where datagrams are under way.
type place struct{ way, path int }

// run is a Session, to which anything is done, and of each datagram under way whether
// bits of it were turned.
type run struct {
	t      *testing.T
	rng    *rand.Rand
	config session.Config
	s      *session.Session
	turned map[place][]bool
	time   uint32
}

// anyConfig is one of small numbers, some of which count as the nearest.
func anyConfig(rng *rand.Rand) session.Config {
	return session.Config{
		Sender: sender.Config{
			Source: 1, Name: strings.Repeat("s", rng.Intn(3)), Size: rng.Intn(60), Frame: rng.Intn(99), Queue: rng.Intn(30), Kept: rng.Intn(30),
			Tries: rng.Intn(4), Burst: rng.Intn(800), Every: rng.Intn(20), Paths: rng.Intn(6),
			Life: life.Config{Timeout: 10 + rng.Intn(60), Low: rng.Intn(60), High: rng.Intn(200), Strikes: rng.Intn(5)},
		},
		Receiver: receiver.Config{
			Source: 2, About: 1, Name: strings.Repeat("r", rng.Intn(3)),
			Buffer: buffer.Config{Frames: rng.Intn(20), Packets: rng.Intn(60), Bytes: rng.Intn(900)},
			Gaps:   gaps.Config{Most: rng.Intn(12), Tries: rng.Intn(4), First: rng.Intn(4), Again: rng.Intn(6)},
			Least:  rng.Intn(6) - 1, Most: rng.Intn(40) - 1, Every: rng.Intn(20), Paths: rng.Intn(6),
		},
		Net: net.Config{Most: 3 + rng.Intn(30), Bytes: 300 + rng.Intn(3000)},
	}
}

// newRun is at the beginning.
func newRun(t *testing.T, seed int64, c session.Config) *run {
	return &run{t: t, rng: rand.New(rand.NewSource(seed)), config: c, s: session.New(c), turned: map[place][]bool{}}
}

// begin makes two paths be known.
func (x *run) begin() {
	for id := 1; id < 3; id++ {
		x.s.Path(table.Entry{ID: id, Up: true, Rate: 100 * id})
	}
	x.s.Tick(1)
	x.s.All(net.Back, 1)
	x.follow()
}

// follow takes it that some were sent, behind the others.
func (x *run) follow() {
	between := x.s.Net()
	for way := range 2 {
		for path := 1; path <= mostPaths; path++ {
			at := place{way, path}
			for len(x.turned[at]) < between.Len(way, path) {
				x.turned[at] = append(x.turned[at], false)
			}
			if len(x.turned[at]) != between.Len(way, path) {
				x.t.Fatalf("%d on %v, not %d", between.Len(way, path), at, len(x.turned[at]))
			}
		}
	}
}

// somewhere is a place, and which one there, mostly where one is.
func (x *run) somewhere() (place, int) {
	way := x.rng.Intn(2)
	l := x.s.Net().Paths(way)
	if len(l) == 0 || x.rng.Intn(30) == 0 {
		return place{x.rng.Intn(4) - 1, x.rng.Intn(18) - 1}, x.rng.Intn(5) - 1
	}
	at := place{way, l[x.rng.Intn(len(l))]}
	return at, min(x.rng.Intn(3), x.rng.Intn(x.s.Len(at.way, at.path)+1))
}

// left takes it that the i-th one is under way no more.
func (x *run) left(at place, i int) {
	if i >= 0 && i < len(x.turned[at]) {
		x.turned[at] = slices.Delete(x.turned[at], i, i+1)
	}
}

// submit submits a frame, mostly a later one.
func (x *run) submit() {
	x.time += uint32(x.rng.Intn(8))
	x.s.Submit(x.time, strings.Repeat(string(rune('a'+x.time%26)), x.rng.Intn(x.config.Sender.Frame+2)))
}

// path says how one is.
func (x *run) path() {
	x.s.Path(table.Entry{ID: x.rng.Intn(8), Up: x.rng.Intn(5) > 0, Rate: []int{-1, 0, 20, 100, 100, 1000, 65536}[x.rng.Intn(7)]})
}

// deed does anything by which no bytes come that nobody sent.
func (x *run) deed() {
	at, i := x.somewhere()
	switch n := x.rng.Intn(100); {
	case n < 20:
		x.submit()
	case n < 28:
		x.path()
	case n < 48:
		x.s.Tick(x.rng.Intn(4))
	case n < 68:
		x.left(at, i)
		x.s.Deliver(at.way, at.path, i)
	case n < 84:
		l := x.turned[at]
		x.turned[at] = l[min(len(l), x.s.All(at.way, at.path)):]
	case n < 88:
		x.left(at, i)
		x.s.Lose(at.way, at.path, i)
	case n < 93:
		if x.s.Twin(at.way, at.path, i) {
			x.turned[at] = append(x.turned[at], x.turned[at][i])
		}
	default:
		x.turn(at, i)
	}
	x.follow()
}

// turn turns a burst of at most 32 bits of one of which none was.
func (x *run) turn(at place, i int) {
	if i >= 0 && i < len(x.turned[at]) && !x.turned[at][i] {
		bits := 8 * len(x.s.Net().All(at.way, at.path)[i])
		x.turned[at][i] = x.s.Turn(at.way, at.path, i, x.rng.Intn(bits+9)-8, x.rng.Uint32()>>x.rng.Intn(32))
	}
}

// forged are bytes that nobody sent.
func (x *run) forged() string {
	n := x.rng.Intn(20)
	switch x.rng.Intn(6) {
	case 0:
		return strings.Repeat(string(rune('a'+n)), n)
	case 1:
		return says(compound.Bag{
			Reports: []report.Report{{Source: 1, IsSender: true, Sent: report.Sent{Clock: x.s.Now() - 3 + n, Time: x.time}}},
			Byes:    []notes.Bye{{Sources: []uint32{uint32(n % 3)}}}[:n/19*x.rng.Intn(2)],
		})
	case 2:
		return says(compound.Bag{
			Nacks:   []nack.Nack{nack.Ask(2, 1, uint16(n), uint16(x.rng.Intn(99)), 65535)},
			Lines:   []subflow.Lines{{Source: 2, All: []subflow.Line{{Path: 1 + n%5, Fraction: x.rng.Intn(256), Last: uint32(x.rng.Intn(x.s.Now() + 2))}}}},
			Adverts: []subflow.Adverts{{Source: 2, All: []subflow.Advert{{Path: 1 + n%7, Up: n > 6, Rate: 99 * n}}}},
		})
	case 3:
		// A copy of one that is under way, wherever it comes.
		if at, i := x.somewhere(); i >= 0 && i < x.s.Len(at.way, at.path) {
			return x.s.Net().All(at.way, at.path)[i]
		}
	}
	count := 1 + n%3
	return media.Media{
		Source: 1, Seq: uint16(x.rng.Intn(50) - 9), Time: uint32(max(0, int(x.time)-40+x.rng.Intn(60))),
		Track: media.Track{Path: 1 + n%5, PathSeq: uint16(x.rng.Intn(50))},
		Part:  media.Part{Index: x.rng.Intn(count), Count: count}, Data: strings.Repeat("F", n),
	}.Pack()
}

// forge does anything by which bytes come that nobody sent.
func (x *run) forge() {
	at := place{x.rng.Intn(2), 1 + x.rng.Intn(5)}
	if x.s.Forge(at.way, at.path, x.forged()) {
		x.turned[at] = append(x.turned[at], false)
	}
	if at, i := x.somewhere(); x.rng.Intn(4) == 0 {
		x.s.Turn(at.way, at.path, i, x.rng.Intn(400), x.rng.Uint32())
	}
	x.follow()
}

// rises tells whether times of frames rise.
func rises(l []buffer.Frame) bool {
	for i := 1; i < len(l); i++ {
		if l[i-1].Time >= l[i].Time {
			return false
		}
	}
	return true
}

// some tells whether frames are some of these, in their order, each at most once.
func some(l, of []buffer.Frame) bool {
	for _, f := range l {
		i := slices.Index(of, f)
		if i < 0 {
			return false
		}
		of = of[i+1:]
	}
	return true
}

// Any calls, and each against the model.
func TestP291Run(t *testing.T) {
	played, again, closed := 0, 0, 0
	for seed := range int64(150) {
		x := newRun(t, seed, anyConfig(rand.New(rand.NewSource(seed))))
		m := newModel(x.config)
		if seed%3 > 0 {
			x.s, m = known(t, x.config, 1)
		}
		for range 120 {
			at, i := x.somewhere()
			switch n := x.rng.Intn(100); {
			case n < 20:
				x.time += uint32(x.rng.Intn(8))
				submit(t, x.s, m, x.time, strings.Repeat("x", x.rng.Intn(x.config.Sender.Frame+2)))
			case n < 30:
				path(t, x.s, m, table.Entry{ID: x.rng.Intn(8), Up: x.rng.Intn(5) > 0, Rate: []int{-1, 0, 20, 100, 65536}[x.rng.Intn(5)]})
			case n < 50:
				tick(t, x.s, m, x.rng.Intn(6)-1)
			case n < 65:
				deliver(t, x.s, m, at.way, at.path, i)
			case n < 80:
				all(t, x.s, m, at.way, at.path)
			case n < 84:
				lose(t, x.s, m, at.way, at.path, i)
			case n < 88:
				twin(t, x.s, m, at.way, at.path, i)
			case n < 92:
				turn(t, x.s, m, at.way, at.path, i, x.rng.Intn(500)-9, x.rng.Uint32())
			case n < 98:
				forge(t, x.s, m, x.rng.Intn(4)-1, x.rng.Intn(8), x.forged())
			case x.rng.Intn(2) == 0:
				closes(t, x.s, m)
			default:
				x.s = x.s.Clone()
				m = m.clone()
			}
		}
		played += len(x.s.Played())
		again += x.s.Sender().Again()
		if x.s.Sender().Closed() {
			closed++
		}
	}
	if played < 200 || again < 100 || closed < 10 {
		t.Errorf("%d are played, %d sent once more, %d closed", played, again, closed)
	}
}

// Each deed done with a Clone, or with the one that it is of: the other stays, and
// goes its own way.
func TestP291Clone(t *testing.T) {
	for seed := range int64(4) {
		s, m := known(t, roomy(), 1, 2)
		for i := range 4 + int(seed) {
			submit(t, s, m, uint32(5+i), strings.Repeat("x", 30))
		}
		tick(t, s, m, 1)
		lose(t, s, m, net.There, 1, int(seed))
		all(t, s, m, net.There, 1)
		tick(t, s, m, 2)
		all(t, s, m, net.There, 2)
		tick(t, s, m, 4+int(seed))
		for one := range 12 {
			for two := range 12 {
				c, other := s.Clone(), m.clone()
				check(t, c, other)
				do(t, c, other, one)
				check(t, s, m)
				a, b := s.Clone(), m.clone()
				do(t, a, b, two)
				check(t, c, other)
				tick(t, a, b, 9)
				check(t, c, other)
				tick(t, c, other, 9)
				check(t, a, b)
				check(t, s, m)
			}
		}
	}
}

// Sender, Receiver and Net are clones, which go their own way.
func TestP291Own(t *testing.T) {
	s, m := known(t, roomy(), 1, 2)
	for i := range 6 {
		submit(t, s, m, uint32(5+i), strings.Repeat("x", 30))
	}
	tick(t, s, m, 1)
	deliver(t, s, m, net.There, 2, 3)
	submit(t, s, m, 99, "waits")
	tick(t, s, m, 1)
	submit(t, s, m, 100, "waits")
	from, to, between := s.Sender(), s.Receiver(), s.Net()
	was := told(from, to, between)
	for deed := range 12 {
		do(t, s, m, deed)
	}
	tick(t, s, m, 40)
	if told(from, to, between) != was || was == told(s.Sender(), s.Receiver(), s.Net()) {
		t.Error("what is done with a Session is done with its clones")
	}
	from, to, between = s.Sender(), s.Receiver(), s.Net()
	from.Submit(200, "x")
	from.Path(table.Entry{ID: 1, Rate: 5}, 99)
	from.Step(99)
	from.Control(99, says(compound.Bag{Nacks: []nack.Nack{nack.Ask(2, 1, 0, 1, 2, 3)}}))
	from.Close(100)
	to.Path(table.Entry{ID: 1, Rate: 5})
	to.Media(2, 99, part(1, 2, 50, 300))
	to.Control(1, 99, says(compound.Bag{Byes: []notes.Bye{{Sources: []uint32{1}}}}))
	to.Step(150)
	for way := range 2 {
		for _, path := range between.Paths(way) {
			between.Turn(way, path, 0, 3, 5)
			between.Twin(way, path, 0)
			between.Lose(way, path, 1)
			between.Take(way, path, 0)
			between.Send(way, path, "x")
			between.Forge(way, path, "y")
		}
	}
	check(t, s, m)
	if told(from, to, between) == told(s.Sender(), s.Receiver(), s.Net()) {
		t.Error("nothing is done")
	}
}

// What is answered is nobody else's memory.
func TestP291Memory(t *testing.T) {
	s, m := known(t, roomy(), 1, 2)
	spoil := func(l []buffer.Frame) {
		for i := range l[:cap(l)] {
			l[:cap(l)][i] = buffer.Frame{Time: 77, Data: "spoilt"}
		}
	}
	for i := range 60 {
		submit(t, s, m, uint32(5+i), fmt.Sprint(i))
		l, _ := s.Tick(1)
		m.tick(1)
		spoil(l)
		spoil(s.Played())
		spoil(s.Accepted())
		for _, path := range []int{1, 2} {
			all(t, s, m, net.There, path)
			all(t, s, m, net.Back, path)
		}
		check(t, s, m)
	}
	if len(s.Played()) < 50 {
		t.Errorf("%d are played", len(s.Played()))
	}
}

// Frames that are played are some of those that were taken, in their order, each at
// most once, byte by byte: where nothing is forged, and a burst at most is turned of
// each datagram.
func TestP292Faithful(t *testing.T) {
	played, taken, refused, lost, bad := 0, 0, 0, 0, 0
	for seed := range int64(400) {
		rng := rand.New(rand.NewSource(1000 + seed))
		c := anyConfig(rng)
		if seed%2 == 0 {
			c = roomy()
			c.Receiver.Every, c.Sender.Every = 1+rng.Intn(9), 1+rng.Intn(9)
		}
		x := newRun(t, 2000+seed, c)
		x.begin()
		for range 300 {
			x.deed()
		}
		if !some(x.s.Played(), x.s.Accepted()) || !rises(x.s.Played()) || !rises(x.s.Accepted()) {
			t.Fatalf("seed %d: %v are played, %v were taken", seed, x.s.Played(), x.s.Accepted())
		}
		played += len(x.s.Played())
		taken += len(x.s.Accepted())
		lost += x.s.Net().Counts().Lost
		bad += x.s.Receiver().Counts().Bad
		if len(x.s.Played()) < len(x.s.Accepted()) {
			refused++
		}
	}
	if played < 4000 || taken < 8000 || lost < 3000 || bad < 1000 || refused < 100 {
		t.Errorf("%d of %d are played, %d are lost, %d bad", played, taken, lost, bad)
	}
}

// What was refused is never played.
func TestP292Refused(t *testing.T) {
	s, m := known(t, roomy(), 1)
	for i := range 40 {
		submit(t, s, m, uint32(10+i), fmt.Sprint("taken ", i))
		if submit(t, s, m, uint32(10+i), fmt.Sprint("refused ", i)) != api.ErrTime || submit(t, s, m, uint32(11+i), strings.Repeat("r", 1001)) != api.ErrBig {
			t.Error("it is taken")
		}
		tick(t, s, m, 1)
		all(t, s, m, net.There, 1)
		all(t, s, m, net.Back, 1)
	}
	l := s.Played()
	if len(l) < 30 {
		t.Errorf("%d are played", len(l))
	}
	for i, f := range l {
		if f != (buffer.Frame{Time: uint32(10 + i), Data: fmt.Sprint("taken ", i)}) {
			t.Errorf("%v", f)
		}
	}
}

// Whatever is delivered, times of frames that are played rise.
func TestP293Rising(t *testing.T) {
	played, forged, taken := 0, 0, 0
	for seed := range int64(300) {
		x := newRun(t, 3000+seed, anyConfig(rand.New(rand.NewSource(4000+seed))))
		x.begin()
		var l []buffer.Frame
		for range 300 {
			switch x.rng.Intn(3) {
			case 0:
				x.forge()
			case 1:
				f, _ := x.s.Tick(x.rng.Intn(3))
				l = append(l, f...)
				x.follow()
			default:
				was := len(x.s.Played())
				x.deed()
				l = append(l, x.s.Played()[was:]...)
			}
		}
		if !rises(l) || !slices.Equal(l, x.s.Played()) {
			t.Fatalf("seed %d: %v", seed, l)
		}
		for _, f := range l {
			if strings.Contains(f.Data, "F") {
				forged++
			}
		}
		played += len(l)
		taken += x.s.Net().Counts().Taken
	}
	if played < 500 || forged < 60 || taken < 10000 {
		t.Errorf("%d are played, %d of them forged, of %d", played, forged, taken)
	}
}

// bounds holds how much waits, is kept, is wanting, and is under way, against what
// may, and tells of how many of these it is as much as may be.
func bounds(t *testing.T, s *session.Session, c session.Config) [7]bool {
	t.Helper()
	among := func(least, n, most int) int { return min(max(n, least), most) }
	from, to, between := s.Sender(), s.Receiver(), s.Net()
	waits := to.Buffer()
	is := [...]int{from.Waiting(), from.Kept(), len(to.Wanting()), waits.Len(), waits.Packets(), len(from.Table()), len(to.Table())}
	may := [...]int{
		among(1, c.Sender.Queue, 65535), among(1, c.Sender.Kept, 65535), among(1, c.Receiver.Gaps.Most, 1024), among(1, c.Receiver.Buffer.Frames, 1024),
		among(1, c.Receiver.Buffer.Packets, 65536), among(1, c.Sender.Paths, 15), among(1, c.Receiver.Paths, 15),
	}
	var full [7]bool
	for i := range is {
		full[i] = is[i] == may[i]
		if is[i] > may[i] {
			t.Fatalf("%v, and %v may be", is, may)
		}
	}
	if waits.Bytes() > among(1, c.Receiver.Buffer.Bytes, 1<<26) || from.Again() > from.Taken()*among(0, c.Sender.Tries, 100) {
		t.Fatalf("%d bytes wait, %d of %d went out once more", waits.Bytes(), from.Again(), from.Taken())
	}
	for way := range 2 {
		for path := 1; path <= mostPaths; path++ {
			l := between.All(way, path)
			if n := len(strings.Join(l, "")); len(l) > among(1, c.Net.Most, 1024) || n > among(1, c.Net.Bytes, 1<<24) {
				t.Fatalf("%d of %d bytes are under way", len(l), n)
			}
		}
	}
	return full
}

// Never more waits, is kept, is wanting, or is under way, than may.
func TestP294Bound(t *testing.T) {
	var full [7]int
	packed := 0
	for seed := range int64(200) {
		x := newRun(t, 5000+seed, anyConfig(rand.New(rand.NewSource(6000+seed))))
		for range 200 {
			if x.rng.Intn(8) == 0 {
				x.forge()
			} else {
				x.deed()
			}
			for i, is := range bounds(t, x.s, x.config) {
				if is {
					full[i]++
				}
			}
			for _, path := range x.s.Net().Paths(net.There) {
				if x.s.Len(net.There, path) == x.config.Net.Most {
					packed++
				}
			}
		}
	}
	if slices.Min(full[:]) < 200 || packed < 200 {
		t.Errorf("%v times full, %d times packed", full, packed)
	}
}

// The frame of the least time goes, where there is no room, and is never played later.
func TestP294Least(t *testing.T) {
	s, m := known(t, with(func(c *session.Config) { c.Receiver.Buffer.Frames, c.Receiver.Least, c.Receiver.Most = 2, 20, 40 }), 1)
	for i := range 4 {
		submit(t, s, m, uint32(5+i), "x")
		tick(t, s, m, 1)
		twin(t, s, m, net.There, 1, 0)
		deliver(t, s, m, net.There, 1, 0)
	}
	all(t, s, m, net.There, 1)
	if l := tick(t, s, m, 60); !slices.Equal(l, s.Accepted()[2:]) {
		t.Errorf("%v", l)
	}
}

// chaos does things to a Session for some ticks: losses, twins, turned bits, paths
// that come and go, and frames, but nothing that is forged.
func (x *run) chaos(ticks int) {
	for end := x.s.Now() + ticks; x.s.Now() < end; {
		x.deed()
	}
}

// alone makes one path alone be Up, and says so.
func (x *run) alone(path, rate int) {
	for id := 1; id < 8; id++ {
		x.s.Path(table.Entry{ID: id, Rate: rate})
	}
	if _, e := x.s.Path(table.Entry{ID: path, Up: true, Rate: rate}); e != api.OK {
		x.t.Fatalf("path %d: %d", path, e)
	}
}

// everything makes all arrive, both ways.
func (x *run) everything() {
	for way := range 2 {
		for _, path := range x.s.Net().Paths(way) {
			x.s.All(way, path)
		}
	}
}

// Where one path alone is Up, and all is delivered, frames are played, each at most
// Most ticks and one behind its Submit.
func TestP295Live(t *testing.T) {
	late, most := 0, 0
	for seed := range int64(80) {
		rng := rand.New(rand.NewSource(7000 + seed))
		c := roomy()
		c.Sender.Size, c.Sender.Tries, c.Receiver.Least, c.Receiver.Most = 1+rng.Intn(40), rng.Intn(4), rng.Intn(9), 9+rng.Intn(30)
		c.Receiver.Buffer = buffer.Config{Frames: 200, Packets: 2000, Bytes: 100000}
		c.Sender.Every, c.Receiver.Every, c.Sender.Paths, c.Receiver.Paths = 1+rng.Intn(20), 1+rng.Intn(20), 15, 15
		x := newRun(t, 8000+seed, c)
		x.chaos(rng.Intn(300))
		path, rate := 1+rng.Intn(7), 200
		x.alone(path, rate)
		from, behind := x.s.Now(), 0
		when, in := map[uint32]int{}, map[uint32]bool{}
		for x.s.Now() < from+300 {
			ahead := len(x.s.Accepted())
			if x.rng.Intn(3) > 0 {
				size := x.rng.Intn(1 + (rate-28)/(28+c.Sender.Size)*c.Sender.Size/2)
				x.time += uint32(1 + x.rng.Intn(3))
				x.s.Submit(x.time, strings.Repeat("x", size))
			}
			if now := x.s.Now(); len(x.s.Accepted()) > ahead {
				when[x.time] = now
				if now > from+100 && now < from+250 {
					if behind++; behind > 2 {
						in[x.time] = true
					}
				}
			}
			l, _ := x.s.Tick(1)
			for _, f := range l {
				if in[f.Time] && x.s.Now()-when[f.Time] > c.Receiver.Most+1 {
					t.Fatalf("seed %d: %d was submitted at %d, played at %d", seed, f.Time, when[f.Time], x.s.Now())
				}
				if in[f.Time] {
					late = max(late, x.s.Now()-when[f.Time])
				}
				delete(in, f.Time)
			}
			x.everything()
			if n := x.s.Sender().Waiting(); n > 0 && x.s.Now() > from+100 {
				t.Fatalf("seed %d: %d wait at %d", seed, n, x.s.Now())
			}
		}
		if len(in) > 0 || behind < 50 {
			t.Logf("%+v path %d rate %d from %d\n%s", c, path, rate, from, told(x.s.Sender(), x.s.Receiver(), x.s.Net()))
			t.Fatalf("seed %d: %d of %d aren't played", seed, len(in), behind)
		}
		if x.s.Net().Counts().Lost > 20 {
			most++
		}
	}
	if late < 4 || most < 50 {
		t.Errorf("at most %d ticks, %d with losses", late, most)
	}
}
