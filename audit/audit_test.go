package audit_test

import (
	"fmt"
	"math"
	"math/big"
	"math/rand"
	"slices"
	"strings"
	"testing"

	"cordelle/audit"
	"cordelle/buffer"
	"cordelle/gaps"
	"cordelle/gauge"
	"cordelle/life"
	"cordelle/media"
	"cordelle/nack"
	"cordelle/net"
	"cordelle/notes"
	"cordelle/receiver"
	"cordelle/report"
	"cordelle/sender"
	"cordelle/session"
	"cordelle/table"

	"cordelle/compound"
)

// finds holds what is found against what is wanted.
func finds(t *testing.T, p audit.Picture, want ...audit.Finding) {
	t.Helper()
	if l := p.Check(); !slices.Equal(l, want) {
		t.Errorf("%+v: %v, not %v", p, l, want)
	}
}

// The document's example, of a Session of any tries, and the kinds' numbers.
func TestP301Example(t *testing.T) {
	for _, tries := range []int{0, 1, 2, -1, math.MinInt, math.MaxInt} {
		for _, s := range []*session.Session{session.New(some), new(session.Session)} {
			p := audit.Of(s, tries)
			finds(t, p)
			if p.Tries != tries || p.Horizon != -1 || len(p.Paths)+len(p.Table)+len(p.Flows)+len(p.Times)+len(p.Wanting)+len(p.Played)+len(p.Accepted) > 0 || p.Taken != 0 || p.Again != 0 {
				t.Errorf("%+v", p)
			}
		}
	}
	finds(t, audit.Picture{})
	if audit.State != 1 || audit.Flow != 2 || audit.Order != 3 || audit.Time != 4 || audit.Lack != 5 || audit.Much != 6 {
		t.Error("the kinds' numbers")
	}
}

// some is a Config with room.
var some = session.Config{
	Sender: sender.Config{
		Source: 1, Name: "s", Size: 20, Frame: 1000, Queue: 50, Kept: 50, Tries: 2, Burst: 1000, Every: 20, Paths: 4,
		Life: life.Config{Timeout: 60, Low: 10, High: 120, Strikes: 3},
	},
	Receiver: receiver.Config{
		Source: 2, About: 1, Name: "r", Buffer: buffer.Config{Frames: 20, Packets: 200, Bytes: 20000},
		Gaps: gaps.Config{Most: 50, Tries: 3, First: 1, Again: 5}, Least: 3, Most: 30, Every: 20, Paths: 4,
	},
	Net: net.Config{Most: 100, Bytes: 100000},
}

// lives are some that send, and one that doesn't.
var lives = [5]life.Life{{State: life.Probing}, {State: life.Active}, {State: life.Congested}, {State: life.Inactive}, {State: 4}}

// A path of which the table says the same, or not.
func TestP301Table(t *testing.T) {
	up, down := table.Entry{ID: 1, Up: true, Rate: 5}, table.Entry{ID: 1, Rate: 9}
	found := audit.Finding{Kind: audit.State, Number: 1}
	for _, x := range []struct {
		l    []table.Entry
		is   bool
		want []audit.Finding
	}{
		{nil, true, []audit.Finding{found}},
		{nil, false, []audit.Finding{found}},
		{[]table.Entry{up}, true, nil},
		{[]table.Entry{up}, false, []audit.Finding{found}},
		{[]table.Entry{down}, false, nil},
		{[]table.Entry{down}, true, []audit.Finding{found}},
		{[]table.Entry{up, up}, true, []audit.Finding{found}},
		{[]table.Entry{up, {ID: 1, Up: true, Rate: 6}}, true, []audit.Finding{found}},
		{[]table.Entry{down, down}, false, []audit.Finding{found}},
		{[]table.Entry{down, up, down}, false, []audit.Finding{found}},
		{[]table.Entry{up, down, up}, true, []audit.Finding{found}},
		{[]table.Entry{{ID: 2, Up: true}, up, {ID: 0, Up: true}, {ID: -1, Up: true}, {ID: 257, Up: true}}, true, nil},
		{[]table.Entry{{ID: 2, Up: true}, {ID: 0, Up: true}, {ID: -1, Up: true}, {ID: 257, Up: true}}, true, []audit.Finding{found}},
	} {
		finds(t, audit.Picture{Table: x.l, Paths: []sender.State{{ID: 1, Up: x.is, Sends: x.is, Life: lives[1]}}}, x.want...)
	}
	// Entries of which no path is don't matter; any number is told.
	finds(t, audit.Picture{Table: []table.Entry{up, up, down}})
	for _, id := range []int{0, -1, 16, math.MinInt, math.MaxInt} {
		finds(t, audit.Picture{Paths: []sender.State{{ID: id}}}, audit.Finding{Kind: audit.State, Number: id})
		finds(t, audit.Picture{Paths: []sender.State{{ID: id}}, Table: []table.Entry{{ID: id}}})
	}
}

// A path sends, if it is Up, and its life sends.
func TestP301Sends(t *testing.T) {
	for _, up := range []bool{false, true} {
		for _, sends := range []bool{false, true} {
			for i, l := range lives {
				p := audit.Picture{
					Paths: []sender.State{{ID: 7, Up: up, Sends: sends, Life: l, Sent: -1, Bytes: -1, Trip: gauge.Trip{}}},
					Table: []table.Entry{{ID: 7, Up: up}},
				}
				// Lives 3 and 4 don't send.
				switch {
				case sends && !up, sends && i > 2, up && !sends && i < 3:
					finds(t, p, audit.Finding{Kind: audit.State, Number: 7})
				default:
					finds(t, p)
				}
			}
		}
	}
}

// A flow of no more than can have come, of a path.
func TestP301Flow(t *testing.T) {
	for _, x := range []struct {
		id, received, bytes int
		fits                bool
	}{
		{1, 0, 0, true}, {15, 0, 0, true}, {0, 0, 0, false}, {16, 0, 0, false}, {-1, 0, 0, false}, {math.MinInt, 0, 0, false}, {math.MaxInt, 0, 0, false},
		{1, -1, 0, false}, {1, -1, 100, false}, {1, math.MinInt, 100, false}, {1, -1, -100, false}, {1, -2, -56, false},
		{1, 1, 0, false}, {1, 1, 27, false}, {1, 1, 28, true}, {1, 2, 28, false}, {1, 2, 55, false}, {1, 2, 56, true}, {1, 3, 83, false}, {1, 3, 84, true}, {1, 0, 27, true},
		{1, 0, -1, true}, {1, 0, -27, true}, {1, 0, -28, false}, {1, 0, -29, false}, {1, 0, math.MinInt, false},
		{1, math.MaxInt, math.MaxInt, false}, {1, math.MaxInt / 28, math.MaxInt, true}, {1, math.MaxInt/28 + 1, math.MaxInt, false},
	} {
		p := audit.Picture{Flows: []receiver.Flow{{ID: x.id, Received: x.received, Bytes: x.bytes, Highest: -5, Expected: -5, Jitter: -5}}}
		if x.fits {
			finds(t, p)
		} else {
			finds(t, p, audit.Finding{Kind: audit.Flow, Number: x.id})
		}
	}
	// Two of a path fit.
	finds(t, audit.Picture{Flows: []receiver.Flow{{ID: 2}, {ID: 2}, {ID: 1}}})
}

// frames are some of these times.
func frames(times ...uint32) []buffer.Frame {
	var l []buffer.Frame
	for _, time := range times {
		l = append(l, buffer.Frame{Time: time, Data: "x"})
	}
	return l
}

// Frames rise, or the first one that doesn't is told.
func TestP301Order(t *testing.T) {
	lists := []struct {
		l  []buffer.Frame
		at int
	}{
		{nil, 0}, {frames(0), 0}, {frames(math.MaxUint32), 0}, {frames(0, 1), 0}, {frames(0, 1, 9, math.MaxUint32), 0},
		{frames(0, 0), 1}, {frames(5, 5), 1}, {frames(5, 4), 1}, {frames(math.MaxUint32, 0), 1}, {frames(1, 2, 2), 2}, {frames(1, 3, 2, 4), 2}, {frames(1, 2, 3, 3, 3, 1), 3}, {frames(2, 1, 0, 7, 7), 1},
	}
	for _, a := range lists {
		for _, b := range lists {
			var want []audit.Finding
			if a.at > 0 {
				want = append(want, audit.Finding{Kind: audit.Order, Number: a.at})
			}
			if b.at > 0 {
				want = append(want, audit.Finding{Kind: audit.Order, Number: b.at})
			}
			finds(t, audit.Picture{Accepted: a.l, Played: b.l}, want...)
		}
	}
}

// Times rise, above Horizon: each that doesn't is told.
func TestP301Time(t *testing.T) {
	for _, x := range []struct {
		horizon int
		l       []uint32
		want    []int
	}{
		{-1, []uint32{0}, nil}, {0, []uint32{0}, []int{0}}, {0, []uint32{1}, nil}, {-1, []uint32{0, 1, math.MaxUint32}, nil},
		{4, []uint32{4, 5, 6}, []int{4}}, {4, []uint32{3, 4, 5}, []int{3, 4}}, {4, []uint32{5, 6}, nil}, {4, []uint32{5, 5, 5, 6}, []int{5, 5}},
		{-1, []uint32{7, 6, 6, 7, 6}, []int{6, 6, 6}}, {4, []uint32{9, 4, 3, 9}, []int{4, 3}}, {math.MaxInt, []uint32{1, 2}, []int{1, 2}}, {math.MinInt, []uint32{1, 0}, []int{0}},
		{math.MaxUint32, []uint32{math.MaxUint32}, []int{math.MaxUint32}}, {math.MaxUint32 - 1, []uint32{math.MaxUint32}, nil}, {1 << 32, []uint32{math.MaxUint32}, []int{math.MaxUint32}},
	} {
		var want []audit.Finding
		for _, n := range x.want {
			want = append(want, audit.Finding{Kind: audit.Time, Number: n})
		}
		finds(t, audit.Picture{Horizon: x.horizon, Times: x.l}, want...)
	}
}

// Numbers that are wanting rise: each that doesn't is told.
func TestP301Lack(t *testing.T) {
	for _, x := range []struct{ l, want []int }{
		{[]int{0}, nil}, {[]int{-5}, nil}, {[]int{math.MinInt}, nil}, {[]int{-2, -1, 0, 70000}, nil}, {[]int{5, 5}, []int{5}}, {[]int{5, 4}, []int{4}},
		{[]int{5, 4, 4, 5, -1}, []int{4, 4, -1}}, {[]int{math.MinInt, math.MaxInt}, nil}, {[]int{math.MaxInt, math.MinInt}, []int{math.MinInt}},
	} {
		var want []audit.Finding
		for _, n := range x.want {
			want = append(want, audit.Finding{Kind: audit.Lack, Number: n})
		}
		finds(t, audit.Picture{Wanting: x.l}, want...)
	}
}

// No more is sent once more than may be, of any numbers.
func TestP301Much(t *testing.T) {
	numbers := []int{0, 1, 2, 3, 4, 5, 6, 7, -1, -2, -3, 1 << 31, 1<<31 - 1, 1 << 32, -1 << 32, 1 << 62, -1 << 62, math.MaxInt, math.MaxInt - 1, math.MinInt, math.MinInt + 1, 3037000499, 3037000500, -3037000500, 6074000999, 6074001000}
	for _, taken := range numbers {
		for _, tries := range numbers {
			for _, again := range append(numbers, taken*tries-1, taken*tries, taken*tries+1) {
				most := new(big.Int).Mul(big.NewInt(int64(taken)), big.NewInt(int64(tries)))
				p := audit.Picture{Taken: taken, Tries: tries, Again: again}
				if again < 0 || big.NewInt(int64(again)).Cmp(most) > 0 {
					finds(t, p, audit.Finding{Kind: audit.Much, Number: again})
				} else {
					finds(t, p)
				}
			}
		}
	}
	finds(t, audit.Picture{Taken: 3, Tries: 2, Again: 6})
	finds(t, audit.Picture{Taken: 3, Tries: 2, Again: 7}, audit.Finding{Kind: audit.Much, Number: 7})
	finds(t, audit.Picture{Taken: 3, Tries: 2, Again: -1}, audit.Finding{Kind: audit.Much, Number: -1})
}

// wrong are what doesn't fit, of each kind, in the chapter's order.
var wrong = []struct {
	add  func(p *audit.Picture)
	want []audit.Finding
}{
	{func(p *audit.Picture) { p.Paths = []sender.State{{ID: 9}, {ID: 3, Sends: true}, {ID: 5}} }, []audit.Finding{{1, 9}, {1, 3}, {1, 5}}},
	{func(p *audit.Picture) { p.Flows = []receiver.Flow{{ID: 16}, {ID: 2}, {ID: 7, Received: 1}} }, []audit.Finding{{2, 16}, {2, 7}}},
	{func(p *audit.Picture) { p.Accepted = frames(1, 2, 2) }, []audit.Finding{{3, 2}}},
	{func(p *audit.Picture) { p.Played = frames(1, 1, 0) }, []audit.Finding{{3, 1}}},
	{func(p *audit.Picture) { p.Times = []uint32{8, 6, 9, 9} }, []audit.Finding{{4, 6}, {4, 9}}},
	{func(p *audit.Picture) { p.Wanting = []int{3, 1, 1, 2} }, []audit.Finding{{5, 1}, {5, 1}}},
	{func(p *audit.Picture) { p.Again = 4 }, []audit.Finding{{6, 4}}},
}

// Several of one kind and of several kinds stand one behind the other.
func TestP301Several(t *testing.T) {
	for set := range 1 << len(wrong) {
		p := audit.Picture{Taken: 1, Tries: 3}
		var want []audit.Finding
		for i, w := range wrong {
			if set>>i&1 == 1 {
				w.add(&p)
				want = append(want, w.want...)
			}
		}
		finds(t, p, want...)
	}
}

// found is what a Picture finds by the document's sentences.
func found(p audit.Picture) []audit.Finding {
	var l []audit.Finding
	for _, s := range p.Paths {
		same := 0
		for _, e := range p.Table {
			if e == (table.Entry{ID: s.ID, Up: s.Up, Rate: e.Rate}) {
				same++
			}
		}
		if same != 1 || s.Sends && !s.Up || s.Up && s.Life.Sends() && !s.Sends || s.Up && !s.Life.Sends() && s.Sends {
			l = append(l, audit.Finding{Kind: 1, Number: s.ID})
		}
	}
	for _, f := range p.Flows {
		if f.Received < 0 || f.Received > int(math.Trunc(float64(f.Bytes)/28)) || f.ID < 1 || f.ID > 15 {
			l = append(l, audit.Finding{Kind: 2, Number: f.ID})
		}
	}
	for _, frames := range [][]buffer.Frame{p.Accepted, p.Played} {
		for i := 0; i+1 < len(frames); i++ {
			if frames[i+1].Time <= frames[i].Time {
				l = append(l, audit.Finding{Kind: 3, Number: i + 1})
				break
			}
		}
	}
	ahead := math.MinInt
	for _, time := range p.Times {
		if int(time) <= max(ahead, p.Horizon) {
			l = append(l, audit.Finding{Kind: 4, Number: int(time)})
		}
		ahead = int(time)
	}
	for i := 1; i < len(p.Wanting); i++ {
		if p.Wanting[i-1] >= p.Wanting[i] {
			l = append(l, audit.Finding{Kind: 5, Number: p.Wanting[i]})
		}
	}
	if p.Again < 0 || p.Again > p.Taken*p.Tries {
		l = append(l, audit.Finding{Kind: 6, Number: p.Again})
	}
	return l
}

// Any pictures of small numbers.
func TestP301Run(t *testing.T) {
	kinds := [7]int{}
	clean := 0
	for seed := range int64(20000) {
		rng := rand.New(rand.NewSource(seed))
		p := audit.Picture{Horizon: rng.Intn(4) - 2, Taken: rng.Intn(4), Tries: rng.Intn(3), Again: rng.Intn(4) - 1}
		for id := range rng.Intn(4) {
			e := table.Entry{ID: id + rng.Intn(12)/11, Up: rng.Intn(4) > 0, Rate: rng.Intn(3)}
			p.Table = append(p.Table, e)
			s := sender.State{ID: id, Up: e.Up != (rng.Intn(20) == 0), Life: lives[rng.Intn(4)]}
			s.Sends = (s.Up && s.Life.Sends()) != (rng.Intn(20) == 0)
			p.Paths = append(p.Paths, s)
		}
		for range rng.Intn(3) {
			received := rng.Intn(5)
			p.Flows = append(p.Flows, receiver.Flow{ID: 1 + rng.Intn(16), Received: received - rng.Intn(9)/8, Bytes: received*28 + rng.Intn(9) - 1})
		}
		at := uint32(0)
		for range rng.Intn(5) {
			at += uint32(min(1, rng.Intn(9)))
			p.Times = append(p.Times, at)
			p.Wanting = append(p.Wanting, int(at)-rng.Intn(9)/8)
			p.Accepted = append(p.Accepted, frames(at+uint32(rng.Intn(2)))...)
			p.Played = append(p.Played, frames(2*at+uint32(rng.Intn(2)))...)
		}
		was := fmt.Sprintf("%+v", p)
		l := found(p)
		finds(t, p, l...)
		if fmt.Sprintf("%+v", p) != was {
			t.Fatal("a picture is changed")
		}
		for _, f := range l {
			kinds[f.Kind]++
		}
		if len(l) == 0 {
			clean++
		}
	}
	if slices.Min(kinds[1:]) < 1000 || clean < 500 {
		t.Errorf("%v, clean are %d", kinds, clean)
	}
}

// What a Picture has is what the session says.
func TestP301Of(t *testing.T) {
	x := newRun(1, some)
	for range 150 {
		x.deed()
	}
	x.s.Submit(1<<20, "taken, and not played")
	seen := [6]bool{}
	for range 150 {
		x.deed()
		p := audit.Of(x.s, 2)
		from, to := x.s.Sender(), x.s.Receiver()
		b := to.Buffer()
		if !slices.Equal(p.Paths, from.Paths()) || !slices.Equal(p.Table, from.Table()) || p.Taken != from.Taken() || p.Again != from.Again() || p.Tries != 2 {
			t.Fatalf("%+v", p)
		}
		if !slices.Equal(p.Flows, to.Flows()) || !slices.Equal(p.Times, b.Times()) || p.Horizon != b.Horizon() || !slices.Equal(p.Wanting, to.Wanting()) {
			t.Fatalf("%+v", p)
		}
		if !slices.Equal(p.Played, x.s.Played()) || !slices.Equal(p.Accepted, x.s.Accepted()) {
			t.Fatalf("%+v", p)
		}
		for i, is := range []bool{len(p.Paths) > 0, len(p.Flows) > 0, len(p.Times) > 0, len(p.Wanting) > 0, p.Again > 0, len(p.Accepted) > len(p.Played) && len(p.Played) > 0} {
			seen[i] = seen[i] || is
		}
		clear(p.Paths)
		clear(p.Table)
		clear(p.Played[:cap(p.Played)])
		clear(p.Accepted[:cap(p.Accepted)])
		if other := audit.Of(x.s, 2); len(other.Paths) > 0 && other.Paths[0].ID == 0 || len(other.Accepted) > 0 && other.Accepted[0] == (buffer.Frame{}) {
			t.Fatal("what is answered is somebody else's memory")
		}
	}
	if slices.Contains(seen[:], false) {
		t.Errorf("%v", seen)
	}
}

// run is a Session to which anything is done.
type run struct {
	rng    *rand.Rand
	config session.Config
	s      *session.Session
	time   uint32
}

func newRun(seed int64, c session.Config) *run {
	x := &run{rng: rand.New(rand.NewSource(seed)), config: c, s: session.New(c)}
	for id := 1; id < 4; id++ {
		x.s.Path(table.Entry{ID: id, Up: true, Rate: 100 * id})
	}
	x.s.Tick(1)
	x.s.All(net.Back, 1)
	return x
}

// anyConfig is one of small numbers, some of which count as the nearest.
func anyConfig(rng *rand.Rand) session.Config {
	return session.Config{
		Sender: sender.Config{
			Source: 1, Size: rng.Intn(60), Frame: rng.Intn(99), Queue: rng.Intn(30), Kept: rng.Intn(30), Tries: rng.Intn(4), Burst: rng.Intn(800), Every: rng.Intn(20), Paths: rng.Intn(6),
			Life: life.Config{Timeout: 10 + rng.Intn(60), Low: rng.Intn(60), High: rng.Intn(200), Strikes: rng.Intn(5)},
		},
		Receiver: receiver.Config{
			Source: 2, About: 1, Buffer: buffer.Config{Frames: rng.Intn(20), Packets: rng.Intn(60), Bytes: rng.Intn(900)},
			Gaps:  gaps.Config{Most: rng.Intn(12), Tries: rng.Intn(4), First: rng.Intn(4), Again: rng.Intn(6)},
			Least: rng.Intn(6) - 1, Most: rng.Intn(40) - 1, Every: rng.Intn(20), Paths: rng.Intn(6),
		},
		Net: net.Config{Most: 3 + rng.Intn(30), Bytes: 300 + rng.Intn(3000)},
	}
}

// forged are bytes that nobody sent.
func (x *run) forged() string {
	n := x.rng.Intn(30)
	bag := compound.Bag{Reports: []report.Report{{Source: 1, IsSender: true}}, Names: []notes.Name{{Source: 1, Text: "n"}}}
	switch x.rng.Intn(4) {
	case 0:
		return strings.Repeat("x", n)
	case 1:
		bag.Nacks = []nack.Nack{nack.Ask(2, 1, uint16(n), uint16(n+3), uint16(x.rng.Intn(65536)))}
		return compound.Pack(bag.Pieces()...)
	case 2:
		if x.rng.Intn(20) == 0 {
			bag.Byes = []notes.Bye{{Sources: []uint32{uint32(n % 3)}}}
		}
		return compound.Pack(bag.Pieces()...)
	}
	number := x.rng.Intn(30)
	if x.rng.Intn(5) == 0 {
		number = x.rng.Intn(65536)
	}
	return media.Media{
		Source: 1, Seq: uint16(number), Time: x.time - x.rng.Uint32()%(x.time+1) + uint32(x.rng.Intn(9)), Track: media.Track{Path: 1 + n%4, PathSeq: uint16(x.rng.Intn(100) * x.rng.Intn(100))},
		Part: media.Part{Index: n % 2, Count: 2}, Data: strings.Repeat("F", n),
	}.Pack()
}

// deed does anything.
func (x *run) deed() {
	way, path, i := x.rng.Intn(2), 1+x.rng.Intn(4), x.rng.Intn(3)
	switch n := x.rng.Intn(100); {
	case n < 20:
		x.time += uint32(x.rng.Intn(8))
		x.s.Submit(x.time, strings.Repeat("x", x.rng.Intn(x.config.Sender.Frame+2)))
	case n < 24:
		x.s.Path(table.Entry{ID: x.rng.Intn(7), Up: x.rng.Intn(5) > 0, Rate: []int{-1, 0, 20, 100, 100, 1000, 65536}[x.rng.Intn(7)]})
	case n < 44:
		x.s.Tick(x.rng.Intn(4))
	case n < 58:
		x.s.Deliver(way, path, i)
	case n < 72:
		x.s.All(way, path)
	case n < 80:
		x.s.Lose(way, path, i)
	case n < 84:
		x.s.Twin(way, path, i)
	case n < 88:
		x.s.Turn(way, path, i, x.rng.Intn(400), x.rng.Uint32())
	case n < 99:
		x.s.Forge(way, path, x.forged())
	case x.rng.Intn(6) == 0:
		x.s.Close()
	default:
		x.s = x.s.Clone()
	}
}

// Of a session, behind any calls, nothing is found.
func TestP302Clean(t *testing.T) {
	again, flows, waits, played := 0, 0, 0, 0
	for seed := range int64(300) {
		rng := rand.New(rand.NewSource(seed))
		c := anyConfig(rng)
		if seed%3 == 0 {
			c = some
		}
		x := newRun(9000+seed, c)
		for range 200 {
			x.deed()
			p := audit.Of(x.s, c.Sender.Tries)
			if l := p.Check(); l != nil {
				t.Fatalf("seed %d: %v of %+v", seed, l, p)
			}
			if l := audit.Of(x.s, c.Sender.Tries+1+rng.Intn(99)).Check(); l != nil {
				t.Fatalf("seed %d: %v", seed, l)
			}
			flows, waits = flows+len(p.Flows), waits+len(p.Times)
		}
		p := audit.Of(x.s, 0)
		again, played = again+p.Again, played+len(p.Played)
		if l := p.Check(); p.Again > 0 && (len(l) != 1 || l[0] != (audit.Finding{Kind: audit.Much, Number: p.Again})) {
			t.Errorf("%v", l)
		}
	}
	if again < 500 || flows < 5000 || waits < 5000 || played < 500 {
		t.Errorf("%d once more, %d flows, %d wait, %d are played", again, flows, waits, played)
	}
}
