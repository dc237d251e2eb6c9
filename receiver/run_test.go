package receiver_test

import (
	"math"
	"math/rand"
	"runtime"
	"slices"
	"strings"
	"testing"

	"cordelle/api"
	"cordelle/buffer"
	"cordelle/compound"
	"cordelle/crc"
	"cordelle/exts"
	"cordelle/gaps"
	"cordelle/life"
	"cordelle/media"
	"cordelle/notes"
	"cordelle/receiver"
	"cordelle/report"
	"cordelle/rtp"
	"cordelle/sender"
	"cordelle/table"
)

// run is a Receiver, and its model, to which anything is done.
type run struct {
	t      *testing.T
	rng    *rand.Rand
	r      *receiver.Receiver
	m      *model
	now    int
	seq    int
	time   int
	number [5]int
	played []buffer.Frame
	out    []receiver.Out
}

// anyConfig is one of small numbers, some of which count as the nearest.
func anyConfig(rng *rand.Rand) receiver.Config {
	return receiver.Config{
		Source: 2, About: 1, Name: strings.Repeat("n", rng.Intn(3)),
		Buffer: buffer.Config{Frames: rng.Intn(9), Packets: rng.Intn(20), Bytes: rng.Intn(120)},
		Gaps:   gaps.Config{Most: rng.Intn(12), Tries: rng.Intn(4), First: rng.Intn(6), Again: rng.Intn(6)},
		Least:  rng.Intn(12) - 1, Most: rng.Intn(60) - 1, Every: rng.Intn(40), Paths: rng.Intn(6),
	}
}

func newRun(t *testing.T, seed int64) *run {
	rng := rand.New(rand.NewSource(seed))
	r, m := begun(t, anyConfig(rng))
	x := &run{t: t, rng: rng, r: r, m: m, seq: rng.Intn(65536), time: 20}
	for i := range x.number {
		x.number[i] = rng.Intn(65536)
	}
	return x
}

// clone is a run with a Clone of its Receiver.
func (x *run) clone() *run {
	other := *x
	other.r, other.m = x.r.Clone(), x.m.clone()
	other.played, other.out = slices.Clone(x.played), slices.Clone(x.out)
	return &other
}

// deed does anything.
func (x *run) deed() {
	x.t.Helper()
	switch n := x.rng.Intn(100); {
	case n < 55:
		p := x.packet()
		came(x.t, x.r, x.m, p.path, x.now, p.bytes())
	case n < 58:
		x.foreign()
	case n < 62:
		x.garbage()
	case n < 67:
		path(x.t, x.r, x.m, x.rng.Intn(7), x.rng.Intn(4) > 0, []int{-1, 0, 1, 7, 7, 65535, 65536}[x.rng.Intn(7)])
	case n < 74:
		hears(x.t, x.r, x.m, x.rng.Intn(7), x.now, x.bag())
	default:
		x.now += x.rng.Intn(8)
		out, played := step(x.t, x.r, x.m, x.now)
		x.out, x.played = append(x.out, out...), append(x.played, played...)
	}
}

// packet is the next one, or one near to it, of a frame near to the last one.
func (x *run) packet() packet {
	ahead := 1
	switch x.rng.Intn(12) {
	case 0, 1:
		ahead = x.rng.Intn(9) - 5
	case 2:
		ahead = 2 + x.rng.Intn(6)
	}
	if x.rng.Intn(300) == 0 {
		ahead = x.rng.Intn(65536)
	}
	x.seq += ahead
	x.time += x.rng.Intn(5) / 2
	p := packet{seq: x.seq, path: 1 + x.rng.Intn(4), time: max(x.time-x.rng.Intn(8)/2, 0)}
	p.number = x.number[p.path]
	x.number[p.path] += []int{1, 1, 1, 1, 2, 4, -3, 100, -120, 5000, 0, 1}[min(x.rng.Intn(60), 11)]
	p.count = 1 + p.time%4
	p.index = x.rng.Intn(p.count)
	p.data = strings.Repeat(string(rune('a'+p.index)), x.rng.Intn(20))
	if x.rng.Intn(20) == 0 {
		p.count++
	}
	return p
}

// foreign is a part of another source, or one that came on another path.
func (x *run) foreign() {
	x.t.Helper()
	p := x.packet()
	if x.rng.Intn(2) == 0 {
		came(x.t, x.r, x.m, x.rng.Intn(6), x.now, p.of(uint32(2*x.rng.Intn(3))))
		return
	}
	other := []int{0, -1, 16, p.path + 1, math.MaxInt, math.MinInt}[x.rng.Intn(6)]
	if e := came(x.t, x.r, x.m, other, x.now, p.bytes()); e != api.ErrArg {
		x.t.Fatalf("on %d: %d", other, e)
	}
}

// garbage is bytes that are neither a part nor a control packet.
func (x *run) garbage() {
	x.t.Helper()
	data := x.packet().bytes()
	if x.rng.Intn(2) == 0 {
		data = packed(x.t, x.bag())
	}
	data = crc.Turn(data, x.rng.Intn(8*len(data)), x.rng.Uint32()|1<<31)
	if e := came(x.t, x.r, x.m, x.rng.Intn(17), x.now, data); e != api.ErrSum {
		x.t.Fatalf("Media: %d", e)
	}
	if e := x.r.Control(x.rng.Intn(17), x.now, data); e != api.ErrSum {
		x.t.Fatalf("Control: %d", e)
	}
	x.m.counts.Bad++
	check(x.t, x.r, x.m)
}

// bag is what a sender may say.
func (x *run) bag() compound.Bag {
	b := from(uint32(1+x.rng.Intn(5)/4), x.rng.Intn(x.now+2))
	for range x.rng.Intn(3) {
		b.Reports = append(b.Reports, report.Report{Source: 1, IsSender: x.rng.Intn(2) == 0})
		if r := &b.Reports[len(b.Reports)-1]; r.IsSender {
			r.Clock = x.rng.Intn(lastTick)
		}
	}
	if x.rng.Intn(60) == 0 {
		b.Byes = []notes.Bye{{Sources: []uint32{3, 1, 2}[:x.rng.Intn(4)]}}
	}
	return b
}

// Each call, behind any calls, and of a Clone at any time.
func TestP271Run(t *testing.T) {
	played, asked, evicted, late := 0, 0, 0, 0
	for seed := range int64(300) {
		x := newRun(t, seed)
		for range 40 {
			for range 4 {
				x.deed()
			}
			if x.rng.Intn(6) > 0 {
				continue
			}
			other := x.clone()
			for range 5 {
				other.deed()
				check(t, x.r, x.m)
			}
			x.deed()
			check(t, other.r, other.m)
			if x.rng.Intn(2) == 0 {
				x = other
			}
		}
		played += len(x.played)
		late += x.m.counts.Late
		evicted += x.m.ended[2]
		for _, o := range x.out {
			asked += len(says(t, o.Data).Nacks)
		}
	}
	if played < 1000 || asked < 1000 || evicted < 1000 || late < 1000 {
		t.Errorf("%d played, %d times asked, %d evicted, %d late", played, asked, evicted, late)
	}
}

// Any bytes, as media and as control packets; also such as are Right.
func TestP271AnyBytes(t *testing.T) {
	rng := rand.New(rand.NewSource(27))
	r, m := begun(t, some)
	path(t, r, m, 1, true, 5)
	for i := range 4000 {
		data := make([]byte, rng.Intn(60))
		rng.Read(data)
		s := string(data)
		if rng.Intn(3) > 0 {
			s = reseal(s, rng.Intn(len(s)+1))
		}
		if rng.Intn(50) == 0 {
			s = strings.Repeat(s, 40)
		}
		id := rng.Intn(18) - 1
		came(t, r, m, id, i, s)
		if e := r.Control(id, i, s); e == api.OK {
			t.Fatalf("%x", s)
		}
		m.counts.Bad++
		check(t, r, m)
	}
	// A part as a control packet, and the other way round.
	part, said := one(0, 1, 1, 0).bytes(), packed(t, from(1, 3))
	came(t, r, m, 1, 4000, said)
	if e := r.Control(1, 4000, part); e == api.OK {
		t.Error("a part is a control packet")
	}
	m.counts.Bad++
	check(t, r, m)
}

// changed are the bytes of a part, of which some are others, such that they are Right
// again.
func changed(rng *rand.Rand, data string) string {
	b := []byte(data)
	for range 1 + rng.Intn(4) {
		b[rng.Intn(len(b))] = byte(rng.Intn(256))
	}
	return reseal(string(b), overhead-4)
}

// anyPart is one of any frame.
func anyPart(rng *rand.Rand) packet {
	p := packet{seq: rng.Intn(65536), time: rng.Intn(40), path: 1 + rng.Intn(3), number: rng.Intn(65536), count: 1 + rng.Intn(2)}
	if rng.Intn(30) == 0 {
		p.time = int(rng.Uint32() >> rng.Intn(32))
	}
	p.index = rng.Intn(p.count)
	p.data = strings.Repeat("z", rng.Intn(6))
	return p
}

// Times of frames that are played rise, whatever came, and in whichever order; also
// where forged parts are among it, and of Clones.
func TestP272Rising(t *testing.T) {
	all := 0
	for seed := range int64(300) {
		rng := rand.New(rand.NewSource(seed))
		r := receiver.New(anyConfig(rng))
		r.Path(table.Entry{ID: 1, Up: true, Rate: 1})
		last, now := -1, 0
		for range 300 {
			p := anyPart(rng)
			p.time += last / 2
			switch data := p.bytes(); rng.Intn(6) {
			case 0:
				r.Media(p.path, now, changed(rng, data))
			case 1:
				r.Control(rng.Intn(17), now, packed(t, from(1, rng.Intn(99))))
			default:
				r.Media(p.path, now, data)
			}
			if rng.Intn(4) > 0 {
				continue
			}
			now += rng.Intn(9)
			before := r.Clone()
			_, played := r.Step(now)
			if _, again := before.Step(now); !slices.Equal(again, played) {
				t.Fatalf("%v of a Clone, not %v", again, played)
			}
			for _, f := range played {
				if int(f.Time) <= last {
					t.Fatalf("%d is played behind %d", f.Time, last)
				}
				last = int(f.Time)
				all++
			}
			if h := r.Buffer().Horizon(); h < last {
				t.Fatalf("the horizon is %d behind %d", h, last)
			}
		}
	}
	if all < 1000 {
		t.Errorf("%d are played", all)
	}
}

// Frames of the least and the greatest time are played, each once, also where they
// come again, and again.
func TestP272Twice(t *testing.T) {
	r, m := begun(t, with(func(c *receiver.Config) { c.Least, c.Most = 0, 0 }))
	var all []uint32
	for i, time := range []int{0, 0, 1, 0, 1, math.MaxUint32 - 1, 5, math.MaxUint32, math.MaxUint32, 0} {
		came(t, r, m, 1, i, one(i, time, 1, i).bytes())
		_, played := step(t, r, m, i)
		for _, f := range played {
			all = append(all, f.Time)
		}
	}
	if !slices.Equal(all, []uint32{0, 1, math.MaxUint32 - 1, math.MaxUint32}) {
		t.Errorf("%v", all)
	}
}

// What a sender submits is played, frame by frame, byte by byte, whichever packets
// come late, twice, or not until they are asked for.
func TestP272Sender(t *testing.T) {
	played, lost := 0, 0
	for seed := range int64(40) {
		rng := rand.New(rand.NewSource(seed))
		s := sender.New(sender.Config{
			Source: 1, Size: 9, Frame: 99, Queue: 99, Kept: 99, Tries: 9, Burst: 999, Every: 7, Paths: 3,
			Life: life.Config{Timeout: 60, Low: 40, High: 200, Strikes: 9},
		})
		r := receiver.New(receiver.Config{
			Source: 2, About: 1, Buffer: buffer.Config{Frames: 99, Packets: 999, Bytes: 9999},
			Gaps: gaps.Config{Most: 99, Tries: 9, First: 1, Again: 3}, Least: 5, Most: 60, Every: 7, Paths: 3,
		})
		for id := 1; id <= 3; id++ {
			r.Path(table.Entry{ID: id, Up: true, Rate: 300})
		}
		var want, got []buffer.Frame
		for now := 1; now < 400; now++ {
			if now > 5 && now < 300 && now%3 == 0 {
				f := buffer.Frame{Time: uint32(now), Data: strings.Repeat(string(rune('a'+now%26)), rng.Intn(60))}
				if s.Submit(f.Time, f.Data) == api.OK {
					want = append(want, f)
				}
			}
			there := s.Step(now)
			back, frames := r.Step(now)
			got = append(got, frames...)
			for _, o := range back {
				again, _ := s.Control(now, o.Data)
				there = append(there, again...)
			}
			rng.Shuffle(len(there), func(i, j int) { there[i], there[j] = there[j], there[i] })
			for _, o := range there {
				if rtp.IsControl(o.Data) {
					r.Control(o.Path, now, o.Data)
					continue
				}
				if now < 300 && rng.Intn(9) == 0 {
					lost++
					continue
				}
				for range 1 + rng.Intn(6)/5 {
					if e := r.Media(o.Path, now, o.Data); e != api.OK {
						t.Fatal(e)
					}
				}
			}
		}
		// Some that were taken are played, in their order, each at most once.
		i := 0
		for _, f := range got {
			for i < len(want) && want[i] != f {
				i++
			}
			if i == len(want) {
				t.Fatalf("%v was not submitted, or not behind what was played ahead", f)
			}
			i++
		}
		played += len(got)
		if 10*len(got) < 9*len(want) {
			t.Errorf("%d of %d are played", len(got), len(want))
		}
	}
	if played < 2000 || lost < 1000 {
		t.Errorf("%d are played, %d are lost", played, lost)
	}
}

// wrong is bytes that are no part, with the error that tells so.
type wrong struct {
	data string
	want api.Errno
}

// wrongs are some of each error.
func wrongs(t *testing.T) []wrong {
	t.Helper()
	good := packet{3, 9, 1, 5, 0, 2, "data"}.bytes()
	// with is a packet of these elements, the last one of which is the seal.
	with := func(form int, l ...exts.Element) string {
		h, e := exts.Into(rtp.Header{Kind: media.Kind, Seq: 3, Source: 1}, form, l...)
		if e != api.OK {
			t.Fatal(e)
		}
		data := rtp.Packet{Header: h}.Pack()
		return reseal(data, strings.Index(data, "...."))
	}
	track, part, seal := exts.Element{ID: 1, Data: "\x01\x00\x05"}, exts.Element{ID: 2, Data: "\x00\x02"}, exts.Element{ID: 3, Data: "...."}
	if media, e := media.Parse(with(exts.Short, track, part, seal)); e != api.OK || media.Source != 1 {
		t.Fatalf("%d", e)
	}
	track16, track0, beyond, parts0 := track, track, part, part
	track16.Data, track0.Data, beyond.Data, parts0.Data = "\x10\x00\x05", "\x00\x00\x05", "\x02\x02", "\x00\x00"
	return []wrong{
		{strings.Repeat("x", 1501), api.ErrBig},
		{strings.Repeat("\x00", 1501), api.ErrBig},
		{strings.Repeat(good, 100), api.ErrBig},
		{"a", api.ErrSum},
		{good[1:], api.ErrSum},
		{good[:len(good)-1], api.ErrSum},
		{good + "x", api.ErrSum},
		{crc.Turn(good, 0, 1<<31), api.ErrSum},
		{crc.Turn(good, 8*len(good)-1, 1<<31), api.ErrSum},
		{"", api.ErrEnd},
		{"\x00\x00\x00\x00\x00\x00\x00", api.ErrEnd},
		{reseal("\x40"+good[1:], 24), api.ErrForm},
		{reseal(rtp.Packet{Header: rtp.Header{Kind: media.Kind, Source: 1}, Data: "...."}.Pack(), 12), api.ErrKind},
		{reseal(good[:12]+"\x01"+good[13:], 24), api.ErrKind},
		{with(exts.Short, part, track, seal), api.ErrForm},
		{with(exts.Short, track16, part, seal), api.ErrForm},
		{with(exts.Short, track0, part, seal), api.ErrForm},
		{with(exts.Short, track, beyond, seal), api.ErrForm},
		{with(exts.Short, track, parts0, seal), api.ErrForm},
		{with(exts.Long, track, part, seal), api.ErrForm},
		{reseal("\x90\x61"+good[2:], 24), api.ErrForm},
	}
}

// Bytes that are no part, a part of another source, one on another path: each is told
// in its order, and changes a count alone.
func TestP273Media(t *testing.T) {
	r, m := begun(t, some)
	path(t, r, m, 1, true, 9)
	came(t, r, m, 1, 1, one(2, 9, 1, 4).bytes())
	came(t, r, m, 1, 1, one(4, 10, 1, 5).bytes())
	bad, foreign := 0, 0
	for i, x := range wrongs(t) {
		for _, id := range []int{1, 2, 15, 0, 16, -1, math.MinInt, math.MaxInt} {
			if e := came(t, r, m, id, 2, x.data); e != x.want {
				t.Errorf("%d on %d: %d, not %d", i, id, e, x.want)
			}
			bad++
		}
	}
	p := one(5, 11, 1, 6)
	for _, x := range []struct {
		data string
		path int
		want api.Errno
	}{
		{p.of(2), 1, api.ErrKind}, {p.of(0), 1, api.ErrKind}, {p.of(257), 1, api.ErrKind}, {p.of(math.MaxUint32), 1, api.ErrKind},
		{p.of(2), 2, api.ErrKind}, {p.of(2), 0, api.ErrKind}, {p.of(2), 16, api.ErrKind}, {p.of(2), math.MinInt, api.ErrKind},
		{p.bytes(), 2, api.ErrArg}, {p.bytes(), 15, api.ErrArg}, {p.bytes(), 0, api.ErrArg}, {p.bytes(), 16, api.ErrArg},
		{p.bytes(), 17, api.ErrArg}, {p.bytes(), 257, api.ErrArg}, {p.bytes(), -1, api.ErrArg}, {p.bytes(), math.MinInt, api.ErrArg}, {p.bytes(), math.MaxInt, api.ErrArg},
	} {
		if e := came(t, r, m, x.path, 2, x.data); e != x.want {
			t.Errorf("on %d: %d, not %d", x.path, e, x.want)
		}
		foreign++
	}
	if r.Counts() != (receiver.Counts{Media: 2, Bad: bad, Foreign: foreign}) {
		t.Errorf("%+v", r.Counts())
	}
	if e := came(t, r, m, 1, 2, p.bytes()); e != api.OK {
		t.Error(e)
	}
}

// Bytes that are no control packet, with layer 12's errors: they change a count
// alone, also where they say that the sender goes.
func TestP273Control(t *testing.T) {
	r, m := begun(t, with(func(c *receiver.Config) { c.Every = 1 }))
	path(t, r, m, 1, true, 9)
	came(t, r, m, 1, 1, one(2, 9, 1, 4).bytes())
	b := bye(1, 1)
	b.Reports[0].Clock = 5
	good := packed(t, b)
	// unsealed is a packet whose last piece isn't the one that seals.
	unsealed := reseal(good[:len(good)-16], 12)
	unnamed := reseal(good[:28]+good[len(good)-16:], 40)
	bad := 0
	for i, x := range []wrong{
		{strings.Repeat("x", 1501), api.ErrBig},
		{strings.Repeat("\x00", 1501), api.ErrBig},
		{"a", api.ErrSum},
		{good[:len(good)-1], api.ErrSum},
		{good + "\x01", api.ErrSum},
		{crc.Turn(good, 0, 1<<31), api.ErrSum},
		{crc.Turn(good, 8*len(good)-1, 1<<31), api.ErrSum},
		{"", api.ErrForm},
		{"\x00", api.ErrEnd},
		{"\x00\x00\x00\x00", api.ErrForm},
		{good + "\x00", api.ErrEnd},
		{unsealed, api.ErrForm},
		{unnamed, api.ErrForm},
		{one(5, 9, 1, 5).bytes(), api.ErrKind},
	} {
		for _, id := range []int{1, 15, 0, 16, math.MinInt, math.MaxInt} {
			if e := r.Control(id, 2, x.data); e != x.want {
				t.Errorf("%d on %d: %d, not %d", i, id, e, x.want)
			}
			bad++
			m.counts.Bad++
			check(t, r, m)
		}
	}
	out, _ := step(t, r, m, 3)
	if l := said(t, out).Lines[0].All; l[0].Last != 0 || l[0].Delay != 0 || r.Gone() || r.Counts().Bad != bad || r.Counts().Reports != 0 {
		t.Errorf("%+v, %+v", l, r.Counts())
	}
	hears(t, r, m, 1, 3, b)
	out, _ = step(t, r, m, 4)
	if l := said(t, out).Lines[0].All; l[0].Last != 5 || l[0].Delay != 1 || !r.Gone() || r.Counts().Reports != 1 {
		t.Errorf("%+v, %+v", l, r.Counts())
	}
}

// A datagram of which a burst of 1 to 32 bits is turned is refused, and counted: each
// burst's place, of media and of control packets.
func TestP273Turned(t *testing.T) {
	r, m := begun(t, some)
	rng := rand.New(rand.NewSource(273))
	part, said := packet{3, 9, 1, 5, 1, 2, "some data"}.bytes(), packed(t, bye(1, 1))
	bad := 0
	for _, bits := range []uint32{1 << 31, 3 << 30, 0x80000001, 0xffffffff, 0x80010000} {
		for at := range 8 * len(part) {
			if r.Media(1, 1, crc.Turn(part, at, bits|rng.Uint32()&bits)) != api.ErrSum {
				t.Fatalf("%x at %d of a part", bits, at)
			}
			bad++
		}
		for at := range 8 * len(said) {
			if r.Control(1, 1, crc.Turn(said, at, bits)) != api.ErrSum {
				t.Fatalf("%x at %d of a control packet", bits, at)
			}
			bad++
		}
	}
	m.counts.Bad = bad
	check(t, r, m)
}

// What isn't a packet that may be changes nothing that a later call tells: of two
// alike, to one of which such things come all the time, all else stays alike.
func TestP273Else(t *testing.T) {
	for seed := range int64(60) {
		x := newRun(t, 5000+seed)
		l := wrongs(t)
		for range 60 {
			other := x.clone()
			for range 3 {
				w := l[x.rng.Intn(len(l))]
				other.r.Media(x.rng.Intn(17), x.now+x.rng.Intn(99), w.data)
				other.r.Control(x.rng.Intn(17), x.now+x.rng.Intn(99), w.data)
				p := one(x.rng.Intn(65536), x.rng.Intn(99), 1+x.rng.Intn(15), 9)
				other.r.Media(x.rng.Intn(17), x.now+x.rng.Intn(99), p.of(2))
				other.r.Media(p.path+1, x.now+x.rng.Intn(99), p.bytes())
			}
			was, is := x.r.Counts(), other.r.Counts()
			if is.Bad != was.Bad+6 || is.Foreign != was.Foreign+6 {
				t.Fatalf("%+v, not %+v and 6", is, was)
			}
			other.m.counts = is
			check(t, other.r, other.m)
			now := x.now + x.rng.Intn(30)
			step(t, other.r, other.m, now)
			x.deed()
		}
	}
}

// No more frames, parts and bytes wait, and are wanting, than may be, and there are
// no more paths.
func TestP271Bounds(t *testing.T) {
	full := 0
	for seed := range int64(100) {
		x := newRun(t, 7000+seed)
		for range 150 {
			x.deed()
			b, c := x.r.Buffer(), x.m.Config
			if b.Len() > c.Buffer.Frames || b.Packets() > c.Buffer.Packets || b.Bytes() > c.Buffer.Bytes || len(x.r.Wanting()) > c.Gaps.Most || len(x.r.Table()) > c.Paths {
				t.Fatalf("%d %d %d wait, %d are wanting, %d paths: %+v", b.Len(), b.Packets(), b.Bytes(), len(x.r.Wanting()), len(x.r.Table()), c)
			}
			if d := x.r.Delay(); d < c.Least || d > c.Most {
				t.Fatalf("%d: %+v", d, c)
			}
			if len(x.r.Wanting()) == c.Gaps.Most && b.Len() == c.Buffer.Frames {
				full++
			}
		}
	}
	if full < 100 {
		t.Errorf("%d times full", full)
	}
}

// However much comes, what was played takes no memory.
func TestP271Grows(t *testing.T) {
	r := receiver.New(with(func(c *receiver.Config) { c.Buffer.Bytes, c.Least, c.Most = 1<<20, 0, 0 }))
	data := strings.Repeat("x", 1400)
	before := inUse()
	for i := range 3000 {
		p := one(i, 1+i, 1+i%3, i)
		p.data = string(rune('a'+i%26)) + data
		r.Media(p.path, i, p.bytes())
		if _, played := r.Step(i); len(played) != 1 {
			t.Fatalf("%d: %v", i, played)
		}
	}
	if grown := inUse() - before; grown > 1<<20 || r.Counts().Media != 3000 {
		t.Errorf("%d bytes more in use: %+v", grown, r.Counts())
	}
}

// inUse is how many bytes of memory are.
func inUse() int {
	runtime.GC()
	var m runtime.MemStats
	runtime.ReadMemStats(&m)
	return int(m.HeapAlloc)
}
