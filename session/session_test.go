package session_test

import (
	"fmt"
	"math"
	"slices"
	"strings"
	"testing"

	"cordelle/api"
	"cordelle/buffer"
	"cordelle/compound"
	"cordelle/crc"
	"cordelle/gaps"
	"cordelle/life"
	"cordelle/media"
	"cordelle/net"
	"cordelle/notes"
	"cordelle/receiver"
	"cordelle/report"
	"cordelle/rtp"
	"cordelle/sender"
	"cordelle/session"
	"cordelle/table"
)

// roomy is a Config with room, by which both ends report every 20 ticks.
func roomy() session.Config {
	return session.Config{
		Sender: sender.Config{
			Source: 1, Name: "s", Size: 20, Frame: 1000, Queue: 50, Kept: 50, Tries: 2, Burst: 1000, Every: 20, Paths: 4,
			Life: life.Config{Timeout: 60, Low: 10, High: 120, Strikes: 3},
		},
		Receiver: receiver.Config{
			Source: 2, About: 1, Name: "r", Buffer: buffer.Config{Frames: 20, Packets: 200, Bytes: 20000},
			Gaps: gaps.Config{Most: 50, Tries: 3, First: 1, Again: 5}, Least: 3, Most: 30, Every: 20, Paths: 4,
		},
		Net: net.Config{Most: 100, Bytes: 100000},
	}
}

// with is a roomy Config, changed.
func with(change func(*session.Config)) session.Config {
	c := roomy()
	change(&c)
	return c
}

// begun is a Session, and its model.
func begun(t *testing.T, c session.Config) (*session.Session, *model) {
	t.Helper()
	s, m := session.New(c), newModel(c)
	check(t, s, m)
	return s, m
}

// known is a Session at the tick 1 whose sender has heard of these paths, of a rate of
// 100.
func known(t *testing.T, c session.Config, ids ...int) (*session.Session, *model) {
	t.Helper()
	s, m := begun(t, c)
	for _, id := range ids {
		path(t, s, m, table.Entry{ID: id, Up: true, Rate: 100})
	}
	tick(t, s, m, 1)
	for _, id := range ids {
		if all(t, s, m, net.Back, id) != 1 {
			t.Fatalf("nothing came on %d", id)
		}
	}
	if len(s.Sender().Table()) != len(ids) {
		t.Fatalf("the sender has %v", s.Sender().Table())
	}
	return s, m
}

// The document's example: the sender hears of a path.
func TestP291Example(t *testing.T) {
	s, m := begun(t, roomy())
	path(t, s, m, table.Entry{ID: 1, Up: true, Rate: 7})
	if tick(t, s, m, 1) != nil || all(t, s, m, net.Back, 1) != 1 {
		t.Error("nothing goes Back")
	}
	if l := s.Sender().Table(); !slices.Equal(l, []table.Entry{{ID: 1, Up: true, Rate: 7}}) {
		t.Errorf("%v", l)
	}
}

// At the beginning nothing was, and a zero Session is as New of a zero Config.
func TestP291New(t *testing.T) {
	s, m := begun(t, roomy())
	if s.Now() != 0 || len(s.Played()) != 0 || len(s.Accepted()) != 0 || s.Net().Counts() != (net.Counts{}) {
		t.Error(toldOf(s))
	}
	tick(t, s, m, 19)
	if s.Net().Counts() != (net.Counts{}) {
		t.Errorf("%+v", s.Net().Counts())
	}
	for deed := range 12 {
		zero, m := new(session.Session), newModel(session.Config{})
		c := zero.Clone()
		check(t, zero, m)
		check(t, c, m)
		for _, s := range []*session.Session{zero, c} {
			m := m.clone()
			do(t, s, m, deed)
			for next := range 12 {
				do(t, s, m, next)
			}
			tick(t, s, m, 40)
		}
	}
}

// do does one of 12 deeds.
func do(t *testing.T, s *session.Session, m *model, deed int) {
	t.Helper()
	switch deed {
	case 0:
		last, _ := s.Sender().Last()
		submit(t, s, m, last+1, "abc")
	case 1:
		path(t, s, m, table.Entry{ID: 1, Up: true, Rate: 50 + s.Now()})
	case 2:
		closes(t, s, m)
	case 3:
		tick(t, s, m, 3)
	case 4:
		deliver(t, s, m, net.There, 1, 0)
	case 5:
		deliver(t, s, m, net.Back, 1, 0)
	case 6:
		lose(t, s, m, net.There, 1, 0)
	case 7:
		twin(t, s, m, net.There, 1, 0)
	case 8:
		turn(t, s, m, net.There, 1, 0, 9, 1<<31)
	case 9:
		forge(t, s, m, net.There, 1, "forged")
	case 10:
		all(t, s, m, net.There, 1)
	case 11:
		all(t, s, m, net.Back, 1)
	}
}

// Ticks: none, one, as many as may be, fewer and more than may be.
func TestP291Tick(t *testing.T) {
	s, m := known(t, roomy(), 1)
	submit(t, s, m, 5, "hello")
	for _, n := range []int{-1, -2, mostTicks + 1, mostTicks + 2, math.MinInt, math.MaxInt, math.MaxInt - 1, -mostTicks} {
		if l, e := s.Tick(n); l != nil || e != api.ErrArg {
			t.Errorf("Tick %d: %v %d", n, l, e)
		}
		check(t, s, m)
	}
	if l := tick(t, s, m, 0); l != nil || s.Now() != 1 || s.Net().Len(net.There, 1) != 0 {
		t.Errorf("%v at %d", l, s.Now())
	}
	if l := tick(t, s, m, 1); l != nil || s.Now() != 2 || s.Net().Len(net.There, 1) != 1 {
		t.Errorf("%v at %d", l, s.Now())
	}
	all(t, s, m, net.There, 1)
	if l := tick(t, s, m, mostTicks); !slices.Equal(l, []buffer.Frame{{Time: 5, Data: "hello"}}) || s.Now() != mostTicks+2 {
		t.Errorf("%v at %d", l, s.Now())
	}
	// All at once is as one by one.
	one, other := known(t, roomy(), 1, 3)
	many, _ := known(t, roomy(), 1, 3)
	for range 60 {
		tick(t, one, other, 1)
	}
	if many.Tick(60); toldOf(one) != toldOf(many) {
		t.Errorf("\n%s\n%s", toldOf(one), toldOf(many))
	}
}

// The clock is never above 2^40.
func TestP291Clock(t *testing.T) {
	s, m := begun(t, roomy())
	m.now = lastTick - 5
	s.SetNow(m.now)
	check(t, s, m)
	for _, x := range []struct {
		n    int
		want api.Errno
	}{
		{6, api.ErrArg}, {mostTicks, api.ErrArg}, {-1, api.ErrArg}, {4, api.OK}, {2, api.ErrArg}, {1, api.OK},
		{1, api.ErrArg}, {mostTicks, api.ErrArg}, {math.MaxInt, api.ErrArg}, {0, api.OK},
	} {
		if l, e := s.Tick(x.n); e != x.want || l != nil {
			t.Fatalf("Tick %d at %d: %v %d", x.n, s.Now(), l, e)
		}
		m.tick(x.n)
		check(t, s, m)
	}
	if s.Now() != lastTick {
		t.Errorf("%d", s.Now())
	}
}

// Parts and reports of the sender go There, each on its path.
func TestP291There(t *testing.T) {
	s, m := known(t, roomy(), 1, 3)
	for i := range 4 {
		submit(t, s, m, uint32(5+i), strings.Repeat("x", 10+i))
	}
	tick(t, s, m, 1)
	n := 0
	for id := 1; id <= mostPaths; id++ {
		for _, data := range s.Net().All(net.There, id) {
			p, e := media.Parse(data)
			if e != api.OK || p.Path != id || p.Source != 1 {
				t.Errorf("%+v %d on %d", p, e, id)
			}
			n++
		}
	}
	if n != 4 || s.Net().Len(net.There, 1) != 2 || len(s.Net().Paths(net.Back)) != 0 {
		t.Errorf("%d parts are under way", n)
	}
	tick(t, s, m, 18)
	for _, id := range []int{1, 3} {
		l := s.Net().All(net.There, id)
		pieces, e := compound.Parse(l[len(l)-1])
		if r := compound.Open(pieces...).Reports; len(l) != 3 || e != api.OK || len(r) != 1 || r[0].Clock != 20 || r[0].Packets != 4 {
			t.Errorf("on %d: %d, %+v", id, e, r)
		}
	}
}

// What the sender's Step, its Close, and the receiver's Step would send, and there is
// no room, is lost.
func TestP291Room(t *testing.T) {
	s, m := known(t, with(func(c *session.Config) { c.Net.Most = 2 }), 1)
	for i := range 5 {
		submit(t, s, m, uint32(5+i), "x")
	}
	tick(t, s, m, 1)
	if c := s.Net().Counts(); c.Lost != 3 || c.Sent != 3 || s.Net().Len(net.There, 1) != 2 || s.Sender().Taken() != 5 {
		t.Errorf("%+v", c)
	}
	closes(t, s, m)
	if c := s.Net().Counts(); c.Lost != 4 || c.Sent != 3 || !s.Sender().Closed() {
		t.Errorf("%+v", c)
	}
	tick(t, s, m, 90)
	if c := s.Net().Counts(); c.Lost != 6 || c.Sent != 5 || s.Net().Len(net.Back, 1) != 2 {
		t.Errorf("%+v", c)
	}
	s, m = known(t, with(func(c *session.Config) { c.Net.Bytes = 120 }), 1)
	for i := range 5 {
		submit(t, s, m, uint32(5+i), "12345")
	}
	tick(t, s, m, 1)
	if c := s.Net().Counts(); c.Lost != 2 || s.Net().Len(net.There, 1) != 3 {
		t.Errorf("%+v", c)
	}
}

// byes are the sources of which a control packet says that they go.
func byes(t *testing.T, data string) []uint32 {
	t.Helper()
	pieces, e := compound.Parse(data)
	if e != api.OK {
		t.Fatal(e)
	}
	var l []uint32
	for _, b := range compound.Open(pieces...).Byes {
		l = append(l, b.Sources...)
	}
	return l
}

// Close says goodbye on each path, at the clock, and once.
func TestP291Close(t *testing.T) {
	s, m := known(t, roomy(), 2, 3)
	tick(t, s, m, 8)
	submit(t, s, m, 5, "x")
	closes(t, s, m)
	for _, id := range []int{2, 3} {
		l := s.Net().All(net.There, id)
		if len(l) != 1 || !slices.Equal(byes(t, l[0]), []uint32{1}) {
			t.Fatalf("on %d: %q", id, l)
		}
		pieces, _ := compound.Parse(l[0])
		if r := compound.Open(pieces...).Reports; len(r) != 1 || r[0].Clock != 9 || r[0].Time != 5 {
			t.Errorf("%+v", r)
		}
	}
	closes(t, s, m)
	if s.Net().Counts().Sent != 4 || len(s.Net().Paths(net.There)) != 2 || submit(t, s, m, 6, "y") != api.ErrClosed {
		t.Errorf("%+v", s.Net().Counts())
	}
	if all(t, s, m, net.There, 3) != 1 || !s.Receiver().Gone() {
		t.Error("the receiver doesn't hear of it")
	}
	if l := s.Accepted(); !slices.Equal(l, []buffer.Frame{{Time: 5, Data: "x"}}) {
		t.Errorf("%v", l)
	}
	// Without a path nobody hears.
	s, m = begun(t, roomy())
	closes(t, s, m)
	if s.Net().Counts() != (net.Counts{}) || !s.Sender().Closed() {
		t.Errorf("%+v", s.Net().Counts())
	}
}

// Reports of the receiver go Back, on each path that is Up.
func TestP291Back(t *testing.T) {
	s, m := begun(t, roomy())
	path(t, s, m, table.Entry{ID: 2, Up: true, Rate: 9})
	path(t, s, m, table.Entry{ID: 4, Rate: 9})
	path(t, s, m, table.Entry{ID: 15, Up: true, Rate: 9})
	tick(t, s, m, 1)
	if l := s.Net().Paths(net.Back); !slices.Equal(l, []int{2, 15}) || len(s.Net().Paths(net.There)) != 0 {
		t.Errorf("%v", l)
	}
	for _, id := range []int{2, 15} {
		pieces, e := compound.Parse(s.Net().All(net.Back, id)[0])
		if a := compound.Open(pieces...).Adverts; e != api.OK || len(a) != 1 || len(a[0].All) != 3 {
			t.Errorf("%+v %d", a, e)
		}
	}
	tick(t, s, m, 19)
	if s.Net().Len(net.Back, 2) != 1 {
		t.Error("it reports too early")
	}
	tick(t, s, m, 1)
	if s.Net().Len(net.Back, 2) != 2 || s.Net().Len(net.Back, 4) != 0 {
		t.Error("it reports once")
	}
}

// Paths are the receiver's; the sender hears of them by what the receiver says.
func TestP291Path(t *testing.T) {
	s, m := begun(t, roomy())
	for _, x := range []struct {
		e     table.Entry
		other bool
		want  api.Errno
	}{
		{table.Entry{ID: 1, Up: true, Rate: 9}, true, api.OK},
		{table.Entry{ID: 1, Up: true, Rate: 9}, false, api.OK},
		{table.Entry{ID: 1, Up: true, Rate: 8}, true, api.OK},
		{table.Entry{ID: 1, Rate: 8}, true, api.OK},
		{table.Entry{ID: 0, Up: true, Rate: 9}, false, api.ErrArg},
		{table.Entry{ID: 16, Up: true, Rate: 9}, false, api.ErrArg},
		{table.Entry{ID: 2, Up: true, Rate: -1}, false, api.ErrArg},
		{table.Entry{ID: 2, Up: true, Rate: 65536}, false, api.ErrArg},
		{table.Entry{ID: 2, Up: true, Rate: 65535}, true, api.OK},
		{table.Entry{ID: 3, Up: true}, true, api.OK},
		{table.Entry{ID: 15}, true, api.OK},
		{table.Entry{ID: 4}, false, api.ErrFull},
	} {
		if other, e := path(t, s, m, x.e); other != x.other || e != x.want {
			t.Errorf("%+v: %v %d", x.e, other, e)
		}
	}
	if len(s.Sender().Table()) != 0 || len(s.Receiver().Table()) != 4 {
		t.Error("the sender hears too early")
	}
	tick(t, s, m, 1)
	if all(t, s, m, net.Back, 2); !slices.Equal(s.Sender().Table(), s.Receiver().Table()) {
		t.Errorf("%v", s.Sender().Table())
	}
}

// part is one of a source, of a path.
func part(source uint32, path int, seq uint16, time uint32) string {
	return media.Media{Source: source, Seq: seq, Time: time, Track: media.Track{Path: path, PathSeq: seq}, Part: media.Part{Count: 1}, Data: "forged"}.Pack()
}

// says is a control packet.
func says(b compound.Bag) string {
	if b.Reports == nil {
		b.Reports = []report.Report{{Source: 9}}
	}
	b.Names = append(b.Names, notes.Name{Source: b.Reports[0].Source, Text: "n"})
	return compound.Pack(b.Pieces()...)
}

// What arrives is told by the error of who hears it.
func TestP291Deliver(t *testing.T) {
	s, m := known(t, roomy(), 1, 2)
	was := toldOf(s)
	for _, way := range []int{0, 1, 2, -1, math.MinInt, math.MaxInt} {
		for _, path := range []int{0, 1, 2, 3, 15, 16, -1, math.MinInt, math.MaxInt} {
			for _, i := range []int{0, 1, -1, math.MinInt, math.MaxInt} {
				if e := deliver(t, s, m, way, path, i); e != api.ErrNone {
					t.Errorf("%d %d %d: %d", way, path, i, e)
				}
			}
		}
	}
	if toldOf(s) != was {
		t.Errorf("\n%s\n%s", toldOf(s), was)
	}
	goes := says(compound.Bag{Byes: []notes.Bye{{Sources: []uint32{1}}}})
	good := part(1, 2, 7, 3)
	for _, x := range []struct {
		way, path int
		data      string
		want      api.Errno
	}{
		{net.There, 2, good, api.OK},
		{net.There, 1, good, api.ErrArg},
		{net.There, 2, part(2, 2, 7, 3), api.ErrKind},
		{net.There, 2, crc.Turn(good, 0, 1<<31), api.ErrSum},
		{net.There, 2, good[:3], api.ErrSum},
		{net.There, 2, "\x00", api.ErrEnd},
		{net.There, 2, "\x80\xc8\x00\x00", api.ErrSum},
		{net.There, 15, says(compound.Bag{}), api.OK},
		{net.There, 2, crc.Turn(goes, 50, 7), api.ErrSum},
		{net.Back, 2, good, api.ErrKind},
		{net.Back, 2, "\x00", api.ErrEnd},
		{net.Back, 15, says(compound.Bag{}), api.OK},
		{net.Back, 2, crc.Turn(goes, 50, 7), api.ErrSum},
		{net.Back, 2, goes, api.OK},
		{net.There, 2, goes, api.OK},
	} {
		gone, closed := s.Receiver().Gone(), s.Sender().Closed()
		if gone || closed {
			t.Error("it is over too early")
		}
		forge(t, s, m, x.way, x.path, x.data)
		if e := deliver(t, s, m, x.way, x.path, 0); e != x.want {
			t.Errorf("%q: %d, not %d", x.data, e, x.want)
		}
	}
	c := s.Receiver().Counts()
	if c != (receiver.Counts{Media: 1, Bad: 5, Foreign: 2, Reports: 2}) || !s.Receiver().Gone() || s.Sender().Closed() {
		t.Errorf("%+v", c)
	}
	// Of the i-th one.
	for i := range 4 {
		forge(t, s, m, net.There, 1, part(1, 1, uint16(8+i), uint32(4+i)))
	}
	for _, x := range []struct{ i, time int }{{2, 6}, {2, 7}, {0, 4}} {
		if e := deliver(t, s, m, net.There, 1, x.i); e != api.OK || !slices.Contains(s.Receiver().Buffer().Times(), uint32(x.time)) {
			t.Errorf("%d: %d", x.i, e)
		}
	}
	if s.Net().Len(net.There, 1) != 1 || deliver(t, s, m, net.There, 1, 1) != api.ErrNone {
		t.Error("one is under way")
	}
}

// IsControl tells who hears it: whatever the first bytes are, all answer.
func TestP291Tells(t *testing.T) {
	for first := range 256 {
		for second := range 256 {
			s := session.New(roomy())
			data := string([]byte{byte(first), byte(second)}) + "abcdef"
			s.Forge(net.There, 1, data)
			_, want := media.Parse(data)
			if rtp.IsControl(data) {
				_, want = compound.Parse(data)
			}
			if e := s.Deliver(net.There, 1, 0); e != want || s.Receiver().Counts() != (receiver.Counts{Bad: 1}) {
				t.Fatalf("%d %d: %d, not %d", first, second, e, want)
			}
		}
	}
}

// What a control packet makes go out once more goes There, on its path, and is not
// delivered with it.
func TestP291Again(t *testing.T) {
	s, m := known(t, roomy(), 1, 2)
	for i := range 8 {
		submit(t, s, m, uint32(5+i), "abcde")
	}
	tick(t, s, m, 1)
	lose(t, s, m, net.There, 1, 1)
	lose(t, s, m, net.There, 1, 1)
	all(t, s, m, net.There, 1)
	all(t, s, m, net.There, 2)
	tick(t, s, m, 1)
	if s.Net().Len(net.Back, 1) != 1 || s.Net().Len(net.Back, 2) != 1 || s.Net().Len(net.There, 2) != 0 {
		t.Fatal(toldOf(s))
	}
	c, other := s.Clone(), m.clone()
	if e := deliver(t, s, m, net.Back, 1, 0); e != api.OK || s.Sender().Again() != 2 || s.Net().Len(net.There, 2) != 2 {
		t.Errorf("%d: %s", e, toldOf(s))
	}
	if all(t, c, other, net.Back, 1) != 1 || c.Net().Len(net.There, 2) != 2 || toldOf(c) != toldOf(s) {
		t.Errorf("%s", toldOf(c))
	}
	if all(t, s, m, net.There, 2) != 2 {
		t.Error("two are under way")
	}
	if l := tick(t, s, m, 5); len(l) != 8 || !slices.Equal(l, s.Accepted()) {
		t.Errorf("%v", l)
	}
	// Where there is no room for it, it is lost.
	for c.Forge(net.There, 1, "x") {
	}
	other.net = c.Net()
	if n := c.Net().Counts().Lost; all(t, c, other, net.Back, 2) != 1 || c.Sender().Again() != 4 || c.Net().Counts().Lost != n+2 {
		t.Errorf("%+v", c.Net().Counts())
	}
}

// All of several, of one, of none.
func TestP291All(t *testing.T) {
	s, m := known(t, roomy(), 1, 2)
	for i := range 5 {
		submit(t, s, m, uint32(5+i), strings.Repeat("x", i))
	}
	tick(t, s, m, 1)
	l := append(s.Net().All(net.There, 1), s.Net().All(net.There, 2)...)
	for _, way := range []int{0, 1, 2, -1, math.MinInt, math.MaxInt} {
		for _, path := range []int{0, 3, 15, 16, -1, math.MinInt, math.MaxInt} {
			if n := all(t, s, m, way, path); n != 0 {
				t.Errorf("%d %d: %d", way, path, n)
			}
		}
	}
	if a, b := all(t, s, m, net.There, 2), all(t, s, m, net.There, 1); a+b != len(l) || len(l) != 5 || a != 2 {
		t.Errorf("%d and %d", a, b)
	}
	if n := all(t, s, m, net.There, 1); n != 0 || s.Net().Counts().Taken != 7 {
		t.Errorf("%d, %+v", n, s.Net().Counts())
	}
	// One behind the other, the first one first: the numbers rise.
	if c := s.Receiver().Counts(); c.Media != 5 || len(s.Receiver().Wanting()) != 0 {
		t.Errorf("%+v, %v", c, s.Receiver().Wanting())
	}
	// All that arrive count, also such as are refused.
	for i := range 30 {
		forge(t, s, m, net.There, 1, fmt.Sprint(i))
		forge(t, s, m, net.Back, 1, fmt.Sprint(i))
	}
	if all(t, s, m, net.There, 1) != 30 || all(t, s, m, net.Back, 1) != 30 || s.Receiver().Counts().Bad != 30 {
		t.Errorf("%+v", s.Receiver().Counts())
	}
}

// What becomes of datagrams is as the paths have it, which are its own.
func TestP291Ways(t *testing.T) {
	s, m := known(t, roomy(), 1)
	numbers := []int{0, 1, 2, 15, 16, -1, math.MinInt, math.MaxInt}
	for round := range 3 {
		forge(t, s, m, net.There, 1, "abc")
		forge(t, s, m, net.Back, 1, "abc")
		tick(t, s, m, round)
		for _, way := range []int{0, 1, 2, -1} {
			for _, path := range numbers {
				forge(t, s, m, way, path, "")
				forge(t, s, m, way, path, strings.Repeat("x", mostPacket+1))
				forge(t, s, m, way, path, strings.Repeat("x", mostPacket-round))
				for _, i := range numbers {
					twin(t, s, m, way, path, i)
					turn(t, s, m, way, path, i, i, 0x80000001)
					if i < 0 || i == 15 {
						lose(t, s, m, way, path, i)
					}
				}
				lose(t, s, m, way, path, round)
			}
		}
	}
	c := s.Net().Counts()
	if c.Forged < 10 || c.Lost < 10 || c.Twins < 10 || c.Turned < 10 {
		t.Errorf("%+v", c)
	}
}

// Frames that were taken, and such as were played.
func TestP291Frames(t *testing.T) {
	s, m := known(t, roomy(), 1)
	if submit(t, s, m, 5, "a") != api.OK || submit(t, s, m, 5, "b") != api.ErrTime || submit(t, s, m, 4, "c") != api.ErrTime {
		t.Error("times rise")
	}
	if submit(t, s, m, 9, strings.Repeat("x", 1001)) != api.ErrBig || submit(t, s, m, 9, "") != api.OK {
		t.Error("frames have bytes")
	}
	if submit(t, s, m, 10, strings.Repeat("x", 981)) != api.ErrFull || submit(t, s, m, math.MaxUint32, "z") != api.OK || submit(t, s, m, 0, "0") != api.ErrTime {
		t.Error("it has room for some")
	}
	want := []buffer.Frame{{Time: 5, Data: "a"}, {Time: 9}, {Time: math.MaxUint32, Data: "z"}}
	if !slices.Equal(s.Accepted(), want) || len(s.Played()) != 0 {
		t.Errorf("%v %v", s.Accepted(), s.Played())
	}
	tick(t, s, m, 1)
	deliver(t, s, m, net.There, 1, 0)
	if l := tick(t, s, m, 3); !slices.Equal(l, want[:1]) || !slices.Equal(s.Played(), want[:1]) {
		t.Errorf("%v %v", l, s.Played())
	}
	deliver(t, s, m, net.There, 1, 1)
	deliver(t, s, m, net.There, 1, 0)
	if l := tick(t, s, m, 30); !slices.Equal(l, want[1:]) || !slices.Equal(s.Played(), want) || !slices.Equal(s.Accepted(), want) {
		t.Errorf("%v %v", l, s.Played())
	}
	if l := tick(t, s, m, 30); l != nil || len(s.Played()) != 3 {
		t.Errorf("%v", l)
	}
	closes(t, s, m)
	if submit(t, s, m, math.MaxUint32, "z") != api.ErrClosed || len(s.Accepted()) != 3 {
		t.Errorf("%v", s.Accepted())
	}
}
