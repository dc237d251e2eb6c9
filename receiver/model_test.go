package receiver_test

import (
	"fmt"
	"maps"
	"slices"
	"testing"

	"cordelle/api"
	"cordelle/buffer"
	"cordelle/compound"
	"cordelle/crc"
	"cordelle/media"
	"cordelle/nack"
	"cordelle/notes"
	"cordelle/piece"
	"cordelle/receiver"
	"cordelle/report"
	"cordelle/source"
	"cordelle/subflow"
	"cordelle/table"
)

// The document's bounds, as it says them.
const (
	mostPaths   = 15
	mostFrames  = 1024
	mostParts   = 1 << 16
	mostBytes   = 1 << 26
	mostWanting = 1024
	mostTries   = 100
	mostPairs   = 300
	mostPacket  = 1500
	longest     = 1048576
	lastTick    = 1099511627776
	overhead    = 28
)

// nearest is n as it counts in a range.
func nearest(least, n, most int) int {
	switch {
	case n < least:
		return least
	case n > most:
		return most
	}
	return n
}

// lane is what came on a path, in a model: of all packets there the numbers, and of
// those that were kept the jitter; and what was expected, and received, at the last
// report.
type lane struct {
	numbers            []uint16
	bytes              int
	scaled, transit    int
	has                bool
	expected, received int
}

// source is that of a lane.
func (l *lane) source() source.Source {
	s, _ := source.New(l.numbers[0]).Run(l.numbers...)
	return s
}

// uneven takes a packet that was kept.
func (l *lane) uneven(sent, came int) {
	transit := came - sent
	if l.has {
		l.scaled += max(transit-l.transit, l.transit-transit) - (l.scaled+8)/16
	}
	l.transit, l.has = transit, true
}

// heard is a sender's report, in a model.
type heard struct {
	clock uint32
	at    int
}

// asked is a number that is wanting, in a model.
type asked struct{ at, wait, times int }

// frame is one that waits, in a model.
type frame struct {
	count, first int
	parts        map[int]string
}

// whole are a frame's parts, if all are there.
func (f *frame) whole() (string, bool) {
	all := ""
	for i := range f.count {
		data, there := f.parts[i]
		if !there {
			return "", false
		}
		all += data
	}
	return all, true
}

// model is a Receiver by the document's sentences.
type model struct {
	receiver.Config
	entries  map[int]table.Entry
	lanes    map[int]*lane
	heard    map[int]heard
	wanting  map[int]asked
	frames   map[uint32]*frame
	horizon  int
	ended    [3]int // How many frames were played, dropped, evicted.
	counts   receiver.Counts
	greatest int
	delay    int
	next     int
	another  bool
	gone     bool
}

func newModel(c receiver.Config) *model {
	if len(c.Name) > 255 {
		c.Name = c.Name[:255]
	}
	if c.Name == "" {
		c.Name = "r"
	}
	c.Buffer.Frames = nearest(1, c.Buffer.Frames, mostFrames)
	c.Buffer.Packets = nearest(1, c.Buffer.Packets, mostParts)
	c.Buffer.Bytes = nearest(1, c.Buffer.Bytes, mostBytes)
	c.Gaps.Most = nearest(1, c.Gaps.Most, mostWanting)
	c.Gaps.Tries = nearest(1, c.Gaps.Tries, mostTries)
	c.Gaps.First = nearest(0, c.Gaps.First, longest)
	c.Gaps.Again = nearest(1, c.Gaps.Again, longest)
	c.Least = nearest(0, c.Least, longest)
	c.Most = nearest(c.Least, c.Most, longest)
	c.Every = nearest(1, c.Every, longest)
	c.Paths = nearest(1, c.Paths, mostPaths)
	return &model{
		Config: c, delay: c.Least, next: c.Every, horizon: -1,
		entries: map[int]table.Entry{}, lanes: map[int]*lane{}, heard: map[int]heard{},
		wanting: map[int]asked{}, frames: map[uint32]*frame{},
	}
}

func (m *model) clone() *model {
	c := *m
	c.entries, c.heard, c.wanting = maps.Clone(m.entries), maps.Clone(m.heard), maps.Clone(m.wanting)
	c.lanes, c.frames = map[int]*lane{}, map[uint32]*frame{}
	for path, l := range m.lanes {
		other := *l
		other.numbers = slices.Clone(l.numbers)
		c.lanes[path] = &other
	}
	for time, f := range m.frames {
		c.frames[time] = &frame{f.count, f.first, maps.Clone(f.parts)}
	}
	return &c
}

func (m *model) path(e table.Entry) (bool, api.Errno) {
	was, there := m.entries[e.ID]
	switch {
	case e.ID < 1 || e.ID > mostPaths || e.Rate < 0 || e.Rate > 65535:
		return false, api.ErrArg
	case !there && len(m.entries) == m.Paths:
		return false, api.ErrFull
	case there && was == e:
		return false, api.OK
	}
	m.entries[e.ID] = e
	m.another = true
	return true, api.OK
}

func (m *model) media(path, now int, data string) api.Errno {
	p, e := media.Parse(data)
	if e != api.OK {
		m.counts.Bad++
		return e
	}
	if p.Source != m.About {
		m.counts.Foreign++
		return api.ErrKind
	}
	if p.Path != path {
		m.counts.Foreign++
		return api.ErrArg
	}
	l := m.lanes[path]
	if l == nil {
		l = &lane{}
		m.lanes[path] = l
	}
	l.numbers = append(l.numbers, p.PathSeq)
	l.bytes += len(data)
	m.came(int(p.Seq), now)
	m.counts.Media++
	switch m.put(p, now) {
	case buffer.Kept, buffer.Whole:
		l.uneven(int(p.Time), now)
		m.wait()
	case buffer.Twice:
		m.counts.Twice++
	case buffer.Late:
		m.counts.Late++
		m.delay = min(m.delay+1, m.Most)
	}
	return api.OK
}

// came takes it that the packet of a number came: of all that it may be modulo 65536
// it is the nearest one to the greatest, of two that are as near the lesser one.
func (m *model) came(n, now int) {
	if m.counts.Media == 0 {
		m.greatest = n
		return
	}
	for n < m.greatest-32768 {
		n += 65536
	}
	for n >= m.greatest+32768 {
		n -= 65536
	}
	delete(m.wanting, n)
	for m.greatest < n {
		m.greatest++
		if m.greatest < n {
			m.wanting[m.greatest] = asked{at: now + m.Gaps.First, wait: m.Gaps.Again}
		}
	}
	if more := len(m.wanting) - m.Gaps.Most; more > 0 {
		for _, least := range m.numbers()[:more] {
			delete(m.wanting, least)
		}
	}
}

// numbers are those that are wanting, rising.
func (m *model) numbers() []int { return slices.Sorted(maps.Keys(m.wanting)) }

// times are those of the frames that wait, rising.
func (m *model) times() []uint32 { return slices.Sorted(maps.Keys(m.frames)) }

// waits is of how many parts, and bytes, frames wait.
func (m *model) waits() (int, int) {
	parts, bytes := 0, 0
	for _, f := range m.frames {
		for _, data := range f.parts {
			parts++
			bytes += len(data)
		}
	}
	return parts, bytes
}

// put puts a part into the buffer.
func (m *model) put(p media.Media, now int) int {
	if int(p.Time) <= m.horizon {
		return buffer.Late
	}
	f := m.frames[p.Time]
	if f == nil {
		f = &frame{p.Count, now, map[int]string{}}
		m.frames[p.Time] = f
	}
	kind := buffer.Kept
	if _, there := f.parts[p.Index]; f.count != p.Count {
		kind = buffer.Bad
	} else if there {
		kind = buffer.Twice
	} else {
		f.parts[p.Index] = p.Data
		if len(f.parts) == f.count {
			kind = buffer.Whole
		}
	}
	for {
		parts, bytes := m.waits()
		if len(m.frames) <= m.Buffer.Frames && parts <= m.Buffer.Packets && bytes <= m.Buffer.Bytes {
			break
		}
		m.leaves(2)
	}
	if m.frames[p.Time] == nil {
		return buffer.Evicted
	}
	return kind
}

// leaves makes the frame of the least time wait no more.
func (m *model) leaves(how int) {
	least := m.times()[0]
	delete(m.frames, least)
	m.horizon = int(least)
	m.ended[how]++
}

// wait takes a part that was kept: the delay is that of the greatest jitter, or comes
// nearer to it.
func (m *model) wait() {
	wanted := 0
	for _, l := range m.lanes {
		wanted = max(wanted, l.scaled/16)
	}
	wanted = min(m.Least+4*wanted, m.Most)
	if wanted < m.delay {
		m.delay--
	} else {
		m.delay = wanted
	}
}

// play answers the frames that are played.
func (m *model) play(now int) []buffer.Frame {
	var l []buffer.Frame
	for _, time := range m.times() {
		f := m.frames[time]
		data, whole := f.whole()
		switch age := now - f.first; {
		case whole && age >= m.delay:
			l = append(l, buffer.Frame{Time: time, Data: data})
			m.leaves(0)
		case age >= m.Most:
			m.leaves(1)
		default:
			return l
		}
	}
	return l
}

// due answers the numbers that are to be asked for by now.
func (m *model) due(now int) []uint16 {
	var l []uint16
	for _, n := range m.numbers() {
		a := m.wanting[n]
		switch {
		case a.at > now:
		case a.times == m.Gaps.Tries:
			delete(m.wanting, n)
		default:
			l = append(l, uint16(n))
			m.wanting[n] = asked{now + a.wait, min(2*a.wait, longest), a.times + 1}
		}
	}
	return l
}

func (m *model) step(now int) ([]receiver.Out, []buffer.Frame) {
	played, due := m.play(now), m.due(now)
	r := report.Report{Source: m.Source}
	if m.counts.Media > 0 {
		r.Blocks = []report.Block{{Source: m.About, Highest: uint32(m.greatest), Jitter: uint32(m.delay)}}
	}
	first := []piece.Piece{r.Piece(), notes.Names(notes.Name{Source: m.Source, Text: m.Name})}
	var last []piece.Piece
	if m.another || now >= m.next {
		m.another, m.next = false, now+m.Every
		if l := m.lines(now); len(l) > 0 {
			last = append(last, subflow.Lines{Source: m.Source, All: l}.Piece())
		}
		last = append(last, m.adverts().Piece())
	} else if len(due) == 0 {
		return nil, played
	}
	data := compound.Pack(slices.Concat(first, last)...)
	if ask := nack.Ask(m.Source, m.About, due...); len(due) > 0 && len(ask.Pairs) <= mostPairs {
		with := slices.Concat(first, []piece.Piece{ask.Piece()}, last)
		if len(piece.Pack(with...))+16 <= mostPacket {
			data = compound.Pack(with...)
		}
	}
	var out []receiver.Out
	for id := 1; id <= mostPaths; id++ {
		if m.entries[id].Up {
			out = append(out, receiver.Out{Path: id, Data: data})
		}
	}
	return out, played
}

// lines are what a report tells of paths.
func (m *model) lines(now int) []subflow.Line {
	var all []subflow.Line
	for id := 1; id <= mostPaths; id++ {
		x := subflow.Line{Path: id}
		l := m.lanes[id]
		if l != nil {
			s := l.source()
			x.Fraction = fraction(s.Expected()-l.expected, s.Received-l.received)
			x.Lost = nearest(-8388608, s.Expected()-s.Received, 8388607)
			x.Highest, x.Jitter, x.Bytes = uint32(s.Highest()), uint32(l.scaled/16), uint32(l.bytes)
			l.expected, l.received = s.Expected(), s.Received
		}
		if h, is := m.heard[id]; is {
			x.Last, x.Delay = h.clock, uint32(now-h.at)
		}
		if l != nil || m.entries[id].Up {
			all = append(all, x)
		}
	}
	return all
}

// fraction is how many of 256 were lost.
func fraction(expected, received int) int {
	lost := expected - received
	if expected <= 0 || lost <= 0 {
		return 0
	}
	return min(256*lost/expected, 255)
}

func (m *model) adverts() subflow.Adverts {
	a := subflow.Adverts{Source: m.Source}
	for _, e := range m.table() {
		a.All = append(a.All, subflow.Advert{Path: e.ID, Up: e.Up, Rate: e.Rate})
	}
	return a
}

func (m *model) control(path, now int, b compound.Bag) {
	m.counts.Reports++
	for _, r := range b.Reports {
		if r.IsSender && r.Source == m.About && path >= 1 && path <= mostPaths {
			m.heard[path] = heard{uint32(r.Clock % (1 << 32)), now}
		}
	}
	for _, bye := range b.Byes {
		for _, source := range bye.Sources {
			m.gone = m.gone || source == m.About
		}
	}
}

func (m *model) table() []table.Entry {
	var l []table.Entry
	for _, id := range slices.Sorted(maps.Keys(m.entries)) {
		l = append(l, m.entries[id])
	}
	return l
}

func (m *model) flows() []receiver.Flow {
	var all []receiver.Flow
	for _, id := range slices.Sorted(maps.Keys(m.lanes)) {
		l := m.lanes[id]
		s := l.source()
		all = append(all, receiver.Flow{ID: id, Highest: s.Highest(), Expected: s.Expected(), Received: s.Received, Bytes: l.bytes, Jitter: l.scaled / 16})
	}
	return all
}

// check holds all that a Receiver tells against its model.
func check(t *testing.T, r *receiver.Receiver, m *model) {
	t.Helper()
	if got := r.Counts(); got != m.counts {
		t.Fatalf("Counts: %+v, not %+v", got, m.counts)
	}
	if got := r.Flows(); !slices.Equal(got, m.flows()) {
		t.Fatalf("Flows: %+v, not %+v", got, m.flows())
	}
	if got := r.Wanting(); !slices.Equal(got, m.numbers()) {
		t.Fatalf("Wanting: %v, not %v", got, m.numbers())
	}
	if got := r.Table(); !slices.Equal(got, m.table()) {
		t.Fatalf("Table: %v, not %v", got, m.table())
	}
	if r.Delay() != m.delay || r.Gone() != m.gone {
		t.Fatalf("Delay, Gone: %d %t, not %d %t", r.Delay(), r.Gone(), m.delay, m.gone)
	}
	b := r.Buffer()
	parts, bytes := m.waits()
	if !slices.Equal(b.Times(), m.times()) || b.Horizon() != m.horizon || b.Len() != len(m.frames) || b.Packets() != parts || b.Bytes() != bytes {
		t.Fatalf("Buffer: %v above %d: %d %d %d, not %v above %d: %d %d %d", b.Times(), b.Horizon(), b.Len(), b.Packets(), b.Bytes(), m.times(), m.horizon, len(m.frames), parts, bytes)
	}
	if played, dropped, evicted := b.Counts(); [3]int{played, dropped, evicted} != m.ended {
		t.Fatalf("Buffer: %d %d %d, not %v", played, dropped, evicted, m.ended)
	}
}

// begun is a Receiver to which nothing came, and its model.
func begun(t *testing.T, c receiver.Config) (*receiver.Receiver, *model) {
	t.Helper()
	r, m := receiver.New(c), newModel(c)
	check(t, r, m)
	return r, m
}

// The calls, each done to both: what both answer is alike, and so is what both tell.

func path(t *testing.T, r *receiver.Receiver, m *model, id int, up bool, rate int) (bool, api.Errno) {
	t.Helper()
	e := table.Entry{ID: id, Up: up, Rate: rate}
	got, e1 := r.Path(e)
	want, e2 := m.path(e)
	if got != want || e1 != e2 {
		t.Fatalf("Path(%+v): %t %d, not %t %d", e, got, e1, want, e2)
	}
	check(t, r, m)
	return got, e1
}

func came(t *testing.T, r *receiver.Receiver, m *model, path, now int, data string) api.Errno {
	t.Helper()
	got, want := r.Media(path, now, data), m.media(path, now, data)
	if got != want {
		t.Fatalf("Media(%d, %d, %x): %d, not %d", path, now, data, got, want)
	}
	check(t, r, m)
	return got
}

func hears(t *testing.T, r *receiver.Receiver, m *model, path, now int, b compound.Bag) {
	t.Helper()
	m.control(path, now, b)
	if e := r.Control(path, now, packed(t, b)); e != api.OK {
		t.Fatalf("Control(%d, %d, %+v): %d", path, now, b, e)
	}
	check(t, r, m)
}

func step(t *testing.T, r *receiver.Receiver, m *model, now int) ([]receiver.Out, []buffer.Frame) {
	t.Helper()
	out, played := r.Step(now)
	wantOut, wantPlayed := m.step(now)
	if !slices.Equal(out, wantOut) {
		t.Fatalf("Step(%d): %s, not %s", now, tell(out), tell(wantOut))
	}
	if !slices.Equal(played, wantPlayed) {
		t.Fatalf("Step(%d): %v is played, not %v", now, played, wantPlayed)
	}
	check(t, r, m)
	return out, played
}

// packed is a control packet that says this.
func packed(t *testing.T, b compound.Bag) string {
	t.Helper()
	data := compound.Pack(b.Pieces()...)
	if data == "" {
		t.Fatalf("%+v: %d", b, compound.Check(b.Pieces()...))
	}
	return data
}

// says is what a control packet does.
func says(t *testing.T, data string) compound.Bag {
	t.Helper()
	pieces, e := compound.Parse(data)
	if e != api.OK {
		t.Fatalf("%x: %d", data, e)
	}
	return compound.Open(pieces...)
}

// tell is what goes out, in short.
func tell(l []receiver.Out) string {
	all := ""
	for _, o := range l {
		if pieces, e := compound.Parse(o.Data); e == api.OK {
			all += fmt.Sprintf("%d: %+v; ", o.Path, compound.Open(pieces...))
		} else {
			all += fmt.Sprintf("%d: %x; ", o.Path, o.Data)
		}
	}
	return "[" + all + "]"
}

// from is what a sender says of itself at a tick.
func from(source uint32, clock int) compound.Bag {
	return compound.Bag{
		Reports: []report.Report{{Source: source, IsSender: true, Sent: report.Sent{Clock: clock}}},
		Names:   []notes.Name{{Source: source, Text: "s"}},
	}
}

// bye is what a sender says of itself, and who goes.
func bye(source uint32, goes ...uint32) compound.Bag {
	b := from(source, 0)
	b.Byes = []notes.Bye{{Reason: "over", Sources: goes}}
	return b
}

// packet is a part of a frame that goes along a path.
type packet struct {
	seq, time    int
	path, number int
	index, count int
	data         string
}

// bytes are those of a packet of the source 1.
func (p packet) bytes() string { return p.of(1) }

// of are those of a packet of a source.
func (p packet) of(source uint32) string {
	m := media.Media{Source: source, Seq: uint16(p.seq), Time: uint32(p.time), Data: p.data}
	m.Path, m.PathSeq, m.Index, m.Count = p.path, uint16(p.number), p.index, p.count
	return m.Pack()
}

// reseal is bytes with four of them such that they are Right.
func reseal(data string, at int) string {
	whole, is := crc.Seal(data, at)
	if !is {
		return data
	}
	return whole
}
