package sender_test

import (
	"fmt"
	"maps"
	"slices"
	"testing"

	"cordelle/api"
	"cordelle/compound"
	"cordelle/crc"
	"cordelle/gauge"
	"cordelle/life"
	"cordelle/media"
	"cordelle/nack"
	"cordelle/notes"
	"cordelle/piece"
	"cordelle/report"
	"cordelle/sender"
	"cordelle/subflow"
	"cordelle/table"
)

// The document's bounds, as it says them.
const (
	mostPart  = 1472
	mostParts = 255
	mostFrame = 65535
	mostPaths = 15
	mostKept  = 65535
	mostTries = 100
	longest   = 1048576
	lastTick  = 1099511627776
	overhead  = 28
)

// nearest is n as it counts in a range.
func nearest(least, n, most int) int {
	switch {
	case n < least:
		return least
	case n > most:
		return most
	}
	return n
}

// lane is a path that is Up, in a model.
type lane struct {
	life.Life
	rate, tokens, since int
	sent, bytes         int
	trip                gauge.Trip
}

// sentOnce is a packet that was taken from the queue.
type sentOnce struct {
	media.Media
	path, tries int
}

// model is a Sender by the document's sentences: it keeps all that was ever sent,
// and asks how much of that counts.
type model struct {
	sender.Config
	entries   map[int]table.Entry
	lanes     map[int]*lane
	weights   map[int]int
	carried   map[int]int
	waiting   []media.Media
	taken     []sentOnce
	again     int
	submitted int
	times     []uint32
	due       int
	sent      report.Sent
	closed    bool
}

func newModel(c sender.Config) *model {
	c.Size = nearest(1, c.Size, mostPart)
	c.Frame = nearest(0, c.Frame, mostFrame)
	c.Queue = nearest(1, c.Queue, 1<<30)
	c.Kept = nearest(1, c.Kept, mostKept)
	c.Tries = nearest(0, c.Tries, mostTries)
	c.Burst = nearest(1, c.Burst, longest)
	c.Every = nearest(1, c.Every, longest)
	c.Paths = nearest(1, c.Paths, mostPaths)
	if len(c.Name) > 255 {
		c.Name = c.Name[:255]
	}
	if len(c.Name) == 0 {
		c.Name = "s"
	}
	return &model{Config: c, due: c.Every, entries: map[int]table.Entry{}, lanes: map[int]*lane{}}
}

func (m *model) clone() *model {
	c := *m
	c.entries, c.weights, c.carried = maps.Clone(m.entries), maps.Clone(m.weights), maps.Clone(m.carried)
	c.waiting, c.taken, c.times = slices.Clone(m.waiting), slices.Clone(m.taken), slices.Clone(m.times)
	c.lanes = map[int]*lane{}
	for id, l := range m.lanes {
		other := *l
		c.lanes[id] = &other
	}
	return &c
}

func (m *model) submit(time uint32, data string) api.Errno {
	parts := 1
	for parts*m.Size < len(data) {
		parts++
	}
	switch {
	case m.closed:
		return api.ErrClosed
	case len(data) > m.Frame || parts > mostParts:
		return api.ErrBig
	case len(m.times) > 0 && m.times[len(m.times)-1] >= time:
		return api.ErrTime
	case len(m.waiting)+parts > m.Queue:
		return api.ErrFull
	}
	for i := range parts {
		p := media.Media{Source: m.Source, Seq: uint16(m.submitted % 65536), Time: time}
		p.Index, p.Count = i, parts
		p.Data = data[i*m.Size : min((i+1)*m.Size, len(data))]
		m.waiting = append(m.waiting, p)
		m.submitted++
	}
	m.times = append(m.times, time)
	return api.OK
}

func (m *model) path(e table.Entry, now int) (bool, api.Errno) {
	was, there := m.entries[e.ID]
	switch {
	case e.ID < 1 || e.ID > mostPaths || e.Rate < 0 || e.Rate > 65535:
		return false, api.ErrArg
	case !there && len(m.entries) == m.Paths:
		return false, api.ErrFull
	}
	m.entries[e.ID] = e
	rate := max(e.Rate, 1)
	switch {
	case !e.Up:
		delete(m.lanes, e.ID)
	case !there || !was.Up:
		m.lanes[e.ID] = &lane{Life: life.Life{Heard: now}, rate: rate, tokens: m.Burst, since: now}
	case was.Rate != e.Rate:
		l := m.lanes[e.ID]
		l.tokens, l.since, l.rate = m.room(l, now), now, rate
	}
	return !there || was != e, api.OK
}

// room is how many bytes a lane's pace has at a tick.
func (m *model) room(l *lane, now int) int {
	return min(l.tokens+(now-l.since)*l.rate, m.Burst)
}

// sending are the paths that send, rising.
func (m *model) sending() []int {
	var l []int
	for id := 1; id <= mostPaths; id++ {
		if lane := m.lanes[id]; lane != nil && lane.State != life.Inactive {
			l = append(l, id)
		}
	}
	return l
}

// said is what goes out as a control packet, on each path that sends.
func (m *model) said(now int, byes ...notes.Bye) []sender.Out {
	sent := m.sent
	sent.Clock, sent.Time = now, 0
	if n := len(m.times); n > 0 {
		sent.Time = m.times[n-1]
	}
	r := report.Report{Source: m.Source, IsSender: true, Sent: sent}
	pieces := []piece.Piece{r.Piece(), notes.Names(notes.Name{Source: m.Source, Text: m.Name})}
	for _, b := range byes {
		pieces = append(pieces, b.Piece())
	}
	data := compound.Pack(pieces...)
	var out []sender.Out
	for _, id := range m.sending() {
		out = append(out, sender.Out{Path: id, Data: data})
	}
	return out
}

// goes makes a packet go out on a path.
func (m *model) goes(p media.Media, id, now int) sender.Out {
	l := m.lanes[id]
	p.Path, p.PathSeq = id, uint16(l.sent%65536)
	data := p.Pack()
	l.tokens, l.since = m.room(l, now)-len(data), now
	l.sent++
	l.bytes += len(data)
	if _, shared := m.weights[id]; shared {
		m.carried[id] += len(data)
	}
	m.sent.Packets++
	m.sent.Bytes += uint32(len(data))
	return sender.Out{Path: id, Data: data}
}

// pick is who carries the next packet, of so many bytes, 0 if nobody can.
func (m *model) pick(now, bytes int) int {
	best := 0
	for _, id := range m.sending() {
		if m.room(m.lanes[id], now) < bytes {
			continue
		}
		if best == 0 || m.carried[id]*m.weights[best] < m.carried[best]*m.weights[id] {
			best = id
		}
	}
	return best
}

// weigh tells among which paths it is shared, and by which weights.
func (m *model) weigh() {
	weights := map[int]int{}
	for _, id := range m.sending() {
		l := m.lanes[id]
		by := map[int]int{life.Active: 1, life.Congested: 2, life.Probing: 4}[l.State]
		weights[id] = max(l.rate/by, 1)
	}
	if !maps.Equal(weights, m.weights) {
		m.weights, m.carried = weights, map[int]int{}
	}
}

func (m *model) step(now int) []sender.Out {
	for _, l := range m.lanes {
		l.Life, _ = l.Tick(m.Life, now)
	}
	var out []sender.Out
	if !m.closed && now >= m.due {
		m.due = now + m.Every
		out = m.said(now)
	}
	m.weigh()
	for len(m.waiting) > 0 {
		p := m.waiting[0]
		id := m.pick(now, overhead+len(p.Data))
		if id == 0 {
			break
		}
		m.waiting = m.waiting[1:]
		m.taken = append(m.taken, sentOnce{Media: p, path: id})
		out = append(out, m.goes(p, id, now))
	}
	return out
}

// kept is how many are kept.
func (m *model) kept() int { return min(len(m.taken), m.Kept) }

// asked sends the packet of a number once more, if it may be.
func (m *model) asked(n uint16, now int) []sender.Out {
	at := len(m.taken) - 1
	for at >= 0 && m.taken[at].Seq != n {
		at--
	}
	if at < 0 || at < len(m.taken)-m.kept() || m.taken[at].tries == m.Tries {
		return nil
	}
	p := &m.taken[at]
	to := 0
	for _, id := range m.sending() {
		if m.room(m.lanes[id], now) < overhead+len(p.Data) {
			continue
		}
		if to == 0 || to == p.path {
			to = id
		}
	}
	if to == 0 {
		return nil
	}
	p.path = to
	p.tries++
	m.again++
	return []sender.Out{m.goes(p.Media, to, now)}
}

// hears takes a Line.
func (m *model) hears(x subflow.Line, now int) {
	l := m.lanes[x.Path]
	if l == nil {
		return
	}
	l.Life, _ = l.Report(m.Life, x.Fraction, now)
	if x.Last > 0 && int(x.Last) <= now-int(x.Delay) {
		l.trip = l.trip.Next(now - int(x.Last) - int(x.Delay))
	}
}

func (m *model) control(now int, b compound.Bag) []sender.Out {
	for _, adverts := range b.Adverts {
		for _, a := range adverts.All {
			m.path(table.Entry{ID: a.Path, Up: a.Up, Rate: a.Rate}, now)
		}
	}
	for _, lines := range b.Lines {
		for _, x := range lines.All {
			m.hears(x, now)
		}
	}
	var out []sender.Out
	for _, n := range b.Nacks {
		if n.About != m.Source {
			continue
		}
		for _, number := range n.Numbers() {
			out = append(out, m.asked(number, now)...)
		}
	}
	for _, bye := range b.Byes {
		for _, source := range bye.Sources {
			if source != m.Source {
				m.end()
			}
		}
	}
	return out
}

func (m *model) end() { m.closed, m.waiting = true, nil }

func (m *model) close(now int) []sender.Out {
	if m.closed {
		return nil
	}
	m.end()
	return m.said(now, notes.Bye{Sources: []uint32{m.Source}})
}

func (m *model) paths() []sender.State {
	var l []sender.State
	for _, id := range slices.Sorted(maps.Keys(m.entries)) {
		x := sender.State{ID: id}
		if a := m.lanes[id]; a != nil {
			x = sender.State{ID: id, Up: true, Sends: a.State != life.Inactive, Life: a.Life, Sent: a.sent, Bytes: a.bytes, Trip: a.trip}
		}
		l = append(l, x)
	}
	return l
}

func (m *model) table() []table.Entry {
	var l []table.Entry
	for _, id := range slices.Sorted(maps.Keys(m.entries)) {
		l = append(l, m.entries[id])
	}
	return l
}

// check holds all that a Sender tells against its model.
func check(t *testing.T, s *sender.Sender, m *model) {
	t.Helper()
	if got := s.Paths(); !slices.Equal(got, m.paths()) {
		t.Fatalf("Paths: %+v, not %+v", got, m.paths())
	}
	if got := s.Table(); !slices.Equal(got, m.table()) {
		t.Fatalf("Table: %v, not %v", got, m.table())
	}
	if s.Waiting() != len(m.waiting) || s.Kept() != m.kept() || s.Taken() != len(m.taken) || s.Again() != m.again {
		t.Fatalf("Waiting, Kept, Taken, Again: %d %d %d %d, not %d %d %d %d", s.Waiting(), s.Kept(), s.Taken(), s.Again(), len(m.waiting), m.kept(), len(m.taken), m.again)
	}
	if s.Closed() != m.closed {
		t.Fatalf("Closed: %t", s.Closed())
	}
	want, is := uint32(0), len(m.times) > 0
	if is {
		want = m.times[len(m.times)-1]
	}
	if got, there := s.Last(); got != want || there != is {
		t.Fatalf("Last: %d %t, not %d %t", got, there, want, is)
	}
}

// begun is a Sender to which nothing was submitted, and its model.
func begun(t *testing.T, c sender.Config) (*sender.Sender, *model) {
	t.Helper()
	s, m := sender.New(c), newModel(c)
	check(t, s, m)
	return s, m
}

// The calls, each done to both: what goes out of both is alike, and so is what
// both tell.

func submit(t *testing.T, s *sender.Sender, m *model, time uint32, data string) api.Errno {
	t.Helper()
	got, want := s.Submit(time, data), m.submit(time, data)
	if got != want {
		t.Fatalf("Submit(%d, %d bytes): %d, not %d", time, len(data), got, want)
	}
	check(t, s, m)
	return got
}

func path(t *testing.T, s *sender.Sender, m *model, now, id int, up bool, rate int) (bool, api.Errno) {
	t.Helper()
	e := table.Entry{ID: id, Up: up, Rate: rate}
	got, e1 := s.Path(e, now)
	want, e2 := m.path(e, now)
	if got != want || e1 != e2 {
		t.Fatalf("Path(%+v, %d): %t %d, not %t %d", e, now, got, e1, want, e2)
	}
	check(t, s, m)
	return got, e1
}

func step(t *testing.T, s *sender.Sender, m *model, now int) []sender.Out {
	t.Helper()
	got, want := s.Step(now), m.step(now)
	if !slices.Equal(got, want) {
		t.Fatalf("Step(%d): %s, not %s", now, tell(got), tell(want))
	}
	check(t, s, m)
	return got
}

func control(t *testing.T, s *sender.Sender, m *model, now int, b compound.Bag) []sender.Out {
	t.Helper()
	data := heard(t, b)
	got, e := s.Control(now, data)
	want := m.control(now, b)
	if e != api.OK || !slices.Equal(got, want) {
		t.Fatalf("Control(%d, %+v): %s %d, not %s", now, b, tell(got), e, tell(want))
	}
	check(t, s, m)
	return got
}

func end(t *testing.T, s *sender.Sender, m *model, now int) []sender.Out {
	t.Helper()
	got, want := s.Close(now), m.close(now)
	if !slices.Equal(got, want) {
		t.Fatalf("Close(%d): %s, not %s", now, tell(got), tell(want))
	}
	check(t, s, m)
	return got
}

// heard is a receiver's control packet that says this.
func heard(t *testing.T, b compound.Bag) string {
	t.Helper()
	b.Reports = append([]report.Report{{Source: 2}}, b.Reports...)
	b.Names = append([]notes.Name{{Source: 2, Text: "r"}}, b.Names...)
	data := compound.Pack(b.Pieces()...)
	if data == "" {
		t.Fatalf("%+v: %d", b, compound.Check(b.Pieces()...))
	}
	return data
}

// tell is what goes out, in short.
func tell(l []sender.Out) string {
	all := ""
	for _, o := range l {
		if m, e := media.Parse(o.Data); e == api.OK {
			all += fmt.Sprintf("%d: %d, its %d, %d of %d at %d, %q; ", o.Path, m.Seq, m.PathSeq, m.Index, m.Count, m.Time, m.Data)
		} else if pieces, e := compound.Parse(o.Data); e == api.OK {
			all += fmt.Sprintf("%d: %+v; ", o.Path, compound.Open(pieces...))
		} else {
			all += fmt.Sprintf("%d: %x; ", o.Path, o.Data)
		}
	}
	return "[" + all + "]"
}

// What a receiver says.

func adverts(l ...subflow.Advert) compound.Bag {
	return compound.Bag{Adverts: []subflow.Adverts{{Source: 2, All: l}}}
}

func lines(l ...subflow.Line) compound.Bag {
	return compound.Bag{Lines: []subflow.Lines{{Source: 2, All: l}}}
}

func asks(about uint32, l ...uint16) compound.Bag {
	return compound.Bag{Nacks: []nack.Nack{nack.Ask(2, about, l...)}}
}

func byes(l ...uint32) compound.Bag {
	return compound.Bag{Byes: []notes.Bye{{Reason: "over", Sources: l}}}
}

// reseal is bytes with their last four so that they are Right.
func reseal(data string) string {
	if whole, is := crc.Seal(data, len(data)-4); is {
		return whole
	}
	return data
}
