package session_test

import (
	"fmt"
	"slices"
	"strings"
	"testing"

	"cordelle/api"
	"cordelle/buffer"
	"cordelle/net"
	"cordelle/receiver"
	"cordelle/rtp"
	"cordelle/sender"
	"cordelle/session"
	"cordelle/table"
)

// The document's bounds, as it says them.
const (
	mostPaths  = 15
	mostPacket = 1500
	mostTicks  = 1048576
	lastTick   = 1099511627776
)

// model is a Session by the document's sentences: both ends, and the paths between,
// each a thing of its own.
type model struct {
	from             *sender.Sender
	to               *receiver.Receiver
	net              *net.Net
	now              int
	played, accepted []buffer.Frame
}

func newModel(c session.Config) *model {
	return &model{from: sender.New(c.Sender), to: receiver.New(c.Receiver), net: net.New(c.Net)}
}

func (m *model) clone() *model {
	return &model{m.from.Clone(), m.to.Clone(), m.net.Clone(), m.now, slices.Clone(m.played), slices.Clone(m.accepted)}
}

func (m *model) submit(time uint32, data string) api.Errno {
	e := m.from.Submit(time, data)
	if e == api.OK {
		m.accepted = append(m.accepted, buffer.Frame{Time: time, Data: data})
	}
	return e
}

func (m *model) sent(l []sender.Out) {
	for _, o := range l {
		m.net.Send(0, o.Path, o.Data)
	}
}

func (m *model) tick(n int) ([]buffer.Frame, api.Errno) {
	if n < 0 || n > mostTicks || m.now+n > lastTick {
		return nil, api.ErrArg
	}
	var l []buffer.Frame
	for i := 0; i < n; i++ {
		m.now++
		m.sent(m.from.Step(m.now))
		out, played := m.to.Step(m.now)
		for _, o := range out {
			m.net.Send(1, o.Path, o.Data)
		}
		l = append(l, played...)
	}
	m.played = append(m.played, l...)
	return l, api.OK
}

func (m *model) deliver(way, path, i int) api.Errno {
	data, there := m.net.Take(way, path, i)
	if !there {
		return api.ErrNone
	}
	if way == 1 {
		out, e := m.from.Control(m.now, data)
		m.sent(out)
		return e
	}
	if rtp.IsControl(data) {
		return m.to.Control(path, m.now, data)
	}
	return m.to.Media(path, m.now, data)
}

func (m *model) all(way, path int) int {
	n := len(m.net.All(way, path))
	for i := 0; i < n; i++ {
		m.deliver(way, path, 0)
	}
	return n
}

// told is all that is told of both ends, and of the paths between.
func told(from *sender.Sender, to *receiver.Receiver, between *net.Net) string {
	var b strings.Builder
	last, begun := from.Last()
	fmt.Fprintln(&b, from.Paths(), from.Waiting(), from.Kept(), from.Closed(), from.Taken(), from.Again(), last, begun, from.Table())
	waits := to.Buffer()
	fmt.Fprintln(&b, to.Counts(), to.Flows(), to.Wanting(), to.Delay(), to.Gone(), to.Table())
	played, dropped, evicted := waits.Counts()
	fmt.Fprintln(&b, waits.Len(), waits.Packets(), waits.Bytes(), waits.Times(), waits.Horizon(), played, dropped, evicted)
	fmt.Fprintln(&b, between.Counts())
	for way := range 2 {
		for _, path := range between.Paths(way) {
			fmt.Fprintf(&b, "%d %d %q\n", way, path, between.All(way, path))
		}
	}
	return b.String()
}

// toldOf is all that is told of a Session.
func toldOf(s *session.Session) string {
	return fmt.Sprintln(s.Now(), s.Played(), s.Accepted()) + told(s.Sender(), s.Receiver(), s.Net())
}

// check holds all that a Session tells against the model.
func check(t *testing.T, s *session.Session, m *model) {
	t.Helper()
	if is, want := toldOf(s), fmt.Sprintln(m.now, m.played, m.accepted)+told(m.from, m.to, m.net); is != want {
		t.Fatalf("told is\n%s\nnot\n%s", is, want)
	}
	for way := -1; way < 3; way++ {
		for path := 0; path < 17; path++ {
			if s.Len(way, path) != m.net.Len(way, path) {
				t.Fatalf("%d on %d %d", s.Len(way, path), way, path)
			}
		}
	}
}

// submit, path, tick, deliver and so on are calls of both, whose answers are held
// against each other.
func submit(t *testing.T, s *session.Session, m *model, time uint32, data string) api.Errno {
	t.Helper()
	is, want := s.Submit(time, data), m.submit(time, data)
	if is != want {
		t.Fatalf("Submit %d: %d, not %d", time, is, want)
	}
	check(t, s, m)
	return is
}

func path(t *testing.T, s *session.Session, m *model, e table.Entry) (bool, api.Errno) {
	t.Helper()
	other, is := s.Path(e)
	if o, want := m.to.Path(e); o != other || is != want {
		t.Fatalf("Path %v: %v %d, not %v %d", e, other, is, o, want)
	}
	check(t, s, m)
	return other, is
}

func tick(t *testing.T, s *session.Session, m *model, n int) []buffer.Frame {
	t.Helper()
	l, is := s.Tick(n)
	if want, e := m.tick(n); !slices.Equal(l, want) || is != e {
		t.Fatalf("Tick %d: %v %d, not %v %d", n, l, is, want, e)
	}
	check(t, s, m)
	return l
}

func deliver(t *testing.T, s *session.Session, m *model, way, path, i int) api.Errno {
	t.Helper()
	is, want := s.Deliver(way, path, i), m.deliver(way, path, i)
	if is != want {
		t.Fatalf("Deliver %d %d %d: %d, not %d", way, path, i, is, want)
	}
	check(t, s, m)
	return is
}

func all(t *testing.T, s *session.Session, m *model, way, path int) int {
	t.Helper()
	is, want := s.All(way, path), m.all(way, path)
	if is != want {
		t.Fatalf("All %d %d: %d, not %d", way, path, is, want)
	}
	check(t, s, m)
	return is
}

func closes(t *testing.T, s *session.Session, m *model) {
	t.Helper()
	s.Close()
	m.sent(m.from.Close(m.now))
	check(t, s, m)
}

// same holds an answer of a call of the paths against the model's.
func same(t *testing.T, s *session.Session, m *model, is, want bool) bool {
	t.Helper()
	if is != want {
		t.Fatalf("%v, not %v", is, want)
	}
	check(t, s, m)
	return is
}

func lose(t *testing.T, s *session.Session, m *model, way, path, i int) bool {
	t.Helper()
	return same(t, s, m, s.Lose(way, path, i), m.net.Lose(way, path, i))
}

func twin(t *testing.T, s *session.Session, m *model, way, path, i int) bool {
	t.Helper()
	return same(t, s, m, s.Twin(way, path, i), m.net.Twin(way, path, i))
}

func turn(t *testing.T, s *session.Session, m *model, way, path, i, at int, mask uint32) bool {
	t.Helper()
	return same(t, s, m, s.Turn(way, path, i, at, mask), m.net.Turn(way, path, i, at, mask))
}

func forge(t *testing.T, s *session.Session, m *model, way, path int, data string) bool {
	t.Helper()
	return same(t, s, m, s.Forge(way, path, data), m.net.Forge(way, path, data))
}
