package script_test

import (
	"fmt"
	"strconv"
	"strings"
	"testing"

	"cordelle/api"
	"cordelle/audit"
	"cordelle/buffer"
	"cordelle/compound"
	"cordelle/gaps"
	"cordelle/life"
	"cordelle/line"
	"cordelle/media"
	"cordelle/nack"
	"cordelle/net"
	"cordelle/notes"
	"cordelle/receiver"
	"cordelle/report"
	"cordelle/script"
	"cordelle/sender"
	"cordelle/session"
	"cordelle/subflow"
	"cordelle/table"
)

// model is a Script by the document's sentences: a session, and its T.
type model struct {
	*session.Session
	tries int
}

// newModel is a session of these six numbers.
func newModel(z, q, k, t, l, m int) *model {
	return &model{session.New(session.Config{
		Sender: sender.Config{
			Source: 1, Name: "s", Size: z, Frame: 1000, Queue: q, Kept: k, Tries: t, Burst: 1000, Every: 20, Paths: 4,
			Life: life.Config{Timeout: 60, Low: 10, High: 120, Strikes: 3},
		},
		Receiver: receiver.Config{
			Source: 2, About: 1, Name: "r", Buffer: buffer.Config{Frames: 20, Packets: 200, Bytes: 20000},
			Gaps: gaps.Config{Most: 50, Tries: 3, First: 1, Again: 5}, Least: l, Most: m, Every: 20, Paths: 4,
		},
		Net: net.Config{Most: 100, Bytes: 100000},
	}), t}
}

// firstModel is that of a new Script.
func firstModel() *model { return newModel(20, 50, 20, 2, 3, 30) }

// lists are parts as the chapter's Lists.
func lists(l []string) string {
	if len(l) == 0 {
		return "none"
	}
	return strings.Join(l, "; ")
}

// frames are some as Lists.
func frames(l []buffer.Frame) string {
	var parts []string
	for _, f := range l {
		s := fmt.Sprintf("%d %d %x", f.Time, len(f.Data), f.Data)
		if f.Data == "" {
			s += "-"
		}
		parts = append(parts, s)
	}
	return lists(parts)
}

// code is ok, or the Code of an error.
func code(e api.Errno) string {
	if e == 0 {
		return "ok"
	}
	return fmt.Sprintf("code %d", int(e))
}

// can is ok, or no.
func can(is bool) string { return map[bool]string{true: "ok", false: "no"}[is] }

// line is what a line is answered.
func (m *model) line(text string) string {
	x, e := line.Parse(text)
	if e != 0 {
		return code(e)
	}
	if answer, is := m.asked(x); is {
		return answer
	}
	n := append(x.N, 0, 0, 0)
	switch x.Word {
	case "session":
		*m = *newModel(n[0], n[1], n[2], n[3], n[4], n[5])
	case "submit":
		return code(m.Submit(uint32(n[0]), x.S[0]))
	case "path":
		_, e := m.Path(table.Entry{ID: n[0], Up: n[1] > 0, Rate: n[2]})
		return code(e)
	case "tick":
		l, e := m.Tick(n[0])
		if e != 0 {
			return code(e)
		}
		return frames(l)
	case "deliver":
		return code(m.Deliver(n[0], n[1], n[2]))
	case "all":
		return strconv.Itoa(m.All(n[0], n[1]))
	case "lose":
		return can(m.Lose(n[0], n[1], n[2]))
	case "twin":
		return can(m.Twin(n[0], n[1], n[2]))
	case "turn":
		return can(m.Turn(n[0], n[1], n[2], n[3], uint32(n[4])))
	case "forge":
		return can(m.Forge(n[0], n[1], x.S[0]))
	case "close":
		m.Close()
	}
	return "ok"
}

// asked is what a line that only asks is answered.
func (m *model) asked(x line.Step) (string, bool) {
	from, to := m.Sender(), m.Receiver()
	var parts []string
	switch x.Word {
	case "clock":
		return fmt.Sprint(m.Now()), true
	case "paths":
		for _, p := range from.Paths() {
			bits := map[bool]int{true: 1}
			parts = append(parts, fmt.Sprint(p.ID, bits[p.Up], bits[p.Sends], p.Life.State, p.Sent))
		}
	case "flows":
		for _, f := range to.Flows() {
			parts = append(parts, fmt.Sprint(f.ID, f.Highest, f.Expected, f.Received))
		}
	case "played":
		return frames(m.Played()), true
	case "counts":
		c := to.Counts()
		return fmt.Sprint(from.Waiting(), from.Kept(), from.Taken(), from.Again(), c.Media, c.Bad, c.Foreign, c.Late, c.Twice, len(to.Wanting()), to.Delay()), true
	case "audit":
		for _, f := range audit.Of(m.Session, m.tries).Check() {
			parts = append(parts, fmt.Sprint(f.Kind, f.Number))
		}
	case "net":
		return fmt.Sprint(len(m.Net().All(x.N[0], x.N[1]))), true
	default:
		return "", false
	}
	return lists(parts), true
}

// underWay is all that is under way.
func underWay(n *net.Net) string {
	var b strings.Builder
	fmt.Fprintln(&b, n.Counts())
	for way := range 2 {
		for _, path := range n.Paths(way) {
			fmt.Fprintf(&b, "%d %d %q\n", way, path, n.All(way, path))
		}
	}
	return b.String()
}

// asks are lines that only ask.
var asks = func() []string {
	l := []string{"clock", "paths", "flows", "played", "counts", "audit"}
	for path := range 17 {
		l = append(l, fmt.Sprintf("net there %d", path), fmt.Sprintf("net back %d", path))
	}
	return l
}()

// check holds all that lines ask, and all that is under way, against the model.
func check(t *testing.T, s *script.Script, m *model) {
	t.Helper()
	for _, ask := range asks {
		if got, want := s.Line(ask), m.line(ask); got != want {
			t.Fatalf("%s: %q, not %q", ask, got, want)
		}
	}
	if got, want := underWay(s.Net()), underWay(m.Net()); got != want {
		t.Fatalf("under way are\n%s\nnot\n%s", got, want)
	}
}

// does holds a line's answer against the model's.
func does(t *testing.T, s *script.Script, m *model, text string) string {
	t.Helper()
	got, want := s.Line(text), m.line(text)
	if got != want {
		t.Fatalf("%.90s: %q, not %q", text, got, want)
	}
	return got
}

// brings holds lines' answers of a new Script against those that stand behind them,
// with " | " between.
func brings(t *testing.T, rows ...string) {
	t.Helper()
	var lines, want []string
	for _, row := range strings.Split(strings.Join(rows, "\n"), "\n") {
		if text, answer, is := strings.Cut(strings.TrimSpace(row), " | "); is {
			lines, want = append(lines, text), append(want, answer)
		}
	}
	got := script.Run(lines...)
	if len(got) != len(want) || len(want) == 0 {
		t.Fatalf("%d answers, not %d", len(got), len(want))
	}
	for i := range want {
		if got[i] != want[i] {
			t.Errorf("%d, %.90s: %.900q, not %.900q", i, lines[i], got[i], want[i])
		}
	}
}

// rows are one row many times.
func rows(n int, row string) string { return strings.Repeat(row+"\n", n) }

// known is that the sender has heard of path 1, of that rate: the clock is 1.
func known(rate int) string {
	return fmt.Sprintf("path 1 1 %d | ok\ntick 1 | none\nall back 1 | 1", rate)
}

// submits is a row of a frame of so many bytes.
func submits(time, bytes int, answer string) string {
	return fmt.Sprintf("submit %d %s | %s", time, written(strings.Repeat("a", bytes)), answer)
}

// comes is rows of a datagram that nobody sent, and that arrives where nothing else
// is under way.
func comes(way string, path int, data, answer string) string {
	return fmt.Sprintf("%s | ok\ndeliver %s %d 0 | %s", forges(way, path, data), way, path, answer)
}

// forges is a line of a datagram that nobody sent.
func forges(way string, path int, data string) string {
	return fmt.Sprintf("forge %s %d %s", way, path, written(data))
}

// written are bytes as a line has them.
func written(data string) string {
	if data == "" {
		return "-"
	}
	return fmt.Sprintf("%x", data)
}

// part is a datagram of media on path 1, of the source that the receiver is about.
func part(seq, time, index, count int, data string) string {
	return media.Media{Source: 1, Seq: uint16(seq), Time: uint32(time), Track: media.Track{Path: 1, PathSeq: uint16(seq)}, Part: media.Part{Index: index, Count: count}, Data: data}.Pack()
}

// says is a control packet that says this, beside a report and a name.
func says(b compound.Bag) string {
	if len(b.Reports) == 0 {
		b.Reports = []report.Report{{Source: 2}}
	}
	b.Names = []notes.Name{{Source: 2, Text: "somebody"}}
	return compound.Pack(b.Pieces()...)
}

// tells is a control packet by which of so many of 256 packets of path 1 is told that
// they were lost.
func tells(fraction int) string {
	return says(compound.Bag{Lines: []subflow.Lines{{Source: 2, All: []subflow.Line{{Path: 1, Fraction: fraction}}}}})
}

// wants is a control packet that asks for packets of a source once more.
func wants(about uint32, numbers ...uint16) string {
	return says(compound.Bag{Nacks: []nack.Nack{nack.Ask(2, about, numbers...)}})
}

// goes is a control packet by which a source goes.
func goes(source uint32) string {
	return says(compound.Bag{Byes: []notes.Bye{{Sources: []uint32{source}}}})
}
