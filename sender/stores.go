package sender

import (
	"maps"
	"slices"

	"cordelle/gauge"
	"cordelle/history"
	"cordelle/life"
	"cordelle/media"
	"cordelle/pace"
	"cordelle/queue"
	"cordelle/share"
	"cordelle/subflow"
	"cordelle/table"
)

// mostBytes is of how many bytes packets may wait.
const mostBytes = 1 << 26

// packet is a part of a frame that waits, or is kept: which Track it has is told
// only as it goes out.
type packet struct{ media.Media }

// Size answers how many bytes it has as it goes out.
func (p packet) Size() int { return media.Overhead + len(p.Data) }

// route is a path that is Up: how it is, and how many packets went out there, of
// how many bytes.
type route struct {
	life.Life
	pace.Pace
	gauge.Trip
	sent, bytes int
}

// stores is which paths there are, who carries how much, what waits, and what was
// sent. There is a route for each path that is Up. What is kept can be sent once
// more only with what its header says, which the History doesn't hold: so the
// packets stand beside it, by their numbers there.
type stores struct {
	*table.Table
	*share.Share
	*queue.Queue[packet]
	*history.History
	routes map[int]*route
	kept   map[int]packet
	taken  int
}

// newStores answers stores in which there is nothing.
func newStores(c Config) *stores {
	return &stores{
		Table:   table.New(c.Paths),
		Share:   share.New(),
		Queue:   queue.New[packet](c.Queue, mostBytes),
		History: history.New(c.Kept, c.Tries),
		routes:  map[int]*route{},
		kept:    map[int]packet{},
	}
}

// clone answers other stores like these.
func (in *stores) clone() *stores {
	other := &stores{
		Table:   in.Table.Clone(),
		Share:   in.Share.Clone(),
		Queue:   in.Queue.Clone(),
		History: in.History.Clone(),
		routes:  map[int]*route{},
		kept:    maps.Clone(in.kept),
		taken:   in.taken,
	}
	for path, r := range in.routes {
		same := *r
		other.routes[path] = &same
	}
	return other
}

// follow makes the route of a path be as its entry, which is another one than
// ahead, says.
func (in *stores) follow(e table.Entry, burst, now int) {
	r, was := in.routes[e.ID]
	switch {
	case !e.Up:
		delete(in.routes, e.ID)
	case was:
		r.Pace = r.Change(now, e.Rate)
	default:
		in.routes[e.ID] = &route{Life: life.New(now), Pace: pace.New(e.Rate, burst, now)}
	}
}

// tick tells all lives what tick it is.
func (in *stores) tick(c life.Config, now int) {
	for _, r := range in.routes {
		r.Life, _ = r.Tick(c, now)
	}
}

// hear takes what is said of paths.
func (in *stores) hear(c life.Config, now int, lines []subflow.Line) {
	for _, l := range lines {
		r, there := in.routes[l.Path]
		if !there {
			continue
		}
		r.Life, _ = r.Report(c, l.Fraction, now)
		if trip := now - int(l.Delay) - int(l.Last); l.Last != 0 && trip >= 0 {
			r.Trip = r.Next(trip)
		}
	}
}

// sending answers the paths that send, rising.
func (in *stores) sending() []int {
	var paths []int
	for path, r := range in.routes {
		if r.Sends() {
			paths = append(paths, path)
		}
	}
	slices.Sort(paths)
	return paths
}

// weights answers the weights of the paths that send.
func (in *stores) weights() []share.Weight {
	var l []share.Weight
	for _, path := range in.sending() {
		r := in.routes[path]
		l = append(l, share.Weight{Path: path, Weight: r.Weight(r.Rate)})
	}
	return l
}

// able answers the paths that send, and whose pace has so many bytes, rising.
func (in *stores) able(now, bytes int) []int {
	return slices.DeleteFunc(in.sending(), func(path int) bool {
		_, has := in.routes[path].Take(now, bytes)
		return !has
	})
}

// take takes the first packet that waits from the queue: it is kept.
func (in *stores) take(path int) {
	p, _ := in.Pop()
	in.Put(in.taken, path, p.Data)
	in.kept[in.taken] = p
	in.taken++
}

// again answers the packet of a number that is asked for, and the path on which
// it is to be sent once more, if it may be.
func (in *stores) again(number uint16, now int) (packet, int, bool) {
	at := in.latest(number)
	sent, is := in.History.Get(at)
	if !is {
		return packet{}, 0, false
	}
	p := in.kept[at]
	path, is := elsewhere(in.able(now, p.Size()), sent.Path)
	if !is {
		return packet{}, 0, false
	}
	_, may := in.Again(at, path)
	return p, path, may
}

// latest answers how many packets were taken ahead of the greatest one that has
// that number (below 0: none has).
func (in *stores) latest(number uint16) int {
	last := in.taken - 1
	return last - int(uint16(last)-number)
}

// elsewhere answers the first path that isn't the last one, else that, if it is
// among them.
func elsewhere(able []int, last int) (int, bool) {
	for _, path := range able {
		if path != last {
			return path, true
		}
	}
	return last, len(able) > 0
}

// carry makes a packet go out on a path, and answers its bytes.
func (in *stores) carry(p packet, path, now int) string {
	r := in.routes[path]
	p.Track = p.On(path, uint16(r.sent))
	r.Pace, _ = r.Take(now, p.Size())
	in.Carry(path, p.Size())
	r.sent++
	r.bytes += p.Size()
	return p.Pack()
}

// state answers how a path is.
func (in *stores) state(path int) State {
	r, up := in.routes[path]
	if !up {
		return State{ID: path}
	}
	return State{ID: path, Up: true, Sends: r.Sends(), Life: r.Life, Sent: r.sent, Bytes: r.bytes, Trip: r.Trip}
}

// forgetGone forgets the packets that the History doesn't keep any more. Those
// that it keeps are the last ones that were taken.
func (in *stores) forgetGone() {
	for in.History.Len() < len(in.kept) {
		delete(in.kept, in.taken-len(in.kept))
	}
}
