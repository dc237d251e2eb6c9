package receiver

import (
	"cordelle/gauge"
	"cordelle/loss"
	"cordelle/source"
	"cordelle/subflow"
)

// flow is what came on a path: of how many bytes, and what a report told of it
// last.
type flow struct {
	source.Source
	gauge.Jitter
	told  loss.Tally
	bytes int
}

// came tells whether any did: no datagram is without bytes.
func (f *flow) came() bool { return f.bytes > 0 }

// take takes a datagram of so many bytes, of the number that it has there.
func (f *flow) take(n uint16, bytes int) {
	if !f.came() {
		f.Source = source.New(n)
	}
	f.Source, _ = f.Update(n)
	f.bytes += bytes
}

// line answers what a report tells of a path now.
func (f *flow) line(path int) subflow.Line {
	// A zero Source isn't one of which nothing is expected.
	if !f.came() {
		return subflow.Line{Path: path}
	}
	l := subflow.Line{Path: path, Highest: uint32(f.Highest()), Jitter: uint32(f.Value()), Bytes: uint32(f.bytes)}
	f.told, l.Fraction, l.Lost = f.told.Next(f.Source)
	return l
}

// flow answers what is told of a path.
func (f *flow) flow(path int) Flow {
	return Flow{
		ID:       path,
		Highest:  f.Highest(),
		Expected: f.Expected(),
		Received: f.Received,
		Bytes:    f.bytes,
		Jitter:   f.Value(),
	}
}

// heard is which of the sender's reports came last on a path, and when, if any
// did.
type heard struct {
	is    bool
	clock uint32
	at    int
}

// ago answers which one came, and how long ago.
func (h heard) ago(now int) (uint32, uint32) {
	if !h.is {
		return 0, 0
	}
	return h.clock, uint32(now - h.at)
}
