package report_test

import (
	"encoding/binary"
	"fmt"
	"math"
	"math/rand"
	"reflect"
	"slices"
	"strings"
	"testing"

	"cordelle/api"
	"cordelle/piece"
	"cordelle/report"
)

// The document's numbers, as it says them.
const (
	clock     = 1099511627776
	leastLost = -8388608
	mostLost  = 8388607
)

// bodyOf lays a report's Body out number by number, as the document tells it.
func bodyOf(r report.Report) string {
	b := binary.BigEndian.AppendUint32(nil, r.Source)
	if r.IsSender {
		b = binary.BigEndian.AppendUint64(b, uint64(r.Clock))
		for _, n := range []uint32{r.Time, r.Packets, r.Bytes} {
			b = binary.BigEndian.AppendUint32(b, n)
		}
	}
	for _, x := range r.Blocks {
		b = binary.BigEndian.AppendUint32(b, x.Source)
		lost := x.Lost
		if lost < 0 {
			lost += 16777216
		}
		b = append(b, byte(x.Fraction), byte(lost/65536), byte(lost/256%256), byte(lost%256))
		for _, n := range []uint32{x.Highest, x.Jitter, x.Last, x.Delay} {
			b = binary.BigEndian.AppendUint32(b, n)
		}
	}
	return string(b)
}

// pieceOf is a report's piece, as the document tells it.
func pieceOf(r report.Report) piece.Piece {
	kind := 201
	if r.IsSender {
		kind = 200
	}
	return piece.Piece{Count: len(r.Blocks), Kind: kind, Body: bodyOf(r)}
}

type change = func(*report.Report)

// receivers makes a receiver's report, changed by each of these.
func receivers(changes ...change) report.Report {
	r := report.Report{Source: 0xf1f2f3f4}
	for _, change := range changes {
		change(&r)
	}
	return r
}

// senders makes a sender's.
func senders(changes ...change) report.Report {
	sent := report.Sent{Clock: 1<<32 + 5, Time: 0x01020304, Packets: 0x11121314, Bytes: 0x21222324}
	isOne := func(r *report.Report) { r.IsSender, r.Sent = true, sent }
	return receivers(slices.Concat([]change{isOne}, changes)...)
}

// block makes a Block, whose numbers aren't alike.
func block() report.Block {
	return report.Block{Source: 0x31323334, Fraction: 128, Lost: 0x414243, Highest: 0x51525354, Jitter: 0x61626364, Last: 0x71727374, Delay: 0x81828384}
}

func blocks(l ...report.Block) change { return func(r *report.Report) { r.Blocks = l } }
func source(n uint32) change          { return func(r *report.Report) { r.Source = n } }
func sent(s report.Sent) change       { return func(r *report.Report) { r.Sent = s } }
func at(n int) change                 { return func(r *report.Report) { r.Clock = n } }

// some gives a report so many Blocks.
func some(n int) change {
	return func(r *report.Report) {
		for i := range n {
			b := block()
			b.Source, b.Lost = uint32(i), -i
			r.Blocks = append(r.Blocks, b)
		}
	}
}

// with gives a report a Block among others, changed.
func with(change func(b *report.Block)) change {
	b := block()
	change(&b)
	return blocks(block(), b, block())
}

func fraction(n int) change { return with(func(b *report.Block) { b.Fraction = n }) }
func lost(n int) change     { return with(func(b *report.Block) { b.Lost = n }) }

// may are reports that may be: the ordinary, and the document's edges.
func may() []report.Report {
	const most = math.MaxUint32
	l := []report.Report{
		{},
		{Source: 1},
		{IsSender: true},
		receivers(source(most)),
		senders(source(0)),
		senders(source(most)),
		senders(sent(report.Sent{})),
		senders(sent(report.Sent{Clock: clock, Time: most, Packets: most, Bytes: most})),
		senders(sent(report.Sent{Time: most})),
		senders(sent(report.Sent{Packets: most})),
		senders(sent(report.Sent{Bytes: most})),
	}
	for _, n := range []int{0, 1, math.MaxInt32, math.MaxUint32, 1 << 32, clock - 1, clock} {
		l = append(l, senders(at(n)))
	}
	for _, of := range []func(...change) report.Report{senders, receivers} {
		for _, n := range []int{0, 1, 2, 30, 31} {
			l = append(l, of(some(n)))
		}
		for _, n := range []int{0, 1, 127, 128, 254, 255} {
			l = append(l, of(fraction(n)))
		}
		for _, n := range []int{leastLost, leastLost + 1, -65536, -256, -2, -1, 0, 1, 255, 256, 65536, mostLost - 1, mostLost} {
			l = append(l, of(lost(n)))
		}
		l = append(l,
			of(blocks()),
			of(blocks(report.Block{})),
			of(blocks(block(), block())),
			of(with(func(b *report.Block) { b.Source = most })),
			of(with(func(b *report.Block) { b.Highest = most })),
			of(with(func(b *report.Block) { b.Jitter = most })),
			of(with(func(b *report.Block) { b.Last = most })),
			of(with(func(b *report.Block) { b.Delay = most })),
			of(with(func(b *report.Block) { *b = report.Block{} })),
			of(blocks(report.Block{Source: most, Fraction: 255, Lost: mostLost, Highest: most, Jitter: most, Last: most, Delay: most})),
		)
	}
	r := rand.New(rand.NewSource(9))
	for range 200 {
		l = append(l, anyReport(r))
	}
	return l
}

func anyReport(r *rand.Rand) report.Report {
	x := report.Report{Source: r.Uint32(), IsSender: r.Intn(2) == 0}
	if x.IsSender {
		x.Sent = report.Sent{Clock: r.Intn(clock + 1), Time: r.Uint32(), Packets: r.Uint32(), Bytes: r.Uint32()}
	}
	for range r.Intn(32) {
		x.Blocks = append(x.Blocks, report.Block{Source: r.Uint32(), Fraction: r.Intn(256), Lost: r.Intn(1<<24) - 1<<23, Highest: r.Uint32(), Jitter: r.Uint32(), Last: r.Uint32(), Delay: r.Uint32()})
	}
	return x
}

// mayNot are reports that may not be, by what is wrong with them.
func mayNot() map[string]report.Report {
	l := map[string]report.Report{
		"Clock -1":             senders(at(-1)),
		"Clock beyond 2^40":    senders(at(clock + 1)),
		"Clock 2^41":           senders(at(2 * clock)),
		"the least Clock":      senders(at(math.MinInt)),
		"the greatest Clock":   senders(at(math.MaxInt)),
		"a receiver's Clock":   receivers(at(1)),
		"a receiver's last":    receivers(at(clock)),
		"a receiver's none":    receivers(at(-1)),
		"a receiver's Time":    receivers(sent(report.Sent{Time: 1})),
		"a receiver's Packets": receivers(sent(report.Sent{Packets: 1})),
		"a receiver's Bytes":   receivers(sent(report.Sent{Bytes: 1})),
		"a receiver's Sent":    receivers(sent(senders().Sent), some(3)),
	}
	for whose, of := range map[string]func(...change) report.Report{"sender": senders, "receiver": receivers} {
		for _, n := range []int{32, 33, 64, 1000} {
			l[fmt.Sprintf("a %s's %d Blocks", whose, n)] = of(some(n))
		}
		for _, n := range []int{-1, 256, 257, -256, 65536, math.MinInt, math.MaxInt} {
			l[fmt.Sprintf("a %s's Fraction %d", whose, n)] = of(fraction(n))
		}
		for _, n := range []int{leastLost - 1, mostLost + 1, 1 << 24, -1 << 24, 1<<24 - 1, math.MinInt, math.MaxInt} {
			l[fmt.Sprintf("a %s's Lost %d", whose, n)] = of(lost(n))
		}
		b := block()
		b.Lost = mostLost + 1
		l["a "+whose+"'s first Block"] = of(blocks(b, block(), block()))
		l["a "+whose+"'s last Block"] = of(blocks(block(), block(), b))
		l["a "+whose+"'s one Block"] = of(blocks(b))
	}
	return l
}

// same tells whether two reports are alike; a nil list is the same as none.
func same(r, s report.Report) bool {
	if !slices.Equal(r.Blocks, s.Blocks) {
		return false
	}
	r.Blocks, s.Blocks = nil, nil
	return reflect.DeepEqual(r, s)
}

// short tells a report or a piece, cut.
func short(of any) string { return fmt.Sprintf("%.300s", fmt.Sprintf("%+v", of)) }

// refused: Of tells this error, beside a zero report.
func refused(t *testing.T, name string, p piece.Piece, want api.Errno) {
	t.Helper()
	if r, e := report.Of(p); e != want || !reflect.DeepEqual(r, report.Report{}) {
		t.Errorf("%s: Count %d, Kind %d, %.100x: %d, not %d: %s", name, p.Count, p.Kind, p.Body, e, want, short(r))
	}
}

// read: Of answers this report.
func read(t *testing.T, p piece.Piece, want report.Report) {
	t.Helper()
	if r, e := report.Of(p); e != api.OK || !same(r, want) {
		t.Errorf("Count %d, Kind %d, %.100x: %d, %s, not %s", p.Count, p.Kind, p.Body, e, short(r), short(want))
	}
}

func TestP81Check(t *testing.T) {
	for _, r := range may() {
		if r.Check() != api.OK {
			t.Errorf("%s: %d", short(r), r.Check())
		}
	}
	for name, r := range mayNot() {
		if r.Check() != api.ErrArg {
			t.Errorf("%s: %d", name, r.Check())
		}
	}
}

func TestP81PieceOfSuchAsMayBe(t *testing.T) {
	for _, r := range may() {
		if p := r.Piece(); p != pieceOf(r) || p.Check() != api.OK {
			t.Errorf("%s: %s, %d", short(r), short(p), p.Check())
		}
	}
}

func TestP81PieceOfSuchAsMayNotBe(t *testing.T) {
	for name, r := range mayNot() {
		if p := r.Piece(); p != (piece.Piece{}) {
			t.Errorf("%s: %s", name, short(p))
		}
	}
}

// TestP81PieceInFull: reports' pieces, each written out.
func TestP81PieceInFull(t *testing.T) {
	said := "\x00\x00\x00\x01\x00\x00\x00\x05\x01\x02\x03\x04\x11\x12\x13\x14\x21\x22\x23\x24"
	told := "\x31\x32\x33\x34\x80\x41\x42\x43\x51\x52\x53\x54\x61\x62\x63\x64\x71\x72\x73\x74\x81\x82\x83\x84"
	below := block()
	below.Lost = -2
	least := block()
	least.Lost, least.Fraction = leastLost, 255
	for _, x := range []struct {
		r    report.Report
		want piece.Piece
	}{
		{report.Report{}, piece.Piece{Kind: 201, Body: "\x00\x00\x00\x00"}},
		{report.Report{Source: 1}, piece.Piece{Kind: 201, Body: "\x00\x00\x00\x01"}},
		{report.Report{IsSender: true}, piece.Piece{Kind: 200, Body: strings.Repeat("\x00", 24)}},
		{senders(), piece.Piece{Kind: 200, Body: "\xf1\xf2\xf3\xf4" + said}},
		{senders(at(clock)), piece.Piece{Kind: 200, Body: "\xf1\xf2\xf3\xf4\x00\x00\x01\x00\x00\x00\x00\x00" + said[8:]}},
		{receivers(blocks(block())), piece.Piece{Count: 1, Kind: 201, Body: "\xf1\xf2\xf3\xf4" + told}},
		{senders(blocks(block())), piece.Piece{Count: 1, Kind: 200, Body: "\xf1\xf2\xf3\xf4" + said + told}},
		{receivers(blocks(block(), below, least)), piece.Piece{Count: 3, Kind: 201, Body: "\xf1\xf2\xf3\xf4" + told + told[:5] + "\xff\xff\xfe" + told[8:] + told[:4] + "\xff\x80\x00\x00" + told[8:]}},
	} {
		if p := x.r.Piece(); p != x.want {
			t.Errorf("%s: %s, not %s", short(x.r), short(p), short(x.want))
		}
	}
	if s := piece.Pack(report.Report{Source: 1}.Piece()); s != "\x80\xc9\x00\x01\x00\x00\x00\x01" {
		t.Errorf("%x", s)
	}
}

// TestP81CallsLeaveTheirLists: neither Blocks nor their spare room are changed.
func TestP81CallsLeaveTheirLists(t *testing.T) {
	whole := []report.Block{block(), {Source: 5, Lost: -1}, {Source: 6}, {Source: 7}}
	was := slices.Clone(whole)
	r := senders(blocks(whole[:2]...))
	r.Check()
	r.Piece()
	r.About(5)
	r.Age(5)
	if !slices.Equal(whole, was) || len(r.Blocks) != 2 {
		t.Errorf("the list is now %v", whole)
	}
}

// TestP81AnswersAreNew: what is done with one answer no other one shows.
func TestP81AnswersAreNew(t *testing.T) {
	p := senders(some(4)).Piece()
	one, _ := report.Of(p)
	other, _ := report.Of(p)
	one.Blocks[0] = report.Block{}
	_ = append(one.Blocks[:1], report.Block{})
	one.Clock = 0
	if !same(other, senders(some(4))) || p != senders(some(4)).Piece() {
		t.Errorf("%s", short(other))
	}
}

// TestP81OfEachKind: another Kind is told ahead of all.
func TestP81OfEachKind(t *testing.T) {
	for kind := -10; kind < 600; kind++ {
		p := pieceOf(senders(blocks(block())))
		p.Kind = kind
		switch kind {
		case 200:
			read(t, p, senders(blocks(block())))
		case 201:
			refused(t, "bytes of what a sender says", p, api.ErrForm)
		default:
			refused(t, "another Kind", p, api.ErrKind)
			refused(t, "and no bytes", piece.Piece{Kind: kind}, api.ErrKind)
			refused(t, "and bytes left", piece.Piece{Kind: kind, Body: p.Body}, api.ErrKind)
		}
	}
	for _, kind := range []int{math.MinInt, math.MaxInt, 200 - 256, 201 + 1<<32} {
		refused(t, "another Kind", piece.Piece{Kind: kind, Body: "abcd"}, api.ErrKind)
	}
}

// TestP81OfACountBelow0: that counts as 0.
func TestP81OfACountBelow0(t *testing.T) {
	for _, n := range []int{-1, -2, -31, -32, math.MinInt + 1, math.MinInt} {
		for _, r := range []report.Report{receivers(), senders()} {
			p := pieceOf(r)
			p.Count = n
			read(t, p, r)
			p.Body += "more"
			refused(t, "bytes left", p, api.ErrForm)
			p.Body = p.Body[:3]
			refused(t, "bytes wanting", p, api.ErrEnd)
		}
		p := pieceOf(receivers(some(1)))
		p.Count = n
		refused(t, "a Block left", p, api.ErrForm)
	}
}

// TestP81OfACountThatDoesNotFit: with more, bytes are wanting, with fewer, some
// are left.
func TestP81OfACountThatDoesNotFit(t *testing.T) {
	for _, n := range []int{0, 1, 2, 30, 31, 32, 40} {
		for _, r := range []report.Report{receivers(some(n)), senders(some(n))} {
			p := pieceOf(r)
			for _, more := range []int{n + 1, n + 2, n + 32, 1000, math.MaxInt - 1, math.MaxInt} {
				p.Count = more
				refused(t, "a greater Count", p, api.ErrEnd)
			}
			for less := range n {
				p.Count = less
				refused(t, "a smaller Count", p, api.ErrForm)
			}
		}
	}
}

// TestP81OfOtherLengths: each Body that is cut short, and some that are too
// long.
func TestP81OfOtherLengths(t *testing.T) {
	for _, r := range []report.Report{receivers(), senders(), receivers(some(1)), senders(some(2)), receivers(some(31)), senders(some(31)), senders(some(32))} {
		p := pieceOf(r)
		whole := p.Body
		for n := range len(whole) {
			p.Body = whole[:n]
			refused(t, "cut short", p, api.ErrEnd)
		}
		for _, more := range []int{1, 2, 3, 4, 5, 24, 48, 1000} {
			p.Body = whole + strings.Repeat("\x00", more)
			refused(t, "too long", p, api.ErrForm)
		}
	}
}

// TestP81OfSuchAsMayNotBe: the bytes are all there, and say what may not be.
func TestP81OfSuchAsMayNotBe(t *testing.T) {
	for _, n := range []int{32, 33, 100, 256} {
		refused(t, "too many Blocks", pieceOf(receivers(some(n))), api.ErrArg)
		refused(t, "too many Blocks of a sender", pieceOf(senders(some(n))), api.ErrArg)
	}
	for _, n := range []int{clock + 1, 2 * clock, 1 << 48, math.MaxInt, math.MinInt, math.MinInt + 5, -1, -clock} {
		for _, r := range []report.Report{senders(at(n)), senders(at(n), some(3))} {
			p := pieceOf(r)
			refused(t, "another Clock", p, api.ErrArg)
			p.Body += "\x00"
			refused(t, "and a byte left", p, api.ErrForm)
			p.Body = p.Body[:len(p.Body)-2]
			refused(t, "and a byte wanting", p, api.ErrEnd)
		}
	}
}

func TestP81About(t *testing.T) {
	first, second := block(), block()
	second.Lost = 5
	other, zero := report.Block{Source: 7, Fraction: 300, Lost: math.MinInt}, report.Block{Highest: 9}
	for _, x := range []struct {
		l      []report.Block
		source uint32
		want   report.Block
		is     bool
	}{
		{nil, 0, report.Block{}, false},
		{nil, first.Source, report.Block{}, false},
		{[]report.Block{first}, first.Source, first, true},
		{[]report.Block{first}, 0, report.Block{}, false},
		{[]report.Block{first}, first.Source + 1, report.Block{}, false},
		{[]report.Block{first, second}, first.Source, first, true},
		{[]report.Block{second, first}, first.Source, second, true},
		{[]report.Block{other, second, first}, first.Source, second, true},
		{[]report.Block{other, second, first}, 7, other, true},
		{[]report.Block{first, second, other}, 7, other, true},
		{[]report.Block{first, other, second}, 8, report.Block{}, false},
		{[]report.Block{first, zero}, 0, zero, true},
		{[]report.Block{first, {Source: math.MaxUint32}}, math.MaxUint32, report.Block{Source: math.MaxUint32}, true},
	} {
		for _, r := range []report.Report{receivers(blocks(x.l...)), senders(blocks(x.l...)), receivers(source(x.source), blocks(x.l...))} {
			if b, is := r.About(x.source); b != x.want || is != x.is {
				t.Errorf("of %d, in %s: %v, %v", x.source, short(r), b, is)
			}
		}
	}
	many := receivers(some(1000))
	if b, is := many.About(999); !is || b.Lost != -999 {
		t.Errorf("of the last of many: %v, %v", b, is)
	}
}

func TestP81Age(t *testing.T) {
	for _, x := range []struct{ clock, now, want int }{
		{0, 0, 0},
		{0, 1, 1},
		{5, 9, 4},
		{5, 5, 0},
		{5, 4, 0},
		{5, 0, 0},
		{5, -1, 0},
		{5, math.MinInt, 0},
		{0, -1, 0},
		{1<<32 + 5, 1<<32 + 9, 4},
		{1<<32 + 5, 9, 0},
		{0, clock, clock},
		{0, clock + 1, clock},
		{0, math.MaxInt, clock},
		{1, clock + 1, clock - 1},
		{clock - 1, clock, 1},
		{clock - 1, clock + 9, 1},
		{clock, clock, 0},
		{clock, clock + 1, 0},
		{clock, clock - 1, 0},
		{clock, math.MaxInt, 0},
		{clock + 1, clock, 0},
		{clock + 1, clock + 9, 0},
		{clock + 1, 5, 0},
		{math.MaxInt, math.MaxInt, 0},
		{math.MaxInt, math.MinInt, 0},
		{-1, 0, 0},
		{-1, 3, 3},
		{-9, -5, 0},
		{-9, -9, 0},
		{-5, -9, 0},
		{-9, clock + 5, clock},
		{math.MinInt, math.MaxInt, clock},
		{math.MinInt, 7, 7},
		{math.MinInt, math.MinInt, 0},
		{math.MinInt, -1, 0},
	} {
		s := report.Sent{Clock: x.clock, Time: 77, Packets: 88, Bytes: 99}
		if got := s.Age(x.now); got != x.want {
			t.Errorf("from %d to %d: %d, not %d", x.clock, x.now, got, x.want)
		}
		if got := senders(sent(s)).Age(x.now); got != x.want {
			t.Errorf("from %d to %d, by promotion: %d, not %d", x.clock, x.now, got, x.want)
		}
	}
}

func TestP82ThereAndBack(t *testing.T) {
	for _, r := range may() {
		read(t, r.Piece(), r)
	}
}

// TestP82ThereAndBackAsBytes: layer 7 leaves a report as it is.
func TestP82ThereAndBackAsBytes(t *testing.T) {
	for _, r := range may() {
		l, e := piece.Split(piece.Pack(r.Piece()))
		if e != api.OK || len(l) != 1 {
			t.Fatalf("%s: %d, %v", short(r), e, l)
		}
		read(t, l[0], r)
	}
}

// TestP82AtMostOneReport: reports that aren't alike have other pieces.
func TestP82AtMostOneReport(t *testing.T) {
	seen := map[piece.Piece]report.Report{}
	for _, r := range may() {
		p := r.Piece()
		if s, ok := seen[p]; ok && !same(r, s) {
			t.Errorf("%s and %s: both %s", short(r), short(s), short(p))
		}
		seen[p] = r
	}
}

// TestP82OneWayOfAnyPiece: pieces with each byte others, cut, and drawn out:
// what is read is a report that may be, and its piece is just that one.
func TestP82OneWayOfAnyPiece(t *testing.T) {
	r := rand.New(rand.NewSource(10))
	taken := 0
	for range 100 {
		p := anyReport(r).Piece()
		for n := range len(p.Body) {
			for _, other := range []byte{0, p.Body[n] ^ 1, p.Body[n] ^ 0x80, byte(r.Uint32())} {
				taken += oneWay(t, piece.Piece{Count: p.Count, Kind: p.Kind, Body: p.Body[:n] + string([]byte{other}) + p.Body[n+1:]})
			}
			taken += oneWay(t, piece.Piece{Count: r.Intn(40), Kind: 200 + r.Intn(2), Body: p.Body[:n]})
			taken += oneWay(t, piece.Piece{Count: n / 24, Kind: 200 + r.Intn(2), Body: p.Body[:n]})
		}
		b := make([]byte, 4*r.Intn(40))
		r.Read(b)
		taken += oneWay(t, piece.Piece{Count: r.Intn(8), Kind: 199 + r.Intn(4), Body: string(b)})
	}
	if taken == 0 {
		t.Error("no pieces were taken")
	}
}

// oneWay: a piece that is read is just that of the report that it says. It
// answers how many pieces were read: one or none.
func oneWay(t *testing.T, p piece.Piece) int {
	t.Helper()
	r, e := report.Of(p)
	if e != api.OK {
		refused(t, "any piece", p, e)
		return 0
	}
	if r.Check() != api.OK || r.Piece() != p {
		t.Fatalf("%s: %s, of %s", short(p), short(r), short(r.Piece()))
	}
	return 1
}
