package nack_test

import (
	"encoding/binary"
	"fmt"
	"math"
	"math/rand"
	"reflect"
	"slices"
	"strings"
	"testing"

	"cordelle/api"
	"cordelle/nack"
	"cordelle/piece"
	"cordelle/serial"
)

// bodyOf lays a Nack's Body out number by number, as the document tells it.
func bodyOf(n nack.Nack) string {
	b := binary.BigEndian.AppendUint32(nil, n.From)
	b = binary.BigEndian.AppendUint32(b, n.About)
	for _, p := range n.Pairs {
		b = binary.BigEndian.AppendUint16(b, p.PID)
		b = binary.BigEndian.AppendUint16(b, p.BLP)
	}
	return string(b)
}

// pieceOf is a Nack's piece, as the document tells it.
func pieceOf(n nack.Nack) piece.Piece { return piece.Piece{Count: 1, Kind: 205, Body: bodyOf(n)} }

// numbersOf names a Pair's numbers, going round as numbers that don't.
func numbersOf(p nack.Pair) []uint16 {
	l := []uint16{p.PID}
	for i := range 16 {
		if int(p.BLP)/(1<<i)%2 == 1 {
			l = append(l, uint16((int(p.PID)+1+i)%65536))
		}
	}
	return l
}

// pairsOf makes Pairs step by step, as the document tells it.
func pairsOf(l ...uint16) []nack.Pair {
	var pairs []nack.Pair
	left := serial.Distinct(l...)
	for len(left) > 0 {
		pair, others := nack.Pair{PID: left[0]}, []uint16{}
		for _, n := range left[1:] {
			if behind := serial.Diff(left[0], n); behind >= 1 && behind <= 16 {
				pair.BLP += 1 << (behind - 1)
			} else {
				others = append(others, n)
			}
		}
		pairs, left = append(pairs, pair), others
	}
	return pairs
}

// somePairs answers so many Pairs, whose numbers aren't alike.
func somePairs(n int) []nack.Pair {
	var l []nack.Pair
	for i := range n {
		l = append(l, nack.Pair{PID: 0xfff0 + uint16(i)*257, BLP: uint16(i) * 0x0103})
	}
	return l
}

// some is a Nack with so many Pairs.
func some(n int) nack.Nack {
	return nack.Nack{From: 0x01020304, About: 0xf1f2f3f4, Pairs: somePairs(n)}
}

// same tells whether two are alike; a nil list is the same as none.
func same(m, n nack.Nack) bool {
	return m.From == n.From && m.About == n.About && slices.Equal(m.Pairs, n.Pairs)
}

// short tells what is handed in, cut.
func short(of any) string { return fmt.Sprintf("%.200s", fmt.Sprintf("%+v", of)) }

// refused: Of tells this error, beside a zero Nack.
func refused(t *testing.T, why string, p piece.Piece, want api.Errno) {
	t.Helper()
	if n, e := nack.Of(p); e != want || !reflect.ValueOf(n).IsZero() {
		t.Errorf("%s: Count %d, Kind %d, %d bytes: %d, not %d: %s", why, p.Count, p.Kind, len(p.Body), e, want, short(n))
	}
}

// read: Of answers this Nack.
func read(t *testing.T, p piece.Piece, want nack.Nack) {
	t.Helper()
	if n, e := nack.Of(p); e != api.OK || !same(n, want) {
		t.Errorf("%s: %d, %s, not %s", short(p), e, short(n), short(want))
	}
}

func TestP101NumbersOfAPair(t *testing.T) {
	for _, x := range []struct {
		p    nack.Pair
		want []uint16
	}{
		{nack.Pair{}, []uint16{0}},
		{nack.Pair{PID: 7}, []uint16{7}},
		{nack.Pair{PID: 65535}, []uint16{65535}},
		{nack.Pair{PID: 5, BLP: 0x8002}, []uint16{5, 7, 21}},
		{nack.Pair{PID: 5, BLP: 1}, []uint16{5, 6}},
		{nack.Pair{PID: 5, BLP: 0x8000}, []uint16{5, 21}},
		{nack.Pair{PID: 65535, BLP: 1}, []uint16{65535, 0}},
		{nack.Pair{PID: 65534, BLP: 0x8003}, []uint16{65534, 65535, 0, 14}},
		{nack.Pair{PID: 65519, BLP: 0x8000}, []uint16{65519, 65535}},
		{nack.Pair{PID: 65520, BLP: 0x8000}, []uint16{65520, 0}},
		{nack.Pair{PID: 0, BLP: 65535}, []uint16{0, 1, 2, 3, 4, 5, 6, 7, 8, 9, 10, 11, 12, 13, 14, 15, 16}},
		{nack.Pair{PID: 65530, BLP: 65535}, []uint16{65530, 65531, 65532, 65533, 65534, 65535, 0, 1, 2, 3, 4, 5, 6, 7, 8, 9, 10}},
	} {
		if got := x.p.Numbers(); !slices.Equal(got, x.want) {
			t.Errorf("%+v: %v, not %v", x.p, got, x.want)
		}
	}
}

// TestP101EachBit: alone, with all others, and in each mix of them.
func TestP101EachBit(t *testing.T) {
	for _, pid := range []uint16{0, 1, 32760, 32768, 65519, 65520, 65527, 65534, 65535} {
		for i := range uint16(16) {
			if got := (nack.Pair{PID: pid, BLP: 1 << i}).Numbers(); !slices.Equal(got, []uint16{pid, pid + 1 + i}) {
				t.Errorf("%d, bit %d: %v", pid, i, got)
			}
		}
		for blp := range 65536 {
			p := nack.Pair{PID: pid, BLP: uint16(blp)}
			if got := p.Numbers(); !slices.Equal(got, numbersOf(p)) {
				t.Fatalf("%+v: %v", p, got)
			}
		}
	}
}

func TestP101Pairs(t *testing.T) {
	type pairs = []nack.Pair
	for _, x := range []struct {
		l    []uint16
		want pairs
	}{
		{nil, nil},
		{[]uint16{}, nil},
		{[]uint16{0}, pairs{{PID: 0}}},
		{[]uint16{7}, pairs{{PID: 7}}},
		{[]uint16{65535}, pairs{{PID: 65535}}},
		{[]uint16{7, 7, 7}, pairs{{PID: 7}}},
		{[]uint16{5, 7, 21, 22}, pairs{{PID: 5, BLP: 0x8002}, {PID: 22}}},
		{[]uint16{22, 21, 7, 5}, pairs{{PID: 22}, {PID: 21}, {PID: 7}, {PID: 5}}},
		{[]uint16{5, 22, 7, 21}, pairs{{PID: 5, BLP: 0x8002}, {PID: 22}}},
		{[]uint16{7, 5, 21, 22}, pairs{{PID: 7, BLP: 0x6000}, {PID: 5}}},
		{[]uint16{7, 5, 21, 22, 24}, pairs{{PID: 7, BLP: 0x6000}, {PID: 5}, {PID: 24}}},
		{[]uint16{5, 5, 6, 5, 6, 6}, pairs{{PID: 5, BLP: 1}}},
		{[]uint16{6, 5, 6, 5}, pairs{{PID: 6}, {PID: 5}}},
		{[]uint16{65535, 0}, pairs{{PID: 65535, BLP: 1}}},
		{[]uint16{0, 65535}, pairs{{PID: 0}, {PID: 65535}}},
		{[]uint16{65534, 0, 14, 15, 65534}, pairs{{PID: 65534, BLP: 0x8002}, {PID: 15}}},
		{[]uint16{65535, 15, 16}, pairs{{PID: 65535, BLP: 0x8000}, {PID: 16}}},
		{[]uint16{1, 32769, 32768, 32770}, pairs{{PID: 1}, {PID: 32769, BLP: 1}, {PID: 32768}}},
		{[]uint16{0, 16, 32, 48}, pairs{{PID: 0, BLP: 0x8000}, {PID: 32, BLP: 0x8000}}},
		{[]uint16{0, 17, 34}, pairs{{PID: 0}, {PID: 17}, {PID: 34}}},
		{serial.Span(100, 116), pairs{{PID: 100, BLP: 65535}}},
		{serial.Span(100, 117), pairs{{PID: 100, BLP: 65535}, {PID: 117}}},
		{serial.Span(65530, 11), pairs{{PID: 65530, BLP: 65535}, {PID: 11}}},
	} {
		if got := nack.Pairs(x.l...); !slices.Equal(got, x.want) {
			t.Errorf("%v: %+v, not %+v", x.l, got, x.want)
		}
	}
}

// TestP101PairsOfTwo: how far one is behind the other.
func TestP101PairsOfTwo(t *testing.T) {
	for _, first := range []uint16{0, 1, 40000, 65518, 65519, 65520, 65534, 65535} {
		for behind := range 65536 {
			other := first + uint16(behind)
			want := []nack.Pair{{PID: first}, {PID: other}}
			switch {
			case behind == 0:
				want = want[:1]
			case behind <= 16:
				want = []nack.Pair{{PID: first, BLP: 1 << (behind - 1)}}
			}
			if got := nack.Pairs(first, other); !slices.Equal(got, want) {
				t.Fatalf("%d, %d: %+v, not %+v", first, other, got, want)
			}
		}
	}
}

// TestP101PairsOfEachBit: all mixes of numbers behind one, in an order of
// chance.
func TestP101PairsOfEachBit(t *testing.T) {
	r := rand.New(rand.NewSource(12))
	for blp := range 65536 {
		p := nack.Pair{PID: 65528, BLP: uint16(blp)}
		l := numbersOf(p)
		r.Shuffle(len(l)-1, func(i, j int) { l[1+i], l[1+j] = l[1+j], l[1+i] })
		if got := nack.Pairs(l...); !slices.Equal(got, []nack.Pair{p}) {
			t.Fatalf("%v: %+v", l, got)
		}
	}
}

// manyNumbers are lists of numbers in whatever order, some twice.
func manyNumbers() [][]uint16 {
	r := rand.New(rand.NewSource(13))
	var lists [][]uint16
	for i := range 3000 {
		width := []int{3, 18, 40, 100, 1000, 65536}[i%6]
		from := []int{0, 65535, 65500, r.Intn(65536)}[r.Intn(4)]
		var l []uint16
		for range r.Intn(60) {
			l = append(l, uint16(from+r.Intn(width)))
		}
		lists = append(lists, l)
	}
	return lists
}

func TestP101PairsOfAny(t *testing.T) {
	for _, l := range manyNumbers() {
		if got, want := nack.Pairs(l...), pairsOf(l...); !slices.Equal(got, want) {
			t.Fatalf("%v: %+v, not %+v", l, got, want)
		}
	}
}

func TestP101NumbersOfANack(t *testing.T) {
	for _, x := range []struct {
		l    []nack.Pair
		want []uint16
	}{
		{nil, nil},
		{[]nack.Pair{}, nil},
		{[]nack.Pair{{}}, []uint16{0}},
		{[]nack.Pair{{PID: 5, BLP: 0x8002}, {PID: 22}}, []uint16{5, 7, 21, 22}},
		{[]nack.Pair{{PID: 22}, {PID: 5, BLP: 0x8002}}, []uint16{22, 5, 7, 21}},
		{[]nack.Pair{{PID: 5}, {PID: 5}}, []uint16{5}},
		{[]nack.Pair{{PID: 5, BLP: 3}, {PID: 5, BLP: 5}}, []uint16{5, 6, 7, 8}},
		{[]nack.Pair{{PID: 5, BLP: 5}, {PID: 5, BLP: 3}}, []uint16{5, 6, 8, 7}},
		{[]nack.Pair{{PID: 6, BLP: 1}, {PID: 5, BLP: 3}, {PID: 7}}, []uint16{6, 7, 5}},
		{[]nack.Pair{{PID: 65535, BLP: 3}, {PID: 0}, {PID: 1, BLP: 1}}, []uint16{65535, 0, 1, 2}},
		{[]nack.Pair{{PID: 65535, BLP: 65535}, {PID: 1, BLP: 65535}}, append([]uint16{65535}, serial.Span(0, 17)...)},
	} {
		if got := (nack.Nack{From: 7, About: 8, Pairs: x.l}).Numbers(); !slices.Equal(got, x.want) {
			t.Errorf("%+v: %v, not %v", x.l, got, x.want)
		}
	}
	// More Pairs than a piece may have are gone through as well.
	var all []uint16
	for _, p := range somePairs(1000) {
		all = append(all, numbersOf(p)...)
	}
	if got := some(1000).Numbers(); !slices.Equal(got, serial.Distinct(all...)) {
		t.Errorf("of 1000 Pairs %d numbers", len(got))
	}
}

// TestP101PieceInFull: pieces, each written out.
func TestP101PieceInFull(t *testing.T) {
	for _, x := range []struct {
		n    nack.Nack
		body string
	}{
		{nack.Nack{Pairs: []nack.Pair{{}}}, strings.Repeat("\x00", 12)},
		{nack.Nack{From: 1, About: 2, Pairs: []nack.Pair{{PID: 5, BLP: 0x8002}}}, "\x00\x00\x00\x01\x00\x00\x00\x02\x00\x05\x80\x02"},
		{nack.Nack{From: 0x01020304, About: math.MaxUint32, Pairs: []nack.Pair{{PID: 65535, BLP: 1}, {PID: 0x0102, BLP: 0xf1f2}}}, "\x01\x02\x03\x04\xff\xff\xff\xff\xff\xff\x00\x01\x01\x02\xf1\xf2"},
		{nack.Nack{From: 1, Pairs: []nack.Pair{{PID: 5}, {PID: 5}, {PID: 5, BLP: 1}}}, "\x00\x00\x00\x01\x00\x00\x00\x00\x00\x05\x00\x00\x00\x05\x00\x00\x00\x05\x00\x01"},
	} {
		if p := x.n.Piece(); p != (piece.Piece{Count: 1, Kind: 205, Body: x.body}) {
			t.Errorf("%s: %s", short(x.n), short(p))
		}
	}
	if s := piece.Pack(nack.Ask(1, 2, 5, 7, 21).Piece()); s != "\x81\xcd\x00\x03\x00\x00\x00\x01\x00\x00\x00\x02\x00\x05\x80\x02" {
		t.Errorf("%x", s)
	}
}

// TestP101PieceOfSoManyPairs: at least one, at most 300.
func TestP101PieceOfSoManyPairs(t *testing.T) {
	for n := range 400 {
		want := piece.Piece{}
		if n >= 1 && n <= 300 {
			want = pieceOf(some(n))
		}
		if p := some(n).Piece(); p != want {
			t.Errorf("%d Pairs: %s, not %s", n, short(p), short(want))
		}
	}
	if p := (nack.Nack{From: 1, About: 2, Pairs: []nack.Pair{}}).Piece(); p != (piece.Piece{}) {
		t.Errorf("no Pairs: %s", short(p))
	}
	if p := some(70000).Piece(); p != (piece.Piece{}) {
		t.Errorf("70000 Pairs: %s", short(p))
	}
}

// TestP101OfEachKindAndCount: another one is told ahead of all.
func TestP101OfEachKindAndCount(t *testing.T) {
	numbers := []int{math.MinInt, math.MaxInt, 1<<32 + 1, 1<<32 + 205}
	for n := -300; n < 600; n++ {
		numbers = append(numbers, n)
	}
	right := pieceOf(some(2))
	for _, n := range numbers {
		kind, count := right, right
		kind.Kind, count.Count = n, n
		for was, p := range map[int]piece.Piece{205: kind, 1: count} {
			if n == was {
				read(t, p, some(2))
				continue
			}
			refused(t, "right but for it", p, api.ErrKind)
			for _, size := range []int{0, 8, 11, 13, 1212} {
				p.Body = strings.Repeat("a", size)
				refused(t, "and another length", p, api.ErrKind)
			}
		}
	}
	refused(t, "a zero one", piece.Piece{}, api.ErrKind)
}

// TestP101OfEachLength: with less than 12 bytes some are wanting; that is told
// ahead of a length that is no multiple of 4.
func TestP101OfEachLength(t *testing.T) {
	whole := bodyOf(some(400))
	for size := range len(whole) {
		p := piece.Piece{Count: 1, Kind: 205, Body: whole[:size]}
		switch {
		case size < 12:
			refused(t, "bytes wanting", p, api.ErrEnd)
		case size%4 != 0:
			refused(t, "no multiple of 4", p, api.ErrForm)
		case size > 8+4*300:
			refused(t, "more than 300 Pairs", p, api.ErrForm)
		default:
			read(t, p, some(size/4-2))
		}
	}
	for _, size := range []int{4 * 65535, 4 * 65536, 1 << 20} {
		refused(t, "far more", piece.Piece{Count: 1, Kind: 205, Body: strings.Repeat("a", size)}, api.ErrForm)
	}
}

func TestP101Ask(t *testing.T) {
	for _, l := range append(manyNumbers()[:300], nil, []uint16{}, []uint16{0}, []uint16{65535, 0, 65535}) {
		want := nack.Nack{From: 5, About: math.MaxUint32, Pairs: pairsOf(l...)}
		if n := nack.Ask(5, math.MaxUint32, l...); !same(n, want) {
			t.Errorf("%v: %s, not %s", l, short(n), short(want))
		}
	}
	if n := nack.Ask(1, 2); !same(n, nack.Nack{From: 1, About: 2}) || n.Piece() != (piece.Piece{}) {
		t.Errorf("for none: %s", short(n))
	}
}

// TestP101AskForSoMany: 300 Pairs make a piece, one more doesn't.
func TestP101AskForSoMany(t *testing.T) {
	var l []uint16
	for i := range 300 {
		l = append(l, uint16(i*17))
	}
	n := nack.Ask(1, 2, l...)
	if p := n.Piece(); p != pieceOf(n) || len(p.Body) != 8+4*300 {
		t.Errorf("300 Pairs: %s", short(p))
	}
	if n = nack.Ask(1, 2, append(l, 300*17)...); len(n.Pairs) != 301 || n.Piece() != (piece.Piece{}) {
		t.Errorf("301 Pairs: %s", short(n))
	}
}

// TestP101CallsLeaveTheirLists: neither a list nor its spare room is changed.
func TestP101CallsLeaveTheirLists(t *testing.T) {
	numbers, pairs := []uint16{5, 5, 22, 7, 1}, somePairs(4)
	nack.Pairs(numbers[:3]...)
	nack.Ask(1, 2, numbers[:3]...)
	n := nack.Nack{Pairs: pairs[:2]}
	n.Numbers()
	n.Piece()
	if !slices.Equal(numbers, []uint16{5, 5, 22, 7, 1}) || !slices.Equal(pairs, somePairs(4)) || len(n.Pairs) != 2 {
		t.Errorf("the lists are now %v, %v", numbers, pairs)
	}
}

// TestP101AnswersAreNew: what is done with one answer no other one shows.
func TestP101AnswersAreNew(t *testing.T) {
	pairs, numbers := []nack.Pair{{PID: 5, BLP: 2}, {PID: 90}}, []uint16{5, 7, 90}
	n := nack.Nack{Pairs: pairs}
	n.Numbers()[0] = 77
	pairs[0].Numbers()[0] = 77
	nack.Pairs(numbers...)[0] = nack.Pair{}
	nack.Ask(0, 0, numbers...).Pairs[0] = nack.Pair{}
	one, _ := nack.Of(n.Piece())
	one.Pairs[0] = nack.Pair{}
	_ = append(one.Pairs[:1], nack.Pair{})
	two, _ := nack.Of(n.Piece())
	if !slices.Equal(two.Pairs, pairs) || !slices.Equal(n.Numbers(), numbers) || !slices.Equal(nack.Pairs(numbers...), pairs) || !slices.Equal(nack.Ask(0, 0, numbers...).Pairs, pairs) {
		t.Errorf("%s, of %v", short(two), n.Numbers())
	}
}

// TestP102PairsNameTheSame: just the numbers that they were made of, each by one
// Pair only.
func TestP102PairsNameTheSame(t *testing.T) {
	for _, l := range manyNumbers() {
		sameNumbers(t, l)
	}
}

// TestP102PairsOfAllNumbers: up and down, once round, and by steps.
func TestP102PairsOfAllNumbers(t *testing.T) {
	for _, from := range []uint16{0, 1, 32768, 65535} {
		all := serial.Span(from, from-1)
		sameNumbers(t, all)
		if n := len(nack.Pairs(all...)); n != 65536/17+1 {
			t.Errorf("up from %d: %d Pairs", from, n)
		}
		slices.Reverse(all)
		sameNumbers(t, all)
		if n := len(nack.Pairs(all...)); n != 65536-16 {
			t.Errorf("down to %d: %d Pairs", from, n)
		}
		for _, step := range []uint16{3, 15, 17, 255, 32767} {
			for i := range all {
				all[i] = from + uint16(i)*step
			}
			sameNumbers(t, all)
		}
	}
}

// sameNumbers: Pairs of numbers, and a Nack that asks for them, name just these.
func sameNumbers(t *testing.T, l []uint16) {
	t.Helper()
	want := serial.Distinct(l...)
	slices.Sort(want)
	var got []uint16
	for _, p := range nack.Pairs(l...) {
		got = append(got, p.Numbers()...)
	}
	slices.Sort(got)
	asked := nack.Ask(1, 2, l...).Numbers()
	slices.Sort(asked)
	if !slices.Equal(got, want) || !slices.Equal(asked, want) {
		t.Fatalf("%s: %s, and %s are asked for", short(want), short(got), short(asked))
	}
}

func TestP103ThereAndBack(t *testing.T) {
	for n := 1; n <= 300; n++ {
		thereAndBack(t, some(n))
		thereAndBack(t, nack.Nack{From: math.MaxUint32, Pairs: slices.Repeat([]nack.Pair{{PID: uint16(n), BLP: 65535}}, n)})
	}
	for _, l := range manyNumbers() {
		if len(l) > 0 {
			thereAndBack(t, nack.Ask(uint32(l[0]), 7, l...))
		}
	}
	thereAndBack(t, nack.Nack{Pairs: []nack.Pair{{}}})
}

// thereAndBack: a Nack is read from its piece, and from that which layer 7 makes
// of its bytes.
func thereAndBack(t *testing.T, n nack.Nack) {
	t.Helper()
	p := n.Piece()
	l, e := piece.Split(piece.Pack(p))
	if e != api.OK || !slices.Equal(l, []piece.Piece{p}) {
		t.Fatalf("%s: %d, %s", short(n), e, short(l))
	}
	read(t, p, n)
}

// TestP103OneWayOfAnyPiece: what is read makes just the piece that it was read
// from.
func TestP103OneWayOfAnyPiece(t *testing.T) {
	r := rand.New(rand.NewSource(14))
	taken := 0
	for range 20000 {
		b := make([]byte, r.Intn(60))
		r.Read(b)
		p := piece.Piece{Count: r.Intn(3), Kind: 204 + r.Intn(3), Body: string(b)}
		n, e := nack.Of(p)
		if e != api.OK {
			refused(t, "any piece", p, e)
			continue
		}
		taken++
		if n.Piece() != p || pieceOf(n) != p {
			t.Fatalf("%s: %s, of %s", short(p), short(n.Piece()), short(n))
		}
	}
	if taken == 0 {
		t.Error("no pieces were taken")
	}
}
