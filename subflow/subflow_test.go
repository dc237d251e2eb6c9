package subflow_test

import (
	"encoding/binary"
	"fmt"
	"math"
	"math/rand"
	"reflect"
	"slices"
	"strings"
	"testing"

	"cordelle/api"
	"cordelle/piece"
	"cordelle/subflow"
)

// The document's numbers, as it says them.
const (
	leastLost = -8388608
	mostLost  = 8388607
	most      = math.MaxUint32
)

// linesPiece lays Lines' piece out number by number, as the document tells it.
func linesPiece(l subflow.Lines) piece.Piece {
	b := binary.BigEndian.AppendUint32(nil, l.Source)
	for _, x := range l.All {
		lost := x.Lost
		if lost < 0 {
			lost += 16777216
		}
		b = append(b, byte(x.Path), byte(x.Fraction), 0, 0, byte(lost/65536), byte(lost/256%256), byte(lost%256), 0)
		for _, n := range []uint32{x.Highest, x.Jitter, x.Bytes, x.Last, x.Delay} {
			b = binary.BigEndian.AppendUint32(b, n)
		}
	}
	return piece.Piece{Count: 1, Kind: 211, Body: string(b)}
}

// advertsPiece lays Adverts' piece out.
func advertsPiece(a subflow.Adverts) piece.Piece {
	b := binary.BigEndian.AppendUint32(nil, a.Source)
	for _, x := range a.All {
		there := byte(0)
		if x.Up {
			there = 1
		}
		b = append(b, byte(x.Path), there, byte(x.Rate/256), byte(x.Rate%256))
	}
	return piece.Piece{Count: 2, Kind: 211, Body: string(b)}
}

// line is one of a path, whose numbers aren't alike.
func line(path int) subflow.Line {
	return subflow.Line{Path: path, Fraction: 16*path + 1, Lost: 0x112233 - path, Highest: 0x21222324, Jitter: 0x31323334, Bytes: 0x41424344, Last: 0x51525354, Delay: 0xf1f2f3f4 - uint32(path)}
}

// advert is one of a path; each other one is there.
func advert(path int) subflow.Advert {
	return subflow.Advert{Path: path, Up: path%2 == 1, Rate: 0x0102 * path}
}

// lines are those of these paths.
func lines(paths ...int) subflow.Lines {
	l := subflow.Lines{Source: 0x01020304}
	for _, path := range paths {
		l.All = append(l.All, line(path))
	}
	return l
}

// adverts are those of these paths.
func adverts(paths ...int) subflow.Adverts {
	a := subflow.Adverts{Source: 0xf1f2f3f4}
	for _, path := range paths {
		a.All = append(a.All, advert(path))
	}
	return a
}

// upTo answers 1 to n.
func upTo(n int) []int {
	var l []int
	for i := range n {
		l = append(l, i+1)
	}
	return l
}

// withLine puts a changed Line at each place among others.
func withLine(change func(*subflow.Line)) []subflow.Lines {
	var all []subflow.Lines
	for at, paths := range [][]int{{7, 8, 9}, {5, 7, 9}, {5, 6, 7}} {
		l := lines(paths...)
		change(&l.All[at])
		all = append(all, l)
	}
	alone := lines(7)
	change(&alone.All[0])
	return append(all, alone)
}

// withAdvert puts a changed Advert at each place among others.
func withAdvert(change func(*subflow.Advert)) []subflow.Adverts {
	var all []subflow.Adverts
	for at, paths := range [][]int{{7, 8, 9}, {5, 7, 9}, {5, 6, 7}} {
		a := adverts(paths...)
		change(&a.All[at])
		all = append(all, a)
	}
	alone := adverts(7)
	change(&alone.All[0])
	return append(all, alone)
}

// numbers are those of a Line that are any of 32 bits.
var numbers = []func(*subflow.Line) *uint32{
	func(l *subflow.Line) *uint32 { return &l.Highest },
	func(l *subflow.Line) *uint32 { return &l.Jitter },
	func(l *subflow.Line) *uint32 { return &l.Bytes },
	func(l *subflow.Line) *uint32 { return &l.Last },
	func(l *subflow.Line) *uint32 { return &l.Delay },
}

// pathsThatMayBe rise, each once.
func pathsThatMayBe() [][]int {
	l := [][]int{{15}, {1, 15}, {2, 9}, {14, 15}, {1, 3, 5, 7, 9, 11, 13, 15}, {2, 3, 5, 7, 11, 13}}
	for n := 1; n <= 15; n++ {
		l = append(l, upTo(n), upTo(15)[n-1:])
	}
	return l
}

// pathsThatMayNotBe fall, are there twice, or are none.
func pathsThatMayNotBe() [][]int {
	l := [][]int{
		{0}, {16}, {-1}, {17}, {257}, {-255}, {math.MinInt}, {math.MaxInt}, {1 << 32},
		{0, 1}, {15, 16}, {-1, 0, 1}, {1, 2, 16}, {1, 0}, {16, 1}, {1, 257}, {5, 5 + 256},
		{2, 1}, {15, 1}, {1, 3, 2}, {3, 1, 2}, {2, 3, 1}, {1, 2, 3, 15, 14},
		{1, 1}, {15, 15}, {1, 1, 2}, {1, 2, 2}, {1, 2, 1}, {5, 6, 7, 5},
		upTo(16), append(upTo(15), 15), append(upTo(15), 1), append([]int{1}, upTo(15)...), append([]int{0}, upTo(15)...),
		upTo(300),
	}
	down := upTo(15)
	slices.Reverse(down)
	return append(l, down)
}

// linesThatMayBe are ordinary ones, and the document's edges.
func linesThatMayBe() []subflow.Lines {
	l := []subflow.Lines{
		{All: []subflow.Line{{Path: 1}}},
		{Source: most, All: []subflow.Line{{Path: 15, Fraction: 255, Lost: mostLost, Highest: most, Jitter: most, Bytes: most, Last: most, Delay: most}}},
	}
	for _, paths := range pathsThatMayBe() {
		l = append(l, lines(paths...))
	}
	for _, n := range []int{0, 1, 2, 127, 128, 254, 255} {
		l = append(l, withLine(func(x *subflow.Line) { x.Fraction = n })...)
	}
	for _, n := range []int{leastLost, leastLost + 1, -65537, -65536, -256, -2, -1, 0, 1, 255, 256, 65535, 65536, mostLost - 1, mostLost} {
		l = append(l, withLine(func(x *subflow.Line) { x.Lost = n })...)
	}
	for _, of := range numbers {
		for _, n := range []uint32{0, 1, 255, 256, 1<<31 - 1, 1 << 31, most - 1, most} {
			l = append(l, withLine(func(x *subflow.Line) { *of(x) = n })...)
		}
	}
	return l
}

// linesThatMayNotBe: of one of them, or of how they stand, something is wrong.
func linesThatMayNotBe() []subflow.Lines {
	l := []subflow.Lines{{}, {Source: 1}, {Source: most, All: []subflow.Line{}}, {All: []subflow.Line{{}}}}
	for _, paths := range pathsThatMayNotBe() {
		l = append(l, lines(paths...))
	}
	for i := range l {
		for j := range l[i].All {
			// So just the paths are wrong.
			l[i].All[j].Fraction, l[i].All[j].Lost = 1, -1
		}
	}
	for _, n := range []int{-1, 256, 257, -255, 511, math.MinInt, math.MaxInt, 1 << 32} {
		l = append(l, withLine(func(x *subflow.Line) { x.Fraction = n })...)
	}
	for _, n := range []int{leastLost - 1, mostLost + 1, -1 << 24, 1 << 24, 1<<24 - 1, 1<<24 + 1, math.MinInt, math.MaxInt} {
		l = append(l, withLine(func(x *subflow.Line) { x.Lost = n })...)
	}
	return l
}

// advertsThatMayBe are ordinary ones, and the document's edges.
func advertsThatMayBe() []subflow.Adverts {
	l := []subflow.Adverts{
		{}, {Source: 1}, {Source: most, All: []subflow.Advert{}},
		{All: []subflow.Advert{{Path: 1}}},
		{Source: most, All: []subflow.Advert{{Path: 15, Up: true, Rate: 65535}}},
	}
	for _, paths := range pathsThatMayBe() {
		l = append(l, adverts(paths...))
	}
	for _, is := range []bool{false, true} {
		l = append(l, withAdvert(func(x *subflow.Advert) { x.Up = is })...)
		all := adverts(upTo(15)...)
		for i := range all.All {
			all.All[i].Up = is
		}
		l = append(l, all)
	}
	for _, n := range []int{0, 1, 255, 256, 300, 32767, 32768, 65534, 65535} {
		l = append(l, withAdvert(func(x *subflow.Advert) { x.Rate = n })...)
	}
	return l
}

// advertsThatMayNotBe: of one of them, or of how they stand, something is wrong.
func advertsThatMayNotBe() []subflow.Adverts {
	l := []subflow.Adverts{{All: []subflow.Advert{{}}}, {All: []subflow.Advert{{Up: true}}}}
	for _, paths := range pathsThatMayNotBe() {
		l = append(l, adverts(paths...))
	}
	for i := range l {
		for j := range l[i].All {
			// So just the paths are wrong.
			l[i].All[j].Rate = 5
		}
	}
	for _, n := range []int{-1, 65536, 65537, -65535, 131071, math.MinInt, math.MaxInt, 1 << 32} {
		l = append(l, withAdvert(func(x *subflow.Advert) { x.Rate = n })...)
	}
	return l
}

// short tells what is handed in, cut.
func short(of any) string { return fmt.Sprintf("%.200s", fmt.Sprintf("%+v", of)) }

// refused: the call of that Count tells ErrForm, the other one ErrKind, each
// beside zero.
func refused(t *testing.T, why string, p piece.Piece) {
	t.Helper()
	wanted := func(count int) api.Errno {
		if p.Kind == 211 && p.Count == count {
			return api.ErrForm
		}
		return api.ErrKind
	}
	if l, e := subflow.ToLines(p); e != wanted(1) || !reflect.ValueOf(l).IsZero() {
		t.Errorf("%s: Count %d, Kind %d, %.80x: ToLines: %d, %s", why, p.Count, p.Kind, p.Body, e, short(l))
	}
	if a, e := subflow.ToAdverts(p); e != wanted(2) || !reflect.ValueOf(a).IsZero() {
		t.Errorf("%s: Count %d, Kind %d, %.80x: ToAdverts: %d, %s", why, p.Count, p.Kind, p.Body, e, short(a))
	}
}

// changed answers a piece with another byte in its Body.
func changed(p piece.Piece, at int, other byte) piece.Piece {
	p.Body = p.Body[:at] + string([]byte{other}) + p.Body[at+1:]
	return p
}

func TestP111PiecesInFull(t *testing.T) {
	for _, x := range []struct {
		got  piece.Piece
		want string
	}{
		{
			subflow.Adverts{Source: 1, All: []subflow.Advert{{Path: 2, Up: true, Rate: 5}}}.Piece(),
			"\x82\xd3\x00\x02\x00\x00\x00\x01\x02\x01\x00\x05",
		},
		{subflow.Adverts{}.Piece(), "\x82\xd3\x00\x01\x00\x00\x00\x00"},
		{
			subflow.Adverts{Source: 0x01020304, All: []subflow.Advert{{Path: 1, Rate: 65535}, {Path: 15, Up: true}}}.Piece(),
			"\x82\xd3\x00\x03\x01\x02\x03\x04\x01\x00\xff\xff\x0f\x01\x00\x00",
		},
		{
			subflow.Lines{Source: 1, All: []subflow.Line{{Path: 2}}}.Piece(),
			"\x81\xd3\x00\x08\x00\x00\x00\x01\x02\x00\x00\x00\x00\x00\x00\x00" + strings.Repeat("\x00", 20),
		},
		{
			subflow.Lines{Source: 0xf1f2f3f4, All: []subflow.Line{
				{Path: 1, Fraction: 255, Lost: -1, Highest: 0x01020304, Jitter: 0x11121314, Bytes: 0x21222324, Last: 0x31323334, Delay: 0x41424344},
				{Path: 15, Fraction: 3, Lost: 0x010203},
			}}.Piece(),
			"\x81\xd3\x00\x0f\xf1\xf2\xf3\xf4" +
				"\x01\xff\x00\x00\xff\xff\xff\x00\x01\x02\x03\x04\x11\x12\x13\x14\x21\x22\x23\x24\x31\x32\x33\x34\x41\x42\x43\x44" +
				"\x0f\x03\x00\x00\x01\x02\x03\x00" + strings.Repeat("\x00", 20),
		},
	} {
		if s := piece.Pack(x.got); s != x.want {
			t.Errorf("%x, not %x", s, x.want)
		}
	}
}

func TestP111LinesPiece(t *testing.T) {
	for _, l := range linesThatMayBe() {
		if p := l.Piece(); p != linesPiece(l) || p.Check() != api.OK {
			t.Errorf("%s: %s", short(l), short(p))
		}
	}
	for _, l := range linesThatMayNotBe() {
		if p := l.Piece(); p != (piece.Piece{}) {
			t.Errorf("%s: %s", short(l), short(p))
		}
	}
}

func TestP111AdvertsPiece(t *testing.T) {
	for _, a := range advertsThatMayBe() {
		if p := a.Piece(); p != advertsPiece(a) || p.Check() != api.OK {
			t.Errorf("%s: %s", short(a), short(p))
		}
	}
	for _, a := range advertsThatMayNotBe() {
		if p := a.Piece(); p != (piece.Piece{}) {
			t.Errorf("%s: %s", short(a), short(p))
		}
	}
}

// TestP111EachPath: of one path which may be, and of two.
func TestP111EachPath(t *testing.T) {
	is := func(path int) bool { return path >= 1 && path <= 15 }
	for first := -3; first < 300; first++ {
		l, a := lines(first), adverts(first)
		l.All[0].Fraction, a.All[0].Rate = 9, 9
		if got := l.Piece() != (piece.Piece{}); got != is(first) {
			t.Errorf("Lines of path %d: %v", first, got)
		}
		if got := a.Piece() != (piece.Piece{}); got != is(first) {
			t.Errorf("Adverts of path %d: %v", first, got)
		}
	}
	for first := -1; first < 20; first++ {
		for second := -1; second < 20; second++ {
			want := is(first) && is(second) && first < second
			l, a := lines(first, second), adverts(first, second)
			for i := range 2 {
				l.All[i].Fraction, a.All[i].Rate = 9, 9
			}
			if got := l.Piece() != (piece.Piece{}); got != want {
				t.Errorf("Lines of %d, %d: %v", first, second, got)
			}
			if got := a.Piece() != (piece.Piece{}); got != want {
				t.Errorf("Adverts of %d, %d: %v", first, second, got)
			}
		}
	}
}

// rights are pieces that are read.
func rights() []piece.Piece {
	l := []piece.Piece{advertsPiece(adverts())}
	for _, paths := range [][]int{{1}, {15}, {2, 9}, {1, 2, 3}, upTo(14), upTo(15)} {
		l = append(l, linesPiece(lines(paths...)), advertsPiece(adverts(paths...)))
	}
	return l
}

// TestP111RightOnesAreRead: what the other tests break is right, as it is.
func TestP111RightOnesAreRead(t *testing.T) {
	for _, p := range rights() {
		if oneWay(t, p) != 1 {
			t.Errorf("%s: isn't read", short(p))
		}
	}
}

// TestP111EachKindAndCount: another one is told ahead of all.
func TestP111EachKindAndCount(t *testing.T) {
	others := []int{math.MinInt, math.MaxInt, 1<<32 + 1, 1<<32 + 2, 1<<32 + 211, 211 - 256, 1 - 256, 2 - 32}
	for n := -10; n < 600; n++ {
		others = append(others, n)
	}
	for _, right := range rights() {
		for _, n := range others {
			if n != 211 {
				refused(t, "another Kind", piece.Piece{Count: right.Count, Kind: n, Body: right.Body})
				refused(t, "another Kind, and a byte", piece.Piece{Count: right.Count, Kind: n, Body: "a"})
			}
			if n != right.Count {
				refused(t, "another Count", piece.Piece{Count: n, Kind: 211, Body: right.Body})
			}
		}
	}
	for count := range 4 {
		refused(t, "without bytes", piece.Piece{Count: count, Kind: 211})
	}
	refused(t, "a zero one", piece.Piece{})
}

// TestP111OtherLengths: Bodies that are cut short, and some that are too long.
func TestP111OtherLengths(t *testing.T) {
	for _, p := range rights() {
		whole := p.Body
		for n := range len(whole) {
			p.Body = whole[:n]
			if cutMayBe(p) {
				if oneWay(t, p) != 1 {
					t.Errorf("cut to %d bytes: isn't read", n)
				}
				continue
			}
			refused(t, "cut short", p)
		}
		for _, more := range []int{1, 2, 3, 4, 5, 8, 27, 28, 29, 56, 28 * 15, 1 << 18} {
			p.Body = whole + strings.Repeat("\x00", more)
			refused(t, "too long, by bytes 0", p)
			p.Body = whole + strings.Repeat("\x0f", more)
			refused(t, "too long, by others", p)
		}
		p.Body = whole + whole[4:]
		if len(whole) > 4 {
			refused(t, "all twice", p)
		}
	}
	for n := 16; n < 40; n++ {
		refused(t, "too many Lines", linesPiece(lines(upTo(n)...)))
		refused(t, "too many Adverts", advertsPiece(adverts(upTo(n)...)))
	}
}

// cutMayBe: what is left has whole ones, and of Lines one at least.
func cutMayBe(p piece.Piece) bool {
	if p.Count == 1 {
		return len(p.Body) >= 32 && (len(p.Body)-4)%28 == 0
	}
	return len(p.Body) >= 4 && len(p.Body)%4 == 0
}

// TestP111BytesThatAreZero: none of those of a Line may be another.
func TestP111BytesThatAreZero(t *testing.T) {
	p := linesPiece(lines(2, 7, 15))
	for at := 4; at < len(p.Body); at += 28 {
		for _, zero := range []int{2, 3, 7} {
			for other := 1; other < 256; other++ {
				refused(t, "a byte other than 0", changed(p, at+zero, byte(other)))
			}
		}
	}
}

// TestP111BytesThatAreThere: of an Advert that is there 1, else 0.
func TestP111BytesThatAreThere(t *testing.T) {
	p := advertsPiece(adverts(2, 7, 15))
	for i := range 3 {
		for other := range 256 {
			q := changed(p, 4+4*i+1, byte(other))
			if other > 1 {
				refused(t, "a byte other than 1 and 0", q)
				continue
			}
			if a, e := subflow.ToAdverts(q); e != api.OK || a.All[i].Up != (other == 1) {
				t.Errorf("%d: %d, %s", other, e, short(a))
			}
		}
	}
}

// TestP111PathsInBytes: such as don't rise, are there twice, or are none.
func TestP111PathsInBytes(t *testing.T) {
	l, a := linesPiece(lines(3, 7, 9)), advertsPiece(adverts(3, 7, 9))
	for path := range 256 {
		for at, want := range []bool{path >= 1 && path < 7, path > 3 && path < 9, path > 7 && path <= 15} {
			p, q := changed(l, 4+28*at, byte(path)), changed(a, 4+4*at, byte(path))
			if !want {
				refused(t, "another path", p)
				refused(t, "another path", q)
				continue
			}
			m, e := subflow.ToLines(p)
			if e != api.OK || m.All[at].Path != path {
				t.Errorf("path %d at %d: %d, %s", path, at, e, short(m))
			}
			b, e := subflow.ToAdverts(q)
			if e != api.OK || b.All[at].Path != path {
				t.Errorf("path %d at %d: %d, %s", path, at, e, short(b))
			}
		}
	}
	for _, paths := range pathsThatMayNotBe() {
		if slices.Min(paths) < 0 || slices.Max(paths) > 255 {
			continue
		}
		refused(t, "paths of Lines", linesPiece(lines(paths...)))
		refused(t, "paths of Adverts", advertsPiece(adverts(paths...)))
	}
}

// TestP111LostInBytes: each of three bytes, and the upper half is below 0.
func TestP111LostInBytes(t *testing.T) {
	p := linesPiece(lines(7))
	for _, n := range []int{0, 1, 255, 256, 65535, 65536, mostLost - 1, mostLost, mostLost + 1, mostLost + 2, 1<<24 - 65536, 1<<24 - 256, 1<<24 - 2, 1<<24 - 1} {
		want := n
		if n > mostLost {
			want = n - 16777216
		}
		q := changed(changed(changed(p, 8, byte(n>>16)), 9, byte(n>>8)), 10, byte(n))
		if l, e := subflow.ToLines(q); e != api.OK || l.All[0].Lost != want {
			t.Errorf("%06x: %d, %s, not %d", n, e, short(l), want)
		}
	}
}

func TestP111Of(t *testing.T) {
	for _, paths := range append(pathsThatMayBe(), nil, []int{}, []int{9, 2, 5}, upTo(300)) {
		l := lines(paths...)
		for path := -2; path < 310; path++ {
			x, is := l.Of(path)
			want := subflow.Line{}
			if slices.Contains(paths, path) {
				want = line(path)
			}
			if x != want || is != slices.Contains(paths, path) {
				t.Errorf("%d of %v: %v, %v", path, paths, is, x)
			}
		}
		for _, path := range []int{math.MinInt, math.MaxInt, 1<<32 + 1, 257 + 1<<16} {
			if x, is := l.Of(path); is || x != (subflow.Line{}) {
				t.Errorf("%d of %v: %v", path, paths, x)
			}
		}
	}
	twice := subflow.Lines{All: []subflow.Line{{Path: 3, Bytes: 1}, {Path: 5, Bytes: 2}, {Path: 3, Bytes: 3}}}
	if x, is := twice.Of(3); !is || x.Bytes != 1 {
		t.Errorf("of two: %v, %v", x, is)
	}
}

func TestP111Up(t *testing.T) {
	for _, paths := range append(pathsThatMayBe(), nil, []int{}, []int{9, 2, 5, 3}, upTo(300)) {
		for _, of := range []func(path int) bool{
			func(int) bool { return false },
			func(int) bool { return true },
			func(path int) bool { return path%2 == 1 },
			func(path int) bool { return path%3 == 0 },
			func(path int) bool { return path == 15 },
		} {
			a := adverts(paths...)
			var want []int
			for i, path := range paths {
				a.All[i].Up = of(path)
				a.All[i].Rate = path % 2 * 65535
				if of(path) {
					want = append(want, path)
				}
			}
			if got := a.Up(); !slices.Equal(got, want) {
				t.Errorf("%s: %v, not %v", short(a), got, want)
			}
		}
	}
}

// TestP111CallsLeaveTheirLists: neither a list nor its spare room is changed.
func TestP111CallsLeaveTheirLists(t *testing.T) {
	l, a := lines(1, 2, 3, 4), adverts(1, 2, 3, 4)
	some, few := subflow.Lines{All: l.All[:2]}, subflow.Adverts{All: a.All[:2]}
	some.Piece()
	some.Of(2)
	some.Of(5)
	few.Piece()
	few.Up()[0] = 77
	if !slices.Equal(l.All, lines(1, 2, 3, 4).All) || !slices.Equal(a.All, adverts(1, 2, 3, 4).All) || len(some.All) != 2 || len(few.All) != 2 {
		t.Errorf("the lists are now %v, %v", l, a)
	}
}

// TestP111AnswersAreNew: what is done with one answer no other one shows.
func TestP111AnswersAreNew(t *testing.T) {
	p, q := lines(1, 2).Piece(), adverts(1, 2).Piece()
	l, _ := subflow.ToLines(p)
	m, _ := subflow.ToLines(p)
	l.All[0] = subflow.Line{}
	_ = append(l.All[:1], subflow.Line{})
	if !slices.Equal(m.All, lines(1, 2).All) {
		t.Errorf("%s", short(m))
	}
	a, _ := subflow.ToAdverts(q)
	b, _ := subflow.ToAdverts(q)
	a.All[0] = subflow.Advert{}
	_ = append(a.All[:1], subflow.Advert{})
	if !slices.Equal(b.All, adverts(1, 2).All) {
		t.Errorf("%s", short(b))
	}
}

// TestP112ThereAndBack: of each piece, and of that which layer 7 makes of its
// bytes.
func TestP112ThereAndBack(t *testing.T) {
	for _, l := range linesThatMayBe() {
		for _, p := range thereAndBack(t, l.Piece()) {
			if got, e := subflow.ToLines(p); e != api.OK || got.Source != l.Source || !slices.Equal(got.All, l.All) {
				t.Errorf("%s: %d, %s", short(l), e, short(got))
			}
			if a, e := subflow.ToAdverts(p); e != api.ErrKind || !reflect.ValueOf(a).IsZero() {
				t.Errorf("%s: as Adverts: %d", short(l), e)
			}
		}
	}
	for _, a := range advertsThatMayBe() {
		for _, p := range thereAndBack(t, a.Piece()) {
			if got, e := subflow.ToAdverts(p); e != api.OK || got.Source != a.Source || !slices.Equal(got.All, a.All) {
				t.Errorf("%s: %d, %s", short(a), e, short(got))
			}
			if l, e := subflow.ToLines(p); e != api.ErrKind || !reflect.ValueOf(l).IsZero() {
				t.Errorf("%s: as Lines: %d", short(a), e)
			}
		}
	}
}

// thereAndBack answers a piece, and the one that layer 7 makes of its bytes.
func thereAndBack(t *testing.T, p piece.Piece) []piece.Piece {
	t.Helper()
	l, e := piece.Split(piece.Pack(p))
	if e != api.OK || len(l) != 1 {
		t.Fatalf("%s: %d, %s", short(p), e, short(l))
	}
	return append(l, p)
}

// TestP112AtMostOne: what isn't alike has another piece.
func TestP112AtMostOne(t *testing.T) {
	seen := map[piece.Piece]string{}
	once := func(p piece.Piece, of any) {
		t.Helper()
		told := fmt.Sprintf("%+v", of)
		if other, ok := seen[p]; ok && other != told {
			t.Errorf("%.80s and %.80s: both %s", told, other, short(p))
		}
		seen[p] = told
	}
	for _, l := range linesThatMayBe() {
		once(l.Piece(), l)
	}
	for _, a := range advertsThatMayBe() {
		once(a.Piece(), a)
	}
}

// TestP112OneWayOfAnyPiece: pieces with each byte others, cut, drawn out, and
// such as chance makes: what is read makes just that piece.
func TestP112OneWayOfAnyPiece(t *testing.T) {
	r := rand.New(rand.NewSource(16))
	taken := 0
	for _, p := range rights() {
		for n := range len(p.Body) {
			for _, other := range []byte{0, 1, p.Body[n] + 1, p.Body[n] - 1, byte(r.Uint32())} {
				taken += oneWay(t, changed(p, n, other))
			}
			for count := -1; count < 4; count++ {
				taken += oneWay(t, piece.Piece{Count: count, Kind: 211, Body: p.Body[:n]})
				taken += oneWay(t, piece.Piece{Count: count, Kind: 211, Body: p.Body[n:]})
				taken += oneWay(t, piece.Piece{Count: count, Kind: 211, Body: p.Body[:n] + "\x00" + p.Body[n:]})
			}
		}
	}
	for range 20000 {
		b := make([]byte, 4*r.Intn(18))
		for i := range b {
			b[i] = byte(r.Intn(4) * r.Intn(2))
		}
		taken += oneWay(t, piece.Piece{Count: r.Intn(4), Kind: 210 + r.Intn(3), Body: string(b)})
	}
	if taken == 0 {
		t.Error("no pieces were taken")
	}
}

// oneWay: a piece that is read is just that of what it says, and only the call
// of its Count reads it. It answers how many pieces were read: one or none.
func oneWay(t *testing.T, p piece.Piece) int {
	t.Helper()
	var made []piece.Piece
	if l, e := subflow.ToLines(p); e == api.OK {
		made = append(made, l.Piece(), linesPiece(l))
	}
	if a, e := subflow.ToAdverts(p); e == api.OK {
		made = append(made, a.Piece(), advertsPiece(a))
	}
	if len(made) == 0 {
		refused(t, "any piece", p)
		return 0
	}
	if !slices.Equal(made, []piece.Piece{p, p}) {
		t.Fatalf("%s: makes %s", short(p), short(made))
	}
	return 1
}
