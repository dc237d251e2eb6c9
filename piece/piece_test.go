package piece_test

import (
	"fmt"
	"math"
	"math/rand"
	"slices"
	"strings"
	"testing"

	"cordelle/api"
	"cordelle/piece"
)

// longest is the greatest Body.
var longest = strings.Repeat("long", 65535)

// right is a piece's bytes, and plain the piece.
const right = "\x81\xcb\x00\x01abcd"

var plain = piece.Piece{Count: 1, Kind: 203, Body: "abcd"}

// bytesOf lays pieces' bytes out byte by byte, as the document tells them.
func bytesOf(l ...piece.Piece) string {
	var b []byte
	for _, p := range l {
		words := len(p.Body) / 4
		b = append(b, byte(128+p.Count), byte(p.Kind), byte(words/256), byte(words%256))
		b = append(b, p.Body...)
	}
	return string(b)
}

// may are pieces that may be: the ordinary, and the document's edges.
func may() []piece.Piece {
	l := []piece.Piece{
		plain,
		{Kind: 192},
		{Kind: 223},
		{Kind: 200, Count: 31},
		{Kind: 223, Count: 31, Body: longest},
		{Kind: 192, Body: longest},
		{Kind: 193, Body: longest[4:]},
		{Kind: 222, Count: 30, Body: longest[:4*255]},
		{Kind: 211, Count: 2, Body: longest[:4*256]},
		{Kind: 205, Count: 1, Body: "\x00\x00\x00\x00"},
		{Kind: 204, Count: 16, Body: "\xff\xff\xff\xff\x80\xcb\x00\x01"},
		{Kind: 203, Body: right},
	}
	r := rand.New(rand.NewSource(7))
	for range 200 {
		l = append(l, anyPiece(r))
	}
	return l
}

func anyPiece(r *rand.Rand) piece.Piece {
	b := make([]byte, 4*r.Intn(12))
	r.Read(b)
	return piece.Piece{Count: r.Intn(32), Kind: 192 + r.Intn(32), Body: string(b)}
}

// mayNot are pieces that may not be, by what is wrong with them.
func mayNot() map[string]piece.Piece {
	return map[string]piece.Piece{
		"a zero one":              {},
		"Count -1":                {Count: -1, Kind: 200},
		"Count 32":                {Count: 32, Kind: 200},
		"Count 33":                {Count: 33, Kind: 200},
		"Count 256":               {Count: 256, Kind: 200},
		"the least Count":         {Count: math.MinInt, Kind: 200},
		"the greatest Count":      {Count: math.MaxInt, Kind: 200},
		"Kind 191":                {Kind: 191},
		"Kind 224":                {Kind: 224},
		"Kind 96":                 {Kind: 96},
		"Kind 255":                {Kind: 255},
		"Kind 200 and 256":        {Kind: 456},
		"Kind -56":                {Kind: -56},
		"the least Kind":          {Kind: math.MinInt},
		"the greatest Kind":       {Kind: math.MaxInt},
		"Body of 1":               {Kind: 200, Body: "a"},
		"Body of 2":               {Kind: 200, Body: "ab"},
		"Body of 3":               {Kind: 200, Body: "abc"},
		"Body of 5":               {Kind: 200, Body: "abcde"},
		"Body of 4 times 65536":   {Kind: 200, Body: longest + "more"},
		"Body of 4 times 65535+1": {Kind: 200, Body: longest + "m"},
		"Body of 4 times 131072":  {Kind: 200, Body: longest + longest + "moremore"},
		"all of it at once":       {Count: 32, Kind: 191, Body: "abc"},
	}
}

// short tells pieces, cut.
func short(of any) string { return fmt.Sprintf("%.200s", fmt.Sprintf("%+v", of)) }

// refused: Split tells this error, beside no pieces.
func refused(t *testing.T, name, s string, want api.Errno) {
	t.Helper()
	if l, e := piece.Split(s); e != want || len(l) != 0 {
		t.Errorf("%s: %.80x: %d, not %d: %s", name, s, e, want, short(l))
	}
}

// read: Split answers these pieces.
func read(t *testing.T, s string, want ...piece.Piece) {
	t.Helper()
	if l, e := piece.Split(s); e != api.OK || !slices.Equal(l, want) {
		t.Errorf("%.80x: %d, %s, not %s", s, e, short(l), short(want))
	}
}

func TestP71Check(t *testing.T) {
	for _, p := range may() {
		if p.Check() != api.OK {
			t.Errorf("%s: %d", short(p), p.Check())
		}
	}
	for name, p := range mayNot() {
		if p.Check() != api.ErrArg {
			t.Errorf("%s: %d", name, p.Check())
		}
	}
}

// TestP71EachCountAndKind: which may be of all, and of some beyond.
func TestP71EachCountAndKind(t *testing.T) {
	for count := -40; count <= 300; count++ {
		for kind := -70; kind <= 500; kind++ {
			p := piece.Piece{Count: count, Kind: kind}
			want, bytes := api.ErrArg, ""
			if count >= 0 && count <= 31 && kind >= 192 && kind <= 223 {
				want, bytes = api.OK, bytesOf(p)
			}
			if p.Check() != want || piece.Pack(p) != bytes {
				t.Fatalf("Count %d, Kind %d: %d, %x", count, kind, p.Check(), piece.Pack(p))
			}
		}
	}
}

// TestP71EachLength: Bodies of which a multiple of 4 may be, near the bounds.
func TestP71EachLength(t *testing.T) {
	long := longest + "more"
	for _, around := range []int{0, 255 * 4, len(longest) - 8} {
		for n := around; n <= around+12; n++ {
			p := piece.Piece{Kind: 210, Body: long[:n]}
			want, bytes := api.ErrArg, ""
			if n%4 == 0 && n <= 4*65535 {
				want, bytes = api.OK, bytesOf(p)
			}
			if p.Check() != want || piece.Pack(p) != bytes {
				t.Errorf("Body of %d: %d, %.40x", n, p.Check(), piece.Pack(p))
			}
		}
	}
}

// TestP71PackOfSome: pieces' bytes, each written out.
func TestP71PackOfSome(t *testing.T) {
	for _, x := range []struct {
		want string
		l    []piece.Piece
	}{
		{"", nil},
		{"", []piece.Piece{}},
		{"\x80\xc0\x00\x00", []piece.Piece{{Kind: 192}}},
		{"\x9f\xdf\x00\x00", []piece.Piece{{Kind: 223, Count: 31}}},
		{"\x81\xcb\x00\x01\x61\x62\x63\x64", []piece.Piece{plain}},
		{"\x80\xc8\x00\x02abcdefgh", []piece.Piece{{Kind: 200, Body: "abcdefgh"}}},
		{"\x80\xc8\xff\xff" + longest, []piece.Piece{{Kind: 200, Body: longest}}},
		{right + "\x80\xc0\x00\x00" + right, []piece.Piece{plain, {Kind: 192}, plain}},
		{"\x82\xd3\x01\x00" + longest[:1024] + "\x80\xc0\x00\x00", []piece.Piece{{Kind: 211, Count: 2, Body: longest[:1024]}, {Kind: 192}}},
	} {
		if s := piece.Pack(x.l...); s != x.want {
			t.Errorf("%s: %.80x, not %.80x", short(x.l), s, x.want)
		}
	}
}

func TestP71PackOfSuchAsMayBe(t *testing.T) {
	l := may()
	for i, p := range l {
		if s := piece.Pack(p); s != bytesOf(p) {
			t.Errorf("%s: %.80x", short(p), s)
		}
		if s := piece.Pack(l[:i]...); s != bytesOf(l[:i]...) {
			t.Errorf("the first %d: %.80x", i, s)
		}
	}
}

// TestP71PackOfOneThatMayNotBe: wherever it stands, nothing is packed.
func TestP71PackOfOneThatMayNotBe(t *testing.T) {
	for name, p := range mayNot() {
		for _, l := range [][]piece.Piece{
			{p},
			{p, plain},
			{plain, p},
			{plain, {Kind: 192}, p, plain},
			{p, p},
		} {
			if s := piece.Pack(l...); s != "" {
				t.Errorf("%s, among %d: %.80x", name, len(l), s)
			}
		}
	}
}

func TestP71Kinds(t *testing.T) {
	if len(piece.Kinds()) != 0 || len(piece.Kinds([]piece.Piece{}...)) != 0 {
		t.Error("of none there are some")
	}
	for _, want := range [][]int{
		{203},
		{203, 192},
		{223, 192, 200, 200, 223},
		{0, -1, 96, math.MinInt, math.MaxInt, 224},
	} {
		var l []piece.Piece
		for i, kind := range want {
			l = append(l, piece.Piece{Count: i, Kind: kind, Body: "abc"[:i%4]})
		}
		if got := piece.Kinds(l...); !slices.Equal(got, want) {
			t.Errorf("%v, not %v", got, want)
		}
	}
}

// TestP71CallsLeaveTheirLists: neither a list nor its spare room is changed.
func TestP71CallsLeaveTheirLists(t *testing.T) {
	whole := []piece.Piece{plain, {Kind: 192}, {Kind: 7}, {Count: -1}}
	was := slices.Clone(whole)
	piece.Pack(whole[:2]...)
	piece.Pack(whole...)
	piece.Kinds(whole[:2]...)[0] = 5
	if !slices.Equal(whole, was) {
		t.Errorf("the list is now %v", whole)
	}
}

// TestP71AnswersAreNew: what is done with one answer no other one shows.
func TestP71AnswersAreNew(t *testing.T) {
	one, _ := piece.Split(right + right)
	other, _ := piece.Split(right + right)
	one[0] = piece.Piece{}
	_ = append(one[:1], piece.Piece{})
	if !slices.Equal(other, []piece.Piece{plain, plain}) {
		t.Errorf("%v", other)
	}
}

// TestP71SplitOfFewBytes: 1, 2 and 3 bytes are told ahead of what they say.
func TestP71SplitOfFewBytes(t *testing.T) {
	read(t, "")
	for _, ahead := range []string{"", right, right + "\x9f\xdf\x00\x00"} {
		for n := 1; n < 4; n++ {
			for first := range 256 {
				head := string([]byte{byte(first), 0x60, 0, 0})
				refused(t, "bytes that say nothing", ahead+head[:n], api.ErrEnd)
				head = string([]byte{byte(first), 0xc8, 0xff, 0xff})
				refused(t, "bytes of a head", ahead+head[:n], api.ErrEnd)
			}
		}
	}
	refused(t, "a byte", "\x80", api.ErrEnd)
	refused(t, "two bytes", "\x80\xc8", api.ErrEnd)
	refused(t, "three bytes", "\x80\xc8\x00", api.ErrEnd)
	refused(t, "three bytes behind a piece", right+"\x80\xc8\x00", api.ErrEnd)
}

// TestP71SplitOfEachFirstByte: the highest three bits are told ahead of all
// that the other bytes say.
func TestP71SplitOfEachFirstByte(t *testing.T) {
	for first := range 256 {
		head := string([]byte{byte(first)})
		for _, ahead := range []string{"", right} {
			if first >= 0x80 && first < 0xa0 {
				want := []piece.Piece{{Count: first - 0x80, Kind: 201, Body: "abcd"}}
				if ahead != "" {
					want = []piece.Piece{plain, want[0]}
				}
				read(t, ahead+head+"\xc9\x00\x01abcd", want...)
				continue
			}
			refused(t, "right but for it", ahead+head+"\xc9\x00\x01abcd", api.ErrForm)
			refused(t, "another Kind", ahead+head+"\x60\x00\x01abcd", api.ErrForm)
			refused(t, "beyond the end", ahead+head+"\xc9\x00\x02abcdefg", api.ErrForm)
			refused(t, "both", ahead+head+"\x00\xff\xff", api.ErrForm)
		}
	}
}

// TestP71SplitOfEachKind: another Kind is told ahead of a Body that goes
// beyond the end.
func TestP71SplitOfEachKind(t *testing.T) {
	for kind := range 256 {
		second := string([]byte{byte(kind)})
		for _, ahead := range []string{"", right} {
			if kind >= 192 && kind <= 223 {
				want := []piece.Piece{{Count: 2, Kind: kind, Body: "abcd"}}
				if ahead != "" {
					want = []piece.Piece{plain, want[0]}
				}
				read(t, ahead+"\x82"+second+"\x00\x01abcd", want...)
				refused(t, "beyond the end", ahead+"\x82"+second+"\x00\x02abcdefg", api.ErrEnd)
				continue
			}
			refused(t, "another Kind", ahead+"\x82"+second+"\x00\x01abcd", api.ErrKind)
			refused(t, "and beyond the end", ahead+"\x82"+second+"\x00\x02abcdefg", api.ErrKind)
			refused(t, "and without a Body", ahead+"\x82"+second+"\xff\xff", api.ErrKind)
		}
	}
}

// TestP71SplitBeyondTheEnd: a Body that is cut short, by a byte or by all.
func TestP71SplitBeyondTheEnd(t *testing.T) {
	for _, ahead := range []string{"", right} {
		for _, p := range []piece.Piece{plain, {Kind: 192, Body: longest[:40]}, {Kind: 223, Count: 31, Body: longest}} {
			s := bytesOf(p)
			for _, n := range []int{4, 5, len(s) - 4, len(s) - 3, len(s) - 2, len(s) - 1} {
				refused(t, "cut short", ahead+s[:n], api.ErrEnd)
			}
			refused(t, "one byte more", ahead+s+"\x80", api.ErrEnd)
			refused(t, "four bytes more", ahead+s+"more", api.ErrForm)
		}
	}
}

// TestP71SplitTellsTheFirst: the first piece that is wrong tells its error,
// whatever is behind it.
func TestP71SplitTellsTheFirst(t *testing.T) {
	wrong := map[string]api.Errno{
		"\xa0\xc8\x00\x00": api.ErrForm,
		"\x00\x00\x00\x00": api.ErrForm,
		"\x80\x60\x00\x00": api.ErrKind,
		"\x80\xe0\x00\x00": api.ErrKind,
		"\x80\xbf\x00\x00": api.ErrKind,
		"\x80\xc8\xff\xff": api.ErrEnd,
		"\x80\xc8\x01\x00": api.ErrEnd,
	}
	for s, want := range wrong {
		for other := range wrong {
			refused(t, "first of all", s+other, want)
			refused(t, "behind one", right+s+other, want)
			refused(t, "behind two", right+"\x80\xc0\x00\x00"+s+other+right, want)
		}
		refused(t, "ahead of too few bytes", s+"\x80", want)
	}
}

func TestP72ThereAndBack(t *testing.T) {
	l := may()
	for i, p := range l {
		read(t, piece.Pack(p), p)
		read(t, piece.Pack(l[:i]...), l[:i]...)
		read(t, piece.Pack(p, plain, p), p, plain, p)
	}
	read(t, piece.Pack())
}

// TestP72AtMostOneList: lists that aren't alike have other bytes.
func TestP72AtMostOneList(t *testing.T) {
	l := may()
	seen := map[string]int{}
	for i := range l {
		seen[piece.Pack(l[i:]...)] = i
		seen[piece.Pack(l[:i]...)] = i
	}
	if len(seen) != 2*len(l) {
		t.Errorf("of %d lists there are %d texts", 2*len(l), len(seen))
	}
}

// TestP72OneWayOfAnyBytes: pieces with each byte others, cut, and drawn out:
// what is split is just what Pack makes of it.
func TestP72OneWayOfAnyBytes(t *testing.T) {
	r := rand.New(rand.NewSource(8))
	taken := 0
	for range 300 {
		s := piece.Pack(anyPiece(r), anyPiece(r), anyPiece(r))
		for n := range len(s) {
			for _, other := range []byte{0, s[n] ^ 1, s[n] ^ 0x20, byte(r.Uint32())} {
				taken += oneWay(t, s[:n]+string([]byte{other})+s[n+1:])
			}
			taken += oneWay(t, s[:n])
		}
		taken += oneWay(t, s+"\x00")
		b := make([]byte, r.Intn(40))
		r.Read(b)
		taken += oneWay(t, string(b))
		taken += oneWay(t, "\x83\xc9\x00\x01"+string(b))
	}
	if taken == 0 {
		t.Error("no bytes were taken")
	}
}

// oneWay: bytes that are split are just those of the pieces that they say. It
// answers how many texts were split: one or none.
func oneWay(t *testing.T, s string) int {
	t.Helper()
	l, e := piece.Split(s)
	if e != api.OK {
		refused(t, "any bytes", s, e)
		return 0
	}
	if piece.Pack(l...) != s {
		t.Fatalf("%x: %s, of %x", s, short(l), piece.Pack(l...))
	}
	return 1
}
