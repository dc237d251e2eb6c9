package notes_test

import (
	"encoding/binary"
	"fmt"
	"math"
	"math/rand"
	"reflect"
	"slices"
	"strings"
	"testing"

	"cordelle/api"
	"cordelle/notes"
	"cordelle/piece"
)

// text answers a text of so many bytes, in which every byte comes.
func text(n int) string {
	b := make([]byte, n)
	for i := range b {
		b[i] = byte(i + 97)
	}
	return string(b)
}

// filled answers a text with bytes 0 behind it, up to a multiple of 4.
func filled(s string) string {
	for len(s)%4 != 0 {
		s += "\x00"
	}
	return s
}

// number answers a number in four bytes.
func number(n uint32) string { return string(binary.BigEndian.AppendUint32(nil, n)) }

// length answers a number in a byte.
func length(s string) string { return string([]byte{byte(len(s))}) }

// namesPiece lays names' piece out, as the document tells it.
func namesPiece(l ...notes.Name) piece.Piece {
	body := ""
	for _, n := range l {
		body += filled(number(n.Source) + "\x01" + length(n.Text) + n.Text + "\x00")
	}
	return piece.Piece{Count: len(l), Kind: 202, Body: body}
}

// byePiece lays a Bye's piece out.
func byePiece(b notes.Bye) piece.Piece {
	body := ""
	for _, source := range b.Sources {
		body += number(source)
	}
	if b.Reason != "" {
		body += filled(length(b.Reason) + b.Reason)
	}
	return piece.Piece{Count: len(b.Sources), Kind: 203, Body: body}
}

// appPiece lays an App's piece out.
func appPiece(a notes.App) piece.Piece {
	return piece.Piece{Count: a.Sub, Kind: 204, Body: number(a.Source) + a.Name + a.Data}
}

// some answers so many names, whose Texts have other lengths.
func some(n int) []notes.Name {
	var l []notes.Name
	for i := range n {
		l = append(l, notes.Name{Source: uint32(i) * 0x01020304, Text: text(1 + i*8%255)})
	}
	return l
}

// sources answers so many numbers.
func sources(n int) []uint32 {
	var l []uint32
	for i := range n {
		l = append(l, 0xf1f2f3f4-uint32(i)*0x10000001)
	}
	return l
}

// names are lists of names that may be.
func names() [][]notes.Name {
	l := [][]notes.Name{
		nil, {}, some(1), some(2), some(30), some(31), some(32)[1:],
		slices.Repeat([]notes.Name{{Source: math.MaxUint32, Text: text(255)}}, 31),
		slices.Repeat([]notes.Name{{Text: "\x00"}}, 31),
		{{Source: 1, Text: "ab"}, {Source: 1, Text: "ab"}},
		{{Source: 1, Text: "\x00\x00\x00\x00"}, {Source: 2, Text: "\x01\x02ab\x00"}},
	}
	for n := 1; n <= 12; n++ {
		l = append(l, []notes.Name{{Source: 0x01020304, Text: text(n)}}, []notes.Name{{Source: 5, Text: text(n)}, {Source: 6, Text: "x"}})
	}
	for _, n := range []int{63, 64, 127, 128, 252, 253, 254, 255} {
		l = append(l, []notes.Name{{Source: 7, Text: text(n)}})
	}
	return l
}

// byes are such as may be.
func byes() []notes.Bye {
	var l []notes.Bye
	for _, n := range []int{0, 1, 2, 3, 30, 31} {
		for _, reason := range []int{0, 1, 2, 3, 4, 5, 6, 7, 8, 127, 128, 252, 253, 254, 255} {
			l = append(l, notes.Bye{Sources: sources(n), Reason: text(reason)})
		}
		l = append(l, notes.Bye{Sources: sources(n), Reason: "\x00"}, notes.Bye{Sources: sources(n), Reason: "\x00\x00\x00\x00"})
	}
	return append(l, notes.Bye{Sources: []uint32{}}, notes.Bye{Sources: []uint32{0}}, notes.Bye{Sources: []uint32{5, 5, 5}, Reason: "\x04abc"})
}

// apps are such as may be.
func apps() []notes.App {
	var l []notes.App
	for _, sub := range []int{0, 1, 16, 30, 31} {
		for _, data := range []int{0, 4, 8, 12, 256, 1020, 1024} {
			l = append(l, notes.App{Sub: sub, Source: 0x01020304 + uint32(sub), Name: "name", Data: text(data)})
		}
	}
	return append(l, notes.App{Name: "\x00\x00\x00\x00"}, notes.App{Source: math.MaxUint32, Name: "\xff\xfe\x00\x01", Data: "\x00\x00\x00\x00"})
}

// same tells whether two Byes are alike; a nil list is the same as none.
func same(a, b notes.Bye) bool { return a.Reason == b.Reason && slices.Equal(a.Sources, b.Sources) }

// short tells what is handed in, cut.
func short(of any) string { return fmt.Sprintf("%.200s", fmt.Sprintf("%+v", of)) }

// refused: the call of that Kind tells ErrForm, the others ErrKind, each beside
// zero.
func refused(t *testing.T, why string, p piece.Piece) {
	t.Helper()
	told := func(kind int, e api.Errno, zero bool) {
		t.Helper()
		want := api.ErrKind
		if p.Kind == kind {
			want = api.ErrForm
		}
		if e != want || !zero {
			t.Errorf("%s: Count %d, Kind %d, %.80x: to one of %d: %d, not %d", why, p.Count, p.Kind, p.Body, kind, e, want)
		}
	}
	l, e := notes.ToNames(p)
	told(202, e, len(l) == 0)
	b, e := notes.ToBye(p)
	told(203, e, reflect.ValueOf(b).IsZero())
	a, e := notes.ToApp(p)
	told(204, e, a == notes.App{})
}

func TestP91NamesInFull(t *testing.T) {
	for _, x := range []struct {
		body string
		l    []notes.Name
	}{
		{"", nil},
		{"\x00\x00\x00\x01\x01\x01a\x00", []notes.Name{{Source: 1, Text: "a"}}},
		{"\x01\x02\x03\x04\x01\x02ab\x00\x00\x00\x00", []notes.Name{{Source: 0x01020304, Text: "ab"}}},
		{"\x00\x00\x00\x00\x01\x03abc\x00\x00\x00", []notes.Name{{Text: "abc"}}},
		{"\xff\xff\xff\xff\x01\x04abcd\x00\x00", []notes.Name{{Source: math.MaxUint32, Text: "abcd"}}},
		{"\x00\x00\x00\x01\x01\x05abcde\x00", []notes.Name{{Source: 1, Text: "abcde"}}},
		{"\x00\x00\x00\x01\x01\x06abcdef\x00\x00\x00\x00", []notes.Name{{Source: 1, Text: "abcdef"}}},
		{"\x00\x00\x00\x02\x01\x01b\x00\x00\x00\x00\x01\x01\x01a\x00", []notes.Name{{Source: 2, Text: "b"}, {Source: 1, Text: "a"}}},
		{"\x00\x00\x00\x02\x01\xff" + text(255) + "\x00\x00\x00", []notes.Name{{Source: 2, Text: text(255)}}},
	} {
		want := piece.Piece{Count: len(x.l), Kind: 202, Body: x.body}
		if p := notes.Names(x.l...); p != want {
			t.Errorf("%s: %s, not %s", short(x.l), short(p), short(want))
		}
	}
}

func TestP91NamesOfSuchAsMayBe(t *testing.T) {
	for _, l := range names() {
		if p := notes.Names(l...); p != namesPiece(l...) || p.Check() != api.OK {
			t.Errorf("%s: %s", short(l), short(p))
		}
	}
	for n := range 40 {
		want := namesPiece(some(n)...)
		if n > 31 {
			want = piece.Piece{}
		}
		if p := notes.Names(some(n)...); p != want {
			t.Errorf("%d names: %s", n, short(p))
		}
	}
}

// TestP91NamesThatMayNotBe: too many, or one among them, wherever it stands.
func TestP91NamesThatMayNotBe(t *testing.T) {
	right := notes.Name{Source: 1, Text: "right"}
	for _, n := range []int{32, 33, 64, 256, 1000} {
		if p := notes.Names(slices.Repeat([]notes.Name{right}, n)...); p != (piece.Piece{}) {
			t.Errorf("%d names: %s", n, short(p))
		}
	}
	for _, n := range []int{0, 256, 257, 260, 512, 70000} {
		wrong := notes.Name{Source: 2, Text: text(n)}
		for _, l := range [][]notes.Name{{wrong}, {wrong, right}, {right, wrong}, {right, wrong, right}, {wrong, wrong}} {
			if p := notes.Names(l...); p != (piece.Piece{}) {
				t.Errorf("a Text of %d bytes, among %d: %s", n, len(l), short(p))
			}
		}
	}
}

func TestP91ByeInFull(t *testing.T) {
	for _, x := range []struct {
		b    notes.Bye
		want piece.Piece
	}{
		{notes.Bye{}, piece.Piece{Kind: 203}},
		{notes.Bye{Sources: []uint32{1}}, piece.Piece{Count: 1, Kind: 203, Body: "\x00\x00\x00\x01"}},
		{notes.Bye{Sources: []uint32{1, 0x01020304}}, piece.Piece{Count: 2, Kind: 203, Body: "\x00\x00\x00\x01\x01\x02\x03\x04"}},
		{notes.Bye{Reason: "a"}, piece.Piece{Kind: 203, Body: "\x01a\x00\x00"}},
		{notes.Bye{Reason: "ab"}, piece.Piece{Kind: 203, Body: "\x02ab\x00"}},
		{notes.Bye{Reason: "abc"}, piece.Piece{Kind: 203, Body: "\x03abc"}},
		{notes.Bye{Reason: "abcd", Sources: []uint32{7}}, piece.Piece{Count: 1, Kind: 203, Body: "\x00\x00\x00\x07\x04abcd\x00\x00\x00"}},
		{notes.Bye{Reason: text(255), Sources: []uint32{7}}, piece.Piece{Count: 1, Kind: 203, Body: "\x00\x00\x00\x07\xff" + text(255)}},
	} {
		if p := x.b.Piece(); p != x.want {
			t.Errorf("%s: %s, not %s", short(x.b), short(p), short(x.want))
		}
	}
	if s := piece.Pack(notes.Bye{Reason: "ab", Sources: []uint32{1}}.Piece()); s != "\x81\xcb\x00\x02\x00\x00\x00\x01\x02\x61\x62\x00" {
		t.Errorf("%x", s)
	}
}

func TestP91ByePiece(t *testing.T) {
	for _, b := range byes() {
		if p := b.Piece(); p != byePiece(b) || p.Check() != api.OK {
			t.Errorf("%s: %s", short(b), short(p))
		}
	}
	for _, b := range []notes.Bye{
		{Sources: sources(32)},
		{Sources: sources(33)},
		{Sources: sources(1000), Reason: "a"},
		{Reason: text(256)},
		{Reason: text(257), Sources: sources(1)},
		{Reason: text(512), Sources: sources(31)},
		{Reason: text(256), Sources: sources(32)},
	} {
		if p := b.Piece(); p != (piece.Piece{}) {
			t.Errorf("%s: %s", short(b), short(p))
		}
	}
}

func TestP91AppInFull(t *testing.T) {
	a := notes.App{Sub: 3, Source: 0x01020304, Name: "name", Data: "\x00\xff12data"}
	want := piece.Piece{Count: 3, Kind: 204, Body: "\x01\x02\x03\x04name\x00\xff12data"}
	if p := a.Piece(); p != want {
		t.Errorf("%s", short(p))
	}
	if s := piece.Pack(a.Piece()); s != "\x83\xcc\x00\x04\x01\x02\x03\x04name\x00\xff12data" {
		t.Errorf("%x", s)
	}
}

func TestP91AppPiece(t *testing.T) {
	for _, a := range apps() {
		if p := a.Piece(); p != appPiece(a) || p.Check() != api.OK {
			t.Errorf("%s: %s", short(a), short(p))
		}
	}
	wrong := []notes.App{{}, {Sub: 32, Name: "abc", Data: "x"}}
	for _, sub := range []int{-1, 32, 33, 256, -256, math.MinInt, math.MaxInt} {
		wrong = append(wrong, notes.App{Sub: sub, Name: "name"}, notes.App{Sub: sub, Name: "name", Data: "data"})
	}
	for _, name := range []int{0, 1, 2, 3, 5, 6, 7, 8, 260} {
		wrong = append(wrong, notes.App{Name: text(name)}, notes.App{Sub: 31, Name: text(name), Data: "data"})
	}
	for _, data := range []int{1, 2, 3, 5, 1021, 1022, 1023, 1025, 1028, 2048, 65536} {
		wrong = append(wrong, notes.App{Name: "name", Data: text(data)})
	}
	for _, a := range wrong {
		if p := a.Piece(); p != (piece.Piece{}) {
			t.Errorf("%s: %s", short(a), short(p))
		}
	}
}

// TestP91EachKind: another Kind is told whatever else may be wrong.
func TestP91EachKind(t *testing.T) {
	bodies := []piece.Piece{
		namesPiece(some(2)...),
		byePiece(notes.Bye{Reason: "ab", Sources: sources(2)}),
		appPiece(notes.App{Sub: 2, Source: 1, Name: "name", Data: "data"}),
	}
	kinds := []int{math.MinInt, math.MaxInt, 202 - 256, 203 + 256, 204 + 1<<32}
	for kind := -10; kind < 600; kind++ {
		kinds = append(kinds, kind)
	}
	for _, kind := range kinds {
		for _, p := range bodies {
			p.Kind = kind
			_, e := notes.ToNames(p)
			told(t, p, 202, e)
			_, e = notes.ToBye(p)
			told(t, p, 203, e)
			_, e = notes.ToApp(p)
			told(t, p, 204, e)
		}
		if kind < 202 || kind > 204 {
			refused(t, "another Kind, and no bytes", piece.Piece{Kind: kind})
			refused(t, "another Kind, and a byte", piece.Piece{Count: -1, Kind: kind, Body: "a"})
		}
	}
	refused(t, "a zero one", piece.Piece{})
}

// told: a call of one Kind tells ErrKind of another one, and only then.
func told(t *testing.T, p piece.Piece, kind int, e api.Errno) {
	t.Helper()
	if (e == api.ErrKind) != (p.Kind != kind) {
		t.Errorf("to one of %d: %s: %d", kind, short(p), e)
	}
}

// rights are pieces of each kind, that are read.
func rights() []piece.Piece {
	l := []piece.Piece{
		namesPiece(), namesPiece(some(1)...), namesPiece(some(5)...),
		namesPiece(slices.Repeat([]notes.Name{{Source: 9, Text: text(255)}}, 31)...),
	}
	for n := 1; n <= 8; n++ {
		l = append(l, namesPiece(notes.Name{Source: 1, Text: text(n)}, notes.Name{Source: 2, Text: text(9 - n)}))
	}
	for _, reason := range []int{0, 1, 2, 3, 4, 255} {
		for _, n := range []int{0, 1, 2, 31} {
			l = append(l, byePiece(notes.Bye{Sources: sources(n), Reason: text(reason)}))
		}
	}
	for _, data := range []int{0, 4, 1024} {
		l = append(l, appPiece(notes.App{Sub: 5, Source: 3, Name: "name", Data: text(data)}))
	}
	return l
}

// TestP91RightOnesAreRead: what the other tests break is right, as it is.
func TestP91RightOnesAreRead(t *testing.T) {
	for _, p := range rights() {
		if oneWay(t, p) != 1 {
			t.Errorf("%s: isn't read", short(p))
		}
	}
}

// TestP91CountThatDoesNotFit: of names and Sources; of an App any of 0 to 31 is
// its Sub.
func TestP91CountThatDoesNotFit(t *testing.T) {
	for _, p := range rights() {
		was := p.Count
		for _, n := range []int{math.MinInt, math.MinInt + 1, -256, -32, -1, 32, 33, 256, math.MaxInt - 1, math.MaxInt} {
			p.Count = n
			refused(t, "a Count that may not be", p)
		}
		for n := range 32 {
			p.Count = n
			switch {
			case n == was:
			case p.Kind == 204:
				if a, e := notes.ToApp(p); e != api.OK || a.Sub != n {
					t.Errorf("Sub %d: %d, %d", n, a.Sub, e)
				}
			case p.Kind == 203:
				// Fewer Sources may leave just the bytes of a Reason.
				oneWay(t, p)
			default:
				refused(t, "another Count", p)
			}
		}
	}
	four := byePiece(notes.Bye{Sources: []uint32{5, 5, 5, 5}})
	for n := range 32 {
		if four.Count = n; n != 4 {
			refused(t, "another Count of Sources", four)
		}
	}
	for _, n := range []int{32, 33} {
		p := namesPiece(slices.Repeat([]notes.Name{{Source: 1, Text: "a"}}, n)...)
		refused(t, "too many names", p)
		refused(t, "too many Sources", byePiece(notes.Bye{Sources: sources(n)}))
		refused(t, "too many Sources, and a Reason", byePiece(notes.Bye{Sources: sources(n), Reason: "abc"}))
		refused(t, "too great a Sub", appPiece(notes.App{Sub: n, Name: "name"}))
	}
}

// TestP91OtherLengths: Bodies that are cut short, and some that are too long.
func TestP91OtherLengths(t *testing.T) {
	for _, p := range rights() {
		whole := p.Body
		for n := range len(whole) {
			if p.Body = whole[:n]; cutMayBe(p) {
				continue
			}
			refused(t, "cut short", p)
		}
		for _, more := range []int{1, 2, 3, 4, 5, 8, 1024, 1028} {
			if p.Body = whole + strings.Repeat("\x00", more); cutMayBe(p) {
				continue
			}
			refused(t, "too long", p)
		}
	}
	refused(t, "an App's Data of 1028 bytes", appPiece(notes.App{Name: "name", Data: text(1028)}))
	refused(t, "an App's Name of 3 bytes", appPiece(notes.App{Name: "abc"}))
	refused(t, "an App's Name of 5 bytes", appPiece(notes.App{Name: "abcde"}))
}

// cutMayBe: an App has as much Data as there is; a Bye without bytes behind its
// Sources has no Reason.
func cutMayBe(p piece.Piece) bool {
	if p.Kind == 204 {
		return len(p.Body) >= 8 && len(p.Body) <= 1032 && len(p.Body)%4 == 0
	}
	return p.Kind == 203 && len(p.Body) == 4*p.Count
}

// TestP91BytesBehind: none behind a Text or a Reason may be another than 0.
func TestP91BytesBehind(t *testing.T) {
	for n := 1; n <= 9; n++ {
		first, second := notes.Name{Source: 1, Text: text(n)}, notes.Name{Source: 2, Text: "x"}
		p := namesPiece(first, second)
		for at := 6 + n; at < len(namesPiece(first).Body); at++ {
			for _, other := range []byte{1, 2, 4, 128, 255} {
				refused(t, "a byte behind a Text", changed(p, at, other))
			}
		}
		b := byePiece(notes.Bye{Sources: sources(2), Reason: text(n)})
		for at := 8 + 1 + n; at < len(b.Body); at++ {
			for _, other := range []byte{1, 2, 4, 128, 255} {
				refused(t, "a byte behind a Reason", changed(b, at, other))
			}
		}
	}
}

// TestP91BytesTooManyAndTooFew: bytes 0 behind a Text and a Reason.
func TestP91BytesTooManyAndTooFew(t *testing.T) {
	for n := 1; n <= 9; n++ {
		first, second := namesPiece(notes.Name{Source: 1, Text: text(n)}).Body, namesPiece(notes.Name{Source: 2, Text: "x"}).Body
		bye := byePiece(notes.Bye{Sources: sources(1), Reason: text(n)}).Body
		for _, more := range []int{1, 2, 3, 4, 5, 8} {
			zeros := strings.Repeat("\x00", more)
			refused(t, "too many behind the first Text", piece.Piece{Count: 2, Kind: 202, Body: first + zeros + second})
			refused(t, "too many behind the last Text", piece.Piece{Count: 2, Kind: 202, Body: second + first + zeros})
			refused(t, "too many behind a Reason", piece.Piece{Count: 1, Kind: 203, Body: bye + zeros})
		}
		for fewer := 1; fewer <= len(first)-6-n; fewer++ {
			refused(t, "too few behind the first Text", piece.Piece{Count: 2, Kind: 202, Body: first[:len(first)-fewer] + second})
			refused(t, "too few behind the last Text", piece.Piece{Count: 2, Kind: 202, Body: second + first[:len(first)-fewer]})
		}
		for fewer := 1; fewer <= len(bye)-4-1-n; fewer++ {
			refused(t, "too few behind a Reason", piece.Piece{Count: 1, Kind: 203, Body: bye[:len(bye)-fewer]})
		}
	}
	refused(t, "an empty Reason", piece.Piece{Kind: 203, Body: "\x00\x00\x00\x00"})
	refused(t, "an empty Reason in a byte", piece.Piece{Kind: 203, Body: "\x00"})
	refused(t, "an empty Reason behind a Source", piece.Piece{Count: 1, Kind: 203, Body: "abcd\x00\x00\x00\x00"})
	refused(t, "an empty Text", piece.Piece{Count: 1, Kind: 202, Body: "abcd\x01\x00\x00\x00"})
	refused(t, "no byte behind a Text", piece.Piece{Count: 1, Kind: 202, Body: "abcd\x01\x02xy"})
}

// TestP91AheadOfAText: each byte there but 1.
func TestP91AheadOfAText(t *testing.T) {
	for n := 1; n <= 5; n++ {
		p := namesPiece(notes.Name{Source: 1, Text: text(n)}, notes.Name{Source: 2, Text: "x"})
		for other := range 256 {
			if other == 1 {
				continue
			}
			refused(t, "ahead of the first Text", changed(p, 4, byte(other)))
			refused(t, "ahead of the last Text", changed(p, len(p.Body)-4, byte(other)))
		}
	}
}

// changed answers a piece with another byte in its Body.
func changed(p piece.Piece, at int, other byte) piece.Piece {
	p.Body = p.Body[:at] + string([]byte{other}) + p.Body[at+1:]
	return p
}

func TestP91Goes(t *testing.T) {
	for _, x := range []struct {
		l      []uint32
		source uint32
		want   bool
	}{
		{nil, 0, false},
		{nil, 5, false},
		{[]uint32{}, 0, false},
		{[]uint32{5}, 5, true},
		{[]uint32{5}, 0, false},
		{[]uint32{5}, 4, false},
		{[]uint32{5}, 1<<31 + 5, false},
		{[]uint32{1, 2, 3}, 1, true},
		{[]uint32{1, 2, 3}, 2, true},
		{[]uint32{1, 2, 3}, 3, true},
		{[]uint32{1, 2, 3}, 4, false},
		{[]uint32{7, 7}, 7, true},
		{[]uint32{0}, 0, true},
		{[]uint32{math.MaxUint32}, math.MaxUint32, true},
		{sources(100), sources(100)[99], true},
		{sources(100), 3, false},
	} {
		for _, reason := range []string{"", "5", text(300)} {
			if got := (notes.Bye{Sources: x.l, Reason: reason}).Goes(x.source); got != x.want {
				t.Errorf("%d of %v: %v", x.source, x.l, got)
			}
		}
	}
}

// TestP91CallsLeaveTheirLists: neither a list nor its spare room is changed.
func TestP91CallsLeaveTheirLists(t *testing.T) {
	whole, numbers := some(4), sources(4)
	notes.Names(whole[:2]...)
	b := notes.Bye{Sources: numbers[:2], Reason: "ab"}
	b.Piece()
	b.Goes(7)
	if !slices.Equal(whole, some(4)) || !slices.Equal(numbers, sources(4)) || len(b.Sources) != 2 {
		t.Errorf("the lists are now %s, %v", short(whole), numbers)
	}
}

// TestP91AnswersAreNew: what is done with one answer no other one shows.
func TestP91AnswersAreNew(t *testing.T) {
	p := notes.Names(some(3)...)
	one, _ := notes.ToNames(p)
	other, _ := notes.ToNames(p)
	one[0] = notes.Name{}
	_ = append(one[:1], notes.Name{})
	if !slices.Equal(other, some(3)) {
		t.Errorf("%s", short(other))
	}
	p = notes.Bye{Sources: sources(3)}.Piece()
	bye, _ := notes.ToBye(p)
	another, _ := notes.ToBye(p)
	bye.Sources[0] = 5
	_ = append(bye.Sources[:1], 5)
	if !slices.Equal(another.Sources, sources(3)) {
		t.Errorf("%s", short(another))
	}
}

// TestP92ThereAndBack: of each piece, and of that which layer 7 makes of its
// bytes.
func TestP92ThereAndBack(t *testing.T) {
	for _, l := range names() {
		for _, p := range thereAndBack(t, notes.Names(l...)) {
			if got, e := notes.ToNames(p); e != api.OK || !slices.Equal(got, l) {
				t.Errorf("%s: %d, %s", short(l), e, short(got))
			}
		}
	}
	for _, b := range byes() {
		for _, p := range thereAndBack(t, b.Piece()) {
			if got, e := notes.ToBye(p); e != api.OK || !same(got, b) {
				t.Errorf("%s: %d, %s", short(b), e, short(got))
			}
		}
	}
	for _, a := range apps() {
		for _, p := range thereAndBack(t, a.Piece()) {
			if got, e := notes.ToApp(p); e != api.OK || got != a {
				t.Errorf("%s: %d, %s", short(a), e, short(got))
			}
		}
	}
}

// thereAndBack answers a piece, and the one that layer 7 makes of its bytes.
func thereAndBack(t *testing.T, p piece.Piece) []piece.Piece {
	t.Helper()
	l, e := piece.Split(piece.Pack(p))
	if e != api.OK || len(l) != 1 {
		t.Fatalf("%s: %d, %s", short(p), e, short(l))
	}
	return append(l, p)
}

// TestP92AtMostOne: notes that aren't alike have other pieces.
func TestP92AtMostOne(t *testing.T) {
	seen := map[piece.Piece]string{}
	once := func(p piece.Piece, of any) {
		t.Helper()
		told := fmt.Sprintf("%q", of)
		if other, ok := seen[p]; ok && other != told {
			t.Errorf("%.80s and %.80s: both %s", told, other, short(p))
		}
		seen[p] = told
	}
	for _, l := range names() {
		once(notes.Names(l...), append([]notes.Name{}, l...))
	}
	for _, b := range byes() {
		b.Sources = append([]uint32{}, b.Sources...)
		once(b.Piece(), b)
	}
	for _, a := range apps() {
		once(a.Piece(), a)
	}
}

// TestP92OneWayOfAnyPiece: pieces with each byte others, cut, drawn out, and
// such as chance makes: what is read makes just that piece.
func TestP92OneWayOfAnyPiece(t *testing.T) {
	r := rand.New(rand.NewSource(11))
	taken := 0
	for _, p := range rights() {
		for n := range len(p.Body) {
			if n > 40 && r.Intn(20) != 0 {
				continue
			}
			for _, other := range []byte{0, 1, p.Body[n] + 1, p.Body[n] - 1, byte(r.Uint32())} {
				taken += oneWay(t, changed(p, n, other))
			}
			taken += oneWay(t, piece.Piece{Count: r.Intn(34) - 1, Kind: p.Kind, Body: p.Body[:n]})
			taken += oneWay(t, piece.Piece{Count: r.Intn(5), Kind: p.Kind, Body: p.Body[n:]})
			taken += oneWay(t, piece.Piece{Count: r.Intn(5), Kind: p.Kind, Body: p.Body[:n] + string([]byte{byte(r.Intn(3))}) + p.Body[n:]})
		}
	}
	for range 20000 {
		b := make([]byte, r.Intn(40))
		for i := range b {
			b[i] = byte(r.Intn(4))
		}
		taken += oneWay(t, piece.Piece{Count: r.Intn(4), Kind: 201 + r.Intn(5), Body: string(b)})
	}
	if taken == 0 {
		t.Error("no pieces were taken")
	}
}

// oneWay: a piece that is read is just that of what it says, and only the call
// of its Kind reads it. It answers how many pieces were read: one or none.
func oneWay(t *testing.T, p piece.Piece) int {
	t.Helper()
	var made []piece.Piece
	if l, e := notes.ToNames(p); e == api.OK {
		made = append(made, notes.Names(l...), namesPiece(l...))
	}
	if b, e := notes.ToBye(p); e == api.OK {
		made = append(made, b.Piece(), byePiece(b))
	}
	if a, e := notes.ToApp(p); e == api.OK {
		made = append(made, a.Piece(), appPiece(a))
	}
	if len(made) == 0 {
		refused(t, "any piece", p)
		return 0
	}
	if !slices.Equal(made, []piece.Piece{p, p}) {
		t.Fatalf("%s: makes %s", short(p), short(made))
	}
	return 1
}
