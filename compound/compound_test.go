package compound_test

import (
	"fmt"
	"math"
	"math/rand"
	"slices"
	"strings"
	"testing"

	"cordelle/api"
	"cordelle/compound"
	"cordelle/crc"
	"cordelle/nack"
	"cordelle/notes"
	"cordelle/piece"
	"cordelle/report"
	"cordelle/subflow"
)

type pieces = []piece.Piece

// What pieces say, of each kind one and another.
var (
	receives = report.Report{Source: 1}
	sends    = report.Report{Source: 2, IsSender: true, Sent: report.Sent{Clock: 5, Time: 6, Packets: 7, Bytes: 8}, Blocks: []report.Block{{Source: 3, Lost: -1}}}
	me       = notes.Name{Source: 1, Text: "me"}
	you      = notes.Name{Source: 2, Text: "you"}
	goes     = notes.Bye{Reason: "ab", Sources: []uint32{1}}
	nobody   = notes.Bye{}
	word     = notes.App{Sub: 1, Source: 2, Name: "word", Data: "data"}
	blank    = notes.App{Name: "\x00\x00\x00\x00"}
	five     = nack.Ask(1, 2, 5, 7, 100)
	round    = nack.Ask(2, 1, 65535, 0)
	line     = subflow.Lines{Source: 1, All: []subflow.Line{{Path: 2, Fraction: 3, Lost: -1}}}
	two      = subflow.Lines{Source: 2, All: []subflow.Line{{Path: 1}, {Path: 15}}}
	there    = subflow.Adverts{Source: 1, All: []subflow.Advert{{Path: 2, Up: true, Rate: 5}}}
	none     = subflow.Adverts{Source: 2}
)

// Pieces: rec and nam are the least that may go together.
var (
	rec, snd  = receives.Piece(), sends.Piece()
	nam, nams = notes.Names(me), notes.Names(you, me)
	zero      = notes.Names()
	bye, lone = goes.Piece(), nobody.Piece()
	app, bare = word.Piece(), blank.Piece()
	ask, asks = five.Piece(), round.Piece()
	row, rows = line.Piece(), two.Piece()
	adv, advs = there.Piece(), none.Piece()
)

// seal is an App that seals, but for its Data.
func seal(data string) piece.Piece { return notes.App{Name: "csum", Data: data}.Piece() }

// right makes bytes Right, by those of the first piece's source.
func right(t *testing.T, l ...piece.Piece) string {
	t.Helper()
	bytes, ok := crc.Seal(piece.Pack(l...), 4)
	if !ok {
		t.Fatalf("%s: can't be made Right", short(l))
	}
	return bytes
}

// of answers so many bytes of pieces, from 1044 to 2088: a report, names, and
// two Apps.
func of(bytes int) pieces {
	long := strings.Repeat("long", 256)
	left := bytes - len(piece.Pack(rec, nam)) - 12 - len(long) - 12
	return pieces{rec, nam, notes.App{Name: "long", Data: long}.Piece(), notes.App{Name: "left", Data: long[:left]}.Piece()}
}

// together are pieces that may go together.
func together() []pieces {
	l := []pieces{
		{rec, nam}, {snd, nam}, {rec, nams}, {rec, snd, nam}, {rec, nam, snd}, {snd, rec, snd, nam}, {rec, rec, nam, nam},
		{rec, nam, nams}, {rec, zero, nam}, {rec, nam, zero}, {rec, zero, zero, nams, zero},
		{rec, nam, bye}, {rec, nam, lone}, {rec, nam, app, bye}, {rec, nam, app, bare}, {rec, app, nam}, {rec, app, bare, nam, bye},
		{rec, nam, ask}, {rec, ask, nam, asks}, {rec, nam, row}, {rec, row, nam, rows}, {rec, nam, adv}, {rec, adv, nam, advs},
		{snd, rec, zero, app, nam, row, adv, nams, ask, asks, advs, bare, rows, app, bye},
		{rec, nam, ask, bye}, {rec, ask, row, adv, app, nam, bye},
		of(1476), of(1480), of(1484),
	}
	for _, name := range []string{"CSUM", "csu\x00", "sumc", "\x00sum", "csun", "dsum"} {
		l = append(l, pieces{rec, nam, notes.App{Name: name, Data: "data"}.Piece()})
	}
	random := rand.New(rand.NewSource(17))
	for range 300 {
		l = append(l, some(random))
	}
	return l
}

// some are pieces that chance chooses, and that may go together.
func some(random *rand.Rand) pieces {
	kinds := pieces{rec, snd, nam, nams, zero, app, bare, ask, asks, row, rows, adv, advs}
	list := pieces{}
	for range random.Intn(9) {
		list = append(list, kinds[random.Intn(len(kinds))])
	}
	list = slices.Insert(list, random.Intn(len(list)+1), []piece.Piece{nam, nams}[random.Intn(2)])
	list = slices.Insert(list, 0, []piece.Piece{rec, snd}[random.Intn(2)])
	switch random.Intn(3) {
	case 0:
		list = append(list, bye)
	case 1:
		list = append(list, lone)
	}
	return list
}

// mayNot are pieces that may not be by layer 7.
func mayNot() pieces {
	l := pieces{{}}
	for _, p := range (pieces{rec, nam, bye, app, ask, row, adv}) {
		for _, count := range []int{-1, 32, math.MinInt, math.MaxInt} {
			l = append(l, piece.Piece{Count: count, Kind: p.Kind, Body: p.Body})
		}
		l = append(l, piece.Piece{Count: p.Count, Kind: p.Kind, Body: p.Body + "x"})
		l = append(l, piece.Piece{Count: p.Count, Kind: p.Kind + 256, Body: p.Body})
	}
	return append(l, piece.Piece{Kind: 191}, piece.Piece{Kind: 224}, piece.Piece{Kind: 200, Body: strings.Repeat("four", 65536)})
}

// foreign are pieces that may be, but are none of those that are known.
func foreign() pieces {
	l := pieces{
		{Kind: 192}, {Kind: 199, Body: rec.Body}, {Kind: 206, Count: 1, Body: ask.Body}, {Kind: 210}, {Kind: 212, Count: 1, Body: adv.Body}, {Kind: 223},
		seal("data"), seal(""), seal("datadata"), notes.App{Sub: 5, Source: 6, Name: "csum", Data: "data"}.Piece(),
		{Kind: 200}, {Kind: 201}, {Kind: 201, Count: 1, Body: rec.Body}, {Kind: 201, Body: snd.Body}, {Kind: 200, Count: 1, Body: rec.Body},
		{Kind: 202, Count: 1}, {Kind: 202, Body: nam.Body}, {Kind: 202, Count: 2, Body: nam.Body}, {Kind: 202, Count: 1, Body: nams.Body},
		{Kind: 203, Count: 1}, {Kind: 203, Body: "\x00\x00\x00\x00"}, {Kind: 203, Count: 3, Body: bye.Body}, {Kind: 203, Body: "\x01a\x00\x01"},
		{Kind: 204}, {Kind: 204, Body: "four"}, {Kind: 204, Body: strings.Repeat("four", 259)},
		{Kind: 205}, {Kind: 205, Count: 1}, {Kind: 205, Count: 1, Body: ask.Body[:8]}, {Kind: 205, Body: ask.Body}, {Kind: 205, Count: 2, Body: ask.Body},
	}
	for _, p := range (pieces{ask, adv, advs, row, rows}) {
		for count := range 32 {
			if p.Kind == 205 && count != 1 || p.Kind == 211 && count != 1 && count != 2 {
				l = append(l, piece.Piece{Count: count, Kind: p.Kind, Body: p.Body})
			}
		}
	}
	return append(l, piece.Piece{Kind: 211, Count: 1}, piece.Piece{Kind: 211, Count: 2}, piece.Piece{Kind: 211, Count: 1, Body: rec.Body}, piece.Piece{Kind: 211, Count: 1, Body: adv.Body}, piece.Piece{Kind: 211, Count: 2, Body: rec.Body + "\x01\x02\x00\x00"}, piece.Piece{Kind: 211, Count: 2, Body: rec.Body + "\x02\x00\x00\x00\x01\x00\x00\x00"})
}

// short tells what is handed in, cut.
func short(of any) string { return fmt.Sprintf("%.300s", fmt.Sprintf("%+v", of)) }

// same tells whether two are alike; a nil list is the same as none.
func same(a, b compound.Bag) bool { return fmt.Sprintf("%+v", a) == fmt.Sprintf("%+v", b) }

// apart: Check tells this error, Pack answers no bytes, and Open nothing.
func apart(t *testing.T, why string, want api.Errno, l ...piece.Piece) {
	t.Helper()
	if e := compound.Check(l...); e != want {
		t.Errorf("%s: %s: %d, not %d", why, short(l), e, want)
	}
	if s := compound.Pack(l...); s != "" {
		t.Errorf("%s: %s: %.80x", why, short(l), s)
	}
	if b := compound.Open(l...); !same(b, compound.Bag{}) {
		t.Errorf("%s: %s: says %s", why, short(l), short(b))
	}
}

// refused: Parse tells this error, beside no pieces.
func refused(t *testing.T, why, s string, want api.Errno) {
	t.Helper()
	if l, e := compound.Parse(s); e != want || len(l) != 0 {
		t.Errorf("%s: %.80x: %d, not %d: %s", why, s, e, want, short(l))
	}
}

// read: Parse answers these pieces.
func read(t *testing.T, s string, want ...piece.Piece) {
	t.Helper()
	if l, e := compound.Parse(s); e != api.OK || !slices.Equal(l, want) {
		t.Errorf("%.80x: %d, %s, not %s", s, e, short(l), short(want))
	}
}

func TestP121CheckOfSuchAsMayGoTogether(t *testing.T) {
	for _, l := range together() {
		if e := compound.Check(l...); e != api.OK {
			t.Errorf("%s: %d", short(l), e)
		}
	}
}

func TestP121CheckTellsForm(t *testing.T) {
	for why, lists := range map[string][]pieces{
		"no pieces":           {nil, {}},
		"no report first":     {{nam}, {nam, rec}, {nam, rec, nam}, {zero, rec, nam}, {bye}, {app, nam}, {app, rec, nam}, {ask, rec, nam}, {row, rec, nam}, {adv, rec, nam}, {nam, bye}, {lone, rec, nam}, {{Kind: 206}, rec, nam}, {{Kind: 200}, rec, nam}, {{Kind: 201, Count: 1, Body: rec.Body}, nam}},
		"no names":            {{rec}, {snd}, {rec, snd}, {rec, bye}, {rec, app}, {rec, ask, row, adv}, {rec, ask, row, adv, bye}},
		"names of none":       {{rec, zero}, {snd, zero, zero}, {rec, zero, bye}, {rec, {Kind: 202, Count: 1}}, {rec, {Kind: 202, Body: nam.Body}}},
		"a Bye, not the last": {{rec, bye, nam}, {rec, nam, bye, ask}, {rec, nam, bye, app}, {rec, nam, bye, rec}, {rec, nam, lone, zero}, {rec, nam, bye, row}, {rec, nam, bye, adv}, {rec, nam, bye, {Kind: 206}}},
		"two Byes":            {{rec, nam, bye, bye}, {rec, nam, lone, lone}, {rec, nam, lone, bye}, {rec, nam, bye, ask, bye}, {rec, bye, nam, bye}},
	} {
		for _, l := range lists {
			apart(t, why, api.ErrForm, l...)
		}
	}
}

// TestP121CheckOfOneThatMayNotBe: wherever it stands.
func TestP121CheckOfOneThatMayNotBe(t *testing.T) {
	for _, wrong := range mayNot() {
		if wrong.Check() == api.OK {
			t.Fatalf("%s: may be", short(wrong))
		}
		for _, whole := range []pieces{{rec, nam}, {snd, nams, app, ask, bye}, of(1600), {rec, nam, {Kind: 206}}} {
			for at := range len(whole) + 1 {
				apart(t, "one that may not be", api.ErrForm, slices.Insert(slices.Clone(whole), at, wrong)...)
			}
		}
		apart(t, "alone", api.ErrForm, wrong)
	}
}

// TestP121CheckTellsKind: of such as are none of those that are known; that is
// told behind all of form, and ahead of how many bytes there are.
func TestP121CheckTellsKind(t *testing.T) {
	for _, wrong := range foreign() {
		if wrong.Check() != api.OK {
			t.Fatalf("%s: may not be", short(wrong))
		}
		for _, whole := range []pieces{{rec, nam}, {rec, nam, bye}, {snd, app, zero, ask, nams, row, adv}, of(1600)} {
			for at := 1; at <= len(whole); at++ {
				if at == len(whole) && whole[at-1] == bye {
					continue
				}
				apart(t, "another kind", api.ErrKind, slices.Insert(slices.Clone(whole), at, wrong)...)
			}
		}
		apart(t, "and no names", api.ErrForm, rec, wrong)
		apart(t, "and no report", api.ErrForm, wrong, nam)
		apart(t, "and a Bye, not the last", api.ErrForm, rec, nam, bye, wrong)
		apart(t, "and another Bye", api.ErrForm, rec, nam, bye, wrong, bye)
	}
}

// TestP121CheckTellsBig: their bytes, and 16, are just 1500, and 4 more.
func TestP121CheckTellsBig(t *testing.T) {
	for bytes := 1400; bytes <= 1484; bytes += 4 {
		if l := of(bytes); len(piece.Pack(l...)) != bytes || compound.Check(l...) != api.OK || len(compound.Pack(l...)) != bytes+16 {
			t.Errorf("%d bytes: %d, %d", bytes, compound.Check(l...), len(compound.Pack(l...)))
		}
	}
	for bytes := 1488; bytes <= 1700; bytes += 4 {
		apart(t, "too many bytes", api.ErrBig, of(bytes)...)
		apart(t, "and a Bye", api.ErrBig, append(of(bytes), bye)...)
	}
	apart(t, "many pieces", api.ErrBig, slices.Insert(slices.Repeat(pieces{rec}, 1000), 999, nam)...)
	apart(t, "too many bytes without names", api.ErrForm, slices.Delete(of(1600), 1, 2)...)
	apart(t, "too many bytes without a report", api.ErrForm, of(1600)[1:]...)
	apart(t, "too many bytes behind a Bye", api.ErrForm, append(pieces{rec, nam, bye}, of(1600)...)...)
	apart(t, "too many bytes of another kind", api.ErrKind, append(of(1600), piece.Piece{Kind: 206})...)
}

func TestP121PackInFull(t *testing.T) {
	small := notes.Names(notes.Name{Source: 1, Text: "a"})
	s := compound.Pack(rec, small)
	ahead := "\x80\xc9\x00\x01\x00\x00\x00\x01" + "\x81\xca\x00\x02\x00\x00\x00\x01\x01\x01a\x00" + "\x80\xcc\x00\x03\x00\x00\x00\x00csum"
	if len(s) != 36 || s[:32] != ahead || !crc.Right(s) {
		t.Errorf("%x", s)
	}
	if rem := crc.Rem(ahead, "\x00\x00\x00\x00"); s[32:] != string([]byte{byte(rem >> 24), byte(rem >> 16), byte(rem >> 8), byte(rem)}) {
		t.Errorf("%x, of %08x", s, rem)
	}
}

// TestP121PackOfSuchAsMayGoTogether: their bytes, that App, and it is Right.
func TestP121PackOfSuchAsMayGoTogether(t *testing.T) {
	for _, l := range together() {
		s, ahead := compound.Pack(l...), piece.Pack(l...)+"\x80\xcc\x00\x03\x00\x00\x00\x00csum"
		if len(s) != len(ahead)+4 || !strings.HasPrefix(s, ahead) || !crc.Right(s) || len(s) > 1500 {
			t.Errorf("%s: %.80x", short(l), s)
		}
	}
}

// TestP121ParseOfBytes: how many, and are they Right, is told ahead of all.
func TestP121ParseOfBytes(t *testing.T) {
	refused(t, "no bytes", "", api.ErrForm)
	for _, bytes := range []int{1, 2, 3, 4, 20, 36, 1499, 1500} {
		refused(t, "bytes that aren't Right", strings.Repeat("a", bytes), api.ErrSum)
		refused(t, "bytes that aren't Right", strings.Repeat("\x00", bytes-1)+"\x01", api.ErrSum)
	}
	for _, bytes := range []int{1501, 1502, 1504, 3000, 1 << 20} {
		refused(t, "too many bytes", strings.Repeat("a", bytes), api.ErrBig)
		refused(t, "too many bytes that are Right", strings.Repeat("\x00", bytes), api.ErrBig)
	}
	refused(t, "1500 bytes 0", strings.Repeat("\x00", 1500), api.ErrForm)
	whole := compound.Pack(of(1484)...)
	if len(whole) != 1500 {
		t.Fatalf("%d bytes", len(whole))
	}
	read(t, whole, of(1484)...)
	refused(t, "and one byte more", whole+"\x00", api.ErrBig)
	// All would be right, but for how many bytes there are.
	more, _ := crc.Seal(piece.Pack(append(of(1488), seal("data"))...), 1500)
	if len(more) != 1504 || !crc.Right(more) {
		t.Fatalf("%d bytes", len(more))
	}
	refused(t, "and four bytes more", more, api.ErrBig)
	less := compound.Pack(rec, nam)
	refused(t, "and a byte 0", less+"\x00", api.ErrEnd)
	refused(t, "one byte less", less[:len(less)-1], api.ErrSum)
}

// TestP121ParseTellsPieces: layer 7's errors, of bytes that are Right.
func TestP121ParseTellsPieces(t *testing.T) {
	whole := compound.Pack(rec, nam)
	for _, bad := range []struct {
		behind string
		want   api.Errno
	}{
		{"\x80", api.ErrEnd},
		{"\x80\xc9\x00", api.ErrEnd},
		{"\x80\xc9\x00\x01", api.ErrEnd},
		{"\x80\xc9\xff\xffabcd", api.ErrEnd},
		{"\x00\xc9\x00\x00", api.ErrForm},
		{"\xa0\xc9\x00\x00", api.ErrForm},
		{"\x80\x60\x00\x00", api.ErrKind},
		{"\x80\xe0\x00\x00", api.ErrKind},
		{"\x80\xe0\xff\xff", api.ErrKind},
	} {
		for _, ahead := range []string{whole, piece.Pack(rec), piece.Pack(rec, nam), piece.Pack(rec, bye, nam)} {
			s, _ := crc.Seal(ahead+bad.behind, 4)
			refused(t, "behind some pieces", s, bad.want)
			refused(t, "and not Right", crc.Turn(s, 40, 1<<31), api.ErrSum)
		}
		// With more bytes behind it a piece that was cut short is another one.
		if bad.want != api.ErrEnd {
			refused(t, "ahead of a seal", sealed(t, piece.Pack(rec, nam)+bad.behind+piece.Pack(seal("data"))), bad.want)
		}
	}
}

// sealed makes bytes Right, by their last four.
func sealed(t *testing.T, s string) string {
	t.Helper()
	s, ok := crc.Seal(s, len(s)-4)
	if !ok {
		t.Fatal("too few bytes")
	}
	return s
}

// TestP121ParseOfAnotherLast: what isn't such an App, of bytes that are Right.
func TestP121ParseOfAnotherLast(t *testing.T) {
	csum := notes.App{Name: "csum", Data: "data"}
	lasts := pieces{rec, snd, nam, zero, bye, lone, app, bare, ask, row, adv, advs, {Kind: 206}, {Kind: 223}, seal(""), seal("datadata"), seal(strings.Repeat("data", 256))}
	for sub := 1; sub < 32; sub++ {
		other := csum
		other.Sub = sub
		lasts = append(lasts, other.Piece())
	}
	for _, source := range []uint32{1, 256, 1 << 16, 1 << 24, 1 << 31, math.MaxUint32} {
		other := csum
		other.Source = source
		lasts = append(lasts, other.Piece())
	}
	for _, name := range []string{"CSUM", "csu\x00", "dsum", "csun", "cs\x00m", "data"} {
		other := csum
		other.Name = name
		lasts = append(lasts, other.Piece())
	}
	lasts = append(lasts, piece.Piece{Kind: 205, Body: seal("data").Body}, piece.Piece{Kind: 203, Body: seal("data").Body})
	for _, last := range lasts {
		for _, ahead := range []pieces{{rec, nam}, {rec, nam, ask}, {rec}, {rec, bye, nam}, {rec, nam, seal("data")}} {
			refused(t, "another last one", right(t, append(ahead, last)...), api.ErrForm)
		}
		refused(t, "the seal ahead", sealed(t, piece.Pack(rec, nam, seal("data"), last)), api.ErrForm)
	}
	// With that App as the last one it is read: so just that was wrong.
	whole := right(t, rec, nam, seal("data"))
	other := report.Report{Source: uint32(whole[4])<<24 | uint32(whole[5])<<16 | uint32(whole[6])<<8 | uint32(whole[7])}
	read(t, whole, other.Piece(), nam)
}

// TestP121ParseTellsCheck: of those ahead of the seal.
func TestP121ParseTellsCheck(t *testing.T) {
	refused(t, "the seal alone", sealed(t, piece.Pack(seal("data"))), api.ErrForm)
	refused(t, "two seals", sealed(t, piece.Pack(seal("data"), seal("data"))), api.ErrForm)
	for _, l := range []pieces{{rec}, {nam}, {nam, rec}, {rec, zero}, {rec, bye, nam}, {rec, nam, bye, ask}, {rec, nam, bye, bye}, {rec, bye}, {app, rec, nam}, {rec, nam, bye, {Kind: 206}}} {
		refused(t, "of form", sealed(t, piece.Pack(append(l, seal("data"))...)), api.ErrForm)
	}
	for _, wrong := range foreign() {
		if len(wrong.Body) > 1000 {
			continue
		}
		for _, l := range []pieces{{rec, nam, wrong}, {rec, wrong, nam}, {snd, nams, wrong, ask, bye}} {
			refused(t, "of kind", sealed(t, piece.Pack(append(l, seal("data"))...)), api.ErrKind)
		}
		refused(t, "of kind, and form", sealed(t, piece.Pack(rec, wrong, seal("data"))), api.ErrForm)
	}
}

func TestP121OpenOfSome(t *testing.T) {
	for _, x := range []struct {
		l    pieces
		want compound.Bag
	}{
		{pieces{rec, nam}, compound.Bag{Reports: []report.Report{receives}, Names: []notes.Name{me}}},
		{pieces{snd, nams}, compound.Bag{Reports: []report.Report{sends}, Names: []notes.Name{you, me}}},
		{pieces{rec, zero, nam, snd, nams, zero}, compound.Bag{Reports: []report.Report{receives, sends}, Names: []notes.Name{me, you, me}}},
		{pieces{rec, nam, bye}, compound.Bag{Reports: []report.Report{receives}, Names: []notes.Name{me}, Byes: []notes.Bye{goes}}},
		{pieces{rec, nam, lone}, compound.Bag{Reports: []report.Report{receives}, Names: []notes.Name{me}, Byes: []notes.Bye{nobody}}},
		{pieces{rec, app, nam, bare}, compound.Bag{Reports: []report.Report{receives}, Names: []notes.Name{me}, Apps: []notes.App{word, blank}}},
		{pieces{rec, asks, nam, ask}, compound.Bag{Reports: []report.Report{receives}, Names: []notes.Name{me}, Nacks: []nack.Nack{round, five}}},
		{pieces{rec, rows, nam, row}, compound.Bag{Reports: []report.Report{receives}, Names: []notes.Name{me}, Lines: []subflow.Lines{two, line}}},
		{pieces{rec, advs, nam, adv}, compound.Bag{Reports: []report.Report{receives}, Names: []notes.Name{me}, Adverts: []subflow.Adverts{none, there}}},
		{
			pieces{snd, advs, rows, ask, app, nam, rec, adv, row, asks, bare, nams, bye},
			compound.Bag{
				Reports: []report.Report{sends, receives}, Names: []notes.Name{me, you, me}, Byes: []notes.Bye{goes}, Apps: []notes.App{word, blank},
				Nacks: []nack.Nack{five, round}, Lines: []subflow.Lines{two, line}, Adverts: []subflow.Adverts{none, there},
			},
		},
	} {
		if bag := compound.Open(x.l...); !same(bag, x.want) {
			t.Errorf("%s: %s, not %s", short(x.l), short(bag), short(x.want))
		}
	}
}

// TestP121OpenOfOthers: pieces that may not go together say nothing, however
// many of them are right.
func TestP121OpenOfOthers(t *testing.T) {
	for _, l := range []pieces{nil, {rec}, {nam}, {nam, rec}, {rec, bye, nam}, {rec, nam, {Kind: 206}}, {rec, nam, {}}, {rec, nam, app, seal("data")}, of(1488), {rec, nam, bye, ask}} {
		if bag := compound.Open(l...); !same(bag, compound.Bag{}) {
			t.Errorf("%s: %s", short(l), short(bag))
		}
	}
}

func TestP121PiecesOfSome(t *testing.T) {
	for _, x := range []struct {
		bag  compound.Bag
		want pieces
	}{
		{compound.Bag{}, nil},
		{compound.Bag{Names: []notes.Name{}, Byes: []notes.Bye{}}, nil},
		{compound.Bag{Reports: []report.Report{receives}}, pieces{rec}},
		{compound.Bag{Names: []notes.Name{me}}, pieces{nam}},
		{compound.Bag{Names: []notes.Name{you, me}}, pieces{nams}},
		{compound.Bag{Byes: []notes.Bye{goes}}, pieces{bye}},
		{compound.Bag{Byes: []notes.Bye{goes, nobody, goes}}, pieces{bye, lone, bye}},
		{compound.Bag{Apps: []notes.App{word}}, pieces{app}},
		{compound.Bag{Apps: []notes.App{{Name: "csum", Data: "data"}}}, pieces{seal("data")}},
		{compound.Bag{Nacks: []nack.Nack{five}}, pieces{ask}},
		{compound.Bag{Lines: []subflow.Lines{line}}, pieces{row}},
		{compound.Bag{Adverts: []subflow.Adverts{there}}, pieces{adv}},
		{
			compound.Bag{
				Reports: []report.Report{sends, receives}, Names: []notes.Name{you, me}, Byes: []notes.Bye{nobody, goes}, Apps: []notes.App{blank, word},
				Nacks: []nack.Nack{round, five}, Lines: []subflow.Lines{two, line}, Adverts: []subflow.Adverts{none, there},
			},
			pieces{snd, rec, nams, bare, app, asks, ask, rows, row, advs, adv, lone, bye},
		},
	} {
		if got := x.bag.Pieces(); !slices.Equal(got, x.want) {
			t.Errorf("%s: %s, not %s", short(x.bag), short(got), short(x.want))
		}
	}
}

// TestP121PiecesOfSuchAsMayNotBe: they are left out, and the others stay.
func TestP121PiecesOfSuchAsMayNotBe(t *testing.T) {
	wrong := compound.Bag{
		Reports: []report.Report{{Sent: report.Sent{Time: 1}}}, Names: []notes.Name{me, {}, you}, Byes: []notes.Bye{{Reason: strings.Repeat("a", 256)}},
		Apps: []notes.App{{}}, Nacks: []nack.Nack{{}}, Lines: []subflow.Lines{{}}, Adverts: []subflow.Adverts{{All: []subflow.Advert{{Path: 16}}}},
	}
	if got := wrong.Pieces(); len(got) != 0 {
		t.Errorf("%s", short(got))
	}
	mixed := compound.Bag{
		Reports: append(wrong.Reports, receives, wrong.Reports[0], sends), Names: []notes.Name{me},
		Byes: append(wrong.Byes, goes), Apps: []notes.App{word, {}, blank}, Nacks: []nack.Nack{{From: 1}, five, {}},
		Lines: []subflow.Lines{{Source: 1}, line}, Adverts: []subflow.Adverts{none, wrong.Adverts[0], there},
	}
	if got := mixed.Pieces(); !slices.Equal(got, pieces{rec, snd, nam, app, bare, ask, row, advs, adv, bye}) {
		t.Errorf("%s", short(got))
	}
	mixed.Names = slices.Repeat([]notes.Name{me}, 31)
	if got := mixed.Pieces(); len(got) != 10 || got[2] != notes.Names(mixed.Names...) {
		t.Errorf("31 names: %s", short(got))
	}
	mixed.Names = append(mixed.Names, you)
	if got := mixed.Pieces(); !slices.Equal(got, pieces{rec, snd, app, bare, ask, row, advs, adv, bye}) {
		t.Errorf("32 names: %s", short(got))
	}
}

// TestP121PiecesOfWhatOpenAnswers: those that stood in that order, with all
// names in one, are the same.
func TestP121PiecesOfWhatOpenAnswers(t *testing.T) {
	for _, whole := range []pieces{{rec, nam}, {snd, nams, bye}, {rec, snd, nams, app, bare, ask, asks, row, rows, adv, advs, lone}, {rec, nam, ask}, {rec, nam, row, adv, bye}, of(1484)} {
		if got := compound.Open(whole...).Pieces(); !slices.Equal(got, whole) {
			t.Errorf("%s: %s", short(whole), short(got))
		}
	}
	mixed := pieces{snd, advs, zero, rows, ask, app, nam, rec, adv, row, asks, bare, nams, bye}
	want := pieces{snd, rec, notes.Names(me, you, me), app, bare, ask, asks, rows, row, advs, adv, bye}
	if got := compound.Open(mixed...).Pieces(); !slices.Equal(got, want) {
		t.Errorf("%s", short(got))
	}
	twenty := notes.Names(slices.Repeat([]notes.Name{me}, 20)...)
	if got := compound.Open(rec, twenty, twenty, ask).Pieces(); !slices.Equal(got, pieces{rec, ask}) {
		t.Errorf("of 40 names: %s", short(got))
	}
	if got := compound.Open(rec, bye, nam).Pieces(); len(got) != 0 {
		t.Errorf("of pieces that may not go together: %s", short(got))
	}
	for _, whole := range together() {
		bag := compound.Open(whole...)
		if got := bag.Pieces(); !same(compound.Open(got...), bag) {
			t.Errorf("%s: %s", short(whole), short(got))
		}
	}
}

// TestP121CallsLeaveTheirLists: neither a list nor its spare room is changed.
func TestP121CallsLeaveTheirLists(t *testing.T) {
	whole := pieces{rec, nam, ask, bye, app, {}}
	was := slices.Clone(whole)
	for cut := range len(whole) + 1 {
		compound.Check(whole[:cut]...)
		compound.Pack(whole[:cut]...)
		compound.Open(whole[:cut]...)
	}
	if !slices.Equal(whole, was) {
		t.Errorf("the list is now %s", short(whole))
	}
	names := []notes.Name{me, you, me}
	bag := compound.Bag{Reports: []report.Report{{Sent: report.Sent{Time: 1}}, receives}, Names: names[:1], Apps: []notes.App{{}, word}}
	bag.Pieces()
	if !slices.Equal(names, []notes.Name{me, you, me}) || len(bag.Reports) != 2 || bag.Reports[0].Time != 1 || bag.Apps[1] != word {
		t.Errorf("the bag is now %s", short(bag))
	}
}

// TestP121AnswersAreNew: what is done with one answer no other one shows.
func TestP121AnswersAreNew(t *testing.T) {
	bytes := compound.Pack(rec, nams, bye)
	one, _ := compound.Parse(bytes)
	other, _ := compound.Parse(bytes)
	one[0] = piece.Piece{}
	_ = append(one, piece.Piece{})
	if !slices.Equal(other, pieces{rec, nams, bye}) {
		t.Errorf("%s", short(other))
	}
	first, second := compound.Open(other...), compound.Open(other...)
	first.Names[0] = notes.Name{}
	first.Byes[0].Sources[0] = 77
	first.Reports[0] = report.Report{}
	if !same(second, compound.Bag{Reports: []report.Report{receives}, Names: []notes.Name{you, me}, Byes: []notes.Bye{goes}}) {
		t.Errorf("%s", short(second))
	}
	second.Pieces()[0] = piece.Piece{}
	if !slices.Equal(second.Pieces(), pieces{rec, nams, bye}) {
		t.Errorf("%s", short(second.Pieces()))
	}
}

// TestP121ParseHasNoRoom: the seal isn't there any more behind the others.
func TestP121ParseHasNoRoom(t *testing.T) {
	l, e := compound.Parse(compound.Pack(rec, nam, ask))
	if e != api.OK || len(l) != 3 || cap(l) != 3 {
		t.Errorf("%d: %d of %d", e, len(l), cap(l))
	}
}

func TestP122ThereAndBack(t *testing.T) {
	for _, l := range together() {
		read(t, compound.Pack(l...), l...)
	}
}

// TestP122AtMostOneList: lists that aren't alike have other bytes.
func TestP122AtMostOneList(t *testing.T) {
	seen := map[string]pieces{}
	for _, l := range together() {
		s := compound.Pack(l...)
		if other, ok := seen[s]; ok && !slices.Equal(l, other) {
			t.Errorf("%s and %s: both %.80x", short(l), short(other), s)
		}
		seen[s] = l
	}
}

// TestP122OneWayOfAnyBytes: bytes of pieces, each another, cut, and drawn out,
// made Right by any four of them: what is parsed is just what Pack makes of it.
func TestP122OneWayOfAnyBytes(t *testing.T) {
	random := rand.New(rand.NewSource(18))
	taken := 0
	for range 60 {
		s := compound.Pack(some(random)...)
		for at := range len(s) {
			other := s[:at] + string([]byte{s[at] ^ 1<<random.Intn(8)}) + s[at+1:]
			taken += oneWay(t, other)
			taken += oneWay(t, sealed(t, other))
			taken += resealed(t, random, other)
			taken += resealed(t, random, s[:at])
			taken += resealed(t, random, s[at:])
			taken += resealed(t, random, s[:at]+"\x00"+s[at:])
		}
	}
	if taken == 0 {
		t.Error("no bytes were taken")
	}
}

// resealed: of bytes that are made Right somewhere.
func resealed(t *testing.T, random *rand.Rand, s string) int {
	t.Helper()
	if len(s) < 4 {
		return oneWay(t, s)
	}
	s, _ = crc.Seal(s, random.Intn(len(s)-3))
	return oneWay(t, s)
}

// oneWay: bytes that are parsed are just those of the pieces that they say. It
// answers how many texts were parsed: one or none.
func oneWay(t *testing.T, s string) int {
	t.Helper()
	l, e := compound.Parse(s)
	if e != api.OK {
		refused(t, "any bytes", s, e)
		return 0
	}
	if compound.Check(l...) != api.OK || compound.Pack(l...) != s {
		t.Fatalf("%x: %s, of %x", s, short(l), compound.Pack(l...))
	}
	return 1
}

// TestP123Bursts: of 1 to 32 bits, at the first bit, at the last one, and
// between.
func TestP123Bursts(t *testing.T) {
	for _, l := range []pieces{{rec, nam}, {snd, nams, app, ask, row, adv, bye}} {
		bytes := compound.Pack(l...)
		for long := 1; long <= 32; long++ {
			for at := range 8*len(bytes) - long + 1 {
				for _, inner := range []uint32{0, math.MaxUint32, 0x04c11db7, 0xdeadbeef} {
					told(t, bytes, at, long, inner)
				}
			}
		}
	}
}

// TestP123BurstsOfTheGreatest: of 1500 bytes, at both ends, and between.
func TestP123BurstsOfTheGreatest(t *testing.T) {
	bytes := compound.Pack(of(1484)...)
	random := rand.New(rand.NewSource(19))
	for long := 1; long <= 32; long++ {
		most := 8*len(bytes) - long
		for _, at := range []int{0, 1, 8, most / 2, random.Intn(most), most - 32, most - 8, most - 1, most} {
			told(t, bytes, at, long, random.Uint32())
		}
	}
}

// told: a burst of just so many bits, which has these ones inside.
func told(t *testing.T, bytes string, at, long int, inner uint32) {
	t.Helper()
	turned := crc.Turn(bytes, at, inner<<(32-long)|1<<31|1<<(32-long))
	if crc.Burst(bytes, turned) != long {
		t.Fatalf("%d bits at %d: %d", long, at, crc.Burst(bytes, turned))
	}
	if l, e := compound.Parse(turned); e != api.ErrSum || len(l) != 0 {
		t.Fatalf("%d bits at %d: %d, %s", long, at, e, short(l))
	}
}
