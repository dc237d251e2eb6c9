package rtp_test

import (
	"encoding/binary"
	"fmt"
	"math"
	"math/rand"
	"reflect"
	"slices"
	"strings"
	"testing"

	"cordelle/api"
	"cordelle/rtp"
)

// plain is a packet of twelve bytes: version 2, and no more.
const plain = "\x80\x60\x12\x34\x01\x02\x03\x04\xf1\xf2\xf3\xf4"

// bytesOf lays a packet's bytes out field by field, as the document tells them.
func bytesOf(p rtp.Packet) string {
	b := make([]byte, 12+4*len(p.Others))
	b[0], b[1] = byte(0x80|len(p.Others)), byte(p.Kind)
	if p.Marker {
		b[1] |= 0x80
	}
	binary.BigEndian.PutUint16(b[2:], p.Seq)
	binary.BigEndian.PutUint32(b[4:], p.Time)
	binary.BigEndian.PutUint32(b[8:], p.Source)
	for i, o := range p.Others {
		binary.BigEndian.PutUint32(b[12+4*i:], o)
	}
	if p.HasExt {
		b[0] |= 0x10
		b = binary.BigEndian.AppendUint16(b, uint16(p.Profile))
		b = binary.BigEndian.AppendUint16(b, uint16(len(p.Ext)/4))
		b = append(b, p.Ext...)
	}
	b = append(b, p.Data...)
	if p.Pad > 0 {
		b[0] |= 0x20
		b = append(append(b, make([]byte, p.Pad-1)...), byte(p.Pad))
	}
	return string(b)
}

// packet makes a packet, changed by each of these.
func packet(changes ...func(*rtp.Packet)) rtp.Packet {
	p := rtp.Packet{Header: rtp.Header{Kind: 96, Seq: 0x1234, Time: 0x01020304, Source: 0xf1f2f3f4}}
	for _, change := range changes {
		change(&p)
	}
	return p
}

func others(n int) func(*rtp.Packet) {
	return func(p *rtp.Packet) {
		for i := range n {
			p.Others = append(p.Others, 0xc0000001+uint32(i)*0x01010101)
		}
	}
}

func extension(profile int, ext string) func(*rtp.Packet) {
	return func(p *rtp.Packet) { p.HasExt, p.Profile, p.Ext = true, profile, ext }
}

func data(s string) func(*rtp.Packet) { return func(p *rtp.Packet) { p.Data = s } }
func padded(n int) func(*rtp.Packet)  { return func(p *rtp.Packet) { p.Pad = n } }
func kind(n int) func(*rtp.Packet)    { return func(p *rtp.Packet) { p.Kind = n } }
func marker(p *rtp.Packet)            { p.Marker = true }
func bare(profile int, ext string) func(*rtp.Packet) {
	return func(p *rtp.Packet) { p.Profile, p.Ext = profile, ext }
}

var longest = strings.Repeat("long", 65535)

// may are packets that may be: the ordinary, and the document's edges.
func may() []rtp.Packet {
	l := []rtp.Packet{
		{},
		packet(),
		packet(marker),
		packet(kind(0)),
		packet(kind(127)),
		packet(kind(127), marker),
		packet(data("hi")),
		packet(others(1)),
		packet(others(14), data("d")),
		packet(others(15)),
		packet(extension(0, "")),
		packet(extension(65535, "")),
		packet(extension(0xbede, "abcd")),
		packet(extension(0x1000, "abcdefgh"), data("behind")),
		packet(extension(1, longest)),
		packet(padded(1)),
		packet(padded(2), data("\x00\x00")),
		packet(padded(255)),
		packet(padded(255), data(strings.Repeat("\x00", 300))),
		packet(marker, others(15), extension(65535, "\x00\x00\x00\x00"), data("all"), padded(255)),
		packet(func(p *rtp.Packet) { p.Seq, p.Time, p.Source = 65535, math.MaxUint32, math.MaxUint32 }),
		packet(data(strings.Repeat("much", 1000))),
		packet(func(p *rtp.Packet) { p.Others = []uint32{} }),
	}
	r := rand.New(rand.NewSource(4))
	for range 400 {
		l = append(l, anyPacket(r))
	}
	return l
}

func anyPacket(r *rand.Rand) rtp.Packet {
	text := func(n int) string {
		b := make([]byte, n)
		r.Read(b)
		return string(b)
	}
	p := packet(kind(r.Intn(128)), others(r.Intn(16)), data(text(r.Intn(50))))
	p.Marker, p.Seq, p.Time, p.Source = r.Intn(2) == 0, uint16(r.Uint32()), r.Uint32(), r.Uint32()
	if r.Intn(2) == 0 {
		extension(r.Intn(65536), text(4*r.Intn(9)))(&p)
	}
	if r.Intn(2) == 0 {
		p.Pad = r.Intn(256)
	}
	return p
}

// same tells whether two packets are alike; a nil list is the same as none.
func same(p, q rtp.Packet) bool {
	if !slices.Equal(p.Others, q.Others) {
		return false
	}
	p.Others, q.Others = nil, nil
	return reflect.DeepEqual(p, q)
}

func short(p rtp.Packet) string { return fmt.Sprintf("%.200s", fmt.Sprintf("%+v", p)) }

func TestP41PackOfSome(t *testing.T) {
	for _, x := range []struct {
		p    rtp.Packet
		want string
	}{
		{rtp.Packet{}, "\x80" + strings.Repeat("\x00", 11)},
		{rtp.Packet{Header: rtp.Header{Kind: 96, Seq: 1}}, "\x80\x60\x00\x01" + strings.Repeat("\x00", 8)},
		{packet(), plain},
		{packet(marker), "\x80\xe0" + plain[2:]},
		{packet(kind(127), marker), "\x80\xff" + plain[2:]},
		{packet(kind(0)), "\x80\x00" + plain[2:]},
		{packet(data("\x00d")), plain + "\x00d"},
		{packet(others(2)), "\x82" + plain[1:] + "\xc0\x00\x00\x01\xc1\x01\x01\x02"},
		{packet(extension(0, "")), "\x90" + plain[1:] + "\x00\x00\x00\x00"},
		{packet(extension(0xbede, "abcdefgh"), data("i")), "\x90" + plain[1:] + "\xbe\xde\x00\x02abcdefghi"},
		{packet(extension(65535, longest)), "\x90" + plain[1:] + "\xff\xff\xff\xff" + longest},
		{packet(padded(1)), "\xa0" + plain[1:] + "\x01"},
		{packet(padded(4), data("d")), "\xa0" + plain[1:] + "d\x00\x00\x00\x04"},
		{packet(padded(255)), "\xa0" + plain[1:] + strings.Repeat("\x00", 254) + "\xff"},
		{packet(others(1), extension(1, "abcd"), data("d"), padded(2)), "\xb1" + plain[1:] + "\xc0\x00\x00\x01\x00\x01\x00\x01abcdd\x00\x02"},
	} {
		if got := x.p.Pack(); got != x.want {
			t.Errorf("%s: %.80x, not %.80x", short(x.p), got, x.want)
		}
	}
}

func TestP41PackOfSuchAsMayBe(t *testing.T) {
	for _, p := range may() {
		if p.Check() != api.OK || p.Pack() != bytesOf(p) {
			t.Errorf("%s: %d, %.80x", short(p), p.Check(), p.Pack())
		}
	}
}

func TestP41MayNotBe(t *testing.T) {
	for name, p := range map[string]rtp.Packet{
		"Kind -1":                    packet(kind(-1)),
		"Kind 128":                   packet(kind(128)),
		"Kind 255":                   packet(kind(255)),
		"the least Kind":             packet(kind(math.MinInt)),
		"the greatest Kind":          packet(kind(math.MaxInt)),
		"16 Others":                  packet(others(16)),
		"17 Others":                  packet(others(17)),
		"256 Others":                 packet(others(256)),
		"Profile -1":                 packet(extension(-1, "")),
		"Profile 65536":              packet(extension(65536, "")),
		"the least Profile":          packet(extension(math.MinInt, "abcd")),
		"Ext of 1":                   packet(extension(0, "a")),
		"Ext of 2":                   packet(extension(0, "ab")),
		"Ext of 3":                   packet(extension(0, "abc")),
		"Ext of 5":                   packet(extension(0, "abcde")),
		"Ext of 4 times 65536":       packet(extension(0, longest+"more")),
		"Profile without HasExt":     packet(bare(1, "")),
		"Profile -1 without HasExt":  packet(bare(-1, "")),
		"Ext without HasExt":         packet(bare(0, "abcd")),
		"both without HasExt":        packet(bare(0xbede, "abcd")),
		"Pad -1":                     packet(padded(-1)),
		"Pad 256":                    packet(padded(256)),
		"the least Pad":              packet(padded(math.MinInt)),
		"the greatest Pad":           packet(padded(math.MaxInt)),
		"Pad 256, with Data and Ext": packet(extension(1, "abcd"), data("d"), padded(256)),
	} {
		if p.Check() != api.ErrArg || p.Pack() != "" {
			t.Errorf("%s: %d, %.40x", name, p.Check(), p.Pack())
		}
	}
}

func TestP41PackLeavesItsList(t *testing.T) {
	whole := []uint32{1, 2, 3, 4}
	p := packet(func(p *rtp.Packet) { p.Others = whole[:2] })
	p.Check()
	p.Pack()
	if !slices.Equal(whole, []uint32{1, 2, 3, 4}) {
		t.Errorf("the list is now %v", whole)
	}
}

// refused: Parse tells this error, beside a zero packet.
func refused(t *testing.T, s string, want api.Errno) {
	t.Helper()
	p, e := rtp.Parse(s)
	if e != want || !reflect.DeepEqual(p, rtp.Packet{}) {
		t.Errorf("%.80x: %d, not %d: %s", s, e, want, short(p))
	}
}

// read: Parse answers this packet.
func read(t *testing.T, s string, want rtp.Packet) {
	t.Helper()
	p, e := rtp.Parse(s)
	if e != api.OK || !same(p, want) {
		t.Errorf("%.80x: %d, %s, not %s", s, e, short(p), short(want))
	}
}

// TestP41ParseOfFewBytes: what is shorter than a header is told ahead of all.
func TestP41ParseOfFewBytes(t *testing.T) {
	for n := range 12 {
		for first := range 256 {
			refused(t, (string([]byte{byte(first)}) + plain[1:])[:n], api.ErrEnd)
		}
	}
	read(t, plain, packet())
}

// TestP41ParseOfEachFirstByte: twelve bytes, with each first byte.
func TestP41ParseOfEachFirstByte(t *testing.T) {
	for first := range 256 {
		s := string([]byte{byte(first)}) + plain[1:]
		switch {
		case first>>6 != 2:
			refused(t, s, api.ErrForm)
			refused(t, s+strings.Repeat("\x00", 100), api.ErrForm)
		case first&0x1f != 0:
			refused(t, s, api.ErrEnd)
		case first&0x20 != 0:
			refused(t, s, api.ErrForm)
		default:
			read(t, s, packet())
		}
	}
}

func TestP41ParseOfEachSecondByte(t *testing.T) {
	for second := range 256 {
		p := packet(kind(second & 127))
		p.Marker = second >= 128
		read(t, "\x80"+string([]byte{byte(second)})+plain[2:], p)
	}
}

// TestP41ParseOthersBeyond: cut anywhere, Others go beyond the end, whether
// there is padding or not.
func TestP41ParseOthersBeyond(t *testing.T) {
	for count := 1; count <= 15; count++ {
		s := packet(others(count)).Pack()
		for n := 12; n < len(s); n++ {
			refused(t, s[:n], api.ErrEnd)
			refused(t, string([]byte{s[0] | 0x20})+s[1:n], api.ErrEnd)
		}
		read(t, s, packet(others(count)))
		read(t, s+"d", packet(others(count), data("d")))
	}
}

// TestP41ParseExtensionBeyond: cut anywhere, it goes beyond the end.
func TestP41ParseExtensionBeyond(t *testing.T) {
	for _, count := range []int{0, 1, 15} {
		for _, ext := range []string{"", "abcd", "abcdefghijkl"} {
			s := packet(others(count), extension(0xbede, ext)).Pack()
			for n := 12; n < len(s); n++ {
				refused(t, s[:n], api.ErrEnd)
				refused(t, string([]byte{s[0] | 0x20})+s[1:n], api.ErrEnd)
			}
			read(t, s, packet(others(count), extension(0xbede, ext)))
		}
	}
	refused(t, "\x90"+plain[1:]+"\x00\x00\xff\xff"+longest[1:], api.ErrEnd)
	read(t, "\x90"+plain[1:]+"\x00\x00\xff\xff"+longest+"d", packet(extension(0, longest), data("d")))
}

func TestP41ParsePadding(t *testing.T) {
	s := "\xa0" + plain[1:]
	refused(t, s, api.ErrForm)
	for last := range 256 {
		end := string([]byte{byte(last)})
		zeros := strings.Repeat("\x00", max(last-1, 0))
		if last == 0 {
			refused(t, s+"\x00", api.ErrForm)
			refused(t, s+"data\x00", api.ErrForm)
			continue
		}
		read(t, s+zeros+end, packet(padded(last)))
		read(t, s+"data"+zeros+end, packet(data("data"), padded(last)))
		if last == 1 {
			continue
		}
		refused(t, s+zeros[1:]+end, api.ErrForm)
		refused(t, s+end, api.ErrForm)
		for at := range zeros {
			refused(t, s+"data"+zeros[:at]+"\x01"+zeros[at+1:]+end, api.ErrForm)
		}
	}
}

// TestP41PaddingStaysInWhatIsLeft: padding can't reach into what is ahead.
func TestP41PaddingStaysInWhatIsLeft(t *testing.T) {
	for _, s := range []string{
		"\xa1" + plain[1:] + "\x00\x00\x00\x01",
		"\xb0" + plain[1:] + "\x00\x00\x00\x00",
		"\xb0" + plain[1:] + "\x00\x01\x00\x01\x00\x00\x00\x01",
	} {
		refused(t, s, api.ErrForm)
		refused(t, s+"\x02", api.ErrForm)
		if p, e := rtp.Parse(s + "\x01"); e != api.OK || p.Pad != 1 || p.Data != "" || p.Pack() != s+"\x01" {
			t.Errorf("%x: %d, %s", s+"\x01", e, short(p))
		}
	}
}

// TestP41FirstError: of several errors the one that is named first.
func TestP41FirstError(t *testing.T) {
	refused(t, "\x3f"+plain[1:11], api.ErrEnd)
	refused(t, "\x3f"+plain[1:], api.ErrForm)
	refused(t, "\xff"+plain[1:], api.ErrForm)
	refused(t, "\xbf"+plain[1:]+"\x00", api.ErrEnd)
	refused(t, "\xb0"+plain[1:]+"\x00\x00\x00\x01\x00\x00\x00", api.ErrEnd)
}

func TestP41ParsedListsAreApart(t *testing.T) {
	s := packet(others(3)).Pack()
	p, _ := rtp.Parse(s)
	q, _ := rtp.Parse(s)
	p.Others[0] = 99
	if q.Others[0] != 0xc0000001 {
		t.Error("two packets share their memory")
	}
}

func TestP41IsControl(t *testing.T) {
	for second := range 256 {
		b := string([]byte{byte(second)})
		want := second >= 192 && second <= 223
		for _, s := range []string{"\x80" + b, "\x00" + b, "\xff" + b + "\x00\x00", "\x80" + b + plain} {
			if rtp.IsControl(s) != want {
				t.Errorf("%x: %v", s, !want)
			}
		}
		if rtp.IsControl(b) {
			t.Errorf("a byte alone: %x", b)
		}
	}
	if rtp.IsControl("") {
		t.Error("no bytes")
	}
}

func TestP42ThereAndBack(t *testing.T) {
	for _, p := range may() {
		read(t, p.Pack(), p)
	}
}

// TestP42AtMostOnePacket: packets that aren't alike have other bytes.
func TestP42AtMostOnePacket(t *testing.T) {
	seen := map[string]rtp.Packet{}
	for _, p := range may() {
		s := p.Pack()
		if q, ok := seen[s]; ok && !same(p, q) {
			t.Errorf("%s and %s: both %.80x", short(p), short(q), s)
		}
		seen[s] = p
	}
}

// oneWay: bytes that are read are just those of the packet that they say.
func oneWay(t *testing.T, s string) bool {
	t.Helper()
	p, e := rtp.Parse(s)
	if e != api.OK {
		refused(t, s, e)
		return false
	}
	if p.Check() != api.OK || p.Pack() != s {
		t.Fatalf("%x: %s, of %x", s, short(p), p.Pack())
	}
	return true
}

// TestP42OneWayOfAnyBytes: bytes of all kinds: packets, cut, drawn out, and
// with each byte another.
func TestP42OneWayOfAnyBytes(t *testing.T) {
	r := rand.New(rand.NewSource(5))
	taken := 0
	for range 200 {
		s := anyPacket(r).Pack()
		for n := range len(s) {
			oneWay(t, s[:n])
			if oneWay(t, s[:n]+string([]byte{byte(r.Intn(256))})+s[n+1:]) {
				taken++
			}
		}
		oneWay(t, s+"\x01")
		b := make([]byte, r.Intn(60))
		r.Read(b)
		oneWay(t, string(b))
		oneWay(t, "\xa0"+string(b))
	}
	if taken == 0 {
		t.Error("no bytes were taken")
	}
}
