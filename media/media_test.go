package media_test

import (
	"encoding/binary"
	"fmt"
	"math"
	"math/rand"
	"strings"
	"testing"

	"cordelle/api"
	"cordelle/crc"
	"cordelle/exts"
	"cordelle/media"
	"cordelle/rtp"
)

// sealAt is where a part's seal stands.
const sealAt = 24

// bytesOf lays a part's bytes out field by field, as the document tells them.
func bytesOf(m media.Media) string {
	b := []byte{0x90, 96}
	if m.Index == m.Count-1 {
		b[1] |= 0x80
	}
	b = binary.BigEndian.AppendUint16(b, m.Seq)
	b = binary.BigEndian.AppendUint32(b, m.Time)
	b = binary.BigEndian.AppendUint32(b, m.Source)
	b = append(b, 0xbe, 0xde, 0, 3)
	b = append(b, 0x12, byte(m.Path), byte(m.PathSeq>>8), byte(m.PathSeq))
	b = append(b, 0x21, byte(m.Index), byte(m.Count))
	b = append(b, 0x33, 0, 0, 0, 0)
	b = append(b, m.Data...)
	return sealed(string(b))
}

// sealedFrom is s, with the four bytes from at on by which it is right.
func sealedFrom(s string, at int) string {
	s, ok := crc.Seal(s, at)
	if !ok {
		panic("too short for a seal")
	}
	return s
}

// sealed is s, with its seal where a part has it.
func sealed(s string) string { return sealedFrom(s, sealAt) }

// sealedInData is s, with its seal at its end: so its elements stay as they
// are, wherever they stand.
func sealedInData(s string) string { return sealedFrom(s, len(s)-4) }

// short tells a part or a packet, cut.
func short(of any) string { return fmt.Sprintf("%.200s", fmt.Sprintf("%+v", of)) }

// part makes a part, changed by each of these.
func part(changes ...func(*media.Media)) media.Media {
	m := media.Media{Source: 0xf1f2f3f4, Seq: 0x1234, Time: 0x01020304, Track: media.Track{Path: 5, PathSeq: 0xabcd}, Part: media.Part{Index: 1, Count: 3}, Data: "data"}
	for _, change := range changes {
		change(&m)
	}
	return m
}

func path(n int) func(*media.Media)     { return func(m *media.Media) { m.Path = n } }
func place(i, n int) func(*media.Media) { return func(m *media.Media) { m.Index, m.Count = i, n } }
func data(s string) func(*media.Media)  { return func(m *media.Media) { m.Data = s } }
func size(n int) func(*media.Media)     { return data(strings.Repeat("d", n)) }
func numbers(n uint32) func(*media.Media) {
	return func(m *media.Media) { m.Source, m.Seq, m.Time, m.PathSeq = n, uint16(n), n, uint16(n) }
}

// may are parts that may be: the ordinary, and the document's edges.
func may() []media.Media {
	l := []media.Media{
		part(),
		part(path(1)),
		part(path(15)),
		part(place(0, 1)),
		part(place(0, 2)),
		part(place(1, 2)),
		part(place(0, 255)),
		part(place(253, 255)),
		part(place(254, 255)),
		part(size(0)),
		part(size(1)),
		part(size(1471)),
		part(size(1472)),
		part(data("\x00")),
		part(data(strings.Repeat("\x00", 1472))),
		part(data(strings.Repeat("\xff", 1472))),
		part(numbers(0)),
		part(numbers(math.MaxUint32)),
		part(numbers(0), path(1), place(0, 1), size(0)),
		part(numbers(math.MaxUint32), path(15), place(254, 255), size(1472)),
	}
	r := rand.New(rand.NewSource(6))
	for range 200 {
		l = append(l, anyPart(r))
	}
	return l
}

func anyPart(r *rand.Rand) media.Media {
	count := 1 + r.Intn(255)
	b := make([]byte, r.Intn(60))
	r.Read(b)
	m := part(path(1+r.Intn(15)), place(r.Intn(count), count), data(string(b)))
	m.Source, m.Seq, m.Time, m.PathSeq = r.Uint32(), uint16(r.Uint32()), r.Uint32(), uint16(r.Uint32())
	return m
}

// refused: Parse tells this error, beside a zero part.
func refused(t *testing.T, name, s string, want api.Errno) {
	t.Helper()
	if m, e := media.Parse(s); e != want || m != (media.Media{}) {
		t.Errorf("%s: %.80x: %d, not %d: %s", name, s, e, want, short(m))
	}
}

// read: Parse answers this part.
func read(t *testing.T, s string, want media.Media) {
	t.Helper()
	if m, e := media.Parse(s); e != api.OK || m != want {
		t.Errorf("%.80x: %d, %s, not %s", s, e, short(m), short(want))
	}
}

func TestP61Constants(t *testing.T) {
	if media.Kind != 96 || media.Overhead != 28 {
		t.Error("Kind, or Overhead")
	}
}

func TestP61PackOfSuchAsMayBe(t *testing.T) {
	for _, m := range may() {
		s := m.Pack()
		if m.Check() != api.OK || s != bytesOf(m) || len(s) != media.Overhead+len(m.Data) || !crc.Right(s) {
			t.Errorf("%s: %d, %.80x", short(m), m.Check(), s)
		}
	}
}

// TestP61PackInFull: a part's bytes, each written out.
func TestP61PackInFull(t *testing.T) {
	s := part(data("hello")).Pack()
	ahead := "\x90\x60\x12\x34\x01\x02\x03\x04\xf1\xf2\xf3\xf4\xbe\xde\x00\x03\x12\x05\xab\xcd\x21\x01\x03\x33"
	if len(s) != 33 || s[:24] != ahead || s[28:] != "hello" || crc.Rem(s) != 0 {
		t.Errorf("%x", s)
	}
	last := part(place(2, 3)).Pack()
	if last[:24] != "\x90\xe0"+ahead[2:21]+"\x02\x03\x33" {
		t.Errorf("%x", last)
	}
}

// TestP61PackAsLayersTell: the layers below read what the document tells.
func TestP61PackAsLayersTell(t *testing.T) {
	for _, m := range may() {
		p, e := rtp.Parse(m.Pack())
		if e != api.OK || p.Kind != 96 || p.Marker != m.Last() || len(p.Others) != 0 || p.Pad != 0 || p.Seq != m.Seq || p.Time != m.Time || p.Source != m.Source || p.Data != m.Data {
			t.Errorf("%s: %d, %s", short(m), e, short(p))
		}
		form, l, e := exts.Of(p.Header)
		if form != exts.Short || len(l) != 3 || e != api.OK || l[0].ID != 1 || l[1].ID != 2 || l[2].ID != 3 || len(l[2].Data) != 4 {
			t.Errorf("%s: form %d, %v, %d", short(m), form, l, e)
		}
	}
}

func TestP61MayNotBe(t *testing.T) {
	for name, m := range map[string]media.Media{
		"a zero one":             {},
		"Path 0":                 part(path(0)),
		"Path 16":                part(path(16)),
		"Path -1":                part(path(-1)),
		"Path 257":               part(path(257)),
		"the least Path":         part(path(math.MinInt)),
		"the greatest Path":      part(path(math.MaxInt)),
		"Index -1":               part(place(-1, 3)),
		"Index -1 of 0":          part(place(-1, 0)),
		"Index -255 of 1":        part(place(-255, 1)),
		"the least Index":        part(place(math.MinInt, 1)),
		"Index Count":            part(place(3, 3)),
		"Index beyond Count":     part(place(4, 3)),
		"Index 255 of 255":       part(place(255, 255)),
		"the greatest Index":     part(place(math.MaxInt, 3)),
		"Count 0":                part(place(0, 0)),
		"Count 256":              part(place(0, 256)),
		"Count 256, of the last": part(place(255, 256)),
		"Count 257":              part(place(0, 257)),
		"Count -1":               part(place(0, -1)),
		"the least Count":        part(place(0, math.MinInt)),
		"the greatest Count":     part(place(0, math.MaxInt)),
		"both far":               part(place(math.MaxInt, math.MinInt)),
		"Data of 1473":           part(size(1473)),
		"Data of 65536":          part(size(65536)),
		"all of it at once":      part(path(0), place(1, 1), size(2000)),
	} {
		if m.Check() != api.ErrArg || m.Pack() != "" {
			t.Errorf("%s: %d, %.80x", name, m.Check(), m.Pack())
		}
	}
}

// TestP61EachPathAndPlace: which may be of all, and of some beyond.
func TestP61EachPathAndPlace(t *testing.T) {
	for n := -20; n <= 300; n++ {
		want := api.ErrArg
		if n >= 1 && n <= 15 {
			want = api.OK
		}
		if m := part(path(n)); m.Check() != want || (m.Pack() != "") != (want == api.OK) {
			t.Errorf("Path %d: %d", n, m.Check())
		}
	}
	for count := -3; count <= 260; count++ {
		for _, i := range []int{-2, -1, 0, 1, count - 2, count - 1, count, count + 1, 254, 255} {
			want := api.ErrArg
			if i >= 0 && i < count && count <= 255 {
				want = api.OK
			}
			if m := part(place(i, count)); m.Check() != want || (m.Pack() != "") != (want == api.OK) {
				t.Errorf("%d of %d: %d", i, count, m.Check())
			}
		}
	}
}

func TestP61Places(t *testing.T) {
	for _, x := range []struct {
		p           media.Part
		first, last bool
	}{
		{media.Part{Index: 0, Count: 1}, true, true},
		{media.Part{Index: 0, Count: 2}, true, false},
		{media.Part{Index: 1, Count: 2}, false, true},
		{media.Part{Index: 1, Count: 3}, false, false},
		{media.Part{Index: 254, Count: 255}, false, true},
		{media.Part{Index: 253, Count: 255}, false, false},
		{media.Part{Index: 255, Count: 255}, false, false},
		{media.Part{Index: 3, Count: 2}, false, false},
		{media.Part{Index: -1, Count: 2}, false, false},
		{media.Part{Index: math.MaxInt, Count: math.MinInt}, false, false},
		{media.Part{Index: math.MinInt, Count: math.MaxInt}, false, false},
	} {
		if x.p.First() != x.first || x.p.Last() != x.last {
			t.Errorf("%v: %v, %v", x.p, x.p.First(), x.p.Last())
		}
		if m := part(place(x.p.Index, x.p.Count)); m.First() != x.first || m.Last() != x.last {
			t.Errorf("%v: by promotion others", x.p)
		}
	}
}

func TestP61On(t *testing.T) {
	m := part()
	for _, n := range []int{0, 1, 15, 16, -1, math.MinInt, math.MaxInt} {
		for _, seq := range []uint16{0, 1, 65535} {
			want := media.Track{Path: n, PathSeq: seq}
			if m.On(n, seq) != want || (media.Track{}).On(n, seq) != want {
				t.Errorf("On(%d, %d): %v", n, seq, m.On(n, seq))
			}
		}
	}
	if m != part() {
		t.Errorf("On has changed it: %v", m)
	}
}

// TestP61ParseOfSizes: more than 1500 bytes are told ahead of all.
func TestP61ParseOfSizes(t *testing.T) {
	full := part(size(1472))
	s := full.Pack()
	if len(s) != api.MaxPacket {
		t.Fatalf("%d bytes", len(s))
	}
	read(t, s, full)
	refused(t, "1500 bytes, not right", s[:1499]+"x", api.ErrSum)
	refused(t, "1501 bytes, right", sealed(s+"d"), api.ErrBig)
	refused(t, "1501 bytes, not right", s+"d", api.ErrBig)
	refused(t, "1501 bytes 0", strings.Repeat("\x00", 1501), api.ErrBig)
	refused(t, "many bytes", strings.Repeat(s, 50), api.ErrBig)
}

// TestP61ParseOfFewBytes: a text can be right, and too short for a header.
func TestP61ParseOfFewBytes(t *testing.T) {
	for n := range 12 {
		refused(t, "bytes 0", strings.Repeat("\x00", n), api.ErrEnd)
		if n > 0 {
			refused(t, "bytes that aren't right", strings.Repeat("\x80", n), api.ErrSum)
		}
		if s, ok := crc.Seal(strings.Repeat("\x80", n), 0); ok {
			refused(t, "sealed bytes", s, api.ErrEnd)
		}
	}
	s := part().Pack()
	for n := 1; n < len(s); n++ {
		if !crc.Right(s[:n]) {
			refused(t, "a part cut", s[:n], api.ErrSum)
		}
	}
}

// TestP61ParseOfOtherHeaders: sealed, but by its header no part.
func TestP61ParseOfOtherHeaders(t *testing.T) {
	good, _ := rtp.Parse(part().Pack())
	read(t, sealed(good.Pack()), part())
	for name, x := range map[string]struct {
		change func(*rtp.Packet)
		want   api.Errno
	}{
		"another Kind":  {func(p *rtp.Packet) { p.Kind = 97 }, api.ErrForm},
		"Kind 95":       {func(p *rtp.Packet) { p.Kind = 95 }, api.ErrForm},
		"Kind 0":        {func(p *rtp.Packet) { p.Kind = 0 }, api.ErrForm},
		"a Marker":      {func(p *rtp.Packet) { p.Marker = true }, api.ErrForm},
		"one of Others": {func(p *rtp.Packet) { p.Others = []uint32{0} }, api.ErrForm},
		"15 Others":     {func(p *rtp.Packet) { p.Others = make([]uint32, 15) }, api.ErrForm},
		"Pad 1":         {func(p *rtp.Packet) { p.Pad = 1 }, api.ErrForm},
		"Pad 4":         {func(p *rtp.Packet) { p.Pad = 4 }, api.ErrForm},
		"Pad 255":       {func(p *rtp.Packet) { p.Pad = 255 }, api.ErrForm},
		"no extension":  {func(p *rtp.Packet) { p.HasExt, p.Profile, p.Ext, p.Data = false, 0, "", strings.Repeat("d", 30) }, api.ErrKind},
		"no extension, another Kind": {func(p *rtp.Packet) {
			p.Kind, p.HasExt, p.Profile, p.Ext, p.Data = 1, false, 0, "", strings.Repeat("d", 30)
		}, api.ErrKind},
		"another profile":             {func(p *rtp.Packet) { p.Profile = 0xbedf }, api.ErrKind},
		"profile 0, and another Kind": {func(p *rtp.Packet) { p.Profile, p.Kind = 0, 5 }, api.ErrKind},
	} {
		p := good
		x.change(&p)
		refused(t, name, sealedFrom(p.Pack(), sealAt+4*len(p.Others)), x.want)
	}
	last, _ := rtp.Parse(part(place(2, 3)).Pack())
	last.Marker = false
	refused(t, "a last part without its Marker", sealed(last.Pack()), api.ErrForm)
	alone, _ := rtp.Parse(part(place(0, 1)).Pack())
	alone.Marker = false
	refused(t, "the one part without its Marker", sealed(alone.Pack()), api.ErrForm)
}

// TestP61ParseOfOtherExtensions: sealed, but by its elements no part.
func TestP61ParseOfOtherExtensions(t *testing.T) {
	good, _ := rtp.Parse(part().Pack())
	track := exts.Element{ID: 1, Data: "\x05\xab\xcd"}
	place := exts.Element{ID: 2, Data: "\x01\x03"}
	seal := exts.Element{ID: 3, Data: "seal"}
	other := func(id int, s string) exts.Element { return exts.Element{ID: id, Data: s} }
	with := func(form int, l ...exts.Element) string {
		p := good
		p.Header, _ = exts.Into(p.Header, form, l...)
		p.Data = "with a seal"
		return sealedInData(p.Pack())
	}
	for name, l := range map[string][]exts.Element{
		"no elements":            nil,
		"a track alone":          {track},
		"without a track":        {place, seal},
		"without a place":        {track, seal},
		"without a seal":         {track, place},
		"another order":          {track, seal, place},
		"places first":           {place, track, seal},
		"turned round":           {seal, place, track},
		"one more":               {track, place, seal, other(4, "more")},
		"one more of a byte":     {track, place, seal, other(14, "\x00")},
		"one more ahead":         {other(4, "more"), track, place, seal},
		"a track twice":          {track, track, place, seal},
		"two tracks":             {track, other(1, "\x06\xab\xcd"), place, seal},
		"two places":             {track, place, other(2, "\x00\x03"), seal},
		"two seals":              {track, place, seal, seal},
		"a short track":          {other(1, "\x05\xab"), place, seal},
		"a long track":           {other(1, "\x05\xab\xcd\x00"), place, seal},
		"a short place":          {track, other(2, "\x01"), seal},
		"a long place":           {track, other(2, "\x01\x03\x00"), seal},
		"a short seal":           {track, place, other(3, "sea")},
		"a long seal":            {track, place, other(3, "seals")},
		"path 0":                 {other(1, "\x00\xab\xcd"), place, seal},
		"path 16":                {other(1, "\x10\xab\xcd"), place, seal},
		"path 255":               {other(1, "\xff\xab\xcd"), place, seal},
		"Index Count":            {track, other(2, "\x03\x03"), seal},
		"Index 255 of 255":       {track, other(2, "\xff\xff"), seal},
		"Count 0":                {track, other(2, "\x00\x00"), seal},
		"another ID for a place": {track, other(4, "\x01\x03"), seal},
	} {
		refused(t, name, with(exts.Short, l...), api.ErrForm)
	}
	refused(t, "the form Long", with(exts.Long, track, place, seal), api.ErrForm)
	// Four bytes are the seal as soon as all is right: whichever were chosen.
	if !oneWay(t, with(exts.Short, track, place, seal)) {
		t.Error("a part that was made right by its Data is refused")
	}
}

// TestP61ParseOfLayersErrors: sealed, and what the layers below tell of it,
// the one of layer 4 ahead of those of layer 5.
func TestP61ParseOfLayersErrors(t *testing.T) {
	s := part(data("data and a seal")).Pack()
	ahead, behind := s[:16], s[28:]
	for name, x := range map[string]struct {
		s    string
		want api.Errno
	}{
		"another version":                            {"\x50" + s[1:], api.ErrForm},
		"Others beyond the end":                      {"\x9f" + s[1:], api.ErrEnd},
		"an extension beyond the end":                {s[:14] + "\x00\xff" + s[16:], api.ErrEnd},
		"padding that isn't":                         {"\xb0" + s[1:], api.ErrForm},
		"bytes 0 as elements":                        {ahead + strings.Repeat("\x00", 12) + behind, api.ErrForm},
		"an ID of 0":                                 {ahead + "\x02\x05\xab\xcd\x21\x01\x03\x33seal" + behind, api.ErrForm},
		"an ID of 15":                                {ahead + "\xf2\x05\xab\xcd\x21\x01\x03\x33seal" + behind, api.ErrForm},
		"elements beyond the end":                    {ahead + "\x12\x05\xab\xcd\x21\x01\x03\x34seal" + behind, api.ErrEnd},
		"another profile":                            {s[:12] + "\x00\x00" + s[14:], api.ErrKind},
		"another profile, and Others beyond the end": {"\x9f" + s[1:12] + "\x00\x00" + s[14:], api.ErrEnd},
	} {
		refused(t, name, sealedInData(x.s), x.want)
		refused(t, name+", not right", crc.Turn(sealedInData(x.s), 77, 1<<31), api.ErrSum)
	}
	four := ahead[:14] + "\x00\x04" + "\x12\x05\xab\xcd\x21\x01\x03\x33seal" + "\x00\x00\x00\x00" + behind
	refused(t, "four bytes 0 behind the last element", sealedInData(four), api.ErrForm)
}

func TestP62ThereAndBack(t *testing.T) {
	for _, m := range may() {
		read(t, m.Pack(), m)
	}
}

// TestP62AtMostOnePart: parts that aren't alike have other bytes.
func TestP62AtMostOnePart(t *testing.T) {
	seen := map[string]media.Media{}
	for _, m := range may() {
		s := m.Pack()
		if n, ok := seen[s]; ok && m != n {
			t.Errorf("%s and %s: both %.80x", short(m), short(n), s)
		}
		seen[s] = m
	}
}

// TestP62OneWayOfAnyBytes: parts with each byte others, sealed again, cut, and
// drawn out: what is read is just what Pack makes of it.
func TestP62OneWayOfAnyBytes(t *testing.T) {
	r := rand.New(rand.NewSource(7))
	taken := 0
	for range 200 {
		s := anyPart(r).Pack()
		for n := range len(s) {
			for _, other := range []byte{0, s[n] ^ 1, s[n] ^ 0x10, byte(r.Uint32())} {
				if oneWay(t, sealed(s[:n]+string([]byte{other})+s[n+1:])) {
					taken++
				}
			}
			if n >= media.Overhead {
				oneWay(t, sealed(s[:n]))
			}
		}
		oneWay(t, sealed(s+"\x00"))
		b := make([]byte, media.Overhead+r.Intn(40))
		r.Read(b)
		oneWay(t, sealed(string(b)))
		oneWay(t, sealed("\x90\x60"+string(b)))
	}
	if taken == 0 {
		t.Error("no bytes were taken")
	}
}

// oneWay: bytes that are read are just those of the part that they say.
func oneWay(t *testing.T, s string) bool {
	t.Helper()
	m, e := media.Parse(s)
	if e != api.OK {
		refused(t, "any bytes", s, e)
		return false
	}
	if m.Check() != api.OK || m.Pack() != s {
		t.Fatalf("%x: %s, of %x", s, short(m), m.Pack())
	}
	return true
}

// TestP63EachBurst: everywhere in a small part, each length, with all bits,
// the two ends, and any bits between.
func TestP63EachBurst(t *testing.T) {
	r := rand.New(rand.NewSource(8))
	for _, m := range []media.Media{part(data("hello")), part(size(0), place(0, 1)), part(numbers(0), path(1), data("\x00\x00"))} {
		s := m.Pack()
		for length := 1; length <= 32; length++ {
			all := ^uint32(0) << (32 - length)
			ends := uint32(1)<<31 | uint32(1)<<(32-length)
			for at := range 8*len(s) - length + 1 {
				for _, bits := range []uint32{all, ends, ends | r.Uint32()&all} {
					u := crc.Turn(s, at, bits)
					if crc.Burst(s, u) != length {
						t.Fatalf("no burst of %d at %d: %x", length, at, bits)
					}
					refused(t, "a burst", u, api.ErrSum)
				}
			}
		}
	}
}

// TestP63BurstInGreatParts: of 1 and 32 bits, at the beginning, in the middle,
// and at the end of a part as great as may be.
func TestP63BurstInGreatParts(t *testing.T) {
	for _, m := range []media.Media{part(size(1472)), part(size(700), place(2, 3))} {
		s := m.Pack()
		bits := 8 * len(s)
		for length, turned := range map[int][]uint32{1: {1 << 31}, 32: {math.MaxUint32, 1<<31 | 1, 0x80c80101}} {
			for _, at := range []int{0, 1, 8, 15, 191, 192, 193, 223, 224, bits / 2, bits/2 + 1, bits - length - 1, bits - length} {
				for _, x := range turned {
					u := crc.Turn(s, at, x)
					if crc.Burst(s, u) != length {
						t.Fatalf("no burst of %d at %d: %x", length, at, x)
					}
					refused(t, "a burst", u, api.ErrSum)
				}
			}
		}
		read(t, s, m)
	}
}
