package exts_test

import (
	"encoding/binary"
	"fmt"
	"math"
	"math/rand"
	"reflect"
	"slices"
	"strings"
	"testing"

	"cordelle/api"
	"cordelle/exts"
	"cordelle/rtp"
)

// most is how many bytes an extension has at most.
const most = 4 * 65535

func el(id int, data string) exts.Element   { return exts.Element{ID: id, Data: data} }
func list(l ...exts.Element) []exts.Element { return l }
func text(n int) string                     { return strings.Repeat("t", n) }
func zeros(n int) string                    { return strings.Repeat("\x00", n) }

// many is an element, so many times.
func many(n int, e exts.Element) []exts.Element { return slices.Repeat(list(e), n) }

// bytesOf lays elements out as the document tells them.
func bytesOf(form int, l []exts.Element) string {
	var b []byte
	for _, e := range l {
		if form == exts.Short {
			b = append(b, byte(e.ID<<4|(len(e.Data)-1)))
		} else {
			b = append(b, byte(e.ID), byte(len(e.Data)))
		}
		b = append(b, e.Data...)
	}
	for len(b)&3 != 0 {
		b = append(b, 0)
	}
	return string(b)
}

func profileOf(form int) int {
	if form == exts.Short {
		return exts.ShortProfile
	}
	return exts.LongProfile
}

// packed: Pack answers these bytes, and Parse the elements again.
func packed(t *testing.T, form int, l []exts.Element, want string) {
	t.Helper()
	profile, ext, e := exts.Pack(form, l...)
	if profile != profileOf(form) || ext != want || e != api.OK {
		t.Errorf("form %d, %.80v: %x, %.80x, %d", form, l, profile, ext, e)
	}
	read(t, form, want, l)
}

// unpacked: Pack tells this error, and nothing else.
func unpacked(t *testing.T, form int, l []exts.Element, want api.Errno) {
	t.Helper()
	if profile, ext, e := exts.Pack(form, l...); profile != 0 || ext != "" || e != want {
		t.Errorf("form %d, %.80v: %x, %.80x, %d, not %d", form, l, profile, ext, e, want)
	}
}

// read: Parse answers these elements.
func read(t *testing.T, form int, ext string, want []exts.Element) {
	t.Helper()
	got, l, e := exts.Parse(profileOf(form), ext)
	if got != form || !slices.Equal(l, want) || e != api.OK {
		t.Errorf("form %d, %.80x: %d, %.80v, %d, not %.80v", form, ext, got, l, e, want)
	}
}

// refused: Parse tells this error, and nothing else.
func refused(t *testing.T, profile int, ext string, want api.Errno) {
	t.Helper()
	if form, l, e := exts.Parse(profile, ext); form != 0 || len(l) != 0 || e != want {
		t.Errorf("profile %x, %.80x: %d, %.80v, %d, not %d", profile, ext, form, l, e, want)
	}
}

func TestP51Constants(t *testing.T) {
	if exts.Short != 1 || exts.Long != 2 || exts.ShortProfile != 0xbede || exts.LongProfile != 0x1000 {
		t.Error("the forms, or their profiles")
	}
}

func TestP51PackOfSome(t *testing.T) {
	for _, x := range []struct {
		form int
		l    []exts.Element
		want string
	}{
		{exts.Short, nil, ""},
		{exts.Short, list(), ""},
		{exts.Short, list(el(1, "a"), el(2, "bc")), "\x10a\x21bc\x00\x00\x00"},
		{exts.Short, list(el(1, "\x00")), "\x10\x00\x00\x00"},
		{exts.Short, list(el(14, text(16))), "\xef" + text(16) + "\x00\x00\x00"},
		{exts.Short, list(el(3, "same"), el(3, "again")), "\x33same\x34again\x00"},
		{exts.Long, nil, ""},
		{exts.Long, list(el(1, "a"), el(2, "bc")), "\x01\x01a\x02\x02bc\x00"},
		{exts.Long, list(el(255, "")), "\xff\x00\x00\x00"},
		{exts.Long, list(el(1, ""), el(1, "")), "\x01\x00\x01\x00"},
		{exts.Long, list(el(15, text(17))), "\x0f\x11" + text(17) + "\x00"},
		{exts.Long, list(el(255, text(255))), "\xff\xff" + text(255) + "\x00\x00\x00"},
	} {
		packed(t, x.form, x.l, x.want)
	}
}

// TestP51Forms: which forms there are, told ahead of what the elements are.
func TestP51Forms(t *testing.T) {
	for _, l := range [][]exts.Element{nil, list(el(1, "a")), list(el(0, "a")), list(el(-1, "")), many(most, el(1, "a"))} {
		for _, form := range []int{0, 3, 4, -1, -2, exts.ShortProfile, exts.LongProfile, math.MinInt, math.MaxInt} {
			unpacked(t, form, l, api.ErrKind)
		}
	}
	packed(t, 1, list(el(1, "a")), "\x10a\x00\x00")
	packed(t, 2, list(el(1, "a")), "\x01\x01a\x00")
}

// TestP51EachElement: each ID, with each number of bytes, of both forms.
func TestP51EachElement(t *testing.T) {
	ids := []int{math.MinInt, -256, -1, 257, 271, 512, math.MaxInt}
	for id := range 257 {
		ids = append(ids, id)
	}
	for _, id := range ids {
		for size := range 259 {
			alone := list(el(id, text(size)))
			behind := list(el(1, "first"), alone[0], el(2, "last"))
			short := id >= 1 && id <= 14 && size >= 1 && size <= 16
			long := id >= 1 && id <= 255 && size <= 255
			for form, may := range map[int]bool{exts.Short: short, exts.Long: long} {
				for _, l := range [][]exts.Element{alone, behind} {
					if may {
						packed(t, form, l, bytesOf(form, l))
					} else {
						unpacked(t, form, l, api.ErrArg)
					}
				}
			}
		}
	}
}

// TestP51AsManyAsMayBe: all together just at the bound, and beyond it, by what
// is written, and by a byte that is 0 at the end.
func TestP51AsManyAsMayBe(t *testing.T) {
	long, short := many(1020, el(255, text(255))), many(15420, el(14, text(16)))
	for form, l := range map[int][]exts.Element{exts.Long: long, exts.Short: short} {
		s := bytesOf(form, l)
		if len(s) != most {
			t.Fatalf("%d bytes", len(s))
		}
		packed(t, form, l, s)
		less := slices.Clone(l)
		less[7].Data = less[7].Data[1:]
		packed(t, form, less, bytesOf(form, less))
		unpacked(t, form, append(l, el(1, "a")), api.ErrArg)
		unpacked(t, form, append(less, el(1, "a")), api.ErrArg)
		unpacked(t, form, append(l, l...), api.ErrArg)
		h, e := exts.Into(rtp.Header{Kind: 96}, form, l...)
		if p := (rtp.Packet{Header: h}); e != api.OK || p.Check() != api.OK {
			t.Errorf("form %d: %d", form, e)
		}
	}
	unpacked(t, exts.Long, append(long, el(1, "")), api.ErrArg)
	packed(t, exts.Long, append(many(1019, el(9, text(255))), el(9, text(253)), el(9, "")), strings.Repeat("\x09\xff"+text(255), 1019)+"\x09\xfd"+text(253)+"\x09\x00")
}

// TestP51BytesAtTheEnd: each number of bytes 0 behind the last element.
func TestP51BytesAtTheEnd(t *testing.T) {
	for size := 1; size <= 16; size++ {
		data := text(size-1) + "\x00"
		for form, s := range map[int]string{
			exts.Short: string([]byte{byte(5<<4 | (size - 1))}) + data,
			exts.Long:  string([]byte{5, byte(size)}) + data,
		} {
			wanting := (4 - len(s)%4) % 4
			for n := range 13 {
				switch {
				case n == wanting:
					packed(t, form, list(el(5, data)), s+zeros(n))
				default:
					refused(t, profileOf(form), s+zeros(n), api.ErrForm)
				}
			}
		}
	}
}

func TestP51ParseOfSome(t *testing.T) {
	for _, x := range []struct {
		profile int
		ext     string
		want    api.Errno
	}{
		{exts.ShortProfile, "\x10a\x00\x01", api.ErrForm},
		{exts.ShortProfile, "\x00\x10a\x00", api.ErrForm},
		{exts.ShortProfile, "\x00\x00\x00\x01", api.ErrForm},
		{exts.ShortProfile, "\x00\x00\x00\x00", api.ErrForm},
		{exts.ShortProfile, "\x12abc\x00\x00\x00\x00", api.ErrForm},
		{exts.ShortProfile, "\x10a\x00\x00\x00\x00\x00\x00", api.ErrForm},
		{exts.ShortProfile, "\x10a\x00\x00\x00\x00\x00\x01", api.ErrForm},
		{exts.ShortProfile, "\x10a\x00\x20b\x00\x00\x00", api.ErrForm},
		{exts.ShortProfile, "\x01ab\x00", api.ErrForm},
		{exts.ShortProfile, "\x0fab\x00", api.ErrForm},
		{exts.ShortProfile, "\xf2abc", api.ErrForm},
		{exts.ShortProfile, "\xf0ab\x00", api.ErrForm},
		{exts.ShortProfile, "\x10a\xf0b", api.ErrForm},
		{exts.ShortProfile, "\x13abc", api.ErrEnd},
		{exts.ShortProfile, "\x1fabc", api.ErrEnd},
		{exts.ShortProfile, "\x11ab\x20", api.ErrEnd},
		{exts.ShortProfile, "\xe0a\xe1b", api.ErrEnd},
		{exts.ShortProfile, "\x1f" + text(15), api.ErrEnd},
		{exts.LongProfile, "\x01\x00\x00\x01", api.ErrForm},
		{exts.LongProfile, "\x00\x01a\x00", api.ErrForm},
		{exts.LongProfile, "\x00\x00\x00\x00", api.ErrForm},
		{exts.LongProfile, "\x01\x02ab\x00\x00\x00\x00", api.ErrForm},
		{exts.LongProfile, "\x01\x00\x00\x00\x00\x00\x00\x00", api.ErrForm},
		{exts.LongProfile, "\x01\x03ab", api.ErrEnd},
		{exts.LongProfile, "\x01\xffab", api.ErrEnd},
		{exts.LongProfile, "\x01\x01a\x02", api.ErrEnd},
		{exts.LongProfile, "\x01\x00\x02\x01", api.ErrEnd},
		{exts.LongProfile, "\xff\xff" + text(254), api.ErrEnd},
	} {
		refused(t, x.profile, x.ext, x.want)
	}
}

// TestP51FirstError: of several errors the one that is named first.
func TestP51FirstError(t *testing.T) {
	for _, profile := range []int{0, 1, 2, 0xbedd, 0xbedf, 0x0fff, 0x1001, 0xbede + 65536, 0x1000 + 65536, -1, -0x1000, math.MinInt, math.MaxInt} {
		for _, ext := range []string{"", "a", "\x10a\x00\x00", "\x00\x00\x00\x00", "\xf0ab", "\x13abc"} {
			refused(t, profile, ext, api.ErrKind)
		}
	}
	for _, profile := range []int{exts.ShortProfile, exts.LongProfile} {
		for n := range 30 {
			if n%4 == 0 {
				continue
			}
			refused(t, profile, "\x1f"+text(n-1), api.ErrForm)
			refused(t, profile, zeros(n), api.ErrForm)
		}
		refused(t, profile, text(most+1), api.ErrForm)
	}
	refused(t, exts.ShortProfile, "\xffabc", api.ErrForm)
	refused(t, exts.ShortProfile, "\x0fabc", api.ErrForm)
	refused(t, exts.ShortProfile, "\x10a\xff\x00", api.ErrForm)
	refused(t, exts.ShortProfile, "\x1fabc\xf0ab\x00", api.ErrEnd)
	refused(t, exts.LongProfile, "\x01\x07\x00\x01\x00\x00\x00\x00", api.ErrEnd)
}

func TestP51Find(t *testing.T) {
	l := list(el(3, "three"), el(1, "one"), el(3, "more"), el(-7, "below"), el(9, ""), el(1000, "far"))
	for _, x := range []struct {
		l    []exts.Element
		id   int
		want string
		ok   bool
	}{
		{l, 1, "one", true},
		{l, 3, "three", true},
		{l, 9, "", true},
		{l, -7, "below", true},
		{l, 1000, "far", true},
		{l, 2, "", false},
		{l, 0, "", false},
		{l, math.MinInt, "", false},
		{l[2:], 3, "more", true},
		{nil, 3, "", false},
		{nil, 0, "", false},
	} {
		if got, ok := exts.Find(x.l, x.id); got != x.want || ok != x.ok {
			t.Errorf("Find(%v, %d): %q, %v", x.l, x.id, got, ok)
		}
	}
}

func TestP51OfHeaders(t *testing.T) {
	for _, x := range []struct {
		h    rtp.Header
		form int
		l    []exts.Element
		e    api.Errno
	}{
		{rtp.Header{}, 0, nil, api.OK},
		{rtp.Header{Kind: 96, Others: []uint32{1}}, 0, nil, api.OK},
		{rtp.Header{Profile: exts.ShortProfile, Ext: "\x10a\x00\x00"}, 0, nil, api.OK},
		{rtp.Header{HasExt: true}, 0, nil, api.ErrKind},
		{rtp.Header{HasExt: true, Profile: 7, Ext: "abc"}, 0, nil, api.ErrKind},
		{rtp.Header{HasExt: true, Profile: exts.ShortProfile}, exts.Short, nil, api.OK},
		{rtp.Header{HasExt: true, Profile: exts.LongProfile}, exts.Long, nil, api.OK},
		{rtp.Header{HasExt: true, Profile: exts.ShortProfile, Ext: "\x10a\x00\x00"}, exts.Short, list(el(1, "a")), api.OK},
		{rtp.Header{HasExt: true, Profile: exts.LongProfile, Ext: "\x10\x02bc"}, exts.Long, list(el(16, "bc")), api.OK},
		{rtp.Header{HasExt: true, Profile: exts.ShortProfile, Ext: "abc"}, 0, nil, api.ErrForm},
		{rtp.Header{HasExt: true, Profile: exts.ShortProfile, Ext: "\x13abc"}, 0, nil, api.ErrEnd},
	} {
		if form, l, e := exts.Of(x.h); form != x.form || !slices.Equal(l, x.l) || e != x.e {
			t.Errorf("%+v: %d, %v, %d", x.h, form, l, e)
		}
	}
}

func TestP51IntoHeaders(t *testing.T) {
	l := list(el(1, "a"), el(2, "bc"))
	full := rtp.Header{Marker: true, Kind: 96, Seq: 1, Time: 2, Source: 3, Others: []uint32{4, 5}}
	for _, h := range []rtp.Header{{}, full, {HasExt: true, Profile: 7, Ext: "was there"}, {Kind: -1, Profile: -1, Ext: "abc"}} {
		for form, ext := range map[int]string{exts.Short: "\x10a\x21bc\x00\x00\x00", exts.Long: "\x01\x01a\x02\x02bc\x00"} {
			want := h
			want.HasExt, want.Profile, want.Ext = true, profileOf(form), ext
			got, e := exts.Into(h, form, l...)
			if e != api.OK || !reflect.DeepEqual(got, want) {
				t.Errorf("%+v: %+v, %d", h, got, e)
			}
			if back, m, e := exts.Of(got); back != form || !slices.Equal(m, l) || e != api.OK {
				t.Errorf("%+v: %d, %v, %d", got, back, m, e)
			}
		}
	}
	none, e := exts.Into(full, exts.Long)
	if !none.HasExt || none.Profile != exts.LongProfile || none.Ext != "" || none.Seq != 1 || e != api.OK {
		t.Errorf("no elements: %+v, %d", none, e)
	}
}

func TestP51IntoWhatMayNotBe(t *testing.T) {
	full := rtp.Header{Marker: true, Kind: 96, Seq: 1, Time: 2, Source: 3, Others: []uint32{4}, HasExt: true, Ext: "abcd"}
	for _, x := range []struct {
		form int
		l    []exts.Element
		want api.Errno
	}{
		{0, nil, api.ErrKind},
		{3, list(el(0, "")), api.ErrKind},
		{exts.Short, list(el(0, "a")), api.ErrArg},
		{exts.Short, list(el(15, "a")), api.ErrArg},
		{exts.Short, list(el(1, "")), api.ErrArg},
		{exts.Short, list(el(1, "a"), el(1, text(17))), api.ErrArg},
		{exts.Long, list(el(256, "a")), api.ErrArg},
		{exts.Long, list(el(1, text(256))), api.ErrArg},
		{exts.Long, many(1021, el(1, text(255))), api.ErrArg},
	} {
		got, e := exts.Into(full, x.form, x.l...)
		if e != x.want || !reflect.DeepEqual(got, rtp.Header{}) {
			t.Errorf("form %d, %.80v: %+v, %d", x.form, x.l, got, e)
		}
	}
}

// TestP51MemoryOfItsOwn: neither what is handed in nor its spare room is
// changed, and no answer shares its memory.
func TestP51MemoryOfItsOwn(t *testing.T) {
	whole := list(el(1, "a"), el(2, "b"), el(3, "c"))
	was := slices.Clone(whole)
	others := []uint32{1, 2, 3, 4}
	h := rtp.Header{Others: others[:2]}
	exts.Pack(exts.Short, whole[:1]...)
	exts.Find(whole[:1], 2)
	got, _ := exts.Into(h, exts.Short, whole[:1]...)
	got.Others[0] = 99
	_ = append(got.Others, 98, 97)
	if !slices.Equal(whole, was) || !slices.Equal(others, []uint32{1, 2, 3, 4}) || h.HasExt {
		t.Errorf("now %v, %v, %+v", whole, others, h)
	}
	_, one, _ := exts.Of(got)
	_, other, _ := exts.Parse(got.Profile, got.Ext)
	one[0].ID = 9
	if other[0].ID != 1 {
		t.Error("two lists share their memory")
	}
}

// anyElements are some that may be, of this form.
func anyElements(r *rand.Rand, form int) []exts.Element {
	l := make([]exts.Element, r.Intn(9))
	for i := range l {
		id, size := 1+r.Intn(14), 1+r.Intn(16)
		if form == exts.Long {
			id, size = 1+r.Intn(255), min(r.Intn(256), r.Intn(256))
		}
		b := make([]byte, size)
		if r.Read(b); r.Intn(3) == 0 {
			clear(b)
		}
		l[i] = el(id, string(b))
	}
	return l
}

func TestP52ThereAndBack(t *testing.T) {
	r := rand.New(rand.NewSource(5))
	for range 3000 {
		for _, form := range []int{exts.Short, exts.Long} {
			l := anyElements(r, form)
			packed(t, form, l, bytesOf(form, l))
		}
	}
}

// TestP52AtMostOneList: lists that aren't alike have other bytes.
func TestP52AtMostOneList(t *testing.T) {
	parts := list(el(1, "\x00"), el(1, "\x00\x00"), el(1, "\x00\x00\x00"), el(1, "\x10\x00"), el(2, "\x00"), el(1, "\x01\x00"))
	for _, form := range []int{exts.Short, exts.Long} {
		seen := map[string]string{}
		for n := range len(parts) * len(parts) * len(parts) {
			three := list(parts[n%6], parts[n/6%6], parts[n/36])
			for _, l := range [][]exts.Element{nil, three[:1], three[:2], three} {
				_, ext, _ := exts.Pack(form, l...)
				is := fmt.Sprint(l)
				if was, ok := seen[ext]; ok && was != is {
					t.Errorf("%s and %s: both %x", was, is, ext)
				}
				seen[ext] = is
			}
		}
	}
}

// oneWay: bytes that are read are just those of the elements that they say.
func oneWay(t *testing.T, profile int, ext string) bool {
	t.Helper()
	form, l, e := exts.Parse(profile, ext)
	if e != api.OK {
		refused(t, profile, ext, e)
		return false
	}
	if again, s, e := exts.Pack(form, l...); again != profile || s != ext || e != api.OK {
		t.Fatalf("%x, %x: %v, of %x, %x", profile, ext, l, again, s)
	}
	return true
}

// TestP52OneWayOfFourBytes: all fours of bytes that say something else.
func TestP52OneWayOfFourBytes(t *testing.T) {
	some := []byte{0, 1, 2, 3, 4, 14, 15, 16, 17, 18, 19, 32, 0xe0, 0xe2, 0xf0, 0xff}
	for _, profile := range []int{exts.ShortProfile, exts.LongProfile} {
		taken := 0
		for n := range 1 << 16 {
			four := string([]byte{some[n&15], some[n>>4&15], some[n>>8&15], some[n>>12]})
			if oneWay(t, profile, four) {
				taken++
			}
		}
		if taken < 1000 {
			t.Errorf("profile %x: %d were taken", profile, taken)
		}
	}
}

// TestP52OneWayOfAnyBytes: bytes of all kinds: elements, cut, drawn out, and
// with each byte another.
func TestP52OneWayOfAnyBytes(t *testing.T) {
	r := rand.New(rand.NewSource(6))
	taken := 0
	for range 300 {
		for _, form := range []int{exts.Short, exts.Long} {
			s, profile := bytesOf(form, anyElements(r, form)), profileOf(form)
			for n := range len(s) {
				oneWay(t, profile, s[:n])
				other := []byte{0, 1, 0x10, byte(r.Uint32())}[r.Intn(4)]
				if oneWay(t, profile, s[:n]+string([]byte{other})+s[n+1:]) {
					taken++
				}
			}
			oneWay(t, profile, s+"\x00\x00\x00\x00")
			oneWay(t, profile, s+string(binary.BigEndian.AppendUint32(nil, r.Uint32())))
			b := make([]byte, r.Intn(60))
			r.Read(b)
			oneWay(t, profile, string(b))
		}
	}
	if taken == 0 {
		t.Error("no bytes were taken")
	}
}
