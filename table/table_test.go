package table_test

import (
	"math"
	"math/rand"
	"slices"
	"testing"

	"cordelle/api"
	"cordelle/subflow"
	"cordelle/table"
)

// mostPaths is the document's number of paths, as it says it.
const mostPaths = 15

// model is a Table by the document's sentences: a place for each ID.
type model struct {
	most, version int
	there         [mostPaths + 1]bool
	entry         [mostPaths + 1]table.Entry
}

// modelOf is that of New.
func modelOf(most int) *model {
	switch {
	case most < 1:
		most = 1
	case most > mostPaths:
		most = mostPaths
	}
	return &model{most: most}
}

func (m *model) all() []table.Entry {
	var l []table.Entry
	for id, there := range m.there {
		if there {
			l = append(l, m.entry[id])
		}
	}
	return l
}

func (m *model) up() []int {
	var l []int
	for _, e := range m.all() {
		if e.Up {
			l = append(l, e.ID)
		}
	}
	return l
}

func (m *model) adverts() []subflow.Advert {
	var l []subflow.Advert
	for _, e := range m.all() {
		l = append(l, subflow.Advert{Path: e.ID, Up: e.Up, Rate: e.Rate})
	}
	return l
}

func (m *model) set(e table.Entry) (bool, api.Errno) {
	if e.ID < 1 || e.ID > 15 || e.Rate < 0 || e.Rate > 65535 {
		return false, api.ErrArg
	}
	if !m.there[e.ID] && len(m.all()) == m.most {
		return false, api.ErrFull
	}
	if m.there[e.ID] && m.entry[e.ID] == e {
		return false, api.OK
	}
	m.there[e.ID], m.entry[e.ID] = true, e
	m.version++
	return true, api.OK
}

func (m *model) drop(id int) bool {
	if id < 1 || id > 15 || !m.there[id] {
		return false
	}
	m.there[id] = false
	m.version++
	return true
}

func (m *model) merge(l []subflow.Advert) (int, api.Errno) {
	n := 0
	for _, a := range l {
		other, e := m.set(table.Entry{ID: a.Path, Up: a.Up, Rate: a.Rate})
		if e != api.OK {
			return n, e
		}
		if other {
			n++
		}
	}
	return n, api.OK
}

// checkTable holds all that a Table tells against what is wanted.
func checkTable(t *testing.T, x *table.Table, m *model) {
	t.Helper()
	if got := x.All(); !slices.Equal(got, m.all()) {
		t.Fatalf("All: %v, not %v", got, m.all())
	}
	if got := x.Up(); !slices.Equal(got, m.up()) {
		t.Fatalf("Up: %v, not %v", got, m.up())
	}
	if got := x.Len(); got != len(m.all()) {
		t.Fatalf("Len: %d, not %d", got, len(m.all()))
	}
	if got := x.Version(); got != m.version {
		t.Fatalf("Version: %d, not %d", got, m.version)
	}
	for _, source := range []uint32{0, 7, math.MaxUint32} {
		if got := x.Adverts(source); got.Source != source || !slices.Equal(got.All, m.adverts()) {
			t.Fatalf("Adverts(%d): %+v, not %v", source, got, m.adverts())
		}
	}
	for id := -1; id <= mostPaths+1; id++ {
		want, there := table.Entry{}, id >= 0 && id <= mostPaths && m.there[id]
		if there {
			want = m.entry[id]
		}
		if got, ok := x.Get(id); got != want || ok != there {
			t.Fatalf("Get(%d): %+v %t, not %+v %t", id, got, ok, want, there)
		}
	}
}

// set sets an entry, which answers just that.
func set(t *testing.T, x *table.Table, e table.Entry, other bool, want api.Errno) {
	t.Helper()
	version, n := x.Version(), x.Len()
	if got, f := x.Set(e); got != other || f != want {
		t.Fatalf("Set(%+v): %t %d, not %t %d", e, got, f, other, want)
	}
	if !other && (x.Version() != version || x.Len() != n) {
		t.Fatalf("Set(%+v): Version %d, not %d, Len %d, not %d", e, x.Version(), version, x.Len(), n)
	}
}

// merge merges adverts, which answers just that, and changes none of them.
func merge(t *testing.T, x *table.Table, want int, e api.Errno, l ...subflow.Advert) {
	t.Helper()
	room := l[:cap(l)]
	before := slices.Clone(room)
	if got, f := x.Merge(l...); got != want || f != e {
		t.Fatalf("Merge(%+v): %d %d, not %d %d", l, got, f, want, e)
	}
	if !slices.Equal(room, before) {
		t.Fatalf("changed: %v, not %v", room, before)
	}
}

// full is a Table of as many as may be, each ID a bit otherwise.
func full(t *testing.T) *table.Table {
	x := table.New(mostPaths)
	for id := 1; id <= mostPaths; id++ {
		set(t, x, table.Entry{ID: id, Up: id%3 > 0, Rate: 100 * id}, true, api.OK)
	}
	return x
}

// The document's example: New of 1, 3 up, and 4.
func TestP161Example(t *testing.T) {
	x := table.New(1)
	set(t, x, table.Entry{ID: 3, Up: true}, true, api.OK)
	set(t, x, table.Entry{ID: 4}, false, api.ErrFull)
	if e, ok := x.Get(3); e != (table.Entry{ID: 3, Up: true}) || !ok || x.Len() != 1 {
		t.Errorf("%+v %t", e, ok)
	}
}

// New of -1, 0, 1, 15, 16, and of any number: there is no path, and there may be
// so many.
func TestP161New(t *testing.T) {
	for _, c := range []struct{ most, want int }{
		{math.MinInt, 1}, {-1, 1}, {0, 1}, {1, 1}, {2, 2}, {7, 7}, {14, 14}, {15, 15}, {16, 15}, {17, 15}, {math.MaxInt, 15},
	} {
		x := table.New(c.most)
		checkTable(t, x, modelOf(c.most))
		if x.All() != nil || x.Up() != nil || x.Adverts(5).All != nil {
			t.Errorf("%d: %v %v", c.most, x.All(), x.Up())
		}
		for id := 1; id <= mostPaths; id++ {
			want := api.OK
			if id > c.want {
				want = api.ErrFull
			}
			set(t, x, table.Entry{ID: id}, want == api.OK, want)
		}
		if x.Len() != c.want || x.Version() != c.want {
			t.Errorf("%d: %d", c.most, x.Len())
		}
	}
}

// Set of an ID of 0, 1, 15 and 16, and of a Rate of -1, 0, 65535 and 65536.
func TestP161SetBounds(t *testing.T) {
	for _, c := range []struct {
		id, rate int
		want     api.Errno
	}{
		{0, 5, api.ErrArg}, {1, 5, api.OK}, {15, 5, api.OK}, {16, 5, api.ErrArg}, {-1, 5, api.ErrArg}, {math.MinInt, 5, api.ErrArg}, {math.MaxInt, 5, api.ErrArg}, {1 << 32, 5, api.ErrArg}, {257, 5, api.ErrArg},
		{5, -1, api.ErrArg}, {5, 0, api.OK}, {5, 65535, api.OK}, {5, 65536, api.ErrArg}, {5, math.MinInt, api.ErrArg}, {5, math.MaxInt, api.ErrArg},
		{0, -1, api.ErrArg}, {16, 65536, api.ErrArg}, {1, 0, api.OK}, {15, 65535, api.OK}, {1, -1, api.ErrArg}, {15, 65536, api.ErrArg},
	} {
		for _, up := range []bool{false, true} {
			x, e := table.New(3), table.Entry{ID: c.id, Up: up, Rate: c.rate}
			set(t, x, e, c.want == api.OK, c.want)
			got, ok := x.Get(c.id)
			if ok != (c.want == api.OK) || ok && got != e || !ok && got != (table.Entry{}) {
				t.Errorf("%+v: %+v %t", e, got, ok)
			}
		}
	}
}

// ErrArg comes ahead of ErrFull; an entry that is there may be another one in a
// full Table.
func TestP161SetErrors(t *testing.T) {
	x := table.New(2)
	set(t, x, table.Entry{ID: 9, Up: true, Rate: 1}, true, api.OK)
	set(t, x, table.Entry{ID: 4, Rate: 2}, true, api.OK)
	set(t, x, table.Entry{ID: 5, Rate: 2}, false, api.ErrFull)
	set(t, x, table.Entry{ID: 1, Up: true, Rate: 65535}, false, api.ErrFull)
	set(t, x, table.Entry{ID: 15}, false, api.ErrFull)
	set(t, x, table.Entry{ID: 5, Rate: -1}, false, api.ErrArg)
	set(t, x, table.Entry{ID: 5, Rate: 65536}, false, api.ErrArg)
	set(t, x, table.Entry{ID: 0}, false, api.ErrArg)
	set(t, x, table.Entry{ID: 16}, false, api.ErrArg)
	set(t, x, table.Entry{ID: 9, Rate: 65536}, false, api.ErrArg)
	set(t, x, table.Entry{ID: 9, Up: true, Rate: 1}, false, api.OK)
	set(t, x, table.Entry{ID: 9, Rate: 1}, true, api.OK)
	set(t, x, table.Entry{ID: 4, Rate: 3}, true, api.OK)
	if got := x.All(); !slices.Equal(got, []table.Entry{{ID: 4, Rate: 3}, {ID: 9, Rate: 1}}) || x.Version() != 4 {
		t.Errorf("%+v %d", got, x.Version())
	}
	// Where one was dropped, another one fits.
	if !x.Drop(9) {
		t.Error("Drop")
	}
	set(t, x, table.Entry{ID: 5, Rate: 2}, true, api.OK)
	set(t, x, table.Entry{ID: 9, Rate: 1}, false, api.ErrFull)
}

// Set of the same entry once more, and of another one of that ID: each field
// counts.
func TestP161SetAgain(t *testing.T) {
	for at := 1; at <= mostPaths; at++ {
		x := full(t)
		first, _ := x.Get(at)
		set(t, x, first, false, api.OK)
		up := first
		up.Up = !up.Up
		rate := up
		rate.Rate++
		for _, e := range []table.Entry{up, rate, first} {
			version := x.Version()
			set(t, x, e, true, api.OK)
			set(t, x, e, false, api.OK)
			if got, ok := x.Get(at); got != e || !ok || x.Version() != version+1 || x.Len() != mostPaths {
				t.Errorf("%+v: %+v %t", e, got, ok)
			}
		}
	}
}

// Drop and Get of an ID that is there, of one that isn't, and of any number.
func TestP161DropAndGet(t *testing.T) {
	for _, id := range []int{math.MinInt, -1, 0, 16, 17, 1 << 32, 1<<32 + 1, math.MaxInt} {
		x := full(t)
		if e, ok := x.Get(id); ok || e != (table.Entry{}) {
			t.Errorf("Get(%d): %+v", id, e)
		}
		if x.Drop(id) || x.Len() != mostPaths || x.Version() != mostPaths {
			t.Errorf("Drop(%d)", id)
		}
	}
	for id := 1; id <= mostPaths; id++ {
		x := full(t)
		want := slices.DeleteFunc(x.All(), func(e table.Entry) bool { return e.ID == id })
		if e, ok := x.Get(id); !ok || e.ID != id || e.Rate != 100*id || e.Up != (id%3 > 0) {
			t.Errorf("Get(%d): %+v", id, e)
		}
		if !x.Drop(id) || x.Len() != mostPaths-1 || x.Version() != mostPaths+1 || !slices.Equal(x.All(), want) {
			t.Errorf("Drop(%d): %v", id, x.All())
		}
		if e, ok := x.Get(id); ok || e != (table.Entry{}) {
			t.Errorf("Get(%d): %+v", id, e)
		}
		if x.Drop(id) || x.Version() != mostPaths+1 {
			t.Errorf("Drop(%d) once more", id)
		}
		// It is new once more.
		set(t, x, table.Entry{ID: id, Up: id%3 > 0, Rate: 100 * id}, true, api.OK)
		if !slices.Equal(x.All(), full(t).All()) || x.Version() != mostPaths+2 {
			t.Errorf("%d: %v", id, x.All())
		}
	}
	x := table.New(1)
	if x.Drop(1) || x.Version() != 0 {
		t.Error("Drop of none")
	}
}

// Merge of none, of many, of one ID twice, and up to the first error.
func TestP161Merge(t *testing.T) {
	x := table.New(3)
	merge(t, x, 0, api.OK)
	merge(t, x, 0, api.OK, []subflow.Advert{}...)
	merge(t, x, 1, api.OK, subflow.Advert{Path: 7, Up: true, Rate: 5})
	merge(t, x, 0, api.OK, subflow.Advert{Path: 7, Up: true, Rate: 5})
	// Of one ID the last one counts, each time that it is another.
	merge(t, x, 3, api.OK, subflow.Advert{Path: 2, Rate: 1}, subflow.Advert{Path: 2, Rate: 1}, subflow.Advert{Path: 2, Rate: 2}, subflow.Advert{Path: 2, Rate: 1})
	if got := x.All(); !slices.Equal(got, []table.Entry{{ID: 2, Rate: 1}, {ID: 7, Up: true, Rate: 5}}) || x.Version() != 4 {
		t.Errorf("%+v %d", got, x.Version())
	}
	// What is ahead of the first error is done, what is behind it isn't.
	merge(t, x, 1, api.ErrArg, subflow.Advert{Path: 2, Up: true}, subflow.Advert{Path: 16}, subflow.Advert{Path: 2}, subflow.Advert{Path: 3})
	merge(t, x, 1, api.ErrFull, subflow.Advert{Path: 3}, subflow.Advert{Path: 4}, subflow.Advert{Path: 0}, subflow.Advert{Path: 2, Up: true}, subflow.Advert{Path: 3, Up: true})
	merge(t, x, 2, api.ErrFull, subflow.Advert{Path: 3, Up: true}, subflow.Advert{Path: 2}, subflow.Advert{Path: 9}, subflow.Advert{Path: 2, Up: true})
	merge(t, x, 0, api.ErrArg, subflow.Advert{Path: 2, Rate: 65536}, subflow.Advert{Path: 9})
	merge(t, x, 0, api.ErrArg, subflow.Advert{Path: 2, Rate: -1})
	merge(t, x, 0, api.ErrFull, subflow.Advert{Path: 9})
}

// What was merged ahead of an error stays, wherever that is.
func TestP161MergeErrors(t *testing.T) {
	for at := range 5 {
		for _, wrong := range []subflow.Advert{{Path: 0}, {Path: 16}, {Path: -1}, {Path: 3, Rate: -1}, {Path: 3, Rate: 65536}} {
			x, m := table.New(5), modelOf(5)
			l := []subflow.Advert{{Path: 9, Rate: 1}, {Path: 4, Up: true}, {Path: 6, Rate: 65535}, {Path: 1, Up: true, Rate: 7}, {Path: 15}}
			l[at] = wrong
			merge(t, x, at, api.ErrArg, l...)
			m.merge(l)
			checkTable(t, x, m)
		}
	}
}

// All and Up rise, however the entries came.
func TestP161Rising(t *testing.T) {
	r := rand.New(rand.NewSource(161))
	for range 300 {
		x, m := table.New(mostPaths), modelOf(mostPaths)
		for _, i := range r.Perm(mostPaths) {
			e := table.Entry{ID: i + 1, Up: r.Intn(2) > 0, Rate: r.Intn(65536)}
			set(t, x, e, true, api.OK)
			m.set(e)
			checkTable(t, x, m)
		}
	}
}

// Behind any calls.
func TestP161Calls(t *testing.T) {
	r := rand.New(rand.NewSource(1612))
	for range 300 {
		most := r.Intn(20) - 2
		x, m := table.New(most), modelOf(most)
		ids := 1 + r.Intn(17)
		for range 60 {
			id := r.Intn(ids+1) + r.Intn(20)/19
			switch r.Intn(6) {
			case 0:
				if got, want := x.Drop(id), m.drop(id); got != want {
					t.Fatalf("Drop(%d): %t", id, got)
				}
			case 1:
				var l []subflow.Advert
				for range r.Intn(5) {
					l = append(l, subflow.Advert{Path: r.Intn(ids + 1), Up: r.Intn(2) > 0, Rate: r.Intn(3)})
				}
				want, e := m.merge(l)
				merge(t, x, want, e, l...)
			case 2: // One like it goes on.
				x = x.Clone()
			default:
				e := table.Entry{ID: id, Up: r.Intn(2) > 0, Rate: r.Intn(3) - r.Intn(30)/29}
				other, f := m.set(e)
				set(t, x, e, other, f)
			}
			checkTable(t, x, m)
		}
	}
}

// A Clone goes its own way, and so does what it is one of.
func TestP161Clone(t *testing.T) {
	for _, id := range []int{1, 7, 8, 14, 15} {
		for _, other := range []bool{false, true} {
			x, m := table.New(4), modelOf(4)
			for _, e := range []table.Entry{{ID: 8, Up: true, Rate: 3}, {ID: 14, Rate: 3}, {ID: 7, Rate: 3}} {
				set(t, x, e, true, api.OK)
				m.set(e)
			}
			changed, kept := x, x.Clone()
			if other {
				changed, kept = kept, changed
			}
			checkTable(t, kept, m)
			checkTable(t, changed, m)
			set(t, changed, table.Entry{ID: id, Up: true, Rate: 9}, true, api.OK)
			checkTable(t, kept, m)
			changed.Merge(subflow.Advert{Path: 8, Rate: 77}, subflow.Advert{Path: 14, Rate: 77})
			checkTable(t, kept, m)
			changed.Drop(7)
			changed.Drop(14)
			checkTable(t, kept, m)
			// There may be as many in both.
			set(t, kept, table.Entry{ID: 2}, true, api.OK)
			set(t, kept, table.Entry{ID: 3}, false, api.ErrFull)
			if n := changed.Len(); n > 2 {
				t.Errorf("%d", n)
			}
		}
	}
	x := table.New(2).Clone()
	checkTable(t, x, modelOf(2))
	set(t, x, table.Entry{ID: 2}, true, api.OK)
	set(t, x, table.Entry{ID: 1}, true, api.OK)
	set(t, x, table.Entry{ID: 3}, false, api.ErrFull)
}

// What is answered is new memory.
func TestP161Memory(t *testing.T) {
	x := full(t)
	want := x.All()
	all, up, adverts := x.All(), x.Up(), x.Adverts(1)
	for i := range all {
		all[i] = table.Entry{ID: 99}
		adverts.All[i] = subflow.Advert{Path: 99}
	}
	for i := range up {
		up[i] = 99
	}
	_ = append(all[:3], table.Entry{ID: 98})
	if !slices.Equal(x.All(), want) || x.Up()[0] != 1 || x.Adverts(1).All[0].Path != 1 {
		t.Errorf("%v", x.All())
	}
	// And what was answered stays.
	before := slices.Clone(want)
	x.Drop(1)
	set(t, x, table.Entry{ID: 5, Rate: 65535}, true, api.OK)
	if !slices.Equal(want, before) {
		t.Errorf("%v", want)
	}
}

// A zero Table answers, and has no more than may be.
func TestP161Zero(t *testing.T) {
	x := new(table.Table)
	checkTable(t, x, modelOf(0))
	checkTable(t, x.Clone(), modelOf(0))
	for id := -1; id < 20; id++ {
		x.Set(table.Entry{ID: id})
		x.Merge(subflow.Advert{Path: id, Up: true})
		if x.Len() > 1 {
			t.Fatal(x.All())
		}
	}
}

// Adverts of no entry and of as many as may be are what layer 11 makes a piece
// of, and reads again.
func TestP161Adverts(t *testing.T) {
	few := table.New(3)
	set(t, few, table.Entry{ID: 15, Rate: 65535}, true, api.OK)
	set(t, few, table.Entry{ID: 2, Up: true}, true, api.OK)
	for _, x := range []*table.Table{table.New(1), few, full(t)} {
		want := x.Adverts(0x01020304)
		p := want.Piece()
		if p.Kind != 211 || p.Count != 2 || len(p.Body) != 4+4*x.Len() {
			t.Fatalf("%+v", p)
		}
		got, e := subflow.ToAdverts(p)
		if e != api.OK || got.Source != want.Source || !slices.Equal(got.All, want.All) || !slices.Equal(got.Up(), x.Up()) {
			t.Errorf("%+v %d, not %+v", got, e, want)
		}
	}
}

// There are never more entries than may be, whatever is called.
func TestP162(t *testing.T) {
	r := rand.New(rand.NewSource(162))
	for most := -1; most <= 17; most++ {
		x := table.New(most)
		greatest := 0
		for range 3000 {
			switch r.Intn(8) {
			case 0:
				x.Drop(r.Intn(17))
			case 1:
				x.Merge(subflow.Advert{Path: r.Intn(17)}, subflow.Advert{Path: r.Intn(17), Up: true}, subflow.Advert{Path: r.Intn(17)})
			case 2:
				x = x.Clone()
			default:
				x.Set(table.Entry{ID: r.Intn(17), Rate: r.Intn(9)})
			}
			if x.Len() > modelOf(most).most || x.Len() != len(x.All()) || len(x.Up()) > x.Len() || len(x.Adverts(0).All) != x.Len() {
				t.Fatalf("%d: %v", most, x.All())
			}
			greatest = max(greatest, x.Len())
		}
		if greatest != modelOf(most).most {
			t.Errorf("%d: %d", most, greatest)
		}
	}
}

// A Table that Merges what another one Adverts has just its entries.
func TestP163(t *testing.T) {
	r := rand.New(rand.NewSource(163))
	for range 2000 {
		most := 1 + r.Intn(mostPaths)
		x := table.New(most)
		for range r.Intn(30) {
			x.Set(table.Entry{ID: 1 + r.Intn(mostPaths), Up: r.Intn(2) > 0, Rate: r.Intn(65536)})
			if r.Intn(4) == 0 {
				x.Drop(1 + r.Intn(mostPaths))
			}
		}
		y := table.New(most)
		adverts := x.Adverts(r.Uint32())
		merge(t, y, x.Len(), api.OK, adverts.All...)
		if !slices.Equal(y.All(), x.All()) || !slices.Equal(y.Up(), x.Up()) || y.Len() != x.Len() || y.Version() != x.Len() {
			t.Fatalf("%v, not %v", y.All(), x.All())
		}
		merge(t, y, 0, api.OK, adverts.All...)
		// And so it is behind a piece.
		if read, e := subflow.ToAdverts(adverts.Piece()); e == api.OK {
			z := table.New(mostPaths)
			merge(t, z, x.Len(), api.OK, read.All...)
			if !slices.Equal(z.All(), x.All()) {
				t.Fatalf("%v, not %v", z.All(), x.All())
			}
		} else {
			t.Fatal(e)
		}
	}
}
