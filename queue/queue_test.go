package queue_test

import (
	"math"
	"math/rand"
	"slices"
	"strings"
	"testing"

	"cordelle/queue"
)

// most is how many may wait, and of how many bytes, at most: 2^30.
const most = 1073741824

// thing is of any size, told apart by its number.
type thing struct{ id, size int }

func (x thing) Size() int { return x.size }

// counts is the size of a thing as it counts.
func (x thing) counts() int {
	if x.size < 0 {
		return 0
	}
	return x.size
}

// broken has a Size that panics, if it is nil.
type broken struct{ size int }

func (x *broken) Size() int { return x.size }

// nearest is n as it counts in a range.
func nearest(least, n, most int) int {
	switch {
	case n < least:
		return least
	case n > most:
		return most
	}
	return n
}

// model is a Queue by the document's sentences: it adds its sizes up each time.
type model struct {
	most, bytes int
	all         []thing
}

func newModel(things, bytes int) *model {
	return &model{most: nearest(1, things, most), bytes: nearest(1, bytes, most)}
}

func (m *model) clone() *model {
	return &model{most: m.most, bytes: m.bytes, all: slices.Clone(m.all)}
}

func (m *model) sum() int {
	sum := 0
	for _, x := range m.all {
		sum += x.counts()
	}
	return sum
}

func (m *model) push(l []thing) bool {
	if len(m.all)+len(l) > m.most {
		return false
	}
	sum := m.sum()
	for _, x := range l {
		if x.counts() > m.bytes || sum+x.counts() > m.bytes {
			return false
		}
		sum += x.counts()
	}
	m.all = append(slices.Clone(m.all), l...)
	return true
}

func (m *model) pop() (thing, bool) {
	if len(m.all) == 0 {
		return thing{}, false
	}
	x := m.all[0]
	m.all = slices.Clone(m.all[1:])
	return x, true
}

// check holds all that a Queue tells against the model.
func check(t *testing.T, q *queue.Queue[thing], m *model) {
	t.Helper()
	if got := q.All(); !slices.Equal(got, m.all) {
		t.Fatalf("All: %v, not %v", got, m.all)
	}
	if q.Len() != len(m.all) || q.Bytes() != m.sum() {
		t.Fatalf("%v: Len %d, Bytes %d", m.all, q.Len(), q.Bytes())
	}
	things, bytes := q.Room()
	if things != m.most-len(m.all) || bytes != m.bytes-m.sum() {
		t.Fatalf("%+v: Room %d, %d", m, things, bytes)
	}
	if things < 0 || bytes < 0 || q.Len() > m.most || q.Bytes() > m.bytes {
		t.Fatalf("%+v: more than may be", m)
	}
	want, there := thing{}, len(m.all) > 0
	if there {
		want = m.all[0]
	}
	if got, is := q.Front(); got != want || is != there {
		t.Fatalf("Front: %v %t, not %v %t", got, is, want, there)
	}
}

// push does Push to both, and tells whether there was room.
func push(t *testing.T, q *queue.Queue[thing], m *model, l ...thing) bool {
	t.Helper()
	room := l[:cap(l)]
	before := slices.Clone(room)
	got := q.Push(l...)
	if want := m.push(l); got != want {
		t.Fatalf("Push(%v): %t", l, got)
	}
	if !slices.Equal(room, before) {
		t.Fatalf("changed: %v, not %v", room, before)
	}
	check(t, q, m)
	return got
}

// pop does Pop to both.
func pop(t *testing.T, q *queue.Queue[thing], m *model) (thing, bool) {
	t.Helper()
	got, is := q.Pop()
	if want, there := m.pop(); got != want || is != there {
		t.Fatalf("Pop: %v %t, not %v %t", got, is, want, there)
	}
	check(t, q, m)
	return got, is
}

// filter does Filter to both, and looks whether each is asked once, in order.
func filter(t *testing.T, q *queue.Queue[thing], m *model, keep func(x thing) bool) int {
	t.Helper()
	var asked, kept []thing
	got := q.Filter(func(x thing) bool {
		asked = append(asked, x)
		return keep(x)
	})
	if !slices.Equal(asked, m.all) {
		t.Fatalf("asked of %v, not %v", asked, m.all)
	}
	for _, x := range m.all {
		if keep(x) {
			kept = append(kept, x)
		}
	}
	if want := len(m.all) - len(kept); got != want {
		t.Fatalf("Filter: %d, not %d", got, want)
	}
	m.all = kept
	check(t, q, m)
	return got
}

// of are things of these sizes, numbered from 1 on.
func of(sizes ...int) []thing {
	var l []thing
	for i, n := range sizes {
		l = append(l, thing{id: i + 1, size: n})
	}
	return l
}

// begun is a Queue of these, and its model.
func begun(t *testing.T, things, bytes int, l ...thing) (*queue.Queue[thing], *model) {
	t.Helper()
	q, m := queue.New[thing](things, bytes), newModel(things, bytes)
	check(t, q, m)
	if !push(t, q, m, l...) {
		t.Fatal("no room")
	}
	return q, m
}

// The document's example: New(2, 9): Push a, bc: true; Push d: false.
func TestP201Example(t *testing.T) {
	q := queue.New[queue.Text](2, 9)
	if !q.Push("a", "bc") || q.Push("d") || q.Len() != 2 || q.Bytes() != 3 {
		t.Errorf("%q", q.All())
	}
}

// A text has as many bytes as it has.
func TestP201Text(t *testing.T) {
	for text, want := range map[queue.Text]int{"": 0, "a": 1, "\x00": 1, "\xff\xfe": 2, "\u00e9": 2, "\u20ac!": 4, queue.Text(strings.Repeat("ab", 40000)): 80000} {
		if got := text.Size(); got != want {
			t.Errorf("%d, not %d", got, want)
		}
		q := queue.New[queue.Text](1, 100000)
		if !q.Push(text) || q.Bytes() != want {
			t.Errorf("%d, not %d", q.Bytes(), want)
		}
	}
	var _ queue.Sized = queue.Text("")
}

// New of -1, 0, 1, 2^30 and beyond, of the number and of the bytes; a zero Queue
// is like one of New of 0.
func TestP201New(t *testing.T) {
	bounds := []struct{ n, want int }{{math.MinInt, 1}, {-1, 1}, {0, 1}, {1, 1}, {2, 2}, {most - 1, most - 1}, {most, most}, {most + 1, most}, {math.MaxInt, most}}
	for _, things := range bounds {
		for _, bytes := range bounds {
			q := queue.New[thing](things.n, bytes.n)
			if a, b := q.Room(); a != things.want || b != bytes.want {
				t.Errorf("New(%d, %d): %d %d", things.n, bytes.n, a, b)
			}
			m := newModel(things.n, bytes.n)
			check(t, q, m)
			check(t, q.Clone(), m)
			if _, is := pop(t, q, m); is || q.Filter(func(thing) bool { return false }) != 0 {
				t.Error("something waits")
			}
			if push(t, q, m, thing{size: bytes.want + 1}) || !push(t, q, m, thing{size: bytes.want}) || push(t, q, m, thing{size: 1}) || push(t, q, m, thing{}) != (things.want > 1) {
				t.Errorf("New(%d, %d)", things.n, bytes.n)
			}
			check(t, q.Clone(), m)
		}
	}
	q, m := new(queue.Queue[thing]), newModel(0, 0)
	check(t, q, m)
	check(t, q.Clone(), m)
	pop(t, q, m)
	if push(t, q, m, of(0, 0)...) || push(t, q, m, thing{size: 2}) || !push(t, q, m, thing{size: 1}) || push(t, q, m, thing{}) {
		t.Error("zero")
	}
}

// None of more than may wait does, where these have no bytes.
func TestP201MostThings(t *testing.T) {
	q := queue.New[nothing](most, 1)
	if q.Push(make([]nothing, most+1)...) || q.Len() != 0 {
		t.Error("Push")
	}
	if !q.Push(make([]nothing, 5)...) || q.Push(make([]nothing, most-4)...) || q.Len() != 5 || q.Bytes() != 0 {
		t.Error("Push")
	}
	if a, b := q.Room(); a != most-5 || b != 1 {
		t.Errorf("%d %d", a, b)
	}
}

// nothing has no bytes, also in memory.
type nothing struct{}

func (nothing) Size() int { return 0 }

// Push of none, of just as many as there is room for, of one more.
func TestP201PushThings(t *testing.T) {
	q, m := begun(t, 3, 100)
	if !push(t, q, m) || !push(t, q, m, []thing{}...) || q.Len() != 0 {
		t.Error("none")
	}
	if push(t, q, m, of(1, 1, 1, 1)...) || push(t, q, m, of(0, 0, 0, 0)...) || !push(t, q, m, of(1, 2, 3)...) || !push(t, q, m) {
		t.Error("Push")
	}
	if push(t, q, m, thing{id: 9, size: 1}) || push(t, q, m, thing{}) || push(t, q, m, of(1, 1)...) {
		t.Error("one more")
	}
	pop(t, q, m)
	if push(t, q, m, of(4, 5)...) || !push(t, q, m, thing{id: 4}) || push(t, q, m, thing{id: 5}) {
		t.Error("Pop")
	}
	for n := range 5 {
		q, m := begun(t, n+3, 100, of(1, 1, 1)...)
		if push(t, q, m, make([]thing, n+1)...) || !push(t, q, m, make([]thing, n)...) {
			t.Errorf("%d", n)
		}
	}
}

// Push of just as many bytes as there is room for, and of one more; of several,
// one of which has no room.
func TestP201PushBytes(t *testing.T) {
	for _, x := range []struct {
		sizes []int
		want  bool
	}{
		{[]int{10}, true}, {[]int{11}, false}, {[]int{4, 6}, true}, {[]int{4, 7}, false}, {[]int{5, 6}, false}, {[]int{3, 3, 4}, true}, {[]int{3, 3, 5}, false},
		{[]int{11, 0, 0}, false}, {[]int{0, 11, 0}, false}, {[]int{0, 0, 11}, false}, {[]int{1, 10, 1}, false}, {[]int{10, 0, 0}, true}, {[]int{0, 10, 0}, true}, {[]int{9, 1, 0}, true}, {[]int{9, 1, 1}, false},
		{[]int{10, -1}, true}, {[]int{-1, 10}, true}, {[]int{-1, 11}, false}, {[]int{11, -1}, false}, {[]int{11, -100}, false}, {[]int{-100, 11}, false}, {[]int{-5, 15, -5}, false},
		{[]int{math.MaxInt}, false}, {[]int{math.MaxInt, math.MaxInt, 2}, false}, {[]int{math.MaxInt, math.MinInt}, false}, {[]int{math.MaxInt, 1, math.MinInt}, false}, {[]int{5, math.MaxInt}, false}, {[]int{math.MinInt, math.MinInt, 3}, true},
	} {
		for _, ahead := range []int{0, 3} {
			q, m := begun(t, 9, 10+ahead)
			if ahead > 0 {
				push(t, q, m, thing{id: 99, size: ahead})
			}
			if got := push(t, q, m, of(x.sizes...)...); got != x.want {
				t.Errorf("%v behind %d: %t", x.sizes, ahead, got)
			}
		}
	}
}

// A Size of 0 and below 0 counts as 0, at each call.
func TestP201SizeBelow(t *testing.T) {
	sizes := []int{0, -1, math.MinInt, 4, -7, 1}
	q, m := begun(t, 20, 5, of(sizes...)...)
	if q.Bytes() != 5 || q.Len() != 6 || push(t, q, m, thing{size: 1}) || !push(t, q, m, thing{id: 7, size: -3}) {
		t.Errorf("%d", q.Bytes())
	}
	if n := filter(t, q, m, func(x thing) bool { return x.size != -1 }); n != 1 || q.Bytes() != 5 {
		t.Errorf("%d %d", n, q.Bytes())
	}
	for _, want := range []int{5, 5, 1, 1, 0, 0} {
		pop(t, q, m)
		if q.Bytes() != want {
			t.Errorf("%d, not %d", q.Bytes(), want)
		}
	}
	if !push(t, q, m, thing{size: 5}) {
		t.Error("no room")
	}
}

// Pop and Front of an empty one, and Front keeps what Pop takes.
func TestP201PopFront(t *testing.T) {
	q, m := begun(t, 5, 50, of(1, 2)...)
	for range 3 {
		if x, is := q.Front(); !is || x.id != 1 {
			t.Errorf("%v", x)
		}
		check(t, q, m)
	}
	for _, want := range []int{1, 2} {
		if x, is := pop(t, q, m); !is || x.id != want {
			t.Errorf("%v, not %d", x, want)
		}
	}
	for range 3 {
		if x, is := pop(t, q, m); is || x != (thing{}) {
			t.Errorf("%v", x)
		}
	}
	push(t, q, m, thing{id: 7, size: 50})
	if x, is := pop(t, q, m); !is || x.id != 7 {
		t.Errorf("%v", x)
	}
	text := queue.New[queue.Text](2, 2)
	if x, is := text.Pop(); is || x != "" {
		t.Errorf("%q", x)
	}
	if x, is := text.Front(); is || x != "" {
		t.Errorf("%q", x)
	}
}

// Filter that keeps all, none, and some.
func TestP201Filter(t *testing.T) {
	sizes := []int{5, 1, 4, 2, 3, 0}
	for _, x := range []struct {
		keep  func(x thing) bool
		gone  int
		bytes int
	}{
		{func(thing) bool { return true }, 0, 15},
		{func(thing) bool { return false }, 6, 0},
		{func(x thing) bool { return x.id%2 == 0 }, 3, 3},
		{func(x thing) bool { return x.id%2 == 1 }, 3, 12},
		{func(x thing) bool { return x.id != 1 }, 1, 10},
		{func(x thing) bool { return x.id != 6 }, 1, 15},
		{func(x thing) bool { return x.size < 3 }, 3, 3},
		{func(x thing) bool { return x.id == 3 }, 5, 4},
	} {
		q, m := begun(t, 6, 15, of(sizes...)...)
		if got := filter(t, q, m, x.keep); got != x.gone || q.Bytes() != x.bytes || q.Len() != 6-x.gone {
			t.Errorf("%d %d", got, q.Bytes())
		}
		// What went leaves room, and no more than that.
		if push(t, q, m, thing{id: 7, size: 16 - x.bytes}) || push(t, q, m, make([]thing, x.gone+1)...) || !push(t, q, m, make([]thing, x.gone)...) {
			t.Error("Room")
		}
		if got := filter(t, q, m, x.keep); got != m.most-q.Len() {
			t.Errorf("once more: %d", got)
		}
		for q.Len() > 0 {
			pop(t, q, m)
		}
		if q.Filter(x.keep) != 0 {
			t.Error("of none")
		}
	}
}

// A keep that goes by the order gets it, also behind Pops.
func TestP201FilterOrder(t *testing.T) {
	q, m := begun(t, 9, 99, of(1, 2, 3, 4, 5, 6)...)
	pop(t, q, m)
	pop(t, q, m)
	push(t, q, m, thing{id: 7, size: 7}, thing{id: 8, size: 8})
	n := 0
	gone := q.Filter(func(thing) bool { n++; return n%3 == 0 })
	var ids []int
	for _, x := range q.All() {
		ids = append(ids, x.id)
	}
	if n != 6 || gone != 4 || !slices.Equal(ids, []int{5, 8}) || q.Bytes() != 13 {
		t.Errorf("%d %d %v %d", n, gone, ids, q.Bytes())
	}
}

// A Clone goes its own way, and so does what it is one of.
func TestP201Clone(t *testing.T) {
	for _, other := range []bool{false, true} {
		q, m := begun(t, 6, 60, of(1, 2, 3, 4)...)
		pop(t, q, m)
		changed, kept := q, q.Clone()
		if other {
			changed, kept = kept, changed
		}
		n := m.clone()
		check(t, changed, n)
		check(t, kept, m)
		push(t, changed, n, thing{id: 8, size: 8})
		check(t, kept, m)
		push(t, kept, m, thing{id: 9, size: 9})
		check(t, changed, n)
		filter(t, changed, n, func(x thing) bool { return x.id != 3 })
		check(t, kept, m)
		pop(t, changed, n)
		check(t, kept, m)
		for kept.Len() > 0 {
			pop(t, kept, m)
		}
		check(t, changed, n)
		// It has the same bounds.
		if push(t, changed, n, of(1, 1, 1, 1, 1, 1)...) || push(t, kept, m, thing{size: 61}) || !push(t, kept, m, of(60, 0, 0, 0, 0, 0)...) || push(t, kept, m, thing{}) {
			t.Error("bounds")
		}
	}
}

// However it came to be, and whatever is done first with either.
func TestP201CloneFirst(t *testing.T) {
	deeds := []func(q *queue.Queue[thing], m *model, id int){
		func(q *queue.Queue[thing], m *model, id int) { push(t, q, m, thing{id: id, size: id}) },
		func(q *queue.Queue[thing], m *model, id int) { pop(t, q, m) },
		func(q *queue.Queue[thing], m *model, id int) {
			filter(t, q, m, func(x thing) bool { return x.id%2 == id%2 })
		},
	}
	for many := range 12 {
		for _, one := range deeds {
			for _, two := range deeds {
				q, m := begun(t, 30, 300)
				for id := range many { // One by one: so there is room to spare, now and then.
					push(t, q, m, thing{id: id, size: 1})
				}
				c, n := q.Clone(), m.clone()
				one(q, m, 31)
				check(t, c, n)
				two(c, n, 40)
				check(t, q, m)
				two(q, m, 33)
				one(c, n, 42)
				check(t, q, m)
				check(t, c, n)
			}
		}
	}
}

// What is handed in isn't kept, and what is answered is new memory.
func TestP201Memory(t *testing.T) {
	q, m := begun(t, 9, 99)
	l := make([]thing, 2, 6)
	copy(l, of(1, 2))
	push(t, q, m, l...)
	l[0], l[1] = thing{id: 77, size: 7}, thing{id: 78, size: 7}
	_ = append(l, thing{id: 79})
	check(t, q, m)
	push(t, q, m, thing{id: 3, size: 3})
	if all := l[:cap(l)]; all[0].id != 77 || all[2].id != 79 || all[3] != (thing{}) {
		t.Errorf("changed: %v", all)
	}
	first, second := q.All(), q.All()
	_ = append(first[:1], thing{id: 88})
	first[0] = thing{id: 89}
	_ = append(first, thing{id: 90})
	check(t, q, m)
	push(t, q, m, thing{id: 4, size: 4})
	pop(t, q, m)
	filter(t, q, m, func(x thing) bool { return x.id != 2 })
	if !slices.Equal(second, of(1, 2, 3)) {
		t.Errorf("changed: %v", second)
	}
}

// A Queue of an interface, with a nil one among its things, and of pointers: a
// Size that panics counts as 0.
func TestP201NoPanic(t *testing.T) {
	q := queue.New[queue.Sized](4, 5)
	if !q.Push(nil, queue.Text("abc"), nil, thing{size: 2}) || q.Push(nil) || q.Len() != 4 || q.Bytes() != 5 {
		t.Errorf("%d %d", q.Len(), q.Bytes())
	}
	if n := q.Filter(func(x queue.Sized) bool { return x != nil }); n != 2 || q.Bytes() != 5 {
		t.Errorf("%d %d", n, q.Bytes())
	}
	q.Push(nil)
	for _, want := range []queue.Sized{queue.Text("abc"), thing{size: 2}, nil} {
		if x, is := q.Pop(); !is || x != want {
			t.Errorf("%v, not %v", x, want)
		}
	}
	if x, is := q.Pop(); is || x != nil || q.Bytes() != 0 {
		t.Errorf("%v", x)
	}
	p := queue.New[*broken](3, 4)
	if !p.Push(nil, &broken{4}, nil) || p.Bytes() != 4 {
		t.Errorf("%d", p.Bytes())
	}
	p.Pop()
	if x, is := p.Pop(); !is || x.size != 4 || p.Bytes() != 0 || p.Len() != 1 {
		t.Errorf("%v", x)
	}
}

// One of which keep doesn't say, as it panics, waits no more; it is asked of the
// others.
func TestP201KeepPanics(t *testing.T) {
	q, m := begun(t, 9, 99, of(1, 2, 3, 4)...)
	n := q.Filter(func(x thing) bool {
		if x.id == 2 {
			panic("no")
		}
		return x.id != 4
	})
	m.all = []thing{{1, 1}, {3, 3}}
	if check(t, q, m); n != 2 {
		t.Errorf("%d", n)
	}
}

// Behind any calls.
func TestP201Calls(t *testing.T) {
	r := rand.New(rand.NewSource(201))
	for range 500 {
		things, bytes := r.Intn(14)-1, r.Intn(60)-1
		q, m := queue.New[thing](things, bytes), newModel(things, bytes)
		id := 0
		for range 120 {
			switch r.Intn(9) {
			case 0:
				apart := 2 + r.Intn(4)
				filter(t, q, m, func(x thing) bool { return x.id%apart != 0 })
			case 1:
				q, m = q.Clone(), m.clone()
			case 2, 3, 4:
				pop(t, q, m)
			default:
				var l []thing
				for range r.Intn(5) {
					id++
					l = append(l, thing{id: id, size: r.Intn(12) - 2})
				}
				push(t, q, m, l...)
			}
		}
	}
}

// First in, first out; never more, nor more bytes, than may wait.
func TestP202(t *testing.T) {
	r := rand.New(rand.NewSource(202))
	for range 200 {
		things, bytes := 1+r.Intn(20), 1+r.Intn(3000)
		q := queue.New[thing](things, bytes)
		var in, out []thing
		refused := 0
		for range 400 {
			if r.Intn(2) == 0 {
				l := make([]thing, r.Intn(3))
				for i := range l {
					l[i] = thing{id: len(in) + i, size: r.Intn(1500)}
				}
				if q.Push(l...) {
					in = append(in, l...)
				} else {
					refused++
				}
			} else if x, is := q.Pop(); is {
				out = append(out, x)
			}
			sum := 0
			for _, x := range in[len(out):] {
				sum += x.size
			}
			if n := len(in) - len(out); n != q.Len() || sum != q.Bytes() || n > things || sum > bytes {
				t.Fatalf("%d of %d bytes, of %d of %d: %d %d", n, sum, things, bytes, q.Len(), q.Bytes())
			}
		}
		for x, is := q.Pop(); is; x, is = q.Pop() {
			out = append(out, x)
		}
		if !slices.Equal(in, out) || refused == 0 && things < 4 {
			t.Fatalf("%d in, %d out, %d refused", len(in), len(out), refused)
		}
	}
}

// So it is of many, in a time that ends.
func TestP202Many(t *testing.T) {
	const many = 200000
	q := queue.New[thing](many, most)
	for id := range many {
		if !q.Push(thing{id: id, size: id % 7}) {
			t.Fatal("no room")
		}
	}
	if q.Push(thing{}) {
		t.Error("room")
	}
	for id := range 3 * many {
		x, is := q.Pop()
		if !is || x.id != id || !q.Push(thing{id: id + many, size: (id + many) % 7}) {
			t.Fatalf("%v, not %d", x, id)
		}
	}
	if n := q.Filter(func(x thing) bool { return x.id >= 4*many-1 }); n != many-1 || q.Bytes() != (4*many-1)%7 {
		t.Errorf("%d %d", n, q.Bytes())
	}
}
