package history_test

import (
	"math"
	"math/rand"
	"slices"
	"strings"
	"testing"

	"cordelle/history"
)

// nearest is n as it counts in a range.
func nearest(least, n, most int) int {
	switch {
	case n < least:
		return least
	case n > most:
		return most
	}
	return n
}

// model is a History by the document's sentences: it goes through all of them.
type model struct {
	most, tries, again int
	all                []history.Record
}

func newModel(most, tries int) *model {
	return &model{most: nearest(1, most, 65535), tries: nearest(0, tries, 100)}
}

func (m *model) clone() *model {
	c := *m
	c.all = slices.Clone(m.all)
	return &c
}

func (m *model) put(seq, path int, data string) bool {
	for _, r := range m.all {
		if r.Seq >= seq {
			return false
		}
	}
	m.all = append(slices.Clone(m.all), history.Record{Seq: seq, Path: path, Data: data})
	if len(m.all) > m.most {
		m.all = slices.Clone(m.all[1:])
	}
	return true
}

func (m *model) sendAgain(seq, path int) (history.Record, bool) {
	for i, r := range m.all {
		if r.Seq == seq && r.Tries < m.tries {
			m.again++
			m.all[i] = history.Record{Seq: seq, Tries: r.Tries + 1, Path: path, Data: r.Data}
			return m.all[i], true
		}
	}
	return history.Record{}, false
}

func (m *model) get(seq int) (history.Record, bool) {
	for _, r := range m.all {
		if r.Seq == seq {
			return r, true
		}
	}
	return history.Record{}, false
}

func (m *model) forget(upto int) int {
	var left []history.Record
	for _, r := range m.all {
		if r.Seq > upto {
			left = append(left, r)
		}
	}
	n := len(m.all) - len(left)
	m.all = left
	return n
}

// check holds all that a History tells against the model, with all numbers that
// are kept, their neighbours, and some beyond.
func check(t *testing.T, h *history.History, m *model) {
	t.Helper()
	var seqs []int
	asked := []int{math.MinInt, -1, 0, 1, math.MaxInt}
	for _, r := range m.all {
		seqs = append(seqs, r.Seq)
		asked = append(asked, r.Seq-1, r.Seq, r.Seq+1)
	}
	if got := h.Seqs(); !slices.Equal(got, seqs) {
		t.Fatalf("Seqs: %v, not %v", got, seqs)
	}
	if h.Len() != len(seqs) || h.Len() > m.most || h.Again2() != m.again {
		t.Fatalf("Len %d, Again2 %d, not %d, %d", h.Len(), h.Again2(), len(seqs), m.again)
	}
	for _, seq := range asked {
		want, there := m.get(seq)
		if got, is := h.Get(seq); got != want || is != there {
			t.Fatalf("Get(%d): %+v %t, not %+v %t", seq, got, is, want, there)
		}
	}
}

// put does Put to both, and tells whether it is kept.
func put(t *testing.T, h *history.History, m *model, seq, path int, data string) bool {
	t.Helper()
	got := h.Put(seq, path, data)
	if want := m.put(seq, path, data); got != want {
		t.Fatalf("Put(%d): %t", seq, got)
	}
	check(t, h, m)
	return got
}

// again does Again to both, and tells whether it is sent.
func again(t *testing.T, h *history.History, m *model, seq, path int) bool {
	t.Helper()
	got, is := h.Again(seq, path)
	if want, there := m.sendAgain(seq, path); got != want || is != there {
		t.Fatalf("Again(%d, %d): %+v %t, not %+v %t", seq, path, got, is, want, there)
	}
	check(t, h, m)
	return is
}

// forget does Forget to both, and answers how many.
func forget(t *testing.T, h *history.History, m *model, upto int) int {
	t.Helper()
	got := h.Forget(upto)
	if want := m.forget(upto); got != want {
		t.Fatalf("Forget(%d): %d, not %d", upto, got, want)
	}
	check(t, h, m)
	return got
}

// begun is a History of these numbers, and its model.
func begun(t *testing.T, most, tries int, seqs ...int) (*history.History, *model) {
	t.Helper()
	h, m := history.New(most, tries), newModel(most, tries)
	check(t, h, m)
	for i, seq := range seqs {
		if !put(t, h, m, seq, 1+i%15, strings.Repeat("x", i)) {
			t.Fatalf("Put(%d)", seq)
		}
	}
	return h, m
}

// The document's example.
func TestP211Example(t *testing.T) {
	h := history.New(1, 1)
	if !h.Put(5, 1, "five") {
		t.Error("Put 5")
	}
	if r, is := h.Again(5, 2); !is || r != (history.Record{Seq: 5, Tries: 1, Path: 2, Data: "five"}) {
		t.Errorf("Again 5: %+v %t", r, is)
	}
	if r, is := h.Again(5, 3); is || r != (history.Record{}) {
		t.Errorf("Again 5: %+v %t", r, is)
	}
	if !h.Put(6, 1, "six") {
		t.Error("Put 6")
	}
	if r, is := h.Get(5); is || r != (history.Record{}) {
		t.Errorf("Get 5: %+v %t", r, is)
	}
	if r, is := h.Get(6); !is || r != (history.Record{Seq: 6, Path: 1, Data: "six"}) {
		t.Errorf("Get 6: %+v %t", r, is)
	}
}

// New of -1, 0, 1 and so on that are kept; a zero History is like one of New of 0.
func TestP211NewMost(t *testing.T) {
	for _, x := range []struct{ most, want int }{{math.MinInt, 1}, {-1, 1}, {0, 1}, {1, 1}, {2, 2}, {3, 3}, {40, 40}} {
		h, m := begun(t, x.most, 1)
		for seq := range x.want {
			if !put(t, h, m, seq, 1, "a") || h.Len() != seq+1 {
				t.Errorf("%d of New(%d)", seq, x.most)
			}
		}
		for seq := x.want; seq < x.want+5; seq++ {
			if !put(t, h, m, seq, 1, "a") || h.Len() != x.want {
				t.Errorf("%d of New(%d)", seq, x.most)
			}
		}
	}
	h, m := new(history.History), newModel(0, 0)
	check(t, h, m)
	check(t, h.Clone(), m)
	if forget(t, h, m, math.MaxInt) != 0 || again(t, h, m, 0, 1) {
		t.Error("something is kept")
	}
	if !put(t, h, m, 3, 1, "a") || again(t, h, m, 3, 2) || !put(t, h, m, 4, 1, "b") || h.Len() != 1 {
		t.Error("zero")
	}
}

// New of 65535 and beyond that are kept, and of one less.
func TestP211NewMany(t *testing.T) {
	for _, x := range []struct{ most, want int }{{65534, 65534}, {65535, 65535}, {65536, 65535}, {1 << 20, 65535}, {math.MaxInt, 65535}} {
		h := history.New(x.most, 1)
		for seq := range x.want {
			if !h.Put(seq, 1, "a") {
				t.Fatalf("Put(%d)", seq)
			}
		}
		if _, is := h.Get(0); h.Len() != x.want || !is {
			t.Errorf("New(%d): %d", x.most, h.Len())
		}
		for more := range 5 {
			h.Put(x.want+more, 1, "b")
			_, gone := h.Get(more)
			_, left := h.Get(more + 1)
			if h.Len() != x.want || gone || !left {
				t.Errorf("New(%d): %d behind %d more", x.most, h.Len(), more+1)
			}
		}
		seqs := h.Seqs()
		if len(seqs) != x.want || seqs[0] != 5 || seqs[x.want-1] != x.want+4 || !slices.IsSorted(seqs) {
			t.Errorf("New(%d): Seqs", x.most)
		}
		if n := h.Forget(x.want); n != x.want-4 || h.Len() != 4 {
			t.Errorf("New(%d): %d forgotten", x.most, n)
		}
	}
}

// New of 0, 100 and more tries, and below 0.
func TestP211NewTries(t *testing.T) {
	for _, x := range []struct{ tries, want int }{{math.MinInt, 0}, {-1, 0}, {0, 0}, {1, 1}, {2, 2}, {99, 99}, {100, 100}, {101, 100}, {math.MaxInt, 100}} {
		h, m := begun(t, 3, x.tries, 7, 8)
		for n := range x.want {
			if !again(t, h, m, 8, n%15) {
				t.Errorf("%d of New(3, %d)", n, x.tries)
			}
		}
		for range 3 {
			if again(t, h, m, 8, 4) {
				t.Errorf("one more of New(3, %d)", x.tries)
			}
		}
		if r, _ := h.Get(8); r.Tries != x.want || h.Again2() != x.want {
			t.Errorf("New(3, %d): %+v", x.tries, r)
		}
	}
}

// Put of a number that is kept, of a lesser one, of one that is kept no more.
func TestP211Put(t *testing.T) {
	h, m := begun(t, 3, 2, 10, 20, 30)
	for _, seq := range []int{30, 29, 21, 20, 15, 10, 9, 0, -1, math.MinInt} {
		if put(t, h, m, seq, 9, "other") {
			t.Errorf("Put(%d)", seq)
		}
	}
	if !put(t, h, m, 31, 9, "") || put(t, h, m, 10, 1, "") || !slices.Equal(h.Seqs(), []int{20, 30, 31}) {
		t.Error("one more than are kept")
	}
	if put(t, h, m, 11, 1, "") || put(t, h, m, 31, 1, "") {
		t.Error("kept no more")
	}
	// One that was refused doesn't change what is kept, nor how often it was sent.
	again(t, h, m, 30, 5)
	if put(t, h, m, 30, 9, "other") {
		t.Error("kept")
	}
	if r, _ := h.Get(30); r != (history.Record{Seq: 30, Tries: 1, Path: 5, Data: "xx"}) {
		t.Errorf("%+v", r)
	}
	// Only what is kept counts: behind a Forget a lesser number may be put.
	if forget(t, h, m, 31) != 3 || !put(t, h, m, 20, 2, "new") || put(t, h, m, 20, 2, "new") || !put(t, h, m, 30, 2, "new") {
		t.Error("behind a Forget")
	}
	if r, _ := h.Get(30); r.Tries != 0 {
		t.Errorf("%+v", r)
	}
}

// Put of numbers below 0, of the least and of the greatest.
func TestP211PutBelow(t *testing.T) {
	seqs := []int{math.MinInt, math.MinInt + 1, -1 << 40, -7, -1, 0, 1, 1 << 40, math.MaxInt - 1, math.MaxInt}
	h, m := begun(t, 10, 1, seqs...)
	if !slices.Equal(h.Seqs(), seqs) || put(t, h, m, math.MaxInt, 1, "") || put(t, h, m, -7, 1, "") {
		t.Errorf("%v", h.Seqs())
	}
	for _, seq := range seqs {
		if !again(t, h, m, seq, 3) || again(t, h, m, seq, 3) {
			t.Errorf("Again(%d)", seq)
		}
	}
	if forget(t, h, m, math.MinInt) != 1 || forget(t, h, m, -2) != 3 || forget(t, h, m, math.MaxInt-1) != 5 || forget(t, h, m, math.MaxInt) != 1 {
		t.Error("Forget")
	}
	if !put(t, h, m, math.MinInt, 1, "") || forget(t, h, m, math.MaxInt) != 1 {
		t.Error("the least")
	}
}

// Any path and any bytes stay as they were put.
func TestP211Record(t *testing.T) {
	all := make([]byte, 256)
	for i := range all {
		all[i] = byte(i)
	}
	h, m := begun(t, 20, 2)
	for i, path := range []int{math.MinInt, -1, 0, 1, 15, 16, math.MaxInt} {
		for _, data := range []string{"", "\x00", "\xff\xfe", string(all), strings.Repeat("ab", 40000)} {
			forget(t, h, m, math.MaxInt)
			put(t, h, m, i, path, data)
			if r, is := h.Get(i); !is || r != (history.Record{Seq: i, Path: path, Data: data}) {
				t.Errorf("%d", path)
			}
			if r, is := h.Again(i, -path); !is || r != (history.Record{Seq: i, Tries: 1, Path: -path, Data: data}) {
				t.Errorf("%d", path)
			}
			m.sendAgain(i, -path)
			check(t, h, m)
		}
	}
}

// Again of one that isn't kept, of one that was sent as often as may be, of one
// just below that, on another path.
func TestP211Again(t *testing.T) {
	h, m := begun(t, 3, 3, 10, 20, 30, 40)
	for _, seq := range []int{math.MinInt, -1, 0, 10, 19, 21, 39, 41, math.MaxInt} {
		if again(t, h, m, seq, 1) {
			t.Errorf("Again(%d)", seq)
		}
	}
	for i, x := range []struct {
		path int
		want bool
	}{{2, true}, {2, true}, {7, true}, {8, false}, {7, false}} {
		if again(t, h, m, 30, x.path) != x.want {
			t.Errorf("%d: Again(30, %d)", i, x.path)
		}
	}
	// One that was refused stays where it went last.
	if r, _ := h.Get(30); r != (history.Record{Seq: 30, Tries: 3, Path: 7, Data: "xx"}) {
		t.Errorf("%+v", r)
	}
	if !again(t, h, m, 20, 1) || !again(t, h, m, 40, 1) || h.Again2() != 5 {
		t.Errorf("%d", h.Again2())
	}
	// How many times it was in all stays, also of those that are kept no more.
	put(t, h, m, 50, 1, "")
	if forget(t, h, m, 50) != 3 || h.Again2() != 5 || again(t, h, m, 40, 1) || h.Again2() != 5 {
		t.Errorf("%d", h.Again2())
	}
}

// Forget of a number below all, of one between, of the greatest, beyond it.
func TestP211Forget(t *testing.T) {
	for _, x := range []struct{ upto, want int }{
		{math.MinInt, 0}, {-1, 0}, {9, 0}, {10, 1}, {11, 1}, {19, 1}, {20, 2}, {25, 2}, {30, 3}, {39, 3}, {40, 4}, {41, 4}, {math.MaxInt, 4},
	} {
		h, m := begun(t, 4, 1, 10, 20, 30, 40)
		again(t, h, m, 20, 3)
		if got := forget(t, h, m, x.upto); got != x.want || h.Len() != 4-x.want {
			t.Errorf("Forget(%d): %d", x.upto, got)
		}
		if forget(t, h, m, x.upto) != 0 {
			t.Errorf("Forget(%d) once more", x.upto)
		}
		// There is just as much room behind it.
		for i := range x.want {
			put(t, h, m, 50+i, 1, "b")
		}
		if h.Len() != 4 || !put(t, h, m, 90, 1, "c") || h.Len() != 4 {
			t.Errorf("Forget(%d): %v", x.upto, h.Seqs())
		}
	}
	h, m := begun(t, 4, 1)
	if forget(t, h, m, 5) != 0 || !put(t, h, m, 5, 1, "a") {
		t.Error("of none")
	}
}

// A Clone goes its own way, and so does what it is one of, however it came to be,
// and whatever is done first with either.
func TestP211Clone(t *testing.T) {
	deeds := []func(h *history.History, m *model, n int){
		func(h *history.History, m *model, n int) { put(t, h, m, 100+n, n%15, "new") },
		func(h *history.History, m *model, n int) { again(t, h, m, n%9, n%15) },
		func(h *history.History, m *model, n int) { forget(t, h, m, n%6) },
	}
	for many := range 12 {
		for _, one := range deeds {
			for _, two := range deeds {
				h, m := begun(t, 7, 2)
				for seq := range many { // One by one: so there is room to spare, now and then.
					put(t, h, m, seq, 1, "a")
				}
				again(t, h, m, many-1, 4)
				c, n := h.Clone(), m.clone()
				check(t, c, n)
				one(h, m, 34)
				check(t, c, n)
				two(c, n, 44)
				check(t, h, m)
				two(h, m, 35)
				check(t, c, n)
				one(c, n, 45)
				check(t, h, m)
			}
		}
	}
	// It has the same bounds.
	h, m := begun(t, 2, 1, 1, 2)
	c, n := h.Clone(), m.clone()
	if !again(t, c, n, 2, 1) || again(t, c, n, 2, 1) || !put(t, c, n, 3, 1, "") || c.Len() != 2 || h.Again2() != 0 {
		t.Error("bounds")
	}
}

// What is answered is new memory.
func TestP211Memory(t *testing.T) {
	h, m := begun(t, 5, 1, 1, 2, 3)
	first, second := h.Seqs(), h.Seqs()
	_ = append(first[:1], 77)
	first[0] = 78
	_ = append(first, 79)
	check(t, h, m)
	put(t, h, m, 4, 1, "")
	forget(t, h, m, 2)
	if !slices.Equal(second, []int{1, 2, 3}) {
		t.Errorf("changed: %v", second)
	}
	r, _ := h.Get(3)
	r.Tries, r.Path, r.Data = 9, 9, "other"
	check(t, h, m)
}

// Behind any calls.
func TestP211Calls(t *testing.T) {
	r := rand.New(rand.NewSource(211))
	for range 500 {
		most, tries := r.Intn(12)-1, r.Intn(5)-1
		h, m := history.New(most, tries), newModel(most, tries)
		seq := r.Intn(50) - 25
		for range 150 {
			near := seq - r.Intn(14)
			switch r.Intn(10) {
			case 0:
				forget(t, h, m, near-r.Intn(9))
			case 1:
				h, m = h.Clone(), m.clone()
			case 2:
				put(t, h, m, near, 3, "near")
			case 3, 4, 5, 6:
				again(t, h, m, near, 1+r.Intn(15))
			default:
				seq += 1 + r.Intn(4)/3
				put(t, h, m, seq, 1+r.Intn(15), strings.Repeat("y", r.Intn(4)))
			}
		}
	}
}

// BOUND: never more are kept than may be, and none is sent once more too often.
func TestP212(t *testing.T) {
	r := rand.New(rand.NewSource(212))
	for range 200 {
		most, tries := 1+r.Intn(20), r.Intn(6)
		h := history.New(most, tries)
		sent := map[int]int{}
		all, gone := 0, 0
		for seq := range 300 {
			h.Put(seq, 1, "a")
			for range r.Intn(12) {
				near := seq - r.Intn(most+3)
				if record, is := h.Again(near, 2); is {
					sent[near]++
					all++
					if record.Tries != sent[near] || sent[near] > tries {
						t.Fatalf("%+v: %d times of %d", record, sent[near], tries)
					}
				} else {
					gone++
				}
			}
			if h.Len() > most || h.Len() != min(seq+1, most) || h.Again2() != all {
				t.Fatalf("%d of %d, %d of %d", h.Len(), most, h.Again2(), all)
			}
		}
		if gone == 0 || tries > 0 && all == 0 {
			t.Errorf("%d, %d", all, gone)
		}
	}
}

// So it is of many, in a time that ends.
func TestP212Many(t *testing.T) {
	const most, many = 65535, 400000
	h := history.New(most, 1)
	for seq := range many {
		if !h.Put(seq, 1, "abc") || h.Len() != min(seq+1, most) {
			t.Fatalf("Put(%d): %d", seq, h.Len())
		}
		old := seq - seq*7%(2*most)
		if _, is := h.Get(old); is != (old >= 0 && old > seq-most) {
			t.Fatalf("Get(%d) behind %d: %t", old, seq, is)
		}
	}
	for seq := many - most; seq < many; seq += 5 {
		if n := h.Forget(seq); n != min(seq-(many-most)+1, 5) {
			t.Fatalf("Forget(%d): %d", seq, n)
		}
	}
	if h.Len() != 4 {
		t.Errorf("%d", h.Len())
	}
}
