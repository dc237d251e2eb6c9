package script_test

import (
	"fmt"
	"strings"
	"testing"

	"cordelle/compound"
	"cordelle/media"
	"cordelle/net"
	"cordelle/script"
	"cordelle/subflow"
)

// begins is a row of another session of these six numbers.
func begins(n ...int) string { return "session " + strings.Trim(fmt.Sprint(n), "[]") + " | ok" }

// counted is the n-th number of what is counted.
func counted(s *script.Script, n int) string { return strings.Fields(s.Line("counts"))[n] }

// Size is Z, of 1 to 1472; frames have at most 1000 bytes.
func TestP321Size(t *testing.T) {
	for _, x := range []struct{ z, bytes, parts int }{{20, 20, 1}, {20, 21, 2}, {20, 0, 1}, {1, 3, 3}, {0, 3, 3}, {999, 1000, 2}, {1000, 1000, 1}, {4294967295, 1000, 1}, {7, 49, 7}, {7, 50, 8}} {
		brings(t, begins(x.z, 300, 20, 2, 3, 30), submits(5, x.bytes, "ok"), fmt.Sprintf("counts | %d 0 0 0 0 0 0 0 0 0 3", x.parts))
	}
	for _, z := range []int{4, 20, 1000, 1001, 4294967295} {
		brings(t, begins(z, 300, 20, 2, 3, 30), submits(5, 1001, "code 3"), submits(5, 1000, "ok"))
	}
}

// As many packets wait as Q says, of at least one, and as many are kept as K does.
func TestP321Room(t *testing.T) {
	for q, most := range map[int]int{0: 1, 1: 1, 2: 2, 7: 7, 50: 50, 254: 254} {
		brings(t, begins(1, q, 20, 2, 3, 30), submits(5, most+1, "code 8"), submits(5, most, "ok"), submits(6, 0, "code 8"), fmt.Sprintf("counts | %d 0 0 0 0 0 0 0 0 0 3", most))
	}
	all := []string{begins(1, 4294967295, 20, 2, 3, 30)}
	for i := range 258 {
		all = append(all, submits(i, 255, "ok"))
	}
	brings(t, append(all, "counts | 65790 0 0 0 0 0 0 0 0 0 3")...)
	for k, most := range map[int]int{0: 1, 1: 1, 2: 2, 20: 20, 33: 33, 34: 34, 35: 34, 4294967295: 34} {
		// So many packets of 29 bytes are nearly 1000.
		brings(t, begins(1, 100, k, 2, 3, 30), known(65535), submits(5, 40, "ok"), "tick 1 | none", fmt.Sprintf("counts | 6 %d 34 0 0 0 0 0 0 0 3", most))
	}
}

// A packet is sent once more T times, of 0 to 100, whatever an other session said; and
// these aren't found to be too many.
func TestP321Tries(t *testing.T) {
	for tries, most := range map[int]int{0: 0, 1: 1, 2: 2, 3: 3, 5: 5, 99: 99, 100: 100, 101: 100, 4294967295: 100} {
		for _, ahead := range []int{0, 1, 5, 100} {
			s := script.New()
			for _, text := range []string{fmt.Sprintf("session 20 50 1 %d 0 0", ahead), fmt.Sprintf("session 20 50 1 %d 0 0", tries), "path 1 1 65535", "tick 1", "all back 1", "submit 5 61", "tick 1"} {
				s.Line(text)
			}
			for range 5 {
				// Of packets of 29 bytes no more than 34 go out at a tick.
				for range 30 {
					s.Line(forges("back", 1, wants(1, 0)))
					s.Line("deliver back 1 0")
				}
				s.Line("all there 1")
				s.Line("tick 1")
			}
			if again := counted(s, 3); again != fmt.Sprint(most) || s.Line("audit") != "none" {
				t.Errorf("%d behind %d: %s went out once more, found is %s", tries, ahead, again, s.Line("audit"))
			}
		}
	}
	brings(t, begins(20, 50, 1, 1, 3, 30), known(65535), submits(5, 1, "ok"), "tick 1 | none", comes("back", 1, wants(2, 0), "ok"), "counts | 0 1 1 0 0 0 0 0 0 0 3", comes("back", 1, wants(1, 0), "ok"), "counts | 0 1 1 1 0 0 0 0 0 0 3\nnet there 1 | 2")
}

// A frame waits L ticks, and the delay is never above M.
func TestP321Delay(t *testing.T) {
	came := comes("there", 1, part(0, 5, 0, 1, "a"), "ok")
	brings(t, begins(20, 50, 20, 2, 0, 30), came, "tick 0 | none\ntick 1 | 5 1 61\ncounts | 0 0 0 0 1 0 0 0 0 0 0")
	brings(t, begins(20, 50, 20, 2, 1, 30), came, "tick 1 | 5 1 61\ncounts | 0 0 0 0 1 0 0 0 0 0 1")
	brings(t, begins(20, 50, 20, 2, 7, 30), came, "tick 6 | none\ntick 1 | 5 1 61\ncounts | 0 0 0 0 1 0 0 0 0 0 7")
	brings(t, begins(20, 50, 20, 2, 31, 30), came, "tick 30 | none\ntick 1 | 5 1 61\ncounts | 0 0 0 0 1 0 0 0 0 0 31")
	brings(t, begins(20, 50, 20, 2, 4294967295, 4294967295), came, "tick 1048575 | none\ntick 1 | 5 1 61\ncounts | 0 0 0 0 1 0 0 0 0 0 1048576")
	// Frames of which parts are wanting are dropped M ticks behind their first one.
	half := comes("there", 1, part(0, 5, 0, 2, "a"), "ok") + "\n"
	brings(t, begins(20, 50, 20, 2, 2, 9), half, comes("there", 1, part(2, 6, 0, 1, "b"), "ok"), "tick 8 | none\ntick 1 | 6 1 62\nplayed | 6 1 62")
	// The second part's jitter makes the delay rise, up to M.
	uneven := came + "\n" + comes("there", 1, part(1, 1000, 0, 1, "b"), "ok") + "\n"
	for m, delay := range map[int]int{1: 3, 3: 3, 4: 4, 30: 30, 250: 250, 251: 251, 252: 251, 4294967295: 251} {
		brings(t, begins(20, 50, 20, 2, 3, m), uneven, fmt.Sprintf("counts | 0 0 0 0 2 0 0 0 0 0 %d", delay))
	}
	brings(t, begins(20, 50, 20, 2, 0, 0), uneven, "counts | 0 0 0 0 2 0 0 0 0 0 0\ntick 1 | 5 1 61; 1000 1 62")
}

// A path carries 1000 bytes at once.
func TestP321Burst(t *testing.T) {
	brings(t, begins(972, 50, 20, 2, 3, 30), known(1), submits(5, 972, "ok"), "tick 1 | none\nnet there 1 | 1")
	brings(t, begins(973, 50, 20, 2, 3, 30), known(65535), submits(5, 973, "ok"), "tick 10 | none\nnet there 1 | 0\ncounts | 1 0 0 0 0 0 0 0 0 0 3")
	brings(t, begins(22, 50, 20, 2, 3, 30), known(65535), submits(5, 440, "ok"), submits(6, 1, "ok"), "tick 1 | none\nnet there 1 | 20\ntick 1 | none\nnet there 1 | 21")
}

// Both ends report every 20 ticks, the receiver also where its paths are others.
func TestP321Every(t *testing.T) {
	brings(t, known(100), "net back 1 | 0\ntick 18 | none\nnet there 1 | 0\nnet back 1 | 0\ntick 1 | none\nnet there 1 | 1\nnet back 1 | 0\ntick 1 | none\nnet there 1 | 1\nnet back 1 | 1\ntick 18 | none\nnet there 1 | 1\nnet back 1 | 1\ntick 1 | none\nnet there 1 | 2\nnet back 1 | 1\ntick 1 | none\nnet there 1 | 2\nnet back 1 | 2")
}

// Four paths may be, at either end.
func TestP321Paths4(t *testing.T) {
	brings(t, "path 1 1 5 | ok\npath 5 0 5 | ok\npath 9 1 5 | ok\npath 15 1 5 | ok\npath 2 1 5 | code 8\npath 5 1 6 | ok\ntick 1 | none\nall back 9 | 1\npaths | 1 1 1 1 0; 5 1 1 1 0; 9 1 1 1 0; 15 1 1 1 0")
	var five []subflow.Advert
	for id := range 5 {
		five = append(five, subflow.Advert{Path: 2 + id, Up: true, Rate: 5})
	}
	brings(t, comes("back", 1, says(compound.Bag{Adverts: []subflow.Adverts{{Source: 2, All: five}}}), "ok"), "paths | 2 1 1 0 0; 3 1 1 0 0; 4 1 1 0 0; 5 1 1 0 0")
}

// A path of which nothing is told for more than 60 ticks doesn't send; nor one of
// which three high fractions are told.
func TestP321Life(t *testing.T) {
	brings(t, known(100), "paths | 1 1 1 1 0\ntick 60 | none\npaths | 1 1 1 1 0\ntick 1 | none\npaths | 1 1 0 3 0")
	for fraction, state := range map[int]int{0: 1, 10: 1, 11: 1, 120: 1, 121: 2, 255: 2} {
		brings(t, known(100), comes("back", 1, tells(fraction), "ok"), fmt.Sprintf("paths | 1 1 1 %d 0", state))
	}
	for fraction, state := range map[int]int{0: 1, 10: 1, 11: 2, 120: 2} {
		brings(t, known(100), comes("back", 1, tells(121), "ok"), comes("back", 1, tells(fraction), "ok"), fmt.Sprintf("paths | 1 1 1 %d 0", state))
	}
	high := comes("back", 1, tells(121), "ok")
	brings(t, known(100), high, high, "paths | 1 1 1 2 0\n", high, "paths | 1 1 0 3 0\n", high, "paths | 1 1 0 3 0\n", comes("back", 1, tells(11), "ok"), "paths | 1 1 0 3 0\n", comes("back", 1, tells(10), "ok"), "paths | 1 1 1 0 0")
}

// Media is taken of source 1, and is the sender's.
func TestP321Sources(t *testing.T) {
	of := func(source uint32) string {
		return media.Media{Source: source, Track: media.Track{Path: 1}, Part: media.Part{Count: 1}}.Pack()
	}
	brings(t, comes("there", 1, of(0), "code 5"), comes("there", 1, of(2), "code 5"), comes("there", 1, of(1), "ok"), "counts | 0 0 0 0 1 0 2 0 0 0 3")
	brings(t, comes("back", 1, goes(1), "ok"), "submit 5 01 | ok\n", comes("back", 1, goes(2), "ok"), "submit 6 01 | code 9")
}

// Twenty frames wait, of 200 parts, of 20000 bytes: the one of the least time goes.
func TestP321Buffer(t *testing.T) {
	few := begins(20, 50, 20, 2, 50, 50) + "\n"
	whole := func(n int) string {
		var l []string
		for i := range n {
			l = append(l, comes("there", 1, part(i, 100+i, 0, 1, "a"), "ok"))
		}
		return strings.Join(l, "\n") + "\n"
	}
	played := func(first, n int) string {
		var l []string
		for i := range n {
			l = append(l, fmt.Sprintf("%d 1 61", first+i))
		}
		return "tick 50 | " + strings.Join(l, "; ")
	}
	brings(t, few, whole(20), played(100, 20))
	brings(t, few, whole(21), played(101, 20))
	brings(t, few, whole(25), played(105, 20))
	parts := func(n int) string {
		var l []string
		for i := range n {
			l = append(l, comes("there", 1, part(i, 7, i, n, "a"), "ok"))
		}
		return strings.Join(l, "\n") + "\n"
	}
	brings(t, few, parts(200), "tick 50 | 7 200 "+strings.Repeat("61", 200))
	brings(t, few, parts(201), "tick 50 | none\nplayed | none")
	bytes := func(last int) string {
		var l []string
		for i := range 20 {
			l = append(l, comes("there", 1, part(i, 7, i, 20, strings.Repeat("b", 1000+i/19*last)), "ok"))
		}
		return strings.Join(l, "\n") + "\n"
	}
	brings(t, few, bytes(0), "tick 50 | 7 20000 "+strings.Repeat("62", 20000))
	brings(t, few, bytes(1), "tick 50 | none\nplayed | none")
}

// Fifty packets are wanting, and each is asked for three times: one tick behind it is
// found, then 5, then 10 later.
func TestP321Gaps(t *testing.T) {
	for number, most := range map[int]int{1: 0, 2: 1, 50: 49, 51: 50, 52: 50, 3000: 50} {
		brings(t, comes("there", 1, part(0, 5, 0, 1, "a"), "ok"), comes("there", 1, part(number, 5, 0, 1, "a"), "ok"), fmt.Sprintf("counts | 0 0 0 0 2 0 0 0 1 %d 3", most))
	}
	rows := []string{known(100), comes("there", 1, part(0, 5, 0, 1, "a"), "ok"), comes("there", 1, part(2, 5, 0, 1, "a"), "ok")}
	asked := 0
	for clock := 2; clock < 60; clock++ {
		answer, wanting := "none", 1
		switch clock {
		// Found at 1, and reported every 20 ticks, from 1 on.
		case 2, 7, 17, 21, 41:
			asked++
		case 4:
			answer = "5 1 61"
		}
		if clock >= 37 {
			wanting = 0
		}
		rows = append(rows, fmt.Sprintf("tick 1 | %s\nnet back 1 | %d\ncounts | 0 0 0 0 2 0 0 0 1 %d 3", answer, asked, wanting))
		if clock == 20 || clock == 40 {
			rows = append(rows, "all there 1 | 1")
		}
	}
	brings(t, rows...)
}

// A hundred datagrams are under way on a path, each way, of 100000 bytes.
func TestP321Under(t *testing.T) {
	for _, way := range []string{"there", "back"} {
		forge, other := "forge "+way+" 7 00", "forge "+way+" 8 00"
		brings(t, rows(100, forge+" | ok"), forge+" | no\ntwin "+way+" 7 3 | no\n"+other+" | ok\nnet "+way+" 7 | 100\nlose "+way+" 7 3 | ok\ntwin "+way+" 7 3 | ok\n"+forge+" | no")
		great := rows(66, forges(way, 7, strings.Repeat("x", 1500))+" | ok")
		brings(t, great, forges(way, 7, strings.Repeat("x", 1001))+" | no", forges(way, 7, strings.Repeat("x", 1000))+" | ok", forge+" | no\n"+other+" | ok\nnet "+way+" 7 | 67")
	}
}

// Of the session ahead nothing is left, whatever it was.
func TestP321Another(t *testing.T) {
	deeds := strings.Join([]string{
		known(100), submits(5, 30, "ok"), "tick 2 | none\ntwin there 1 0 | ok\nall there 1 | 3\ntick 3 | 5 30 " + strings.Repeat("61", 30), submits(6, 30, "ok"), "tick 1 | none\nlose there 1 0 | ok\nall there 1 | 1", submits(7, 30, "ok"),
		comes("there", 2, "xxxx", "code 4"), comes("there", 2, part(9, 9, 0, 1, "a"), "code 6"), comes("there", 1, part(9, 5, 0, 1, "a"), "ok"), "path 2 1 5 | ok\nforge back 3 00 | ok\ncounts | 2 4 4 0 5 1 1 1 1 6 4",
	}, "\n")
	for _, other := range []string{"", "\nclose | ok\ntick 40 | none"} {
		for l := range 5 {
			brings(t, deeds, other, begins(20, 50, 20, 2, l, 30), nothing(l), "tick 20 | none\nnet there 1 | 0\nnet back 1 | 0\nnet back 2 | 0\nclock | 20", begins(20, 50, 20, 2, 3, 30), deeds)
		}
	}
	// The chapter's example in it goes as it does in a new Script.
	brings(t, deeds, begins(20, 50, 20, 2, 3, 30), known(100), "submit 5 6869 | ok\ntick 1 | none\nall there 1 | 1\ntick 3 | 5 2 6869")
}

// What both ends say is of sources 1 and 2, whose names are s and r.
func TestP321Said(t *testing.T) {
	s := script.New()
	for _, text := range []string{"path 1 1 100", "tick 1", "all back 1", "submit 7 616263", "tick 19"} {
		s.Line(text)
	}
	went := s.Net().All(net.There, 1)
	want := media.Media{Source: 1, Time: 7, Track: media.Track{Path: 1}, Part: media.Part{Count: 1}, Data: "abc"}.Pack()
	if len(went) != 2 || went[0] != want || name(t, went[1], 1) != "s" {
		t.Errorf("%q, not %q", went, want)
	}
	s.Line("tick 1")
	if went := s.Net().All(net.Back, 1); len(went) != 1 || name(t, went[0], 2) != "r" {
		t.Errorf("%q", went)
	}
}

// name is the one that a control packet of a source says.
func name(t *testing.T, data string, source uint32) string {
	t.Helper()
	l, e := compound.Parse(data)
	b := compound.Open(l...)
	if e != 0 || len(b.Reports) != 1 || b.Reports[0].Source != source || len(b.Names) != 1 || b.Names[0].Source != source {
		t.Fatalf("%q: %d %+v", data, e, b)
	}
	return b.Names[0].Text
}
