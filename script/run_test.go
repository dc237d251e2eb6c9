package script_test

import (
	"fmt"
	"math/rand"
	"slices"
	"strings"
	"testing"

	"cordelle/compound"
	"cordelle/line"
	"cordelle/media"
	"cordelle/nack"
	"cordelle/notes"
	"cordelle/report"
	"cordelle/script"
	"cordelle/subflow"
)

// run is anything that is done, by lines: what is under way, the model knows.
type run struct {
	rng  *rand.Rand
	m    *model
	time int
}

func newRun(seed int64) *run { return &run{rng: rand.New(rand.NewSource(seed)), m: firstModel()} }

// begin is lines by which the sender hears of two paths.
func (x *run) begin() []string {
	return []string{"path 1 1 100", fmt.Sprintf("path 2 1 %d", 50+x.rng.Intn(400)), "tick 1", "all back 1"}
}

// bytes are some, as a line has them.
func (x *run) bytes(most int) string {
	b := make([]byte, x.rng.Intn(most+1))
	x.rng.Read(b)
	return written(string(b))
}

// place is a way and a path, mostly such as something is under way on.
func (x *run) place() (string, string) {
	way := x.rng.Intn(2)
	l := x.m.Net().Paths(way)
	if len(l) == 0 || x.rng.Intn(20) == 0 {
		l = []int{0, 1, 2, 3, 15, 16, 4294967295}
	}
	return fmt.Sprint([]string{"there", "back"}[way], " ", l[x.rng.Intn(len(l))]), fmt.Sprint(x.rng.Intn(3) * x.rng.Intn(3))
}

// forged are bytes that nobody sent.
func (x *run) forged() string {
	n := x.rng.Intn(20)
	switch x.rng.Intn(5) {
	case 0:
		return strings.Repeat("x", n)
	case 1:
		return says(compound.Bag{
			Reports: []report.Report{{Source: 1, IsSender: true, Sent: report.Sent{Clock: x.m.Now() + n}}},
			Byes:    []notes.Bye{{Sources: []uint32{uint32(n % 3)}}}[:n/19],
		})
	case 2:
		return says(compound.Bag{
			Nacks:   []nack.Nack{nack.Ask(2, 1, uint16(n), uint16(x.rng.Intn(99)), 65535)},
			Lines:   []subflow.Lines{{Source: 2, All: []subflow.Line{{Path: 1 + n%3, Fraction: x.rng.Intn(256), Last: uint32(x.rng.Intn(x.m.Now() + 2))}}}},
			Adverts: []subflow.Adverts{{Source: 2, All: []subflow.Advert{{Path: 1 + n%7, Up: n > 6, Rate: 99 * n}}}},
		})
	}
	count := 1 + n%3
	return media.Media{
		Source: 1, Seq: uint16(x.rng.Intn(60) - 9), Time: uint32(max(0, x.time-40+x.rng.Intn(60))),
		Track: media.Track{Path: 1 + n%3, PathSeq: uint16(x.rng.Intn(50))},
		Part:  media.Part{Index: x.rng.Intn(count), Count: count}, Data: strings.Repeat("F", n),
	}.Pack()
}

// wrong are lines that aren't any.
var wrong = []string{"", "  ", "other", "Tick 1", "tick", "tick x", "tick 4294967296", "close 1", "clock 0", "submit 99", "submit 99 0", "path 1 1", "all 0 1", "net there", "turn there 1 0 1", "session 1 2 3 4 5", "tick 1" + strings.Repeat(" ", 3995), "forge there 1"}

// next is a line, of whichever word, but one that only asks.
func (x *run) next() string {
	at, i := x.place()
	switch n := x.rng.Intn(200); {
	case n < 40:
		x.time += x.rng.Intn(6)
		return fmt.Sprintf("submit %d %s", x.time, x.bytes([]int{3, 70, 200}[x.rng.Intn(3)]))
	case n < 50:
		return fmt.Sprintf("path %d %d %d", x.rng.Intn(7), min(1, x.rng.Intn(5)), []int{0, 20, 100, 100, 1000, 65536}[x.rng.Intn(6)])
	case n < 85:
		return fmt.Sprintf("tick %d", x.rng.Intn(5))
	case n < 88:
		return fmt.Sprintf("tick %d", []int{20, 70, 1048577}[x.rng.Intn(3)])
	case n < 118:
		return "deliver " + at + " " + i
	case n < 150:
		return "all " + at
	case n < 158:
		return "lose " + at + " " + i
	case n < 166:
		return "twin " + at + " " + i
	case n < 174:
		return fmt.Sprintf("turn %s %s %d %d", at, i, x.rng.Intn(500), x.rng.Uint32()>>x.rng.Intn(32))
	case n < 192:
		return fmt.Sprintf("forge %s %d %s", []string{"there", "back"}[x.rng.Intn(2)], 1+x.rng.Intn(3), written(x.forged()))
	case n < 197:
		return wrong[x.rng.Intn(len(wrong))]
	case n < 198:
		return "close"
	case x.rng.Intn(2) == 0:
		return fmt.Sprintf("session %d %d %d %d %d %d", x.rng.Intn(60), x.rng.Intn(40), x.rng.Intn(30), x.rng.Intn(5), x.rng.Intn(9), x.rng.Intn(40))
	}
	return fmt.Sprintf("%s%09d  ", strings.Repeat(" ", x.rng.Intn(3))+"tick  ", x.rng.Intn(3))
}

// Any lines, and each against the model.
func TestP321Run(t *testing.T) {
	words, codes := map[string]int{}, map[string]int{}
	for seed := range int64(300) {
		x, s := newRun(seed), script.New()
		for _, text := range x.begin() {
			does(t, s, x.m, text)
		}
		for range 150 {
			text := x.next()
			answer := does(t, s, x.m, text)
			if p, e := line.Parse(text); e == 0 {
				words[p.Word]++
			}
			if text != answer && (strings.HasPrefix(answer, "code") || answer == "no") {
				codes[answer]++
			}
			if ask := asks[x.rng.Intn(len(asks))]; x.rng.Intn(3) == 0 {
				does(t, s, x.m, ask)
				words[strings.Fields(ask)[0]]++
			}
			if x.rng.Intn(20) == 0 {
				check(t, s, x.m)
			}
		}
		check(t, s, x.m)
	}
	for _, word := range line.Words() {
		if words[word] < 100 {
			t.Errorf("%s: %d times", word, words[word])
		}
	}
	for _, answer := range []string{"code 1", "code 3", "code 4", "code 5", "code 6", "code 7", "code 8", "code 9", "code 10", "no"} {
		if codes[answer] < 20 {
			t.Errorf("%s: %d times", answer, codes[answer])
		}
	}
}

// Whatever is done, what the session says of itself fits together, and frames rise.
func TestP321Clean(t *testing.T) {
	played := 0
	for seed := range int64(100) {
		x, s := newRun(1000+seed), script.New()
		for _, text := range x.begin() {
			does(t, s, x.m, text)
		}
		for range 150 {
			does(t, s, x.m, x.next())
			if found := s.Line("audit"); found != "none" {
				t.Fatalf("seed %d: %s", seed, found)
			}
		}
		last := -1
		for _, f := range s.Played() {
			if int(f.Time) <= last {
				t.Fatalf("seed %d: %s", seed, s.Line("played"))
			}
			last = int(f.Time)
			played++
		}
	}
	if played < 300 {
		t.Errorf("%d are played", played)
	}
}

// lines are some by which anything is done, and none that only asks.
func lines(seed int64, n int) []string {
	x := newRun(seed)
	l := x.begin()
	for _, text := range l {
		x.m.line(text)
	}
	for range n {
		text := x.next()
		x.m.line(text)
		l = append(l, text)
	}
	return l
}

// Lines that only ask, and such as aren't any, change no answer of those behind.
func TestP322Ask(t *testing.T) {
	rng := rand.New(rand.NewSource(322))
	for seed := range int64(150) {
		l := lines(2000+seed, 120)
		want := script.Run(l...)
		var with []string
		var own []int
		for _, text := range l {
			for range rng.Intn(5) {
				ask := append(slices.Clone(asks), wrong...)[rng.Intn(len(asks)+len(wrong))]
				with = append(with, ask, ask)
			}
			own = append(own, len(with))
			with = append(with, text)
		}
		got := script.Run(with...)
		for i, at := range own {
			if got[at] != want[i] {
				t.Fatalf("seed %d: %.90s: %q, not %q", seed, l[i], got[at], want[i])
			}
		}
		for i := 1; i < len(with); i++ {
			if with[i] == with[i-1] && slices.Contains(asks, with[i]) && got[i] != got[i-1] {
				t.Fatalf("seed %d: %s: %q, then %q", seed, with[i], got[i-1], got[i])
			}
		}
	}
}

// Each line that only asks, ahead of each that does, and behind it: what is asked
// behind, and what is under way, is the same.
func TestP322Each(t *testing.T) {
	for seed := range int64(4) {
		l := lines(3000+seed, 25*int(seed))
		for _, text := range everything {
			without := script.New()
			for _, ahead := range l {
				without.Line(ahead)
			}
			answer := without.Line(text)
			var want []string
			for _, ask := range asks {
				want = append(want, without.Line(ask))
			}
			for i, ask := range append(slices.Clone(asks), wrong...) {
				with := script.New()
				for _, ahead := range l {
					with.Line(ahead)
				}
				with.Line(ask)
				if got := with.Line(text); got != answer {
					t.Fatalf("%s ahead of %s: %q, not %q", ask, text, got, answer)
				}
				if got := with.Line(ask); i < len(asks) && got != want[i] {
					t.Fatalf("%s behind %s: %q, not %q", ask, text, got, want[i])
				}
				if underWay(with.Net()) != underWay(without.Net()) {
					t.Fatalf("%s ahead of %s: under way are %s", ask, text, underWay(with.Net()))
				}
				for j, other := range asks {
					if got := with.Line(other); got != want[j] {
						t.Fatalf("%s around %s: %s: %q, not %q", ask, text, other, got, want[j])
					}
				}
			}
		}
	}
}

// Asked often, and then gone on with, each goes on as if nothing was asked.
func TestP322Often(t *testing.T) {
	l := lines(4000, 200)
	asked, s := script.New(), script.New()
	for _, text := range l {
		for range 3 {
			for _, ask := range asks {
				asked.Line(ask)
			}
		}
		if got, want := asked.Line(text), s.Line(text); got != want {
			t.Fatalf("%.90s: %q, not %q", text, got, want)
		}
	}
	for _, ask := range asks {
		if got, want := asked.Line(ask), s.Line(ask); got != want {
			t.Errorf("%s: %q, not %q", ask, got, want)
		}
	}
}
