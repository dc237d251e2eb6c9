package script_test

import (
	"fmt"
	"math"
	"slices"
	"strings"
	"testing"

	"cordelle/api"
	"cordelle/compound"
	"cordelle/line"
	"cordelle/media"
	"cordelle/script"
	"cordelle/subflow"
)

// The chapter's example, and the document's of the whole.
func TestP321Examples(t *testing.T) {
	for _, example := range []string{
		"path 1 1 100 / tick 1 / all back 1 / submit 5 6869 / tick 1 / all there 1 / tick 3 | ok / none / 1 / ok / none / 1 / 5 2 6869",
		"path 1 1 100 / tick 1 / all back 1 / submit 5 6869 / tick 1 / all there 1 / tick 3 / played | ok / none / 1 / ok / none / 1 / 5 2 6869 / 5 2 6869",
		"submit 5 01 / submit 5 02 / submit 4 03 / submit 6 - / counts | ok / code 7 / code 7 / ok / 2 0 0 0 0 0 0 0 0 0 3",
		"path 1 1 100 / tick 1 / all back 1 / submit 5 01 / submit 6 02 / submit 7 03 / tick 1 / turn there 1 1 100 2147483648 / all there 1 / counts / tick 1 / all back 1 / all there 1 / tick 4 | ok / none / 1 / ok / ok / ok / none / ok / 3 / 0 3 3 0 2 1 0 0 0 1 3 / none / 1 / 1 / 5 1 01; 6 1 02; 7 1 03",
		"path 1 1 100 / path 2 1 100 / tick 1 / all back 1 / paths / submit 5 01 / submit 6 02 / tick 1 / net there 1 / net there 2 / paths | ok / ok / none / 1 / 1 1 1 1 0; 2 1 1 1 0 / ok / ok / none / 1 / 1 / 1 1 1 1 1; 2 1 1 1 1",
		"path 1 1 100 / tick 1 / all back 1 / path 1 0 100 / tick 1 / submit 5 01 / tick 1 / net there 1 / paths | ok / none / 1 / ok / none / ok / none / 1 / 1 1 1 1 1",
		"path 1 1 100 / tick 1 / all back 1 / submit 5 01 / tick 1 / twin there 1 0 / all there 1 / tick 3 / counts / flows | ok / none / 1 / ok / none / ok / 2 / 5 1 01 / 0 1 1 0 2 0 0 0 1 0 3 / 1 0 0 0",
		"forge there 1 80c80000 / deliver there 1 0 / forge back 1 00 / deliver back 1 0 / forge there 1 - / deliver there 1 0 / counts | ok / code 4 / ok / code 2 / no / code 10 / 0 0 0 0 0 1 0 0 0 0 3",
		"path 1 1 100 / tick 1 / all back 1 / submit 5 01 / close / net there 1 / submit 6 02 / all there 1 / counts | ok / none / 1 / ok / ok / 1 / code 9 / 1 / 0 0 0 0 0 0 0 0 0 0 3",
		"session 10 2 5 1 0 9 / path 1 1 100 / tick 1 / all back 1 / submit 5 0102030405060708090a0b / submit 6 01 / tick 1 / all there 1 / tick 1 | ok / ok / none / 1 / ok / code 8 / none / 2 / 5 11 0102030405060708090a0b",
		"path 16 1 1 / path 1 1 65536 / path 0 0 0 / tick 1048577 / deliver back 1 0 / lose there 1 0 / all back 1 / tick / net there 99 / audit | code 6 / code 6 / code 6 / code 6 / code 10 / no / 0 / code 1 / 0 / none",
	} {
		lines, answers, _ := strings.Cut(example, " | ")
		got := script.Run(strings.Split(lines, " / ")...)
		if !slices.Equal(got, strings.Split(answers, " / ")) {
			t.Errorf("%s:\n%q", example, got)
		}
	}
}

// nothing is what lines ask of a session to which nothing was done, of a least delay.
func nothing(least int) string {
	l := fmt.Sprintf("clock | 0\npaths | none\nflows | none\nplayed | none\ncounts | 0 0 0 0 0 0 0 0 0 0 %d\naudit | none", least)
	for path := range 17 {
		l += fmt.Sprintf("\nnet there %d | 0\nnet back %d | 0", path, path)
	}
	return l
}

// A new Script is as by session 20 50 20 2 3 30, and nothing was done.
func TestP321New(t *testing.T) {
	brings(t, nothing(3))
	check(t, script.New(), firstModel())
	l := append([]string{"submit 5 0102030405060708090a0b0c0d0e0f101112131415", "path 1 1 100", "tick 20", "all back 1", "paths", "tick 1", "all there 1", "tick 40", "submit 6 -", "close"}, asks...)
	got := script.Run(append([]string{"session 20 50 20 2 3 30"}, l...)...)
	if got[0] != "ok" || !slices.Equal(got[1:], script.Run(l...)) {
		t.Errorf("%q", got)
	}
	// Each goes its own way.
	a, b := script.New(), script.New()
	a.Line("tick 3")
	a.Line("submit 5 01")
	check(t, b, firstModel())
	if a.Line("clock") != "3" {
		t.Error("the clock is " + a.Line("clock"))
	}
}

// Whatever is asked of a zero Script, it answers.
func TestP321Zero(t *testing.T) {
	for i := range everything {
		s := new(script.Script)
		for j := range everything {
			if s.Line(everything[(i+j)%len(everything)]) == "" {
				t.Errorf("%s: nothing", everything[(i+j)%len(everything)])
			}
		}
	}
	if s := new(script.Script); s.Do(line.Step{}) != "code 1" || s.Line("tick") != "code 1" || s.Line(strings.Repeat(" ", 4001)) != "code 3" {
		t.Error("what isn't one is done")
	}
}

// everything is a line of each word, and of both ways.
var everything = []string{
	"path 1 1 100", "tick 1", "all back 1", "submit 5 6869", "tick 2", "twin there 1 0", "turn there 1 0 100 7", "forge there 1 80c80000", "deliver there 1 0", "lose there 1 0", "all there 1", "forge back 1 00", "deliver back 1 0",
	"turn back 1 0 9 9", "twin back 1 0", "lose back 1 0", "clock", "paths", "flows", "played", "counts", "audit", "net there 1", "net back 1", "close", "session 1 2 3 4 5 6",
}

// Frames are taken, or refused, the first of several errors ahead.
func TestP321Submit(t *testing.T) {
	brings(t,
		"submit 5 - | ok\ncounts | 1 0 0 0 0 0 0 0 0 0 3\nsubmit 5 - | code 7\nsubmit 4 01 | code 7\nsubmit 0 - | code 7\nsubmit 6 01 | ok\nsubmit 4294967295 0203 | ok\nsubmit 4294967295 - | code 7\ncounts | 3 0 0 0 0 0 0 0 0 0 3",
		known(65535), "tick 1 | none\nnet there 1 | 3\nall there 1 | 3\ntick 30 | 5 0 -; 6 1 01; 4294967295 2 0203\nplayed | 5 0 -; 6 1 01; 4294967295 2 0203",
	)
	// ErrBig is ahead of ErrTime, that of ErrFull, ErrClosed of all.
	brings(t,
		submits(5, 1001, "code 3"), submits(5, 980, "ok"), submits(5, 1001, "code 3"), submits(4, 20, "code 7"), submits(5, 1000, "code 7"), submits(6, 21, "code 8"), submits(6, 20, "ok"), submits(7, 0, "code 8"),
		"counts | 50 0 0 0 0 0 0 0 0 0 3\nclose | ok\ncounts | 0 0 0 0 0 0 0 0 0 0 3", submits(7, 1, "code 9"), submits(5, 1001, "code 9"), submits(4, 20, "code 9"), "close | ok", submits(8, 0, "code 9"),
	)
	brings(t, submits(1, 1000, "ok"), submits(2, 0, "code 8"))
	brings(t, submits(0, 0, "ok"), submits(0, 0, "code 7"), submits(1, 1200, "code 3"), submits(1, 1990, "code 3"), submits(1, 980, "ok"))
	// Of more than 255 parts none are made.
	brings(t, "session 3 1000 20 2 3 30 | ok", submits(1, 766, "code 3"), submits(1, 765, "ok"), "counts | 255 0 0 0 0 0 0 0 0 0 3")
}

// Paths are Up, if U isn't 0, or aren't, or may not be.
func TestP321Path(t *testing.T) {
	brings(t,
		"path 0 1 5 | code 6\npath 16 1 5 | code 6\npath 4294967295 1 5 | code 6\npath 1 1 65536 | code 6\npath 1 0 4294967295 | code 6\ntick 1 | none\nnet back 1 | 0",
		"path 15 1 65535 | ok\npath 3 2 0 | ok\npath 2 4294967295 7 | ok\npath 1 0 100 | ok\npath 4 1 5 | code 8\npath 16 1 5 | code 6\npath 2 1 8 | ok\npath 2 1 8 | ok",
		"tick 1 | none\nnet back 1 | 0\nnet back 2 | 1\nnet back 3 | 1\nnet back 4 | 0\nnet back 15 | 1\npaths | none\nall back 3 | 1\npaths | 1 0 0 0 0; 2 1 1 1 0; 3 1 1 1 0; 15 1 1 1 0",
		"path 2 0 8 | ok\ntick 1 | none\nnet back 2 | 1\nall back 15 | 2\npaths | 1 0 0 0 0; 2 0 0 0 0; 3 1 1 1 0; 15 1 1 1 0",
	)
}

// Ticks go by, as many as may, and frames are played.
func TestP321Tick(t *testing.T) {
	brings(t, "tick 0 | none\nclock | 0\ntick 1 | none\nclock | 1\ntick 1048577 | code 6\ntick 4294967295 | code 6\nclock | 1\ntick 7 | none\nclock | 8\ntick 1048576 | none\nclock | 1048584\ntick 0001048576 | none\nclock | 2097160")
	brings(t,
		known(65535), submits(10, 0, "ok"), submits(11, 3, "ok"), "tick 1 | none\nall there 1 | 2", submits(12, 21, "ok"), "tick 1 | none\nall there 1 | 2",
		"tick 0 | none\ntick 1 | none\ntick 1 | 10 0 -; 11 3 616161\ntick 0 | none\ntick 1 | 12 21 "+strings.Repeat("61", 21)+"\ntick 9 | none",
		"played | 10 0 -; 11 3 616161; 12 21 "+strings.Repeat("61", 21)+"\nclock | 15\ncounts | 0 4 4 0 4 0 0 0 0 0 3",
	)
	// Several ticks play what each of them does.
	brings(t,
		known(65535), submits(10, 1, "ok"), "tick 1 | none\nall there 1 | 1", submits(11, 0, "ok"), "tick 1 | none\nall there 1 | 1", submits(12, 2, "ok"), "tick 1 | none\nall there 1 | 1",
		"played | none\ntick 2 | 10 1 61; 11 0 -\nplayed | 10 1 61; 11 0 -\ntick 0 | none\ntick 5 | 12 2 6161\nplayed | 10 1 61; 11 0 -; 12 2 6161",
	)
}

// Datagrams arrive, one or all, and what is wrong with them is answered.
func TestP321Deliver(t *testing.T) {
	other := media.Media{Source: 2, Track: media.Track{Path: 1}, Part: media.Part{Count: 1}}.Pack()
	brings(t,
		"deliver there 1 0 | code 10\ndeliver back 15 0 | code 10\ndeliver there 0 0 | code 10\ndeliver there 16 0 | code 10\ndeliver back 4294967295 4294967295 | code 10\nall there 1 | 0\nall back 0 | 0\nall back 16 | 0\nall there 4294967295 | 0",
		comes("there", 1, part(0, 5, 0, 1, "hi"), "ok"),
		comes("there", 2, part(1, 6, 0, 1, "hi"), "code 6"),
		comes("there", 1, other, "code 5"),
		comes("there", 2, other, "code 5"),
		comes("there", 1, part(2, 7, 0, 1, "x")[1:], "code 4"),
		comes("there", 1, strings.Repeat("x", 1500), "code 4"),
		comes("there", 1, "\x80", "code 4"),
		// A text of bytes 0 alone is Right.
		comes("there", 1, "\x00", "code 2"),
		comes("there", 1, strings.Repeat("\x00", 12), "code 1"),
		comes("there", 9, goes(9), "ok"),
		comes("there", 1, goes(9)[4:], "code 4"),
		"counts | 0 0 0 0 1 6 3 0 0 0 3\nflows | 1 0 0 0\ntick 3 | 5 2 6869",
		comes("back", 1, goes(1), "ok"), comes("back", 3, tells(0), "ok"), comes("back", 1, part(0, 5, 0, 1, "hi"), "code 5"), comes("back", 1, "\x00", "code 2"), comes("back", 1, "\x00\x00\x00\x00", "code 1"), comes("back", 1, strings.Repeat("x", 1500), "code 4"), comes("back", 15, goes(2)[1:], "code 4"),
		"submit 1 - | ok", comes("back", 15, goes(2), "ok"), "submit 2 - | code 9",
	)
	// One of several, and those behind it.
	three := forges("there", 1, part(0, 5, 0, 1, "a")) + " | ok\n" + forges("there", 1, part(1, 6, 0, 1, "b")) + " | ok\n" + forges("there", 1, part(2, 7, 0, 1, "c")) + " | ok\n"
	brings(t, three, "deliver there 1 3 | code 10\ndeliver there 2 0 | code 10\ndeliver back 1 0 | code 10\ndeliver there 1 1 | ok\nnet there 1 | 2\ndeliver there 1 1 | ok\ndeliver there 1 1 | code 10\nnet there 1 | 1\ncounts | 0 0 0 0 2 0 0 0 0 0 3\ntick 5 | 6 1 62; 7 1 63\nall there 1 | 1\ncounts | 0 0 0 0 3 0 0 1 0 0 4")
	brings(t, three, forges("there", 15, other)+" | ok\nall there 2 | 0\nall back 1 | 0\nall there 1 | 3\nall there 1 | 0\nnet there 1 | 0\nnet there 15 | 1\nall there 15 | 1\ncounts | 0 0 0 0 3 0 1 0 0 0 3\ntick 4 | 5 1 61; 6 1 62; 7 1 63")
}

// Datagrams are lost, are there twice, are turned and forged, or there is none, or no
// room.
func TestP321Net(t *testing.T) {
	for _, word := range []string{"lose", "twin"} {
		for _, place := range []string{"there 1 0", "back 1 0", "there 0 0", "back 16 0", "there 4294967295 0", "there 15 4294967295"} {
			brings(t, word+" "+place+" | no")
		}
	}
	brings(t,
		"turn there 1 0 0 1 | no\nturn back 16 0 0 1 | no\nturn there 0 0 0 1 | no\nforge there 0 00 | no\nforge back 16 00 | no\nforge there 4294967295 00 | no\nforge there 1 - | no\nforge back 15 - | no",
		forges("there", 1, strings.Repeat("x", 1501))+" | no", forges("there", 1, strings.Repeat("x", 1990))+" | no", forges("there", 1, strings.Repeat("x", 1500))+" | ok", forges("back", 15, "x")+" | ok",
		"net there 1 | 1\nnet back 15 | 1\nnet back 1 | 0\nnet there 15 | 0",
		"twin back 15 1 | no\ntwin back 15 0 | ok\ntwin back 15 1 | ok\nnet back 15 | 3\nlose back 15 3 | no\nlose back 15 2 | ok\nlose back 15 2 | no\nnet back 15 | 2\nturn back 15 2 0 1 | no\nturn back 15 1 0 1 | ok\nlose back 15 0 | ok\nlose there 1 0 | ok\nnet there 1 | 0\nnet back 15 | 1",
	)
	// Which one is lost, or twice, is told by what arrives.
	three := forges("there", 1, part(0, 5, 0, 1, "a")) + " | ok\n" + forges("there", 1, part(1, 6, 0, 1, "b")) + " | ok\n" + forges("there", 1, part(2, 7, 0, 1, "c")) + " | ok\n"
	brings(t, three, "lose there 1 1 | ok\nall there 1 | 2\ntick 4 | 5 1 61; 7 1 63")
	brings(t, three, "twin there 1 0 | ok\nlose there 1 0 | ok\nlose there 1 0 | ok\nall there 1 | 2\ntick 4 | 5 1 61; 7 1 63\ncounts | 0 0 0 0 2 0 0 0 0 0 3")
}

// A datagram's bits are turned where they say, by the whole mask.
func TestP321Turn(t *testing.T) {
	one := forges("there", 1, part(0, 5, 0, 1, "a")) + " | ok\n"
	for _, turn := range []string{"0 1", "0 4294967295", "100 2147483648", "200 1", "231 2147483648", "1 4294967295", "200 4294967295", "31 65536"} {
		brings(t, one, "turn there 1 0 "+turn+" | ok\ndeliver there 1 0 | code 4\ncounts | 0 0 0 0 0 1 0 0 0 0 3")
		// Twice is not at all.
		brings(t, one, "turn there 1 0 "+turn+" | ok\nturn there 1 0 "+turn+" | ok\ndeliver there 1 0 | ok")
	}
	// What turns no bit is done, too.
	for _, turn := range []string{"0 0", "232 4294967295", "4294967295 4294967295", "231 1", "231 2147483647"} {
		brings(t, one, "turn there 1 0 "+turn+" | ok\ndeliver there 1 0 | ok")
	}
	// Of 32 bits each half, one behind the other, is as all at once.
	brings(t, one, "turn there 1 0 8 4294967295 | ok\nturn there 1 0 8 4294901760 | ok\nturn there 1 0 24 4294901760 | ok\ndeliver there 1 0 | ok")
	two := one + forges("there", 1, part(1, 6, 0, 1, "b")) + " | ok\n"
	brings(t, two, "turn there 1 1 9 1 | ok\ndeliver there 1 0 | ok\ndeliver there 1 0 | code 4")
}

// It is closed, and says so on each path that sends; what only asks goes on.
func TestP321Close(t *testing.T) {
	brings(t,
		"path 1 1 100 | ok\npath 2 1 100 | ok\ntick 1 | none\nall back 1 | 1\nsubmit 5 01 | ok\nclose | ok\nclock | 1\nnet there 1 | 1\nnet there 2 | 1\nclose | ok\nnet there 1 | 1\ncounts | 0 0 0 0 0 0 0 0 0 0 3\nsubmit 6 02 | code 9",
		"all there 1 | 1\nall there 2 | 1\ntick 40 | none\nnet there 1 | 0\nnet back 1 | 2\npath 3 1 5 | ok\nlose back 2 0 | ok\nforge there 2 00 | ok\naudit | none\nclock | 41",
	)
	brings(t, "close | ok\nclose | ok\nsubmit 1 - | code 9\nsubmit 0 01 | code 9\ntick 1 | none")
}

// How paths are: known or not, Up or not, in each state, and what went out there.
func TestP321Paths(t *testing.T) {
	advert := says(compound.Bag{Adverts: []subflow.Adverts{{Source: 2, All: []subflow.Advert{{Path: 1, Up: true, Rate: 65535}, {Path: 7, Rate: 5}, {Path: 15, Up: true, Rate: 1}}}}})
	brings(t,
		comes("back", 1, advert, "ok"), "paths | 1 1 1 0 0; 7 0 0 0 0; 15 1 1 0 0",
		comes("back", 1, tells(10), "ok"), "paths | 1 1 1 1 0; 7 0 0 0 0; 15 1 1 0 0\nsubmit 5 01 | ok\ntick 1 | none\npaths | 1 1 1 1 1; 7 0 0 0 0; 15 1 1 0 0\nsubmit 6 01 | ok\nsubmit 7 - | ok\ntick 1 | none",
		comes("back", 2, tells(121), "ok"), "paths | 1 1 1 2 2; 7 0 0 0 0; 15 1 1 0 1",
		comes("back", 2, tells(255), "ok"), comes("back", 2, tells(121), "ok"), "paths | 1 1 0 3 2; 7 0 0 0 0; 15 1 1 0 1",
		comes("back", 2, tells(0), "ok"), "paths | 1 1 1 0 2; 7 0 0 0 0; 15 1 1 0 1",
	)
}

// What came on each path.
func TestP321Flows(t *testing.T) {
	on := func(path, pathSeq int) string {
		return comes("there", path, media.Media{Source: 1, Seq: uint16(pathSeq), Time: 5, Track: media.Track{Path: path, PathSeq: uint16(pathSeq)}, Part: media.Part{Index: pathSeq % 200, Count: 200}}.Pack(), "ok")
	}
	brings(t,
		"flows | none\n", on(3, 7), "flows | 3 7 0 0\n", on(3, 8), "flows | 3 8 1 1\n", on(3, 11), "flows | 3 11 4 2\n", on(1, 65534), "flows | 1 65534 0 0; 3 11 4 2\n", on(15, 2), on(1, 65535), "flows | 1 65535 1 1; 3 11 4 2; 15 2 0 0\n", on(1, 0), "flows | 1 65536 2 2; 3 11 4 2; 15 2 0 0",
	)
}

// What both ends count, each number in its place.
func TestP321Counts(t *testing.T) {
	rows := []string{
		known(65535),
		"counts | 0 0 0 0 0 0 0 0 0 0 3",
		submits(5, 1, "ok"), submits(6, 21, "ok"), "counts | 3 0 0 0 0 0 0 0 0 0 3",
		"tick 1 | none\ncounts | 0 3 3 0 0 0 0 0 0 0 3",
		comes("back", 1, wants(1, 0, 2), "ok"), "counts | 0 3 3 2 0 0 0 0 0 0 3\nnet there 1 | 5",
		submits(7, 41, "ok"), "counts | 3 3 3 2 0 0 0 0 0 0 3",
		"lose there 1 1 | ok\ndeliver there 1 0 | ok\ncounts | 3 3 3 2 1 0 0 0 0 0 3\ndeliver there 1 0 | ok\ncounts | 3 3 3 2 2 0 0 0 0 1 3\nall there 1 | 2\ncounts | 3 3 3 2 4 0 0 0 2 1 3",
		"close | ok\ncounts | 0 3 3 2 4 0 0 0 2 1 3\nall there 1 | 1",
		comes("there", 2, part(0, 5, 0, 1, "a"), "code 6"), "counts | 0 3 3 2 4 0 1 0 2 1 3",
		comes("there", 2, "\x00", "code 2"), comes("there", 2, "xxxx", "code 4"), "counts | 0 3 3 2 4 2 1 0 2 1 3",
		"tick 3 | 5 1 61\n", comes("there", 1, part(0, 5, 0, 1, "a"), "ok"), "counts | 0 3 3 2 5 2 1 1 2 1 4\n",
		comes("there", 1, part(9, 50, 0, 1, "a"), "ok"), "counts | 0 3 3 2 6 2 1 1 2 7 11",
	}
	brings(t, rows...)
}

// How many are under way, each way, on each path.
func TestP321UnderWay(t *testing.T) {
	var l []string
	for path := 1; path <= 15; path++ {
		l = append(l, rows(path, fmt.Sprintf("forge there %d 00 | ok", path)), rows(16-path, fmt.Sprintf("forge back %d 00 | ok", path)))
	}
	for path := range 18 {
		there, back := path, 16-path
		if path == 0 || path > 15 {
			there, back = 0, 0
		}
		l = append(l, fmt.Sprintf("net there %d | %d\nnet back %d | %d", path, there, path, back))
	}
	brings(t, append(l, "net there 4294967295 | 0\nnet back 4294967295 | 0")...)
}

// A step that no line is brings nothing, asked by Do, and by Line.
func TestP321None(t *testing.T) {
	s, m := script.New(), firstModel()
	for _, text := range []string{"path 1 1 100", "tick 1", "all back 1", "submit 5 6869", "tick 1", "submit 6 01"} {
		does(t, s, m, text)
	}
	for _, x := range []line.Step{
		{}, {Word: "other"}, {Word: "Close"}, {Word: "close "}, {Word: "close", N: []int{1}}, {Word: "close", S: []string{""}}, {Word: "clock", N: []int{0}}, {Word: "tick"}, {Word: "tick", N: []int{-1}}, {Word: "tick", N: []int{1, 1}}, {Word: "tick", N: []int{4294967296}}, {Word: "tick", N: []int{math.MinInt}}, {Word: "tick 1"},
		{Word: "submit"}, {Word: "submit", N: []int{9}}, {Word: "submit", S: []string{"a"}}, {Word: "submit", N: []int{-1}, S: []string{"a"}}, {Word: "submit", N: []int{4294967303}, S: []string{"a"}}, {Word: "submit", N: []int{9}, S: []string{"a", "b"}}, {Word: "submit", N: []int{9}, S: []string{strings.Repeat("a", 2000)}}, {Word: "submit", N: []int{9}, S: []string{strings.Repeat("a", 1<<20)}},
		{Word: "path", N: []int{2, 1}}, {Word: "path", N: []int{2, -1, 5}}, {Word: "path", N: []int{2, 1, -5}}, {Word: "path", N: []int{2, 1, 5, 5}}, {Word: "path", N: []int{2, 4294967296, 5}},
		{Word: "all", N: []int{2, 1}}, {Word: "all", N: []int{0}}, {Word: "all", N: []int{-1, 1}}, {Word: "deliver", N: []int{0, 1}}, {Word: "deliver", N: []int{2, 1, 0}}, {Word: "deliver", N: []int{0, 1, -1}}, {Word: "lose", N: []int{0, 1}}, {Word: "lose", N: []int{0, 1, 4294967296}}, {Word: "twin", N: []int{0, 1, 0, 0}}, {Word: "twin", N: []int{2, 1, 0}},
		{Word: "turn", N: []int{0, 1, 0, 8}}, {Word: "turn", N: []int{0, 1, 0, 8, 4294967297}}, {Word: "turn", N: []int{0, 1, 0, -8, 1}}, {Word: "turn", N: []int{0, 1, 0, 8, -1}}, {Word: "forge", N: []int{0, 1}}, {Word: "forge", N: []int{0}, S: []string{"a"}}, {Word: "forge", N: []int{2, 1}, S: []string{"a"}}, {Word: "forge", N: []int{0, 1}, S: []string{strings.Repeat("a", 1994)}},
		{Word: "session", N: []int{1, 2, 3, 4, 5}}, {Word: "session", N: []int{1, 2, 3, 4, 5, 6, 7}}, {Word: "session", N: []int{1, 2, 3, -4, 5, 6}}, {Word: "net", N: []int{0}}, {Word: "net", N: []int{3, 1}},
	} {
		if got := s.Do(x); got != "code 1" {
			t.Errorf("%.90s: %q", fmt.Sprintf("%+v", x), got)
		}
		check(t, s, m)
	}
	for text, want := range map[string]string{
		"": "code 1", " ": "code 1", "other": "code 1", "tick": "code 1", "tick x": "code 1", "tick 1 1": "code 1", "tick 4294967296": "code 1", "tick\t1": "code 1", "Tick 1": "code 1", "submit 9 a": "code 1", "close 1": "code 1", "all 0 1": "code 1",
		strings.Repeat(" ", 4001): "code 3", "tick 1" + strings.Repeat(" ", 3995): "code 3", strings.Repeat("x", 9999): "code 3", strings.Repeat("x", 4000): "code 1",
	} {
		if got := s.Line(text); got != want {
			t.Errorf("%.90q: %q, not %q", text, got, want)
		}
		check(t, s, m)
	}
	does(t, s, m, "   tick    0001   ")
	does(t, s, m, "tick 1"+strings.Repeat(" ", 3994))
	check(t, s, m)
}

// What Do is handed isn't changed, nor what is behind it, and isn't kept.
func TestP321Memory(t *testing.T) {
	s, m := script.New(), firstModel()
	for _, text := range everything {
		x, _ := line.Parse(text)
		n, b := append(slices.Clone(x.N), -7, -8), append(slices.Clone(x.S), "behind")
		y := line.Step{Word: x.Word, N: n[:len(x.N)], S: b[:len(x.S)]}
		if got, want := s.Do(y), m.line(text); got != want {
			t.Fatalf("%s: %q, not %q", text, got, want)
		}
		if !slices.Equal(n, append(x.N, -7, -8)) || !slices.Equal(b, append(x.S, "behind")) {
			t.Errorf("%s: %v %q", text, n, b)
		}
		clear(n)
		clear(b)
		check(t, s, m)
	}
	lines := []string{"submit 5 01", "tick x", "close"}
	script.Run(lines[:2]...)
	if !slices.Equal(lines, []string{"submit 5 01", "tick x", "close"}) {
		t.Errorf("%q", lines)
	}
}

// Each line has its answer, of none there is none.
func TestP321Many(t *testing.T) {
	if l := script.Run(); len(l) != 0 {
		t.Errorf("%q", l)
	}
	if l := script.Run(""); !slices.Equal(l, []string{"code 1"}) {
		t.Errorf("%q", l)
	}
	var lines []string
	for range 5000 {
		lines = append(lines, "tick 1", "clock")
	}
	for i, answer := range script.Run(lines...) {
		if want := fmt.Sprint((i + 1) / 2); i%2 == 0 && answer != "none" || i%2 == 1 && answer != want {
			t.Fatalf("%d: %q", i, answer)
		}
	}
	if a, b := script.Run("tick 1", "clock"), script.Run("clock"); a[1] != "1" || b[0] != "0" {
		t.Errorf("%q %q", a, b)
	}
}

// Errors' numbers are what Code tells.
func TestP321Code(t *testing.T) {
	for e, row := range map[api.Errno]string{
		api.ErrForm: "other | code 1", api.ErrEnd: comes("back", 1, "\x00", "code 2"), api.ErrBig: submits(1, 1001, "code 3"), api.ErrSum: comes("there", 1, "xxxx", "code 4"),
		api.ErrKind: comes("back", 1, part(0, 5, 0, 1, "hi"), "code 5"), api.ErrArg: "path 0 0 0 | code 6", api.ErrTime: "submit 1 - | ok\nsubmit 1 - | code 7", api.ErrFull: submits(1, 1000, "ok") + "\n" + submits(2, 0, "code 8"),
		api.ErrClosed: "close | ok\nsubmit 1 - | code 9", api.ErrNone: "deliver there 1 0 | code 10",
	} {
		if !strings.HasSuffix(row, fmt.Sprintf("code %d", int(e))) {
			t.Errorf("%d: %q", e, row)
		}
		brings(t, row)
	}
}
