package driver

import (
	"slices"
	"strings"
	"testing"

	"gangsaw/api"
	"gangsaw/script"
	"gangsaw/shell"
)

const (
	greatest = int(^uint(0) >> 1)
	smallest = -greatest - 1
)

var sorted = api.Command{Kind: api.Sort}

// rooms are some that pipes may have: the least, the greatest, and some around the 8 bytes that a process reads.
var rooms = []int{1, 2, 7, 8, 9, 100, api.MaxRoom}

// of answers files out of names and texts, one name ahead of each text.
func of(s ...string) []api.File {
	var l []api.File
	for i := 0; i < len(s); i += 2 {
		l = append(l, api.File{Name: s[i], B: []byte(s[i+1])})
	}
	return l
}

// full answers as many files as there may be: a, b and so on, each with its name as its text.
func full() []api.File {
	var l []api.File
	for i := range api.MaxFiles {
		name := string(rune('a' + i))
		l = append(l, of(name, name)...)
	}
	return l
}

// many answers so many bytes, lines of one letter each, the last one without an end if they are odd.
func many(n int) string { return strings.Repeat("x\n", n/2+1)[:n] }

func parsed(t *testing.T, text string) []api.Line {
	t.Helper()
	s, at, e := script.Parse(text)
	if e != api.OK {
		t.Fatalf("%q: %d at %d", text, e, at)
	}
	return s
}

// turns answers so many picks of processes, one behind the other, again and again.
func turns(n, processes int) []int {
	picks := make([]int, n)
	for k := range picks {
		picks[k] = k % processes
	}
	return picks
}

// allWays calls f with each width, and with rooms and picks of many kinds.
func allWays(f func(wide, room int, picks []int)) {
	ofPicks := [][]int{
		nil,
		{},
		{0},
		{3, 3, 3, 0, 0, 0, 2, 1, 0},
		{-1, 48, greatest, smallest},
		turns(500, 20),
		slices.Repeat([]int{0}, 50),
	}
	slices.Reverse(ofPicks[5])
	for wide := 1; wide <= api.MaxWidth; wide++ {
		for _, room := range rooms {
			for _, picks := range ofPicks {
				f(wide, room, picks)
			}
		}
	}
}

func TestLine(t *testing.T) {
	files := of("a", "b x\na y\nc z", "b", "a\na", "c", "")
	for text, want := range map[string]string{
		"a > z\n":                                      "b x\na y\nc z\n",
		"c > z\n":                                      "",
		"none > z\n":                                   "",
		"none c | sort > z\n":                          "",
		"none | count > z\n":                           "0\n",
		"b a > z\n":                                    "a\na\nb x\na y\nc z\n",
		"b b b > z\n":                                  "a\na\na\na\na\na\n",
		"a c b none | count > z\n":                     "5\n",
		"a | keep y > z\n":                             "a y\n",
		"a | drop y > z\n":                             "b x\nc z\n",
		"a | swap xq > z\n":                            "b q\na y\nc z\n",
		"a | field 2 > z\n":                            "x\ny\nz\n",
		"a | field 3 > z\n":                            "\n\n\n",
		"a | turn > z\n":                               "x b\ny a\nz c\n",
		"a b | sort > z\n":                             "a\na\na y\nb x\nc z\n",
		"b a b | once > z\n":                           "a\nb x\na y\nc z\na\n",
		"a | head 1 > z\n":                             "b x\n",
		"a b | head 1000 > z\n":                        "b x\na y\nc z\na\na\n",
		"a | tail 2 > z\n":                             "a y\nc z\n",
		"a b | field 1 | sort | once > z\n":            "a\nb\nc\n",
		"a b | sort | head 3 > a\n":                    "a\na\na y\n",
		"a b | head 2 | head 1 | turn > z\n":           "x b\n",
		"a b | count | count | sort > z\n":             "1\n",
		"a | turn | turn | turn | turn | head 2 > z\n": "b x\na y\n",
	} {
		l := parsed(t, text)[0]
		allWays(func(wide, room int, picks []int) {
			if b, e := Line(files, l, wide, room, picks); e != api.OK || string(b) != want {
				t.Fatalf("%q, %d wide, room %d, picks %v: %q, %d, want %q", text, wide, room, picks, b, e, want)
			}
		})
	}
}

func TestRun(t *testing.T) {
	files := of("a", "b x\na y\nc z", "b", "a\na")
	for text, want := range map[string][]api.File{
		"":                           of("a", "b x\na y\nc z", "b", "a\na"),
		"b > b\n":                    of("a", "b x\na y\nc z", "b", "a\na\n"),
		"b > a\na > b\n":             of("a", "a\na\n", "b", "a\na\n"),
		"a | count > a\na b > a\n":   of("a", "3\na\na\n", "b", "a\na"),
		"none > b\n":                 of("a", "b x\na y\nc z", "b", ""),
		"b | head 1 > 0\n0 b > aa\n": of("0", "a\n", "a", "b x\na y\nc z", "aa", "a\na\na\n", "b", "a\na"),
		"a b | field 1 | sort | once > c\nc | count > d\nc d | tail 2 | turn > a\n": of("a", "c\n3\n", "b", "a\na", "c", "a\nb\nc\n", "d", "3\n"),
		"b b > b\nb b > b\nb | count > n\nb b > b\nb | count > n\nn > m\n":          of("a", "b x\na y\nc z", "b", strings.Repeat("a\n", 16), "m", "16\n", "n", "16\n"),
	} {
		s := parsed(t, text)
		allWays(func(wide, room int, picks []int) {
			if l, e := Run(files, s, wide, room, picks); e != api.OK || !shell.Same(l, want) {
				t.Fatalf("%q, %d wide, room %d, picks %v: %q, %d, want %q", text, wide, room, picks, l, e, want)
			}
		})
	}
}

func TestNothingIsNeeded(t *testing.T) {
	if l, e := Run(nil, nil, 1, 1, nil); e != api.OK || len(l) != 0 {
		t.Errorf("%v, %d", l, e)
	}
	// Without a line nobody asks how it is to be done.
	if l, e := Run(of("a", "b"), nil, 0, 0, make([]int, api.MaxPicks+1)); e != api.OK || !shell.Same(l, of("a", "b")) {
		t.Errorf("%v, %d", l, e)
	}
	if l, e := Run(nil, parsed(t, "a > b\n"), 1, 1, nil); e != api.OK || !shell.Same(l, of("b", "")) {
		t.Errorf("%v, %d", l, e)
	}
	if b, e := Line(nil, parsed(t, "a > b\n")[0], 1, 1, nil); e != api.OK || len(b) != 0 {
		t.Errorf("%v, %d", b, e)
	}
}

// TestTheLimits: the most of everything is right.
func TestTheLimits(t *testing.T) {
	longest := strings.Repeat("z", api.MaxWord)
	long := strings.Repeat("b", api.MaxBytes-1)
	files := append(full()[:api.MaxFiles-1], of(longest, long)...)
	l := api.Line{From: []string{longest, "none", "none", "none"}, Do: slices.Repeat([]api.Command{sorted}, api.MaxCommands), To: longest}
	s := slices.Repeat([]api.Line{l}, api.MaxLines)
	want := append(full()[:api.MaxFiles-1], of(longest, long+"\n")...)
	for _, room := range []int{1, api.MaxRoom} {
		for _, picks := range [][]int{nil, turns(api.MaxPicks, 48)} {
			if got, e := Run(files, s, api.MaxWidth, room, picks); e != api.OK || !shell.Same(got, want) {
				t.Errorf("room %d, %d picks: %d", room, len(picks), e)
			}
			if b, e := Line(files, l, api.MaxWidth, room, picks); e != api.OK || string(b) != long+"\n" {
				t.Errorf("room %d, %d picks: %d bytes, %d", room, len(picks), len(b), e)
			}
		}
	}
}

// TestAReaderThatHasEnough: who writes to a Head isn't stuck, however little room there is.
func TestAReaderThatHasEnough(t *testing.T) {
	files := of("a", many(api.MaxBytes/2), "b", many(api.MaxBytes/2))
	for _, text := range []string{"a b | head 1 > c\n", "a b | turn | head 2 | head 1 > c\n", "b a | head 1000 | head 1 | count | head 1 > c\n"} {
		s := parsed(t, text)
		want, _ := shell.Run(files, s)
		for wide := 1; wide <= api.MaxWidth; wide++ {
			for _, room := range rooms {
				if l, e := Run(files, s, wide, room, nil); e != api.OK || !shell.Same(l, want) {
					t.Errorf("%q, %d wide, room %d: %d", text, wide, room, e)
				}
			}
		}
	}
}
