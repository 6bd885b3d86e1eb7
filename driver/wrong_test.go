package driver

import (
	"slices"
	"testing"

	"gangsaw/api"
)

// wrongLines answers lines with what is told of them.
func wrongLines() map[string]struct {
	l    api.Line
	want api.Errno
} {
	a := []string{"a"}
	return map[string]struct {
		l    api.Line
		want api.Errno
	}{
		"no line":            {api.Line{}, api.ErrMany},
		"no files":           {api.Line{To: "b"}, api.ErrMany},
		"a file too many":    {api.Line{From: slices.Repeat(a, api.MaxSources+1), To: "b"}, api.ErrMany},
		"a command too many": {api.Line{From: a, Do: slices.Repeat([]api.Command{sorted}, api.MaxCommands+1), To: "b"}, api.ErrMany},
		"from no word":       {api.Line{From: []string{"a", "A"}, To: "b"}, api.ErrText},
		"into no word":       {api.Line{From: a}, api.ErrText},
		"no command":         {api.Line{From: a, Do: make([]api.Command, 1), To: "b"}, api.ErrForm},
		"a command's range":  {api.Line{From: a, Do: []api.Command{sorted, {Kind: api.Head}}, To: "b"}, api.ErrRange},
		"a command's text":   {api.Line{From: a, Do: []api.Command{{Kind: api.Swap, Word: "abc"}}, To: "b"}, api.ErrText},
	}
}

// wrongFiles answers files with what is told of them.
func wrongFiles() map[string]struct {
	l    []api.File
	want api.Errno
} {
	return map[string]struct {
		l    []api.File
		want api.Errno
	}{
		"too many":       {append(full(), of("z", "")...), api.ErrMany},
		"no word":        {of("a", "", "B", ""), api.ErrText},
		"too many bytes": {of("c", many(api.MaxBytes+1)), api.ErrMany},
		"twice":          {of("a", "", "a", ""), api.ErrTwice},
		"falling":        {of("b", "", "a", ""), api.ErrTwice},
	}
}

// tooManyGathered answers files of which some lines gather too many bytes, but with which nothing is wrong.
func tooManyGathered() map[string]struct {
	l    []api.File
	from []string
} {
	return map[string]struct {
		l    []api.File
		from []string
	}{
		"two files":       {of("a", many(api.MaxBytes/2), "b", many(api.MaxBytes/2+2)), []string{"a", "b"}},
		"one file twice":  {of("a", many(api.MaxBytes/2+2)), []string{"a", "a"}},
		"the last end":    {of("a", many(api.MaxBytes-1)+"y"), []string{"a"}},
		"an end between":  {of("a", "y", "b", many(api.MaxBytes-1)), []string{"a", "b"}},
		"an end, further": {of("a", many(api.MaxBytes), "b", "y"), []string{"a", "none", "b"}},
	}
}

func wrongLine(t *testing.T, name string, files []api.File, l api.Line, wide, room int, picks []int, want api.Errno) {
	t.Helper()
	if b, e := Line(files, l, wide, room, picks); e != want || b != nil {
		t.Errorf("a line, %s: %q, %d, want %d", name, b, e, want)
	}
}

func wrongRun(t *testing.T, name string, files []api.File, s []api.Line, wide, room int, picks []int, want api.Errno) {
	t.Helper()
	if l, e := Run(files, s, wide, room, picks); e != want || l != nil {
		t.Errorf("a script, %s: %q, %d, want %d", name, l, e, want)
	}
}

func TestWrongLines(t *testing.T) {
	right := api.Line{From: []string{"a"}, To: "b"}
	tooMany := make([]int, api.MaxPicks+1)
	for name, x := range wrongLines() {
		wrongLine(t, name, nil, x.l, 1, 1, nil, x.want)
		wrongLine(t, name+", and all else is wrong", of("A", ""), x.l, 0, 0, tooMany, x.want)
		for _, s := range [][]api.Line{{x.l}, {right, x.l}, {right, right, x.l, {}}} {
			wrongRun(t, name, nil, s, 1, 1, nil, x.want)
			wrongRun(t, name+", and it is done wrong", nil, s, 0, 0, tooMany, x.want)
		}
		wrongRun(t, name+", ahead of it one that gathers too much", of("a", many(api.MaxBytes-1)), []api.Line{{From: []string{"a", "a"}, To: "b"}, x.l}, 1, 1, nil, x.want)
		wrongRun(t, name+", too many", nil, slices.Repeat([]api.Line{x.l}, api.MaxLines+1), 1, 1, nil, api.ErrMany)
	}
	wrongRun(t, "too many", nil, slices.Repeat([]api.Line{right}, api.MaxLines+1), 1, 1, nil, api.ErrMany)
}

func TestWrongFiles(t *testing.T) {
	right := api.Line{From: []string{"a"}, Do: []api.Command{sorted}, To: "b"}
	tooMany := make([]int, api.MaxPicks+1)
	for name, x := range wrongFiles() {
		wrongLine(t, name, x.l, right, 1, 1, nil, x.want)
		wrongLine(t, name+", and no room, too many picks", x.l, right, 5, 0, tooMany, x.want)
		wrongLine(t, name+", but too wide", x.l, right, 6, 1, nil, api.ErrRange)
		wrongRun(t, name, x.l, []api.Line{right}, 1, 1, nil, x.want)
		wrongRun(t, name+", no line", x.l, nil, 1, 1, nil, x.want)
		wrongRun(t, name+", and all else is wrong", x.l, []api.Line{{From: []string{"a"}, Do: make([]api.Command, 1), To: "b"}}, 6, 0, tooMany, x.want)
	}
}

func TestTooManyGathered(t *testing.T) {
	first := api.Line{From: []string{"none"}, To: "c"}
	tooMany := make([]int, api.MaxPicks+1)
	for name, x := range tooManyGathered() {
		// Even where next to nothing is left of it.
		for _, do := range [][]api.Command{nil, {sorted}, {{Kind: api.Head, N: 1}}, {{Kind: api.Count}}, {{Kind: api.Keep, Word: "y"}}} {
			l := api.Line{From: x.from, Do: do, To: "c"}
			for wide := 1; wide <= api.MaxWidth; wide++ {
				wrongLine(t, name, x.l, l, wide, 1, nil, api.ErrMany)
				wrongLine(t, name+", and no room, too many picks", x.l, l, wide, 0, tooMany, api.ErrMany)
				wrongRun(t, name, x.l, []api.Line{l}, wide, 1, nil, api.ErrMany)
				wrongRun(t, name+", later", x.l, []api.Line{first, l, first}, wide, api.MaxRoom, nil, api.ErrMany)
			}
			wrongLine(t, name+", but too wide", x.l, l, api.MaxWidth+1, 1, nil, api.ErrRange)
			wrongRun(t, name+", but too wide", x.l, []api.Line{l}, api.MaxWidth+1, 1, nil, api.ErrRange)
		}
	}
	made := of("a", many(api.MaxBytes/2+2))
	wrongRun(t, "of what another line made", made, parsed(t, "a > b\na b > c\n"), 2, 8, nil, api.ErrMany)
}

func TestWrongWaysToDoIt(t *testing.T) {
	files := of("a", "b\na")
	tooMany := make([]int, api.MaxPicks+1)
	for name, x := range map[string]struct {
		wide, room int
		picks      []int
		want       api.Errno
	}{
		"no parts":                          {0, 1, nil, api.ErrRange},
		"below":                             {-1, 1, nil, api.ErrRange},
		"far below":                         {smallest, 1, nil, api.ErrRange},
		"too wide":                          {api.MaxWidth + 1, 1, nil, api.ErrRange},
		"far too wide":                      {greatest, 1, nil, api.ErrRange},
		"too wide, too many picks":          {api.MaxWidth + 1, 1, tooMany, api.ErrRange},
		"no room":                           {1, 0, nil, api.ErrRange},
		"room below":                        {1, -1, nil, api.ErrRange},
		"room far below":                    {1, smallest, nil, api.ErrRange},
		"too much room":                     {1, api.MaxRoom + 1, nil, api.ErrRange},
		"far too much room":                 {1, greatest, nil, api.ErrRange},
		"no room, too many picks":           {1, 0, tooMany, api.ErrRange},
		"too many picks":                    {1, 1, tooMany, api.ErrMany},
		"too many picks, of no process":     {5, 1000, slices.Repeat([]int{-1}, api.MaxPicks+1), api.ErrMany},
		"too many picks, when all are over": {5, 1, slices.Repeat(turns(500, 9), 100), api.ErrMany},
	} {
		for _, text := range []string{"a > b\n", "a a | sort | count > b\n", "none | turn > a\n"} {
			s := parsed(t, text)
			wrongLine(t, name, files, s[0], x.wide, x.room, x.picks, x.want)
			wrongRun(t, name, files, s, x.wide, x.room, x.picks, x.want)
			wrongRun(t, name+", too many files then", full(), parsed(t, "a > z\n"), x.wide, x.room, x.picks, x.want)
		}
	}
}

func TestAFileTooMany(t *testing.T) {
	for wide := 1; wide <= api.MaxWidth; wide++ {
		wrongRun(t, "a file too many", full(), parsed(t, "a > z\n"), wide, 1, nil, api.ErrMany)
		wrongRun(t, "a file too many, later", full()[1:], parsed(t, "b > a\nb > z\n"), wide, 1, nil, api.ErrMany)
		// A line makes its bytes wherever they are to go.
		if b, e := Line(full(), parsed(t, "a > z\n")[0], wide, 1, nil); e != api.OK || string(b) != "a\n" {
			t.Errorf("%q, %d", b, e)
		}
	}
}
