package shell

import (
	"bytes"
	"math/rand"
	"reflect"
	"slices"
	"sort"
	"strings"
	"testing"

	"gangsaw/api"
	"gangsaw/command"
	"gangsaw/script"
)

var longest = strings.Repeat("z", api.MaxWord)

// times answers a list of so many of the same.
func times[T any](n int, x T) []T { return slices.Repeat([]T{x}, n) }

// of answers files out of names and texts, one name ahead of each text.
func of(s ...string) []api.File {
	var l []api.File
	for i := 0; i < len(s); i += 2 {
		l = append(l, api.File{Name: s[i], B: []byte(s[i+1])})
	}
	return l
}

// full answers as many files as there may be: a, b and so on, each with its name as its text.
func full() []api.File {
	var l []api.File
	for i := range api.MaxFiles {
		name := string(rune('a' + i))
		l = append(l, of(name, name)...)
	}
	return l
}

// many answers so many bytes, lines of one letter each, the last one without an end if they are odd.
func many(n int) string { return strings.Repeat("x\n", n/2+1)[:n] }

// wrongFiles answers files with what is told of them.
func wrongFiles() map[string]struct {
	l    []api.File
	want api.Errno
} {
	long := many(api.MaxBytes + 1)
	return map[string]struct {
		l    []api.File
		want api.Errno
	}{
		"too many":                  {append(full(), of("z", "")...), api.ErrMany},
		"too many, all without":     {make([]api.File, api.MaxFiles+1), api.ErrMany},
		"no name":                   {of("", ""), api.ErrText},
		"a great letter":            {of("a", "", "B", ""), api.ErrText},
		"a blank":                   {of("a b", ""), api.ErrText},
		"a feed":                    {of("a\n", ""), api.ErrText},
		"a name that is too long":   {of("a", "", longest+"z", ""), api.ErrText},
		"the last of all":           {append(full()[1:], of("", "")...), api.ErrText},
		"too many bytes":            {of("a", long), api.ErrMany},
		"too many bytes behind":     {of("a", "", "b", long), api.ErrMany},
		"twice":                     {of("a", "", "a", ""), api.ErrTwice},
		"twice the same bytes, too": {of("a", "x", "b", "y", "b", "y"), api.ErrTwice},
		"falling":                   {of("b", "", "a", ""), api.ErrTwice},
		"a longer one ahead":        {of("ab", "", "a", ""), api.ErrTwice},
		"a letter ahead of a digit": {of("a", "", "0", ""), api.ErrTwice},
		"numbers by their bytes":    {of("9", "", "10", ""), api.ErrTwice},
		"not beside each other":     {of("a", "", "b", "", "a", ""), api.ErrTwice},
		"text, then bytes":          {of("A", long), api.ErrText},
		"text, then twice":          {of("a", "", "A", ""), api.ErrText},
		"bytes, then twice":         {of("a", "", "a", long), api.ErrMany},
		"bytes, then a later text":  {of("a", long, "", ""), api.ErrMany},
		"twice, then a later text":  {of("a", "", "a", "", "", ""), api.ErrTwice},
		"twice, then later bytes":   {of("b", "", "a", "", "c", long), api.ErrTwice},
		"a text, then later bytes":  {of("a", "", "", "", "c", long), api.ErrText},
		"a text, then later twice":  {of("", "", "a", "", "a", ""), api.ErrText},
	}
}

func TestCheckFiles(t *testing.T) {
	for name, l := range map[string][]api.File{
		"nil":          nil,
		"none":         {},
		"one":          of("a", ""),
		"no list":      {{Name: "a"}},
		"most":         full(),
		"most bytes":   of("a", many(api.MaxBytes), "b", many(api.MaxBytes)),
		"longest name": of("a", "", longest, ""),
		"by bytes":     of("0", "", "10", "", "9", "", "9a", "", "a", "", "a0", "", "aa", "", "b", ""),
		"any bytes":    of("a", "\x00\xff \n\n"),
	} {
		if e := CheckFiles(l); e != api.OK {
			t.Errorf("%s: %d", name, e)
		}
	}
	for name, x := range wrongFiles() {
		if e := CheckFiles(x.l); e != x.want {
			t.Errorf("%s: %d, want %d", name, e, x.want)
		}
	}
}

// TestErrorsOfFilesComeFirst hands in other wrong things, too.
func TestErrorsOfFilesComeFirst(t *testing.T) {
	long := []byte(many(api.MaxBytes + 1))
	wrong := []api.Line{{}}
	for name, x := range wrongFiles() {
		for _, key := range []string{"a", "", "A", "none"} {
			if b, e := Get(x.l, key); b != nil || e != x.want {
				t.Errorf("%s: got %q, %d; want %d", name, b, e, x.want)
			}
			if l, e := Put(x.l, key, nil); l != nil || e != x.want {
				t.Errorf("%s: put %v, %d; want %d", name, l, e, x.want)
			}
			if l, e := Put(x.l, key, long); l != nil || e != x.want {
				t.Errorf("%s: put long %v, %d; want %d", name, l, e, x.want)
			}
		}
		for _, from := range [][]string{nil, {"a"}, {"a", "b", "c"}, times(api.MaxSources+1, "a")} {
			if b, e := Gather(x.l, from); b != nil || e != x.want {
				t.Errorf("%s: gathered %q, %d; want %d", name, b, e, x.want)
			}
		}
		for _, s := range [][]api.Line{nil, wrong, make([]api.Line, api.MaxLines+1), {{From: []string{"a"}, To: "b"}}} {
			if l, e := Run(x.l, s); l != nil || e != x.want {
				t.Errorf("%s: ran %v, %d; want %d", name, l, e, x.want)
			}
		}
		if b, e := Line(x.l, api.Line{From: []string{"a"}, To: "b"}); b != nil || e != x.want {
			t.Errorf("%s: line %q, %d; want %d", name, b, e, x.want)
		}
	}
}

func TestGet(t *testing.T) {
	l := of("0", "zero", "a", "", "ab", "1\n2", "b", "\n", longest, many(api.MaxBytes))
	for name, want := range map[string]string{
		"0":         "zero",
		"a":         "",
		"ab":        "1\n2",
		"b":         "\n",
		longest:     many(api.MaxBytes),
		"1":         "",
		"aa":        "",
		"abc":       "",
		"z":         "",
		"":          "",
		"AB":        "",
		"ab ":       "",
		"ab\n":      "",
		longest[1:]: "",
	} {
		if b, e := Get(l, name); string(b) != want || e != api.OK {
			t.Errorf("%q: %q, %d; want %q", name, b, e, want)
		}
	}
	for _, l := range [][]api.File{nil, {}} {
		if b, e := Get(l, "a"); len(b) != 0 || e != api.OK {
			t.Errorf("no files: %q, %d", b, e)
		}
	}
	for _, f := range full() {
		if b, e := Get(full(), f.Name); string(b) != f.Name || e != api.OK {
			t.Errorf("%q of most: %q, %d", f.Name, b, e)
		}
	}
}

func TestPut(t *testing.T) {
	two := of("b", "2\n1", "d", "0")
	for _, x := range []struct {
		l        []api.File
		name, to string
		want     []api.File
	}{
		{nil, "a", "x", of("a", "x")},
		{nil, longest, "", of(longest, "")},
		{[]api.File{}, "a", "", of("a", "")},
		{two, "a", "x", of("a", "x", "b", "2\n1", "d", "0")},
		{two, "b", "x", of("b", "x", "d", "0")},
		{two, "c", "x", of("b", "2\n1", "c", "x", "d", "0")},
		{two, "d", "", of("b", "2\n1", "d", "")},
		{two, "e", "x\n", of("b", "2\n1", "d", "0", "e", "x\n")},
		{two, "bb", "", of("b", "2\n1", "bb", "", "d", "0")},
		{two, "0", "x", of("0", "x", "b", "2\n1", "d", "0")},
		{two, "b", many(api.MaxBytes), of("b", many(api.MaxBytes), "d", "0")},
		{two, "a", many(api.MaxBytes), of("a", many(api.MaxBytes), "b", "2\n1", "d", "0")},
		{full()[1:], "a", "a", full()},
		{full()[:api.MaxFiles-1], "z", "", append(full()[:api.MaxFiles-1], of("z", "")...)},
	} {
		if got, e := Put(x.l, x.name, []byte(x.to)); !told(got, x.want) || e != api.OK {
			t.Errorf("%q into %v: %v, %d; want %v", x.name, x.l, got, e, x.want)
		}
	}
	for i, f := range full() {
		want := full()
		want[i].B = nil
		if got, e := Put(full(), f.Name, nil); !told(got, want) || e != api.OK {
			t.Errorf("%q of most: %v, %d", f.Name, got, e)
		}
	}
}

// told holds files against each other without a call of the program.
func told(a, b []api.File) bool {
	if len(a) != len(b) {
		return false
	}
	for i := range a {
		if a[i].Name != b[i].Name || string(a[i].B) != string(b[i].B) {
			return false
		}
	}
	return true
}

func TestPutOfWrongThings(t *testing.T) {
	two := of("b", "2\n1", "d", "0")
	long := many(api.MaxBytes + 1)
	for _, x := range []struct {
		l        []api.File
		name, to string
		want     api.Errno
	}{
		{two, "", "", api.ErrText},
		{two, "A", "", api.ErrText},
		{two, "b d", "", api.ErrText},
		{two, longest + "z", "", api.ErrText},
		{two, "", long, api.ErrText},
		{full(), "", "", api.ErrText},
		{full(), "Z", long, api.ErrText},
		{two, "b", long, api.ErrMany},
		{two, "c", long, api.ErrMany},
		{nil, "c", long, api.ErrMany},
		{full(), "a", long, api.ErrMany},
		{full(), "z", long, api.ErrMany},
		{full(), "z", "", api.ErrMany},
		{full(), "0", "x", api.ErrMany},
		{full(), "aa", "x", api.ErrMany},
	} {
		if l, e := Put(x.l, x.name, []byte(x.to)); l != nil || e != x.want {
			t.Errorf("%q: %v, %d; want %d", x.name, l, e, x.want)
		}
	}
}

func TestSame(t *testing.T) {
	long := of("a", many(api.MaxBytes+1))
	alike := [][]api.File{
		nil, of("a", ""), of("a", "x"), of("a", "y"), of("b", "x"), of("a", "x\n"),
		of("a", "x", "b", "x"), of("b", "x", "a", "x"), of("a", "x", "a", "x"), of("a", "", "b", ""),
		of("", ""), of("", "", "", ""), of("A", "x"), make([]api.File, api.MaxFiles+1), make([]api.File, api.MaxFiles+2),
		full(), long, append(full(), long...),
	}
	for i, a := range alike {
		for j, b := range alike {
			if got := Same(a, b); got != (i == j) {
				t.Errorf("%d and %d: %t", i, j, got)
			}
		}
		if !Same(a, slices.Clone(a)) {
			t.Errorf("%d and a copy of it differ", i)
		}
	}
	if !Same(nil, []api.File{}) || !Same([]api.File{}, nil) {
		t.Error("no files, nil and empty, differ")
	}
	if !Same([]api.File{{Name: "a"}}, []api.File{{Name: "a", B: []byte{}}}) {
		t.Error("no bytes, nil and empty, differ")
	}
}

func TestGather(t *testing.T) {
	l := of("0", "", "a", "2\n1", "b", "0", "c", "x\ny\n", "d", "\n", "e", "\n\nz", "f", " ")
	for _, x := range []struct {
		from []string
		want string
	}{
		{nil, ""},
		{[]string{}, ""},
		{[]string{"0"}, ""},
		{[]string{"a"}, "2\n1\n"},
		{[]string{"b", "a", "b"}, "0\n2\n1\n0\n"},
		{[]string{"c", "c"}, "x\ny\nx\ny\n"},
		{[]string{"a", "c", "b"}, "2\n1\nx\ny\n0\n"},
		{[]string{"d"}, "\n"},
		{[]string{"d", "e", "d"}, "\n\n\nz\n\n"},
		{[]string{"f", "0", "f"}, " \n \n"},
		{[]string{"x"}, ""},
		{[]string{"x", "a", "y", "b"}, "2\n1\n0\n"},
		{[]string{"", "A", "a b", longest + "z"}, ""},
		{[]string{"", "b", "\n"}, "0\n"},
		{times(api.MaxSources, "a"), "2\n1\n2\n1\n2\n1\n2\n1\n"},
	} {
		if b, e := Gather(l, x.from); string(b) != x.want || e != api.OK {
			t.Errorf("%q: %q, %d; want %q", x.from, b, e, x.want)
		}
	}
	if b, e := Gather(nil, []string{"a"}); len(b) != 0 || e != api.OK {
		t.Errorf("no files: %q, %d", b, e)
	}
}

func TestGatherOfMany(t *testing.T) {
	half := many(api.MaxBytes / 2)
	odd := half[:len(half)-1]
	open := strings.Repeat("x", api.MaxBytes-1)
	l := of("a", many(api.MaxBytes), "b", half, "c", odd, "d", half[:len(half)-2], "e", "\n", "f", open, "g", open+"x", "h", "")
	for _, x := range []struct {
		from []string
		want api.Errno
	}{
		{[]string{"a"}, api.OK},
		{[]string{"a", "none", "h"}, api.OK},
		{[]string{"a", "e"}, api.ErrMany},
		{[]string{"e", "a"}, api.ErrMany},
		{[]string{"a", "e", "h"}, api.ErrMany},
		{[]string{"b", "b"}, api.OK},
		{[]string{"b", "b", "e"}, api.ErrMany},
		{[]string{"c", "c"}, api.OK}, // the ends that these get are just the room that is left
		{[]string{"c", "c", "e"}, api.ErrMany},
		{[]string{"d", "b", "e", "e"}, api.OK},
		{[]string{"d", "c", "e", "e"}, api.OK},
		{[]string{"b", "c", "e"}, api.ErrMany},
		{[]string{"f"}, api.OK},
		{[]string{"f", "e"}, api.ErrMany},
		{[]string{"g"}, api.ErrMany}, // its end is one byte too many
		{[]string{"none", "g", "none"}, api.ErrMany},
		{times(api.MaxSources, "a"), api.ErrMany},
		{times(api.MaxSources, "e"), api.OK},
		{times(api.MaxSources+1, "e"), api.ErrMany},
		{times(api.MaxSources+1, "none"), api.ErrMany},
		{times(api.MaxSources+1, ""), api.ErrMany},
	} {
		b, e := Gather(l, x.from)
		if e != x.want || e != api.OK && b != nil || e == api.OK && (len(b) > api.MaxBytes || b[len(b)-1] != '\n') {
			t.Errorf("%q: %d bytes, %d; want %d", x.from, len(b), e, x.want)
		}
	}
}

// parsed answers the script that a text is.
func parsed(t *testing.T, s string) []api.Line {
	t.Helper()
	l, at, e := script.Parse(s)
	if e != api.OK {
		t.Fatalf("%q: line %d: %d", s, at, e)
	}
	return l
}

func TestLine(t *testing.T) {
	l := of("a", "b x\na y\nb x", "b", "c z\n", "c", "", "d", "a\n\n\na")
	for s, want := range map[string]string{
		"a > z\n":                                    "b x\na y\nb x\n",
		"a > a\n":                                    "b x\na y\nb x\n",
		"a b > z\n":                                  "b x\na y\nb x\nc z\n",
		"b a > z\n":                                  "c z\nb x\na y\nb x\n",
		"c > z\n":                                    "",
		"none > z\n":                                 "",
		"none | count > z\n":                         "0\n",
		"c | count | count > z\n":                    "1\n",
		"a | turn > z\n":                             "x b\ny a\nx b\n",
		"a b | sort > z\n":                           "a y\nb x\nb x\nc z\n",
		"a | once > z\n":                             "b x\na y\nb x\n",
		"a | sort | once > z\n":                      "a y\nb x\n",
		"a | once | sort > z\n":                      "a y\nb x\nb x\n",
		"a | head 2 | tail 1 > z\n":                  "a y\n",
		"a | tail 2 | head 1 > z\n":                  "a y\n",
		"a | tail 1 | head 2 > z\n":                  "b x\n",
		"a b | field 2 > z\n":                        "x\ny\nx\nz\n",
		"a b | field 3 | count > z\n":                "4\n",
		"a b | keep x | swap bq > z\n":               "q x\nq x\n",
		"a b | swap bq | keep b > z\n":               "",
		"a b | drop x | turn | sort | field 1 > z\n": "y\nz\n",
		"d | once | sort | count > z\n":              "3\n",
		"d | sort | once | count > z\n":              "2\n",
		"a b d | sort | once | turn | field 1 | sort | head 3 > z\n": "\na\nx\n",
	} {
		if b, e := Line(l, parsed(t, s)[0]); string(b) != want || e != api.OK {
			t.Errorf("%q: %q, %d; want %q", s, b, e, want)
		}
	}
	if b, e := Line(nil, api.Line{From: []string{"a"}, To: "b"}); len(b) != 0 || e != api.OK {
		t.Errorf("no files: %q, %d", b, e)
	}
}

// wrongLines answers lines with what chapter 4 tells of each.
func wrongLines() map[string]struct {
	x    api.Line
	want api.Errno
} {
	a := []string{"a"}
	return map[string]struct {
		x    api.Line
		want api.Errno
	}{
		"nothing":       {api.Line{}, api.ErrMany},
		"no From":       {api.Line{To: "b"}, api.ErrMany},
		"many From":     {api.Line{From: times(api.MaxSources+1, "a"), To: "b"}, api.ErrMany},
		"many commands": {api.Line{From: a, Do: times(api.MaxCommands+1, api.Command{Kind: api.Sort}), To: "b"}, api.ErrMany},
		"From no word":  {api.Line{From: []string{"a", ""}, To: "b"}, api.ErrText},
		"To no word":    {api.Line{From: a, To: "B"}, api.ErrText},
		"no command":    {api.Line{From: a, Do: []api.Command{{Kind: api.Sort}, {}}, To: "b"}, api.ErrForm},
		"no N":          {api.Line{From: a, Do: []api.Command{{Kind: api.Head}}, To: "b"}, api.ErrRange},
		"no Word":       {api.Line{From: a, Do: []api.Command{{Kind: api.Keep}}, To: "b"}, api.ErrText},
	}
}

// TestLineTellsOfItselfFirst: what is wrong with the line comes ahead of what is wrong with the files, and of bytes.
func TestLineTellsOfItselfFirst(t *testing.T) {
	for name, x := range wrongLines() {
		for _, l := range [][]api.File{nil, of("a", "x"), of("a", "", "a", ""), of("", ""), make([]api.File, api.MaxFiles+1), of("a", strings.Repeat("x", api.MaxBytes))} {
			if b, e := Line(l, x.x); b != nil || e != x.want {
				t.Errorf("%s: %q, %d; want %d", name, b, e, x.want)
			}
		}
	}
	l := of("a", many(api.MaxBytes), "b", "\n", "c", strings.Repeat("x", api.MaxBytes))
	for s, want := range map[string]api.Errno{
		"a | sort > z\n":            api.OK,
		"a | sort | turn > a\n":     api.OK,
		"a b | head 1 > z\n":        api.ErrMany, // though what it makes is little
		"c | count > z\n":           api.ErrMany,
		"none none b | count > z\n": api.OK,
	} {
		if b, e := Line(l, parsed(t, s)[0]); e != want || (b == nil) != (e != api.OK) {
			t.Errorf("%q: %d bytes, %d; want %d", s, len(b), e, want)
		}
	}
}

func TestRun(t *testing.T) {
	l := of("a", "2\n1", "b", "0")
	for s, want := range map[string][]api.File{
		"":                                    l,
		"a > a\n":                             of("a", "2\n1\n", "b", "0"),
		"none > a\n":                          of("a", "", "b", "0"),
		"none > none\n":                       of("a", "2\n1", "b", "0", "none", ""),
		"a > ab\n":                            of("a", "2\n1", "ab", "2\n1\n", "b", "0"),
		"b > 0\n":                             of("0", "0\n", "a", "2\n1", "b", "0"),
		"a b x | sort > c\nc | count > a\n":   of("a", "3\n", "b", "0", "c", "0\n1\n2\n"),
		"c | count > a\na b x | sort > c\n":   of("a", "0\n", "b", "0", "c", "0\n0\n"),
		"a a > a\na a > a\n":                  of("a", "2\n1\n2\n1\n2\n1\n2\n1\n", "b", "0"),
		"a > c\nb > a\nc > b\n":               of("a", "0\n", "b", "2\n1\n", "c", "2\n1\n"),
		"a > z\na > y\na > x\na > w\na > v\n": of("a", "2\n1", "b", "0", "v", "2\n1\n", "w", "2\n1\n", "x", "2\n1\n", "y", "2\n1\n", "z", "2\n1\n"),
		"a b | sort | head 1 > z\nz z | once > b\n": of("a", "2\n1", "b", "0\n", "z", "0\n"),
	} {
		if got, e := Run(l, parsed(t, s)); !told(got, want) || e != api.OK {
			t.Errorf("%q: %v, %d; want %v", s, got, e, want)
		}
	}
	for _, l := range [][]api.File{nil, {}} {
		if got, e := Run(l, nil); len(got) != 0 || e != api.OK {
			t.Errorf("nothing: %v, %d", got, e)
		}
		if got, e := Run(l, parsed(t, "a > b\nb | count > c\n")); !told(got, of("b", "", "c", "0\n")) || e != api.OK {
			t.Errorf("no files: %v, %d", got, e)
		}
	}
}

func TestRunOfWrongScripts(t *testing.T) {
	fine := api.Line{From: []string{"a"}, To: "b"}
	late := api.Line{From: []string{"a", "a"}, To: "b"} // more bytes than there may be, if it comes to it
	l := of("a", many(api.MaxBytes))
	for name, x := range wrongLines() {
		for at := range api.MaxLines {
			for _, other := range []api.Line{fine, late} {
				s := times(api.MaxLines, other)
				s[at] = x.x
				if got, e := Run(l, s); got != nil || e != x.want {
					t.Errorf("%s as line %d: %v, %d; want %d", name, at, got, e, x.want)
				}
			}
		}
	}
	if got, e := Run(l, times(api.MaxLines, fine)); len(got) != 2 || e != api.OK {
		t.Errorf("most lines: %v, %d", got, e)
	}
	for _, x := range []api.Line{fine, {}, {From: []string{""}}} {
		if got, e := Run(l, times(api.MaxLines+1, x)); got != nil || e != api.ErrMany {
			t.Errorf("too many lines: %v, %d", got, e)
		}
	}
}

func TestRunOfMany(t *testing.T) {
	for s, want := range map[string]api.Errno{
		"a > a\n":                   api.OK,
		"a > l\n":                   api.OK,
		"a > z\n":                   api.ErrMany, // there are as many files as there may be
		"a > a\nb > b\nc > z\n":     api.ErrMany,
		"a a a a > a\na a > b\n":    api.OK,
		"none | count > 0\n":        api.ErrMany,
		"a > b\nb > c\nc > a\n":     api.OK,
		"a > aa\na > a\n":           api.ErrMany,
		"none > a\nnone none > l\n": api.OK,
	} {
		got, e := Run(full(), parsed(t, s))
		if e != want || e == api.OK && len(got) != api.MaxFiles || e != api.OK && got != nil {
			t.Errorf("%q: %v, %d; want %d", s, got, e, want)
		}
	}
	// Files grow from line to line till they are too long.
	l := of("a", many(api.MaxBytes/4))
	for s, want := range map[string]api.Errno{
		"a a > a\na a > a\n":                     api.OK,
		"a a > a\na a > a\na a > a\n":            api.ErrMany,
		"a a a a > a\na > b\na b | head 1 > c\n": api.ErrMany,
	} {
		if got, e := Run(l, parsed(t, s)); e != want || (got == nil) != (e != api.OK) {
			t.Errorf("%q: %d files, %d; want %d", s, len(got), e, want)
		}
	}
	// One file more than all but one.
	if got, e := Run(full()[1:], parsed(t, "b > z\n")); len(got) != api.MaxFiles || e != api.OK {
		t.Errorf("the last one: %v, %d", got, e)
	}
	if got, e := Run(full()[1:], parsed(t, "b > z\nb > zz\n")); got != nil || e != api.ErrMany {
		t.Errorf("one more: %v, %d", got, e)
	}
}

// theLongWay keeps files in a map, and counts bytes by itself.
func theLongWay(l []api.File, s []api.Line) ([]api.File, api.Errno) {
	texts := map[string]string{}
	for _, f := range l {
		texts[f.Name] = string(f.B)
	}
	for _, x := range s {
		b := ""
		for _, name := range x.From {
			b += texts[name]
			if b != "" && !strings.HasSuffix(b, "\n") {
				b += "\n"
			}
		}
		if len(b) > api.MaxBytes {
			return nil, api.ErrMany
		}
		for _, c := range x.Do {
			made, _ := command.Do(c, []byte(b))
			b = string(made)
		}
		if texts[x.To] = b; len(texts) > api.MaxFiles {
			return nil, api.ErrMany
		}
	}
	var out []api.File
	for name, b := range texts {
		out = append(out, api.File{Name: name, B: []byte(b)})
	}
	sort.Slice(out, func(i, j int) bool { return out[i].Name < out[j].Name })
	return out, api.OK
}

// drawn answers some files and a script over them with which nothing is wrong.
func drawn(r *rand.Rand) ([]api.File, []api.Line) {
	name := func() string { return string(rune('a' + r.Intn(api.MaxFiles+2))) }
	var l []api.File
	for i := range api.MaxFiles + 2 {
		if r.Intn(4) == 0 || len(l) == api.MaxFiles {
			continue
		}
		b := make([]byte, r.Intn(12))
		if r.Intn(30) == 0 {
			b = make([]byte, r.Intn(api.MaxBytes+1))
		}
		for j := range b {
			b[j] = "ab \n"[r.Intn(4)]
		}
		l = append(l, api.File{Name: string(rune('a' + i)), B: b})
	}
	sound := []api.Command{
		{Kind: api.Keep, Word: "a"}, {Kind: api.Drop, Word: "ab"}, {Kind: api.Swap, Word: "ab"}, {Kind: api.Field, N: 1}, {Kind: api.Field, N: 2},
		{Kind: api.Turn}, {Kind: api.Sort}, {Kind: api.Once}, {Kind: api.Count}, {Kind: api.Head, N: 2}, {Kind: api.Tail, N: 3},
	}
	s := make([]api.Line, r.Intn(api.MaxLines+1))
	for i := range s {
		for range 1 + r.Intn(api.MaxSources) {
			s[i].From = append(s[i].From, name())
		}
		for range r.Intn(api.MaxCommands + 1) {
			s[i].Do = append(s[i].Do, sound[r.Intn(len(sound))])
		}
		s[i].To = name()
	}
	return l, s
}

func TestRunAgainstTheLongWay(t *testing.T) {
	r := rand.New(rand.NewSource(6))
	fine, refused := 0, 0
	for range 5000 {
		l, s := drawn(r)
		want, wrong := theLongWay(l, s)
		got, e := Run(l, s)
		if e != wrong || !told(got, want) || !Same(got, want) {
			t.Fatalf("%v over %v: %v, %d; want %v, %d", s, l, got, e, want, wrong)
		}
		if CheckFiles(got) != api.OK {
			t.Fatalf("%v over %v: %v, which are no files", s, l, got)
		}
		if e == api.OK {
			fine++
		} else {
			refused++
		}
	}
	if fine < 1000 || refused < 100 {
		t.Errorf("only %d scripts that run, %d that don't", fine, refused)
	}
}

// TestPutAndGet: what was put is there, all else is as it was.
func TestPutAndGet(t *testing.T) {
	r := rand.New(rand.NewSource(7))
	for range 2000 {
		l, _ := drawn(r)
		name := string(rune('a' + r.Intn(api.MaxFiles+2)))
		files, e := Put(l, name, []byte("new"))
		if e != api.OK {
			continue
		}
		for i := range api.MaxFiles + 2 {
			other := string(rune('a' + i))
			want, _ := Get(l, other)
			if other == name {
				want = []byte("new")
			}
			if got, e := Get(files, other); !bytes.Equal(got, want) || e != api.OK {
				t.Fatalf("%q of %v: %q, %d; want %q", other, files, got, e, want)
			}
		}
	}
}

// spare answers files with room behind them, and behind their bytes.
func spare() []api.File {
	return []api.File{
		{Name: "a", B: []byte("2\n1spare")[:3]},
		{Name: "c", B: []byte("0spare")[:1]},
		{Name: "d", B: []byte("spare")[:0]},
		{Name: "spare", B: []byte("spare")},
		{Name: "spare", B: []byte("spare")},
	}[:3]
}

// whole answers files with all the room that they have.
func whole(l []api.File) []api.File {
	all := slices.Clone(l[:cap(l)])
	for i := range all {
		all[i].B = all[i].B[:cap(all[i].B)]
	}
	return all
}

// TestWhatIsHandedInStays looks at the spare room behind the lists, too.
func TestWhatIsHandedInStays(t *testing.T) {
	text := "a c x | sort > b\nb | swap 1z | turn > a\na b | sort | head 2 > c\n"
	s, again := parsed(t, text), parsed(t, text)
	l := spare()
	from, b := []string{"c", "a", "spare"}[:2], []byte("newspare")[:3]
	CheckFiles(l)
	Same(l, l)
	Get(l, "a")
	Gather(l, from)
	for _, name := range []string{"0", "a", "b", "c", "d", "e"} {
		Put(l, name, b)
	}
	Line(l, s[0])
	Run(l, s)
	if got, want := whole(l), whole(spare()); !reflect.DeepEqual(got, want) {
		t.Errorf("changed: %q, want %q", got, want)
	}
	if !reflect.DeepEqual(s, again) {
		t.Errorf("changed: %v, want %v", s, again)
	}
	if from[:3][2] != "spare" || from[0] != "c" || string(b[:8]) != "newspare" {
		t.Errorf("changed: %q, %q", from[:3], b[:8])
	}
}

// spoil writes into all the room of some bytes.
func spoil(b []byte) {
	b = b[:cap(b)]
	for i := range b {
		b[i] = '!'
	}
}

// TestAnswersAreNew spoils what was handed in: what was answered stays; and then each list of the answer: the others stay.
func TestAnswersAreNew(t *testing.T) {
	for name, f := range map[string]func(l []api.File, b []byte) []api.File{
		"put a new one": func(l []api.File, b []byte) []api.File { l, _ = Put(l, "b", b); return l },
		"put again":     func(l []api.File, b []byte) []api.File { l, _ = Put(l, "c", b); return l },
		"put the same":  func(l []api.File, b []byte) []api.File { l, _ = Put(l, "c", l[1].B); return l },
		"put another's": func(l []api.File, b []byte) []api.File { l, _ = Put(l, "e", l[0].B); return l },
		"run nothing":   func(l []api.File, b []byte) []api.File { l, _ = Run(l, nil); return l },
		"run a copy":    func(l []api.File, b []byte) []api.File { l, _ = Run(l, parsed(t, "a > b\nb > d\nb > e\n")); return l },
		"get":           func(l []api.File, b []byte) []api.File { b, _ = Get(l, "a"); return []api.File{{B: b}} },
		"gather":        func(l []api.File, b []byte) []api.File { b, _ = Gather(l, []string{"a"}); return []api.File{{B: b}} },
		"line": func(l []api.File, b []byte) []api.File {
			b, _ = Line(l, parsed(t, "a > z\n")[0])
			return []api.File{{B: b}}
		},
	} {
		want := f(spare(), []byte("new"))
		l, b := spare(), []byte("new")
		got := f(l, b)
		spoil(b)
		for i, x := range l {
			spoil(x.B)
			l[i] = api.File{Name: "spoilt"}
		}
		if !told(got, want) {
			t.Errorf("%s: spoilt with what was handed in: %q, want %q", name, got, want)
		}
		for i := range got {
			spoil(got[i].B)
			if !told(got[i+1:], want[i+1:]) {
				t.Errorf("%s: list %d spoils others: %q", name, i, got)
			}
		}
	}
}
