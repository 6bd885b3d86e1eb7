package script

import (
	"fmt"
	"math/rand"
	"reflect"
	"slices"
	"strconv"
	"strings"
	"testing"

	"gangsaw/api"
	"gangsaw/command"
)

const (
	most     = int(^uint(0) >> 1)
	smallest = -most - 1
)

var longest = strings.Repeat("z", api.MaxWord)

// times answers a list of so many of the same.
func times[T any](n int, x T) []T { return slices.Repeat([]T{x}, n) }

// every answers a command of each kind, with the text that it is.
func every() map[api.Command]string {
	return map[api.Command]string{
		{Kind: api.Keep, Word: "a"}:       "keep a",
		{Kind: api.Keep, Word: "keep"}:    "keep keep",
		{Kind: api.Keep, Word: longest}:   "keep " + longest,
		{Kind: api.Drop, Word: "0"}:       "drop 0",
		{Kind: api.Swap, Word: "a9"}:      "swap a9",
		{Kind: api.Field, N: 1}:           "field 1",
		{Kind: api.Field, N: api.MaxN}:    "field " + strconv.Itoa(api.MaxN),
		{Kind: api.Turn}:                  "turn",
		{Kind: api.Sort}:                  "sort",
		{Kind: api.Once}:                  "once",
		{Kind: api.Count}:                 "count",
		{Kind: api.Head, N: 10}:           "head 10",
		{Kind: api.Head, N: api.MaxN}:     "head " + strconv.Itoa(api.MaxN),
		{Kind: api.Tail, N: 7}:            "tail 7",
		{Kind: api.Tail, N: api.MaxN - 1}: "tail " + strconv.Itoa(api.MaxN-1),
	}
}

// plain answers a line with which nothing is wrong.
func plain() api.Line {
	return api.Line{From: []string{"a"}, Do: []api.Command{{Kind: api.Sort}}, To: "b"}
}

// fullest answers the longest line with which nothing is wrong.
func fullest() api.Line {
	return api.Line{
		From: times(api.MaxSources, longest),
		Do:   times(api.MaxCommands, api.Command{Kind: api.Keep, Word: longest}),
		To:   longest,
	}
}

// wrongLines answers lines with what is told of each.
func wrongLines() map[string]struct {
	l    api.Line
	want api.Errno
} {
	one, sorts := []string{"a"}, func(n int) []api.Command { return times(n, api.Command{Kind: api.Sort}) }
	return map[string]struct {
		l    api.Line
		want api.Errno
	}{
		"nothing at all":      {api.Line{}, api.ErrMany},
		"no sources":          {api.Line{From: []string{}, To: "b"}, api.ErrMany},
		"too many sources":    {api.Line{From: times(api.MaxSources+1, "a"), To: "b"}, api.ErrMany},
		"too many commands":   {api.Line{From: one, Do: sorts(api.MaxCommands + 1), To: "b"}, api.ErrMany},
		"an empty source":     {api.Line{From: []string{""}, To: "b"}, api.ErrText},
		"a great letter":      {api.Line{From: []string{"a", "A"}, To: "b"}, api.ErrText},
		"a long source":       {api.Line{From: []string{"a", "b", "c", longest + "z"}, To: "b"}, api.ErrText},
		"no To":               {api.Line{From: one}, api.ErrText},
		"a long To":           {api.Line{From: one, To: longest + "z"}, api.ErrText},
		"a blank in To":       {api.Line{From: one, To: "b b"}, api.ErrText},
		"a feed in To":        {api.Line{From: one, To: "b\n"}, api.ErrText},
		"no kind":             {api.Line{From: one, Do: []api.Command{{}}, To: "b"}, api.ErrForm},
		"a kind too high":     {api.Line{From: one, Do: []api.Command{{Kind: api.Tail + 1}}, To: "b"}, api.ErrForm},
		"a needless word":     {api.Line{From: one, Do: []api.Command{{Kind: api.Sort, Word: "a"}}, To: "b"}, api.ErrForm},
		"N is 0":              {api.Line{From: one, Do: []api.Command{{Kind: api.Head}}, To: "b"}, api.ErrRange},
		"N is too great":      {api.Line{From: one, Do: []api.Command{{Kind: api.Tail, N: api.MaxN + 1}}, To: "b"}, api.ErrRange},
		"no word":             {api.Line{From: one, Do: []api.Command{{Kind: api.Keep}}, To: "b"}, api.ErrText},
		"a swap of one":       {api.Line{From: one, Do: []api.Command{{Kind: api.Swap, Word: "a"}}, To: "b"}, api.ErrText},
		"many, then text":     {api.Line{From: times(api.MaxSources+1, "A"), To: ""}, api.ErrMany},
		"many, then form":     {api.Line{From: one, Do: make([]api.Command, api.MaxCommands+1), To: "B"}, api.ErrMany},
		"text, then form":     {api.Line{From: []string{"A"}, Do: []api.Command{{}}, To: "b"}, api.ErrText},
		"To, then form":       {api.Line{From: one, Do: []api.Command{{}}, To: "B"}, api.ErrText},
		"the first of them":   {api.Line{From: one, Do: []api.Command{{Kind: api.Head}, {}}, To: "b"}, api.ErrRange},
		"the second of three": {api.Line{From: one, Do: []api.Command{{Kind: api.Turn}, {}, {Kind: api.Head}}, To: "b"}, api.ErrForm},
	}
}

func TestCheckLine(t *testing.T) {
	for name, l := range map[string]api.Line{
		"plain":      plain(),
		"fullest":    fullest(),
		"no command": {From: []string{"a"}, To: "a"},
		"the same":   {From: []string{"a", "a"}, Do: []api.Command{}, To: "a"},
	} {
		if e := CheckLine(l); e != api.OK {
			t.Errorf("%s: %d", name, e)
		}
	}
	for c := range every() {
		if e := CheckLine(api.Line{From: []string{"a"}, Do: []api.Command{c}, To: "b"}); e != api.OK {
			t.Errorf("%v: %d", c, e)
		}
	}
	for name, x := range wrongLines() {
		if e := CheckLine(x.l); e != x.want {
			t.Errorf("%s: %d, want %d", name, e, x.want)
		}
	}
}

func TestCheck(t *testing.T) {
	for n := range api.MaxLines + 1 {
		if e := Check(times(n, fullest())); e != api.OK {
			t.Errorf("%d lines: %d", n, e)
		}
	}
	if e := Check(times(api.MaxLines+1, plain())); e != api.ErrMany {
		t.Errorf("too many lines: %d", e)
	}
	form, text := plain(), plain()
	form.Do, text.To = []api.Command{{}}, "B"
	if e := Check(times(api.MaxLines+1, text)); e != api.ErrMany {
		t.Errorf("too many lines, all wrong: %d", e)
	}
	if e := Check([]api.Line{plain(), form, text}); e != api.ErrForm {
		t.Errorf("form ahead of text: %d", e)
	}
	if e := Check([]api.Line{plain(), text, form}); e != api.ErrText {
		t.Errorf("text ahead of form: %d", e)
	}
	for name, x := range wrongLines() {
		for i := range api.MaxLines {
			l := times(api.MaxLines, plain())
			l[i] = x.l
			if e := Check(l); e != x.want {
				t.Errorf("%s as line %d: %d, want %d", name, i, e, x.want)
			}
		}
	}
}

func TestPrint(t *testing.T) {
	for want, l := range map[string][]api.Line{
		"":                   {},
		"a | sort > b\n":     {plain()},
		"a > a\n":            {{From: []string{"a"}, To: "a"}},
		"a b a > c\na > d\n": {{From: []string{"a", "b", "a"}, To: "c"}, {From: []string{"a"}, To: "d"}},
		"a b | keep x | head 3 | sort > c\nc > d\n": {
			{From: []string{"a", "b"}, Do: []api.Command{{Kind: api.Keep, Word: "x"}, {Kind: api.Head, N: 3}, {Kind: api.Sort}}, To: "c"},
			{From: []string{"c"}, To: "d"},
		},
	} {
		if s, e := Print(l); s != want || e != api.OK {
			t.Errorf("%v: %q, %d; want %q", l, s, e, want)
		}
	}
	if s, e := Print(nil); s != "" || e != api.OK {
		t.Errorf("nil: %q, %d", s, e)
	}
	for c, text := range every() {
		want := "0 | " + text + " | turn > " + longest + "\n"
		l := []api.Line{{From: []string{"0"}, Do: []api.Command{c, {Kind: api.Turn}}, To: longest}}
		if s, e := Print(l); s != want || e != api.OK {
			t.Errorf("%v: %q, %d; want %q", c, s, e, want)
		}
	}
	if s, e := Print(times(api.MaxLines+1, plain())); s != "" || e != api.ErrMany {
		t.Errorf("too many lines: %q, %d", s, e)
	}
	for name, x := range wrongLines() {
		if s, e := Print([]api.Line{plain(), x.l}); s != "" || e != x.want {
			t.Errorf("%s: %q, %d; want \"\", %d", name, s, e, x.want)
		}
	}
}

func TestParse(t *testing.T) {
	for s, want := range map[string][]api.Line{
		"":                          nil,
		"a | sort > b\n":            {plain()},
		"a > a\n":                   {{From: []string{"a"}, To: "a"}},
		"a b a > c\na > d\n":        {{From: []string{"a", "b", "a"}, To: "c"}, {From: []string{"a"}, To: "d"}},
		"keep | keep keep > keep\n": {{From: []string{"keep"}, Do: []api.Command{{Kind: api.Keep, Word: "keep"}}, To: "keep"}},
		"1 2 | tail 9 | field 1 > 3\n": {
			{From: []string{"1", "2"}, Do: []api.Command{{Kind: api.Tail, N: 9}, {Kind: api.Field, N: 1}}, To: "3"},
		},
	} {
		got, at, e := Parse(s)
		if !alike(got, want) || at != 0 || e != api.OK {
			t.Errorf("%q: %v, %d, %d; want %v", s, got, at, e, want)
		}
	}
	for c, text := range every() {
		s := "a > b\n0 | turn | " + text + " > " + longest + "\n"
		want := []api.Command{{Kind: api.Turn}, c}
		if l, at, e := Parse(s); e != api.OK || at != 0 || len(l) != 2 || !slices.Equal(l[1].Do, want) {
			t.Errorf("%q: %v, %d, %d", s, l, at, e)
		}
	}
}

// alike tells whether two scripts are the same, be lists that have nothing in them nil or empty.
func alike(a, b []api.Line) bool {
	return slices.EqualFunc(a, b, func(x, y api.Line) bool {
		return slices.Equal(x.From, y.From) && slices.Equal(x.Do, y.Do) && x.To == y.To
	})
}

// wrongRows answers rows of a text with what is told of each.
func wrongRows() map[string]api.Errno {
	return map[string]api.Errno{
		"":                                api.ErrText,
		" ":                               api.ErrText,
		"a":                               api.ErrText,
		"a >":                             api.ErrText,
		"a > ":                            api.ErrText,
		"> b":                             api.ErrText,
		" > b":                            api.ErrText,
		" > ":                             api.ErrText,
		"a>b":                             api.ErrText,
		"a> b":                            api.ErrText,
		"a >b":                            api.ErrText,
		"a  > b":                          api.ErrText,
		"a >  b":                          api.ErrText,
		" a > b":                          api.ErrText,
		"a > b ":                          api.ErrText,
		"a > b\r":                         api.ErrText,
		"a\t> b":                          api.ErrText,
		"a  b > c":                        api.ErrText,
		"a > b > c":                       api.ErrText,
		"a > > b":                         api.ErrText,
		"a > b | sort":                    api.ErrText,
		"a | > b":                         api.ErrText,
		"a |  > b":                        api.ErrText,
		"| sort > b":                      api.ErrText,
		" | sort > b":                     api.ErrText,
		"a | sort |  > b":                 api.ErrText,
		"a |  | sort > b":                 api.ErrText,
		"a | | sort > b":                  api.ErrText,
		"a| sort > b":                     api.ErrText,
		"a |sort > b":                     api.ErrText,
		"a |  sort > b":                   api.ErrText,
		"a | x > b":                       api.ErrText,
		"a | Sort > b":                    api.ErrText,
		"a | sor > b":                     api.ErrText,
		"a | sorts > b":                   api.ErrText,
		"a | sort  > b":                   api.ErrText,
		"a | sort 1 > b":                  api.ErrText,
		"a | turn x > b":                  api.ErrText,
		"a | once 0 > b":                  api.ErrText,
		"a | count 2 > b":                 api.ErrText,
		"a | keep > b":                    api.ErrText,
		"a | keep  > b":                   api.ErrText,
		"a | drop > b":                    api.ErrText,
		"a | swap > b":                    api.ErrText,
		"a | keep X > b":                  api.ErrText,
		"a | keep a b > b":                api.ErrText,
		"a | keep  a > b":                 api.ErrText,
		"a | swap a > b":                  api.ErrText,
		"a | swap abc > b":                api.ErrText,
		"a | head > b":                    api.ErrText,
		"a | head  > b":                   api.ErrText,
		"a | tail > b":                    api.ErrText,
		"a | field > b":                   api.ErrText,
		"a | head x > b":                  api.ErrText,
		"a | head 01 > b":                 api.ErrText,
		"a | head +1 > b":                 api.ErrText,
		"a | head -0 > b":                 api.ErrText,
		"a | head 1_0 > b":                api.ErrText,
		"a | head 0x1 > b":                api.ErrText,
		"a | head 1  > b":                 api.ErrText,
		"a | head  1 > b":                 api.ErrText,
		"a | head 1 1 > b":                api.ErrText,
		"a | tail -01 > b":                api.ErrText,
		"A > b":                           api.ErrText,
		"a > B":                           api.ErrText,
		longest + "z > b":                 api.ErrText,
		"a > " + longest + "z":            api.ErrText,
		"a | head 0 > b":                  api.ErrRange,
		"a | head -1 > b":                 api.ErrRange,
		"a | field 0 > b":                 api.ErrRange,
		"a | tail 1001 > b":               api.ErrRange,
		"a b c d a > e":                   api.ErrMany,
		"a  b c d > e":                    api.ErrMany,
		"    > b":                         api.ErrText,
		"     > b":                        api.ErrMany,
		"a | " + strconv.Itoa(1) + " > b": api.ErrText,
		"a | head " + strconv.Itoa(most) + " > b":                   api.ErrRange,
		"a | head " + strconv.Itoa(smallest) + " > b":               api.ErrRange,
		"a | head " + strconv.Itoa(most) + "0 > b":                  api.ErrText,
		"a | head -9223372036854775809 > b":                         api.ErrText,
		"a" + strings.Repeat(" | sort", api.MaxCommands+1) + " > b": api.ErrMany,
		"a" + strings.Repeat(" | sort", api.MaxCommands) + " | > b": api.ErrText,
		"a b c d a | sort 1 > e":                                    api.ErrText, // not written so comes first
		"a b c d a | head 01 > e":                                   api.ErrText,
		"a b c d a | keep > e":                                      api.ErrText,
		"a b c d a | keep A > e":                                    api.ErrMany, // a Word may be of any kind
		"a b c d a | keep x y > e":                                  api.ErrMany,
		"a b c d a | keep  > e":                                     api.ErrMany,
		"a b c d a | head 0 > e":                                    api.ErrMany,
		"a b c d a > e > f":                                         api.ErrMany,
		"a b c d a > ":                                              api.ErrMany,
		"a | head 0 > B":                                            api.ErrText,
		"A | head 0 > b":                                            api.ErrText,
		"a | head 0 | keep A > b":                                   api.ErrRange,
		"a | keep A | head 0 > b":                                   api.ErrText,
		"a | head 0 | x > b":                                        api.ErrText,
		"a | sort > b\x00":                                          api.ErrText,
		"\xff > b":                                                  api.ErrText,
		"ä > b":                                                     api.ErrText,
	}
}

func TestParseOfWrongRows(t *testing.T) {
	for row, want := range wrongRows() {
		for ahead := range api.MaxLines + 2 {
			for _, behind := range []string{"", "a > b\n", "x", "\n", "a | head 0 > b\n"} {
				s := strings.Repeat("a > b\n", ahead) + row + "\n" + behind
				if l, at, e := Parse(s); l != nil || at != ahead || e != want {
					t.Errorf("%q: %v, %d, %d; want nothing, %d, %d", s, l, at, e, ahead, want)
				}
			}
		}
	}
}

func TestParseOfRowsWithoutEnds(t *testing.T) {
	for _, row := range []string{"a > b", "a | sort > b", "a", " ", "a b c d a > e", "a | head 0 > b"} {
		for ahead := range api.MaxLines + 2 {
			s := strings.Repeat("a > b\n", ahead) + row
			if l, at, e := Parse(s); l != nil || at != ahead || e != api.ErrText {
				t.Errorf("%q: %v, %d, %d; want nothing, %d, %d", s, l, at, e, ahead, api.ErrText)
			}
		}
	}
}

func TestParseOfMany(t *testing.T) {
	if l, at, e := Parse(strings.Repeat("a > b\n", api.MaxLines)); len(l) != api.MaxLines || at != 0 || e != api.OK {
		t.Errorf("most lines: %v, %d, %d", l, at, e)
	}
	for _, n := range []int{api.MaxLines + 1, api.MaxLines + 2, api.MaxText / 6} {
		if l, at, e := Parse(strings.Repeat("a > b\n", n)); l != nil || at != 0 || e != api.ErrMany {
			t.Errorf("%d lines: %v, %d, %d", n, l, at, e)
		}
	}
	// Of just so many bytes the line is looked at, of one more it isn't.
	long := "a > b\na | keep " + strings.Repeat("x", api.MaxText-20) + " > b\n"
	if l, at, e := Parse(long); len(long) != api.MaxText || l != nil || at != 1 || e != api.ErrText {
		t.Errorf("%d bytes: %v, %d, %d", len(long), l, at, e)
	}
	if l, at, e := Parse(long + "\n"); l != nil || at != 0 || e != api.ErrMany {
		t.Errorf("%d bytes: %v, %d, %d", len(long)+1, l, at, e)
	}
	if l, at, e := Parse(strings.Repeat("a", api.MaxText+1)); l != nil || at != 0 || e != api.ErrMany {
		t.Errorf("too long: %v, %d, %d", l, at, e)
	}
}

// drawn answers some script with which nothing is wrong.
func drawn(r *rand.Rand) []api.Line {
	word := func() string {
		b := make([]byte, 1+r.Intn(api.MaxWord))
		for i := range b {
			b[i] = "abcxyz0189"[r.Intn(10)]
		}
		return string(b)
	}
	l := make([]api.Line, r.Intn(api.MaxLines+1))
	for i := range l {
		for range 1 + r.Intn(api.MaxSources) {
			l[i].From = append(l[i].From, word())
		}
		for range r.Intn(api.MaxCommands + 1) {
			c := api.Command{Kind: 1 + r.Intn(api.Tail)}
			switch {
			case c.Kind == api.Swap:
				c.Word = (word() + "ab")[:2]
			case c.Kind == api.Keep || c.Kind == api.Drop:
				c.Word = word()
			case c.Kind == api.Field || c.Kind == api.Head || c.Kind == api.Tail:
				c.N = 1 + r.Intn(api.MaxN)
			}
			l[i].Do = append(l[i].Do, c)
		}
		l[i].To = word()
	}
	return l
}

func TestParseOfPrintIsTheScript(t *testing.T) {
	r := rand.New(rand.NewSource(4))
	scripts := [][]api.Line{nil, {plain()}, times(api.MaxLines, fullest())}
	for range 2000 {
		scripts = append(scripts, drawn(r))
	}
	for _, l := range scripts {
		s, e := Print(l)
		if e != api.OK {
			t.Fatalf("%v: %d", l, e)
		}
		if back, at, e := Parse(s); !alike(back, l) || at != 0 || e != api.OK {
			t.Errorf("%q: %v, %d, %d; want %v", s, back, at, e, l)
		}
	}
}

// theLongWay goes through a text byte by byte, and has a rule of its own for each thing in it.
func theLongWay(s string) (at int, e api.Errno) {
	row, lines := "", 0
	for i := range len(s) {
		if s[i] != '\n' {
			row += s[i : i+1]
			continue
		}
		if e := rowTheLongWay(row); e != api.OK {
			return lines, e
		}
		row, lines = "", lines+1
	}
	if row != "" {
		return lines, api.ErrText
	}
	if lines > api.MaxLines {
		return 0, api.ErrMany
	}
	return 0, api.OK
}

func rowTheLongWay(row string) api.Errno {
	i := 0
	for ; !strings.HasPrefix(row[i:], " > "); i++ {
		if i == len(row) {
			return api.ErrText
		}
	}
	ahead, to := row[:i], row[i+3:]
	var parts []string
	part := ""
	for j := 0; j < len(ahead); j++ {
		if strings.HasPrefix(ahead[j:], " | ") {
			parts, part, j = append(parts, part), "", j+2
			continue
		}
		part += ahead[j : j+1]
	}
	parts = append(parts, part)
	l := api.Line{From: strings.SplitN(parts[0], " ", -1), To: to}
	for _, p := range parts[1:] {
		c, ok := commandTheLongWay(p)
		if !ok {
			return api.ErrText
		}
		l.Do = append(l.Do, c)
	}
	return CheckLine(l)
}

func commandTheLongWay(p string) (api.Command, bool) {
	for kind, name := range strings.Fields("- keep drop swap field turn sort once count head tail") {
		switch {
		case kind == 0:
		case kind <= api.Swap:
			if word, ok := strings.CutPrefix(p, name+" "); ok {
				return api.Command{Kind: kind, Word: word}, true
			}
		case kind == api.Field || kind >= api.Head:
			var n int
			if c, _ := fmt.Sscanf(p, name+" %d", &n); c == 1 && p == fmt.Sprintf("%s %d", name, n) {
				return api.Command{Kind: kind, N: n}, true
			}
		case p == name:
			return api.Command{Kind: kind}, true
		}
	}
	return api.Command{}, false
}

// texts answers all of up to so many of the tokens, one behind the other.
func texts(tokens []string, longest int) []string {
	all, from := []string{""}, 0
	for range longest {
		to := len(all)
		for _, s := range all[from:to] {
			for _, x := range tokens {
				all = append(all, s+x)
			}
		}
		from = to
	}
	return all
}

// TestParseAgainstTheLongWay holds what is parsed against it, and, printed, against the text.
func TestParseAgainstTheLongWay(t *testing.T) {
	all := texts([]string{"a", " ", "|", ">", "\n"}, 7)
	all = append(all, texts([]string{"a", " ", " | ", " > ", "\n", "head", "1"}, 6)...)
	all = append(all, texts([]string{"a", " | sort", " | keep", " | tail 1", " > a\n", " 0", " A"}, 5)...)
	sound := 0
	for _, s := range all {
		at, want := theLongWay(s)
		l, got, e := Parse(s)
		if e != want || got != at || e != api.OK && l != nil {
			t.Fatalf("%q: %v, %d, %d; want %d, %d", s, l, got, e, at, want)
		}
		if e != api.OK {
			continue
		}
		if back, e := Print(l); back != s || e != api.OK {
			t.Fatalf("%q: printed %q, %d", s, back, e)
		}
		sound++
	}
	if sound < 100 {
		t.Errorf("only %d scripts among the texts", sound)
	}
}

// TestParseOfSpoiltTexts changes a byte or two of sound texts.
func TestParseOfSpoiltTexts(t *testing.T) {
	r := rand.New(rand.NewSource(5))
	for range 20000 {
		s, _ := Print(drawn(r))
		b := []byte(s)
		for range min(len(b), 1+r.Intn(2)) {
			i := r.Intn(len(b))
			b = slices.Replace(b, i, i+r.Intn(2), " |>\na0-A"[r.Intn(8)])
		}
		at, want := theLongWay(string(b))
		l, got, e := Parse(string(b))
		if e != want || got != at {
			t.Fatalf("%q: %v, %d, %d; want %d, %d", b, l, got, e, at, want)
		}
		if e == api.OK {
			if back, _ := Print(l); back != string(b) {
				t.Fatalf("%q: printed %q", b, back)
			}
		}
	}
}

// TestWhatIsHandedInStays looks at the spare room behind the lists, too.
func TestWhatIsHandedInStays(t *testing.T) {
	spare := func() []api.Line {
		l := plain()
		l.From = []string{"a", "b", "spare"}[:2]
		l.Do = []api.Command{{Kind: api.Sort}, {Kind: api.Keep, Word: "spare"}}[:1]
		return []api.Line{l, plain(), {To: "spare"}}[:2]
	}
	whole := func(l []api.Line) []api.Line {
		all := slices.Clone(l[:cap(l)])
		for i := range all {
			all[i].From = all[i].From[:cap(all[i].From)]
			all[i].Do = all[i].Do[:cap(all[i].Do)]
		}
		return all
	}
	l := spare()
	Print(l)
	Check(l)
	CheckLine(l[0])
	if got, want := whole(l), whole(spare()); !reflect.DeepEqual(got, want) {
		t.Errorf("changed: %v, want %v", got, want)
	}
}

// TestAnswersShareNothing appends to and writes into each list of an answer: the others stay.
func TestAnswersShareNothing(t *testing.T) {
	const s = "a b | sort | head 3 > c\nc d | turn > e\nf > g\n"
	want, _, _ := Parse(s)
	l, _, _ := Parse(s)
	again, _, _ := Parse(s)
	for i := range l {
		for _, x := range [][]string{l[i].From, append(l[i].From, "spoilt")} {
			for j := range x {
				x[j] = "spoilt"
			}
		}
		for _, x := range [][]api.Command{l[i].Do, append(l[i].Do, api.Command{})} {
			for j := range x {
				x[j] = api.Command{Kind: api.Once}
			}
		}
		if i+1 < len(l) && !alike(l[i+1:], want[i+1:]) {
			t.Errorf("line %d spoilt others: %v", i, l)
		}
		l[i] = api.Line{}
	}
	if !alike(again, want) {
		t.Errorf("another answer is spoilt: %v", again)
	}
}

// TestNamesAreWords: a name with a blank or a feed in it would not be found again.
func TestNamesAreWords(t *testing.T) {
	for kind := api.Keep; kind <= api.Tail; kind++ {
		if !command.Word(names[kind]) || slices.Index(names[:], names[kind]) != kind {
			t.Errorf("%d: %q", kind, names[kind])
		}
	}
}
