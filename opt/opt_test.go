package opt

import (
	"math/rand"
	"reflect"
	"slices"
	"strings"
	"testing"

	"gangsaw/api"
	"gangsaw/command"
	"gangsaw/graph"
	"gangsaw/join"
	"gangsaw/script"
	"gangsaw/shell"
)

const (
	most     = int(^uint(0) >> 1)
	smallest = -most - 1
)

var longest = strings.Repeat("z", api.MaxWord)

var (
	kept    = api.Command{Kind: api.Keep, Word: "a"}
	turned  = api.Command{Kind: api.Turn}
	sorted  = api.Command{Kind: api.Sort}
	once    = api.Command{Kind: api.Once}
	counted = api.Command{Kind: api.Count}
	head    = api.Command{Kind: api.Head, N: 3}
)

// commands answers some of each kind.
func commands() []api.Command {
	return []api.Command{
		kept, {Kind: api.Drop, Word: "ab"}, {Kind: api.Swap, Word: "ab"}, {Kind: api.Field, N: 1}, {Kind: api.Field, N: 2}, turned,
		sorted, once, counted, {Kind: api.Head, N: 1}, head, {Kind: api.Tail, N: 2}, {Kind: api.Tail, N: api.MaxN},
	}
}

// in answers ports out of numbers, that of a node ahead of that of its output.
func in(n ...int) []api.Port {
	var l []api.Port
	for i := 0; i < len(n); i += 2 {
		l = append(l, api.Port{Node: n[i], Out: n[i+1]})
	}
	return l
}

func source(name string) api.Node           { return api.Node{Kind: api.Source, File: name} }
func split(wide int, p ...int) api.Node     { return api.Node{Kind: api.Split, Wide: wide, In: in(p...)} }
func work(c api.Command, p ...int) api.Node { return api.Node{Kind: api.Work, C: c, In: in(p...)} }
func joined(how int, p ...int) api.Node     { return api.Node{Kind: api.Join, How: how, In: in(p...)} }
func sink(p ...int) api.Node                { return api.Node{Kind: api.Sink, File: "z", In: in(p...)} }

func again(c api.Command, p ...int) api.Node {
	return api.Node{Kind: api.Join, How: api.Again, C: c, In: in(p...)}
}

// lineOf answers a line out of its files' names, with blanks between them, and its commands.
func lineOf(from string, do ...api.Command) api.Line {
	return api.Line{From: strings.Fields(from), Do: do, To: "z"}
}

func TestPlan(t *testing.T) {
	for name, x := range map[string]struct {
		l    api.Line
		wide int
		want []api.Node
	}{
		"as it is":            {lineOf("a"), 1, []api.Node{source("a"), sink(0, 0)}},
		"as it is, wide":      {lineOf("a"), 5, []api.Node{source("a"), sink(0, 0)}},
		"into itself":         {lineOf("z"), 2, []api.Node{source("z"), sink(0, 0)}},
		"two files":           {lineOf("b a"), 1, []api.Node{source("b"), source("a"), joined(api.Behind, 0, 0, 1, 0), sink(2, 0)}},
		"two files, wide":     {lineOf("b a"), 3, []api.Node{source("b"), source("a"), joined(api.Behind, 0, 0, 1, 0), sink(2, 0)}},
		"the same file":       {lineOf("a a"), 1, []api.Node{source("a"), source("a"), joined(api.Behind, 0, 0, 1, 0), sink(2, 0)}},
		"most files":          {lineOf("d c b a"), 1, []api.Node{source("d"), source("c"), source("b"), source("a"), joined(api.Behind, 0, 0, 1, 0, 2, 0, 3, 0), sink(4, 0)}},
		"one wide, each":      {lineOf("a", kept), 1, []api.Node{source("a"), work(kept, 0, 0), sink(1, 0)}},
		"one wide, not each":  {lineOf("a", head), 1, []api.Node{source("a"), work(head, 0, 0), sink(1, 0)}},
		"one wide, several":   {lineOf("a", once, kept, counted), 1, []api.Node{source("a"), work(once, 0, 0), work(kept, 1, 0), work(counted, 2, 0), sink(3, 0)}},
		"one wide, two files": {lineOf("a b", sorted), 1, []api.Node{source("a"), source("b"), joined(api.Behind, 0, 0, 1, 0), work(sorted, 2, 0), sink(3, 0)}},
		"behind at the end":   {lineOf("a", turned), 2, []api.Node{source("a"), split(2, 0, 0), work(turned, 1, 0), work(turned, 1, 1), joined(api.Behind, 2, 0, 3, 0), sink(4, 0)}},
		"merged":              {lineOf("a", sorted), 2, []api.Node{source("a"), split(2, 0, 0), work(sorted, 1, 0), work(sorted, 1, 1), joined(api.Merge, 2, 0, 3, 0), sink(4, 0)}},
		"summed":              {lineOf("a", counted), 2, []api.Node{source("a"), split(2, 0, 0), work(counted, 1, 0), work(counted, 1, 1), joined(api.Sum, 2, 0, 3, 0), sink(4, 0)}},
		"again":               {lineOf("a", once), 2, []api.Node{source("a"), split(2, 0, 0), work(once, 1, 0), work(once, 1, 1), again(once, 2, 0, 3, 0), sink(4, 0)}},
		"as wide as can be": {lineOf("a", head), 5, []api.Node{
			source("a"), split(5, 0, 0), work(head, 1, 0), work(head, 1, 1), work(head, 1, 2), work(head, 1, 3), work(head, 1, 4),
			again(head, 2, 0, 3, 0, 4, 0, 5, 0, 6, 0), sink(7, 0),
		}},
		"the document's": {lineOf("a b", sorted, head), 3, []api.Node{
			source("a"), source("b"), joined(api.Behind, 0, 0, 1, 0),
			split(3, 2, 0), work(sorted, 3, 0), work(sorted, 3, 1), work(sorted, 3, 2), joined(api.Merge, 4, 0, 5, 0, 6, 0),
			split(3, 7, 0), work(head, 8, 0), work(head, 8, 1), work(head, 8, 2), again(head, 9, 0, 10, 0, 11, 0),
			sink(12, 0),
		}},
		"parts stay parts": {lineOf("a", kept, turned), 2, []api.Node{
			source("a"), split(2, 0, 0), work(kept, 1, 0), work(kept, 1, 1), work(turned, 2, 0), work(turned, 3, 0), joined(api.Behind, 4, 0, 5, 0), sink(6, 0),
		}},
		"parts stay parts up to a sort": {lineOf("a", kept, sorted), 2, []api.Node{
			source("a"), split(2, 0, 0), work(kept, 1, 0), work(kept, 1, 1), work(sorted, 2, 0), work(sorted, 3, 0), joined(api.Merge, 4, 0, 5, 0), sink(6, 0),
		}},
		"parts anew": {lineOf("a", sorted, kept), 2, []api.Node{
			source("a"), split(2, 0, 0), work(sorted, 1, 0), work(sorted, 1, 1), joined(api.Merge, 2, 0, 3, 0),
			split(2, 4, 0), work(kept, 5, 0), work(kept, 5, 1), joined(api.Behind, 6, 0, 7, 0), sink(8, 0),
		}},
	} {
		g, e := Plan(x.l, x.wide)
		if e != api.OK || !graph.Same(g, api.Graph{Nodes: x.want}) {
			t.Errorf("%s: %v, %d, want %v", name, g, e, x.want)
		}
	}
}

func TestPlanOfWrongThings(t *testing.T) {
	many := slices.Repeat([]api.Command{turned}, api.MaxCommands+1)
	for name, x := range map[string]struct {
		l    api.Line
		wide int
		want api.Errno
	}{
		"no line":                      {api.Line{}, 1, api.ErrMany},
		"no files":                     {lineOf("", sorted), 1, api.ErrMany},
		"a file too many":              {lineOf("a b c d e"), 1, api.ErrMany},
		"a command too many":           {lineOf("a", many...), 1, api.ErrMany},
		"no word":                      {lineOf("A"), 1, api.ErrText},
		"a later one is no word":       {lineOf("a " + longest + "z"), 2, api.ErrText},
		"into no word":                 {api.Line{From: []string{"a"}}, 2, api.ErrText},
		"no command":                   {lineOf("a", api.Command{}), 2, api.ErrForm},
		"a command's range":            {lineOf("a", sorted, api.Command{Kind: api.Head}), 2, api.ErrRange},
		"a command's text":             {lineOf("a", api.Command{Kind: api.Swap, Word: "abc"}), 2, api.ErrText},
		"a command with too much":      {lineOf("a", api.Command{Kind: api.Sort, N: 1}), 2, api.ErrForm},
		"no parts":                     {lineOf("a", sorted), 0, api.ErrRange},
		"no parts, nothing to part":    {lineOf("a"), 0, api.ErrRange},
		"below":                        {lineOf("a", sorted), -1, api.ErrRange},
		"far below":                    {lineOf("a", sorted), smallest, api.ErrRange},
		"too wide":                     {lineOf("a", sorted), api.MaxWidth + 1, api.ErrRange},
		"too wide, nothing to part":    {lineOf("a"), api.MaxWidth + 1, api.ErrRange},
		"far too wide":                 {lineOf("a b", sorted), most, api.ErrRange},
		"many, then range":             {lineOf(""), 0, api.ErrMany},
		"text, then range":             {lineOf("A"), 6, api.ErrText},
		"a command's form, then range": {lineOf("a", api.Command{Kind: 11}), 6, api.ErrForm},
		"a command's text, then range": {lineOf("a", api.Command{Kind: api.Keep}), 0, api.ErrText},
	} {
		if g, e := Plan(x.l, x.wide); e != x.want || g.Nodes != nil {
			t.Errorf("%s: %v, %d, want %d", name, g, e, x.want)
		}
	}
}

// theLongWay writes the nodes of a plan down run by run: what is done in parts from a Split up to the Join behind it.
func theLongWay(l api.Line, wide int) []api.Node {
	var all []api.Node
	for _, name := range l.From {
		all = append(all, source(name))
	}
	if n := len(l.From); n > 1 {
		all = append(all, joined(api.Behind, []int{0, 0, 1, 0, 2, 0, 3, 0}[:2*n]...))
	}
	for do := l.Do; len(do) > 0; {
		if wide == 1 {
			all = append(all, work(do[0], len(all)-1, 0))
			do = do[1:]
			continue
		}
		end := 1
		for end < len(do) && do[end-1].Kind <= api.Turn {
			end++
		}
		at := len(all)
		all = append(all, split(wide, at-1, 0))
		for i, c := range do[:end] {
			for k := range wide {
				if i == 0 {
					all = append(all, work(c, at, k))
				} else {
					all = append(all, work(c, at+1+(i-1)*wide+k, 0))
				}
			}
		}
		n := api.Node{Kind: api.Join, How: []int{0, 1, 1, 1, 1, 1, 2, 4, 3, 4, 4}[do[end-1].Kind]}
		if n.How == api.Again {
			n.C = do[end-1]
		}
		for k := range wide {
			n.In = append(n.In, api.Port{Node: at + 1 + (end-1)*wide + k})
		}
		all = append(all, n)
		do = do[end:]
	}
	return append(all, sink(len(all)-1, 0))
}

func TestPlanAgainstTheLongWay(t *testing.T) {
	all := commands()
	var plan func(do []api.Command, left int)
	plan = func(do []api.Command, left int) {
		for wide := 1; wide <= api.MaxWidth; wide++ {
			for _, from := range []string{"a", "b a", "a b c", "d a b a"} {
				l := lineOf(from, do...)
				g, e := Plan(l, wide)
				want := api.Graph{Nodes: theLongWay(l, wide)}
				if e != api.OK || !graph.Same(g, want) {
					t.Fatalf("%v, %d wide: %v, %d, want %v", l, wide, g, e, want)
				}
				if e := graph.Check(g); e != api.OK {
					t.Fatalf("%v, %d wide: %v is wrong: %d", l, wide, g, e)
				}
			}
		}
		if left == 0 {
			return
		}
		for _, c := range all {
			plan(append(slices.Clone(do), c), left-1)
		}
	}
	plan(nil, 3)
	r := rand.New(rand.NewSource(1))
	for range 2000 {
		var do []api.Command
		for range 4 + r.Intn(api.MaxCommands-3) {
			do = append(do, all[r.Intn(len(all))])
		}
		plan(do, 0)
	}
}

func TestTheGreatestPlanIsAGraph(t *testing.T) {
	l := lineOf("a b c d", slices.Repeat([]api.Command{sorted}, api.MaxCommands)...)
	g, e := Plan(l, api.MaxWidth)
	want := api.MaxSources + 1 + api.MaxCommands*(1+api.MaxWidth+1) + 1
	if e != api.OK || len(g.Nodes) != want || graph.Check(g) != api.OK {
		t.Errorf("%d nodes, %d, want %d", len(g.Nodes), e, want)
	}
}

// drawnFiles answers files, each of them there or not, of lines that are often alike.
func drawnFiles(r *rand.Rand) []api.File {
	words := []string{"", "a", "b", "ab", "ba b", "a a", " b", "c a b", "10", "9"}
	var l []api.File
	for _, name := range []string{"a", "b", "c", "d"} {
		if r.Intn(5) == 0 {
			continue
		}
		var lines []string
		for range r.Intn(12) {
			lines = append(lines, words[r.Intn(len(words))])
		}
		text := strings.Join(lines, "\n")
		if r.Intn(2) == 0 {
			text += "\n"
		}
		l = append(l, api.File{Name: name, B: []byte(text)})
	}
	return l
}

func drawnLine(r *rand.Rand) api.Line {
	all := commands()
	l := api.Line{To: "z"}
	for range 1 + r.Intn(api.MaxSources) {
		l.From = append(l.From, string(rune('a'+r.Intn(4))))
	}
	for range r.Intn(api.MaxCommands + 1) {
		l.Do = append(l.Do, all[r.Intn(len(all))])
	}
	return l
}

func TestHoweverWideItMakesWhatTheLineMakes(t *testing.T) {
	r := rand.New(rand.NewSource(2))
	lengths := map[int]int{}
	for range 6000 {
		l, files := drawnLine(r), drawnFiles(r)
		want, e := shell.Line(files, l)
		if e != api.OK {
			t.Fatal(l, files, e)
		}
		lengths[min(len(want), 3)]++
		for wide := 1; wide <= api.MaxWidth; wide++ {
			g, e := Plan(l, wide)
			if e != api.OK {
				t.Fatal(l, wide, e)
			}
			if b, e := graph.Eval(g, files); e != api.OK || string(b) != string(want) {
				t.Fatalf("%v, %d wide, of %q: %q, %d, want %q", l, wide, files, b, e, want)
			}
		}
	}
	if lengths[0] < 100 || lengths[2] < 100 || lengths[3] < 100 {
		t.Errorf("lengths of what was made: %v", lengths)
	}
}

func TestHoweverWideOfTheMostBytes(t *testing.T) {
	feeds := strings.Repeat("\n", api.MaxBytes/2)
	long := strings.Repeat("b", api.MaxBytes/2-1)
	files := []api.File{{Name: "a", B: []byte(feeds)}, {Name: "b", B: []byte(long)}}
	for _, c := range append(commands(), api.Command{Kind: api.Head, N: api.MaxN}) {
		for _, from := range []string{"a a", "a b", "b a", "b b"} {
			l := lineOf(from, c)
			want, e := shell.Line(files, l)
			if e != api.OK {
				t.Fatal(from, c, e)
			}
			for wide := 1; wide <= api.MaxWidth; wide++ {
				g, _ := Plan(l, wide)
				if b, e := graph.Eval(g, files); e != api.OK || string(b) != string(want) {
					t.Errorf("%s, %v, %d wide: %d bytes, %d, want %d", from, c, wide, len(b), e, len(want))
				}
			}
		}
	}
}

func TestPlanOfAParsedLine(t *testing.T) {
	s, _, e := script.Parse("a b | sort | head 3 > c\n")
	if e != api.OK {
		t.Fatal(e)
	}
	g, _ := Plan(s[0], 3)
	b, e := graph.Eval(g, []api.File{{Name: "a", B: []byte("4\n2\n5")}, {Name: "b", B: []byte("3\n1\n")}})
	if e != api.OK || string(b) != "1\n2\n3\n" {
		t.Errorf("%q, %d", b, e)
	}
	if last := g.Nodes[len(g.Nodes)-1]; last.File != "c" {
		t.Errorf("into %q", last.File)
	}
}

func TestJoinsAreTheCommands(t *testing.T) {
	for _, c := range commands() {
		how, _ := join.For(c)
		g, e := Plan(lineOf("a", c), 2)
		n := g.Nodes[len(g.Nodes)-2]
		want := api.Node{Kind: api.Join, How: how, In: in(2, 0, 3, 0)}
		if !command.Each(c) && how == api.Again {
			want.C = c
		}
		if e != api.OK || !reflect.DeepEqual(n, want) {
			t.Errorf("%v: %v, want %v", c, n, want)
		}
	}
}

// spareLine answers a line whose lists have room behind them, with something in it.
func spareLine(r *rand.Rand) api.Line {
	l := drawnLine(r)
	l.From = append(l.From, "A", "B")[:len(l.From)]
	l.Do = append(l.Do, api.Command{Kind: 77}, api.Command{Kind: 78})[:len(l.Do)]
	return l
}

func wholeLine(l api.Line) api.Line {
	return api.Line{From: slices.Clone(l.From[:cap(l.From)]), Do: slices.Clone(l.Do[:cap(l.Do)]), To: l.To}
}

func TestWhatIsHandedInStays(t *testing.T) {
	r := rand.New(rand.NewSource(3))
	for range 500 {
		l := spareLine(r)
		before := wholeLine(l)
		for _, wide := range []int{-1, 1, 2, 3, 4, 5, 6} {
			Plan(l, wide)
		}
		if !reflect.DeepEqual(wholeLine(l), before) {
			t.Fatalf("%v became %v", before, wholeLine(l))
		}
	}
}

func TestAnswersAreNew(t *testing.T) {
	r := rand.New(rand.NewSource(4))
	for range 500 {
		l := spareLine(r)
		wide := 1 + r.Intn(api.MaxWidth)
		want := theLongWay(l, wide)
		g, _ := Plan(l, wide)
		for i := range l.From {
			l.From[i] = "spoilt"
		}
		for i := range l.Do {
			l.Do[i] = api.Command{Kind: 99}
		}
		if !graph.Same(g, api.Graph{Nodes: want}) {
			t.Fatalf("%v hangs on what was handed in", g)
		}
		for i, n := range g.Nodes {
			spare := n.In[:cap(n.In)]
			for k := range spare {
				spare[k] = api.Port{Node: -i, Out: -1}
			}
			for j, other := range g.Nodes[i+1:] {
				if !slices.Equal(other.In, want[i+1+j].In) {
					t.Fatalf("inputs of nodes %d and %d share memory", i, i+1+j)
				}
			}
		}
	}
}
