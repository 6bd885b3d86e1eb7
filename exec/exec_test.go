package exec

import (
	"math/rand"
	"reflect"
	"slices"
	"strings"
	"testing"

	"gangsaw/api"
	"gangsaw/graph"
	"gangsaw/pipe"
	"gangsaw/shell"
)

const (
	greatest = int(^uint(0) >> 1)
	smallest = -greatest - 1
)

// bytesOfAList is how many bytes a list of a process has at most.
const bytesOfAList = 40000

var (
	sorted  = api.Command{Kind: api.Sort}
	counted = api.Command{Kind: api.Count}
	once    = api.Command{Kind: api.Once}
	turned  = api.Command{Kind: api.Turn}
)

func head(n int) api.Command { return api.Command{Kind: api.Head, N: n} }

func keep(s string) api.Command { return api.Command{Kind: api.Keep, Word: s} }

// in answers ports out of numbers, that of a node ahead of that of its output.
func in(n ...int) []api.Port {
	var l []api.Port
	for i := 0; i < len(n); i += 2 {
		l = append(l, api.Port{Node: n[i], Out: n[i+1]})
	}
	return l
}

func source(name string) api.Node           { return api.Node{Kind: api.Source, File: name} }
func split(wide int, p ...int) api.Node     { return api.Node{Kind: api.Split, Wide: wide, In: in(p...)} }
func work(c api.Command, p ...int) api.Node { return api.Node{Kind: api.Work, C: c, In: in(p...)} }
func joined(how int, p ...int) api.Node     { return api.Node{Kind: api.Join, How: how, In: in(p...)} }
func sink(p ...int) api.Node                { return api.Node{Kind: api.Sink, File: "z", In: in(p...)} }

func again(c api.Command, p ...int) api.Node {
	return api.Node{Kind: api.Join, How: api.Again, C: c, In: in(p...)}
}

func graphOf(l ...api.Node) api.Graph { return api.Graph{Nodes: l} }

// sorter answers a graph with a node of each kind. Its pipes: 0 and 1 of the join, 2 of the split, 3 and 4 of the sorts, 5 and 6 of the merge, 7 of the sink.
func sorter() api.Graph {
	return graphOf(
		source("a"),
		source("b"),
		joined(api.Behind, 0, 0, 1, 0),
		split(2, 2, 0),
		work(sorted, 3, 0),
		work(sorted, 3, 1),
		joined(api.Merge, 4, 0, 5, 0),
		sink(6, 0),
	)
}

// single answers a graph of a source, one node, and a sink.
func single(n api.Node) api.Graph { return graphOf(source("a"), n, sink(1, 0)) }

// of answers files out of names and texts, one name ahead of each text.
func of(s ...string) []api.File {
	var l []api.File
	for i := 0; i < len(s); i += 2 {
		l = append(l, api.File{Name: s[i], B: []byte(s[i+1])})
	}
	return l
}

func made(t *testing.T, g api.Graph, files []api.File, room int) api.Machine {
	t.Helper()
	m, e := New(g, files, room)
	if e != api.OK {
		t.Fatalf("new of %v: %d", g, e)
	}
	return m
}

func sorterMachine(t *testing.T) api.Machine {
	t.Helper()
	return made(t, sorter(), of("a", "3\n1\n", "b", "2\n0"), 3)
}

// alike tells whether machines are: it takes no list and an empty one as the same.
func alike(a, b api.Machine) bool {
	lists := func(x, y [][]byte) bool {
		return slices.EqualFunc(x, y, func(x, y []byte) bool { return string(x) == string(y) })
	}
	return graph.Same(a.G, b.G) && shell.Same(a.Files, b.Files) && string(a.Sunk) == string(b.Sunk) &&
		slices.EqualFunc(a.Pipes, b.Pipes, func(x, y api.Pipe) bool {
			return string(x.B) == string(y.B) && x.Room == y.Room && x.Closed == y.Closed && x.Shut == y.Shut
		}) &&
		slices.EqualFunc(a.P, b.P, func(x, y api.Process) bool {
			return lists(x.Got, y.Got) && lists(x.Out, y.Out) && x.At == y.At && x.Read == y.Read && x.Over == y.Over
		})
}

func zero(m api.Machine) bool { return reflect.DeepEqual(m, api.Machine{}) }

func TestNew(t *testing.T) {
	files := of("a", "3\n1\n", "b", "2\n0")
	for _, room := range []int{1, 2, 8, api.MaxRoom - 1, api.MaxRoom} {
		want := api.Machine{
			G:     sorter(),
			Files: of("a", "3\n1\n", "b", "2\n0"),
			Pipes: []api.Pipe{{Room: room}, {Room: room}, {Room: room}, {Room: 0}, {Room: 0}, {Room: room}, {Room: room}, {Room: room}},
			P: []api.Process{
				{Out: make([][]byte, 1)},
				{Out: make([][]byte, 1)},
				{Got: make([][]byte, 2), Out: make([][]byte, 1)},
				{Got: make([][]byte, 1), Out: make([][]byte, 2)},
				{Got: make([][]byte, 1), Out: make([][]byte, 1)},
				{Got: make([][]byte, 1), Out: make([][]byte, 1)},
				{Got: make([][]byte, 2), Out: make([][]byte, 1)},
				{Got: make([][]byte, 1)},
			},
		}
		m, e := New(sorter(), files, room)
		if e != api.OK || !alike(m, want) {
			t.Errorf("room %d: %v, %d; want %v", room, m, e, want)
		}
		if e := Check(m); e != api.OK {
			t.Errorf("room %d: check: %d", room, e)
		}
	}
	g := graphOf(source("a"), split(5, 0, 0), joined(api.Behind, 1, 4, 1, 0, 1, 3), split(1, 1, 1), joined(api.Sum, 3, 0, 2, 0, 1, 2), sink(4, 0))
	m := made(t, g, nil, 7)
	var rooms []int
	for _, p := range m.Pipes {
		rooms = append(rooms, p.Room)
	}
	if want := []int{7, 0, 0, 0, 0, 0, 7, 0, 7}; !slices.Equal(rooms, want) {
		t.Errorf("rooms %v, want %v", rooms, want)
	}
	if len(m.Files) != 0 || len(m.P[1].Out) != 5 || len(m.P[4].Got) != 3 {
		t.Errorf("%v", m)
	}
}

func TestNewOfWrongThings(t *testing.T) {
	long := of("a", strings.Repeat("a", api.MaxBytes+1))
	for name, x := range map[string]struct {
		g     api.Graph
		files []api.File
		room  int
		want  api.Errno
	}{
		"no room":                 {sorter(), nil, 0, api.ErrRange},
		"below":                   {sorter(), nil, -1, api.ErrRange},
		"far below":               {sorter(), nil, smallest, api.ErrRange},
		"too much":                {sorter(), nil, api.MaxRoom + 1, api.ErrRange},
		"far too much":            {sorter(), nil, greatest, api.ErrRange},
		"no graph":                {api.Graph{}, nil, 1, api.ErrForm},
		"a graph of many":         {api.Graph{Nodes: make([]api.Node, api.MaxNodes+1)}, nil, 1, api.ErrMany},
		"a port of none":          {graphOf(sink(0, 0)), nil, 1, api.ErrWho},
		"a port twice":            {graphOf(source("a"), joined(api.Behind, 0, 0, 0, 0), sink(1, 0)), nil, 1, api.ErrTwice},
		"a command":               {single(work(head(0), 0, 0)), nil, 1, api.ErrRange},
		"a file's name":           {sorter(), of("A", ""), 1, api.ErrText},
		"a file's bytes":          {sorter(), long, 1, api.ErrMany},
		"files twice":             {sorter(), of("a", "", "a", ""), 1, api.ErrTwice},
		"many files":              {sorter(), make([]api.File, api.MaxFiles+1), 1, api.ErrMany},
		"the graph, then files":   {graphOf(sink(0, 0)), of("A", ""), 0, api.ErrWho},
		"the graph, then no room": {graphOf(sink(0, 0)), nil, 0, api.ErrWho},
		"files, then no room":     {sorter(), of("A", ""), 0, api.ErrText},
	} {
		if m, e := New(x.g, x.files, x.room); e != x.want || !zero(m) {
			t.Errorf("%s: %v, %d; want %d", name, m, e, x.want)
		}
	}
}

func many() []byte { return []byte(strings.Repeat("x", bytesOfAList+1)) }

func full() []byte { return many()[1:] }

// spoils answers changes of the sorter's machine, with what is told then.
func spoils() map[string]struct {
	f    func(m *api.Machine)
	want api.Errno
} {
	type machine = *api.Machine
	return map[string]struct {
		f    func(m *api.Machine)
		want api.Errno
	}{
		"a graph's node":           {func(m machine) { m.G.Nodes[4].Kind = 0 }, api.ErrForm},
		"a graph's port":           {func(m machine) { m.G.Nodes[4].In = in(3, 2) }, api.ErrWho},
		"a graph's port, twice":    {func(m machine) { m.G.Nodes[5].In = in(3, 0) }, api.ErrTwice},
		"a graph's name":           {func(m machine) { m.G.Nodes[0].File = "" }, api.ErrText},
		"no graph":                 {func(m machine) { m.G.Nodes = nil }, api.ErrForm},
		"a file's name":            {func(m machine) { m.Files[1].Name = "B" }, api.ErrText},
		"files twice":              {func(m machine) { m.Files[1].Name = "a" }, api.ErrTwice},
		"a file's bytes":           {func(m machine) { m.Files[0].B = full()[:api.MaxBytes+1] }, api.ErrMany},
		"no processes":             {func(m machine) { m.P = nil }, api.ErrForm},
		"a process too few":        {func(m machine) { m.P = m.P[:7] }, api.ErrForm},
		"a process too many":       {func(m machine) { m.P = append(m.P, api.Process{}) }, api.ErrForm},
		"no pipes":                 {func(m machine) { m.Pipes = nil }, api.ErrForm},
		"a pipe too few":           {func(m machine) { m.Pipes = m.Pipes[:7] }, api.ErrForm},
		"a pipe too many":          {func(m machine) { m.Pipes = append(m.Pipes, api.Pipe{}) }, api.ErrForm},
		"a pipe's room":            {func(m machine) { m.Pipes[7].Room = -1 }, api.ErrRange},
		"a pipe's bytes":           {func(m machine) { m.Pipes[0].B = []byte("abcd") }, api.ErrMany},
		"an endless pipe's bytes":  {func(m machine) { m.Pipes[3].B = many() }, api.ErrMany},
		"a pipe, shut, has bytes":  {func(m machine) { m.Pipes[2].B, m.Pipes[2].Shut = []byte("a"), true }, api.ErrForm},
		"a source has got":         {func(m machine) { m.P[0].Got = make([][]byte, 1) }, api.ErrForm},
		"a join has got of one":    {func(m machine) { m.P[2].Got = m.P[2].Got[:1] }, api.ErrForm},
		"a join has got of three":  {func(m machine) { m.P[6].Got = make([][]byte, 3) }, api.ErrForm},
		"a sink has no got":        {func(m machine) { m.P[7].Got = nil }, api.ErrForm},
		"a source has no out":      {func(m machine) { m.P[1].Out = nil }, api.ErrForm},
		"a split has one out":      {func(m machine) { m.P[3].Out = m.P[3].Out[:1] }, api.ErrForm},
		"a work has two outs":      {func(m machine) { m.P[4].Out = make([][]byte, 2) }, api.ErrForm},
		"a sink has an out":        {func(m machine) { m.P[7].Out = make([][]byte, 1) }, api.ErrForm},
		"at below":                 {func(m machine) { m.P[2].At = -1 }, api.ErrRange},
		"at far below":             {func(m machine) { m.P[2].At = smallest }, api.ErrRange},
		"at above":                 {func(m machine) { m.P[2].At, m.P[2].Read = 3, true }, api.ErrRange},
		"at far above":             {func(m machine) { m.P[2].At, m.P[2].Read = greatest, true }, api.ErrRange},
		"a source's at":            {func(m machine) { m.P[0].At, m.P[0].Read = 1, true }, api.ErrRange},
		"over, not read":           {func(m machine) { m.P[5].Over = true }, api.ErrRange},
		"a source, over, not read": {func(m machine) { m.P[0].Over = true }, api.ErrRange},
		"at the end, not read":     {func(m machine) { m.P[2].At = 2 }, api.ErrRange},
		"a sink at the end":        {func(m machine) { m.P[7].At = 1 }, api.ErrRange},
		"got is too much":          {func(m machine) { m.P[6].Got[1] = many() }, api.ErrMany},
		"out is too much":          {func(m machine) { m.P[3].Out[1] = many() }, api.ErrMany},
		"sunk is too much":         {func(m machine) { m.Sunk = many() }, api.ErrMany},
	}
}

func TestCheck(t *testing.T) {
	for name, x := range spoils() {
		m := sorterMachine(t)
		x.f(&m)
		if e := Check(m); e != x.want {
			t.Errorf("%s: %d, want %d", name, e, x.want)
		}
	}
}

func TestCheckOfWhatMayBe(t *testing.T) {
	type machine = *api.Machine
	for name, f := range map[string]func(m *api.Machine){
		"as it is":                    func(m machine) {},
		"read at the end":             func(m machine) { m.P[2].At, m.P[2].Read = 2, true },
		"read, but not to the end":    func(m machine) { m.P[2].At, m.P[2].Read = 1, true },
		"read at the start":           func(m machine) { m.P[4].Read = true },
		"at the last input":           func(m machine) { m.P[2].At = 1 },
		"read and over":               func(m machine) { m.P[0].Read, m.P[0].Over = true, true },
		"over, with much left":        func(m machine) { m.P[0].Read, m.P[0].Over, m.P[0].Out[0] = true, true, full() },
		"as much as may be":           func(m machine) { m.P[2].Got[0], m.P[2].Got[1], m.P[3].Out[1], m.Sunk = full(), full(), full(), full() },
		"as much as may be in a pipe": func(m machine) { m.Pipes[3].B, m.Pipes[0].B = full(), []byte("abc") },
		"other rooms":                 func(m machine) { m.Pipes[0].Room, m.Pipes[3].Room = 0, api.MaxRoom },
		"closed and shut":             func(m machine) { m.Pipes[0].Closed, m.Pipes[1].Shut = true, true },
		"no files":                    func(m machine) { m.Files = nil },
		"lists, empty or nil": func(m machine) {
			m.P[0].Got, m.P[7].Out, m.Sunk, m.P[2].Got[0] = [][]byte{}, [][]byte{}, []byte{}, []byte{}
		},
	} {
		m := sorterMachine(t)
		f(&m)
		if e := Check(m); e != api.OK {
			t.Errorf("%s: %d", name, e)
		}
	}
}

// spoiltTwice answers a machine that is spoilt in two ways; what takes some of its lists away goes last, so that the other one finds its place.
func spoiltTwice(t *testing.T, a, b string) api.Machine {
	t.Helper()
	m := sorterMachine(t)
	spoils()[a].f(&m)
	if len(m.G.Nodes)+len(m.P)+len(m.Pipes) < 24 {
		m = sorterMachine(t)
		a, b = b, a
		spoils()[a].f(&m)
	}
	spoils()[b].f(&m)
	return m
}

// TestCheckTellsTheFirstError spoils a machine twice: the one that is told is named first.
func TestCheckTellsTheFirstError(t *testing.T) {
	for _, order := range [][]string{
		{"a graph's port", "a file's name", "a process too few", "a pipe's room", "at below", "got is too much", "sunk is too much"},
		{"a graph's name", "files twice", "a pipe too many", "a process too many"},
		{"a graph's port, twice", "no pipes", "no processes"},
		{"a file's bytes", "no processes", "a pipe's bytes"},
		{"a pipe's bytes", "a pipe, shut, has bytes", "a pipe's room", "a source has got"},
		{"a pipe's bytes", "an endless pipe's bytes", "at below"},
		{"a pipe, shut, has bytes", "at below", "sunk is too much"},
		{"a source has got", "at below", "a split has one out", "over, not read", "got is too much", "a sink has an out", "sunk is too much"},
		{"a source has got", "a source's at"},
		{"at below", "a join has got of three"},
		{"at above", "out is too much", "over, not read"},
		{"out is too much", "over, not read", "got is too much", "a sink at the end", "sunk is too much"},
		{"a work has two outs", "over, not read"},
		{"got is too much", "a sink at the end"},
		{"got is too much", "a sink has no got"},
		{"a sink has no got", "sunk is too much"},
	} {
		for i, first := range order {
			for _, second := range order[i+1:] {
				m := spoiltTwice(t, first, second)
				if e := Check(m); e != spoils()[first].want {
					t.Errorf("%s, then %s: %d, want %d", first, second, e, spoils()[first].want)
				}
			}
		}
	}
}

// TestCheckWithinAProcess: its form, then its place, then its bytes.
func TestCheckWithinAProcess(t *testing.T) {
	for name, x := range map[string]struct {
		p    api.Process
		want api.Errno
	}{
		"form, then range": {api.Process{Got: make([][]byte, 1), Out: make([][]byte, 1), At: -1}, api.ErrForm},
		"form, then many":  {api.Process{Got: [][]byte{many()}, Out: make([][]byte, 1)}, api.ErrForm},
		"out, then many":   {api.Process{Got: [][]byte{many(), nil}, Out: [][]byte{many(), nil}}, api.ErrForm},
		"range, then many": {api.Process{Got: [][]byte{nil, many()}, Out: make([][]byte, 1), Over: true}, api.ErrRange},
		"at, then many":    {api.Process{Got: make([][]byte, 2), Out: [][]byte{many()}, At: 2}, api.ErrRange},
		"many":             {api.Process{Got: make([][]byte, 2), Out: [][]byte{many()}, At: 2, Read: true}, api.ErrMany},
	} {
		m := sorterMachine(t)
		m.P[2] = x.p
		m.P[4].At = 9
		m.Sunk = many()
		if e := Check(m); e != x.want {
			t.Errorf("%s: %d, want %d", name, e, x.want)
		}
	}
}

// TestTheOthersSayItFirst: what Check tells is told ahead of all else, and nothing else is answered.
func TestTheOthersSayItFirst(t *testing.T) {
	for name, x := range spoils() {
		m := sorterMachine(t)
		x.f(&m)
		for _, i := range []int{smallest, -1, 0, 3, 7, 8, greatest} {
			if n, e := Step(m, i); e != x.want || !zero(n) {
				t.Errorf("%s: step %d: %v, %d; want %d", name, i, n, e, x.want)
			}
		}
		for _, picks := range [][]int{nil, {0, 1}, {9}, make([]int, api.MaxPicks+1)} {
			if n, said, e := Run(m, picks); e != x.want || said != nil || !zero(n) {
				t.Errorf("%s: run of %d: %v, %v, %d; want %d", name, len(picks), n, said, e, x.want)
			}
		}
		if n, e := Finish(m); e != x.want || !zero(n) {
			t.Errorf("%s: finish: %v, %d; want %d", name, n, e, x.want)
		}
	}
	if n, e := Finish(api.Machine{}); e != api.ErrForm || !zero(n) {
		t.Errorf("nothing: %v, %d", n, e)
	}
}

// checkedTheLongWay tells the first error of rows that are written down all at once.
func checkedTheLongWay(m api.Machine) api.Errno {
	if e := graph.Check(m.G); e != api.OK {
		return e
	}
	if e := shell.CheckFiles(m.Files); e != api.OK {
		return e
	}
	type row struct {
		is bool
		e  api.Errno
	}
	var ins []api.Port
	for _, n := range m.G.Nodes {
		ins = append(ins, n.In...)
	}
	if len(m.P) != len(m.G.Nodes) || len(m.Pipes) != len(ins) {
		return api.ErrForm
	}
	var rows []row
	for _, p := range m.Pipes {
		e := pipe.Check(p)
		rows = append(rows, row{e != api.OK, e})
	}
	for i, p := range m.P {
		n := m.G.Nodes[i]
		outs := map[int]int{api.Split: n.Wide, api.Source: 1, api.Work: 1, api.Join: 1}[n.Kind]
		rows = append(rows,
			row{len(p.Got) != len(n.In), api.ErrForm},
			row{len(p.Out) != outs, api.ErrForm},
			row{p.At < 0, api.ErrRange},
			row{p.At > len(n.In), api.ErrRange},
			row{p.Over && !p.Read, api.ErrRange},
			row{len(n.In) > 0 && p.At == len(n.In) && !p.Read, api.ErrRange},
		)
		for _, b := range slices.Concat(p.Got, p.Out) {
			rows = append(rows, row{len(b) > bytesOfAList, api.ErrMany})
		}
	}
	rows = append(rows, row{len(m.Sunk) > bytesOfAList, api.ErrMany})
	for _, r := range rows {
		if r.is {
			return r.e
		}
	}
	return api.OK
}

func TestCheckAgainstTheLongWay(t *testing.T) {
	r := rand.New(rand.NewSource(1))
	told := map[api.Errno]int{}
	all := spoils()
	var names []string
	for name := range all {
		names = append(names, name)
	}
	slices.Sort(names)
	for range 3000 {
		m := altered(r, sorterMachine(t))
		all[names[r.Intn(len(names))]].f(&m)
		e, want := Check(m), checkedTheLongWay(m)
		if e != want {
			t.Fatalf("%v: %d, want %d", m, e, want)
		}
		told[e]++
	}
	for _, e := range []api.Errno{api.ErrForm, api.ErrText, api.ErrRange, api.ErrMany, api.ErrWho, api.ErrTwice} {
		if told[e] < 50 {
			t.Errorf("error %d was told just %d times", e, told[e])
		}
	}
}
