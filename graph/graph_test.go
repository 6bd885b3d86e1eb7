package graph

import (
	"math/rand"
	"reflect"
	"slices"
	"strconv"
	"strings"
	"testing"

	"gangsaw/api"
	"gangsaw/command"
	"gangsaw/join"
	"gangsaw/line"
	"gangsaw/shell"
)

const (
	most     = int(^uint(0) >> 1)
	smallest = -most - 1
)

var longest = strings.Repeat("z", api.MaxWord)

// in answers ports out of numbers, that of a node ahead of that of its output.
func in(n ...int) []api.Port {
	var l []api.Port
	for i := 0; i < len(n); i += 2 {
		l = append(l, api.Port{Node: n[i], Out: n[i+1]})
	}
	return l
}

func source(name string) api.Node           { return api.Node{Kind: api.Source, File: name} }
func split(wide int, p ...int) api.Node     { return api.Node{Kind: api.Split, Wide: wide, In: in(p...)} }
func work(c api.Command, p ...int) api.Node { return api.Node{Kind: api.Work, C: c, In: in(p...)} }
func joined(how int, p ...int) api.Node     { return api.Node{Kind: api.Join, How: how, In: in(p...)} }
func sink(p ...int) api.Node                { return api.Node{Kind: api.Sink, File: "z", In: in(p...)} }

func again(c api.Command, p ...int) api.Node {
	return api.Node{Kind: api.Join, How: api.Again, C: c, In: in(p...)}
}

func graphOf(l ...api.Node) api.Graph { return api.Graph{Nodes: l} }

var (
	sorted  = api.Command{Kind: api.Sort}
	counted = api.Command{Kind: api.Count}
	once    = api.Command{Kind: api.Once}
	turned  = api.Command{Kind: api.Turn}
)

// sorter answers a graph with a node of each kind: two files, one behind the other, in two parts, sorted, merged.
func sorter() api.Graph {
	return graphOf(
		source("a"),
		source("b"),
		joined(api.Behind, 0, 0, 1, 0),
		split(2, 2, 0),
		work(sorted, 3, 0),
		work(sorted, 3, 1),
		joined(api.Merge, 4, 0, 5, 0),
		sink(6, 0),
	)
}

// chain answers a graph of so many nodes, one behind the other.
func chain(nodes int) api.Graph {
	g := graphOf(source("a"))
	for i := range nodes - 2 {
		g.Nodes = append(g.Nodes, work(turned, i, 0))
	}
	g.Nodes = append(g.Nodes, sink(nodes-2, 0))
	return g
}

func TestOuts(t *testing.T) {
	for _, kind := range []int{smallest, -1, 0, api.Source, api.Work, api.Join, api.Sink + 1, most} {
		for _, wide := range []int{-1, 0, 1, 3, most} {
			if got := Outs(api.Node{Kind: kind, Wide: wide}); got != 1 {
				t.Errorf("kind %d, wide %d: %d, want 1", kind, wide, got)
			}
		}
	}
	for _, wide := range []int{0, 1, 2, api.MaxWidth, api.MaxWidth + 1} {
		if got := Outs(api.Node{Kind: api.Split, Wide: wide}); got != wide {
			t.Errorf("a split, wide %d: %d", wide, got)
		}
		if got := Outs(api.Node{Kind: api.Sink, Wide: wide}); got != 0 {
			t.Errorf("a sink, wide %d: %d", wide, got)
		}
	}
}

// sound answers graphs with which nothing is wrong.
func sound() map[string]api.Graph {
	five := []api.Node{source("a"), split(api.MaxWidth, 0, 0), joined(api.Behind, 1, 4, 1, 2, 1, 0, 1, 3, 1, 1), sink(2, 0)}
	return map[string]api.Graph{
		"sorter":               sorter(),
		"nothing done":         graphOf(source("a"), sink(0, 0)),
		"longest name":         graphOf(source(longest), sink(0, 0)),
		"the same file":        graphOf(source("z"), source("z"), joined(api.Sum, 1, 0, 0, 0), sink(2, 0)),
		"one wide":             graphOf(source("a"), split(1, 0, 0), sink(1, 0)),
		"a join of one":        graphOf(source("a"), joined(api.Sum, 0, 0), sink(1, 0)),
		"widest":               graphOf(five...),
		"a join again":         graphOf(source("a"), again(api.Command{Kind: api.Head, N: api.MaxN}, 0, 0), sink(1, 0)),
		"again what is Each":   graphOf(source("a"), again(api.Command{Kind: api.Keep, Word: "2"}, 0, 0), sink(1, 0)),
		"a split of a split":   graphOf(source("a"), split(2, 0, 0), split(2, 1, 1), joined(api.Behind, 2, 1, 1, 0, 2, 0), sink(3, 0)),
		"a source in between":  graphOf(source("a"), work(sorted, 0, 0), source("b"), joined(api.Merge, 2, 0, 1, 0), sink(3, 0)),
		"most nodes":           chain(api.MaxNodes),
		"an empty list":        graphOf(api.Node{Kind: api.Source, File: "a", In: []api.Port{}}, sink(0, 0)),
		"split into one below": graphOf(source("a"), split(3, 0, 0), work(once, 1, 2), joined(api.Behind, 1, 1, 2, 0, 1, 0), sink(3, 0)),
	}
}

func TestCheck(t *testing.T) {
	for name, g := range sound() {
		if e := Check(g); e != api.OK {
			t.Errorf("%s: %d", name, e)
		}
	}
}

// change answers the sorter with one of its nodes changed.
func change(at int, f func(n *api.Node)) api.Graph {
	g := sorter()
	f(&g.Nodes[at])
	return g
}

// wrongNodes answers sorters in which one field is wrong, with what is told of them.
func wrongNodes() map[string]struct {
	g    api.Graph
	want api.Errno
} {
	type node = *api.Node
	return map[string]struct {
		g    api.Graph
		want api.Errno
	}{
		"kind 0":                    {change(0, func(n node) { n.Kind = 0 }), api.ErrForm},
		"kind below":                {change(2, func(n node) { n.Kind = -1 }), api.ErrForm},
		"kind above":                {change(7, func(n node) { n.Kind = api.Sink + 1 }), api.ErrForm},
		"no kind at all":            {change(4, func(n node) { *n = api.Node{} }), api.ErrForm},
		"a source's name is none":   {change(1, func(n node) { n.File = "" }), api.ErrText},
		"a source's name is great":  {change(0, func(n node) { n.File = "A" }), api.ErrText},
		"a source's name is long":   {change(0, func(n node) { n.File = longest + "z" }), api.ErrText},
		"a sink's name is none":     {change(7, func(n node) { n.File = "" }), api.ErrText},
		"a sink's name has a blank": {change(7, func(n node) { n.File = "a b" }), api.ErrText},
		"a split 0 wide":            {change(3, func(n node) { n.Wide = 0 }), api.ErrRange},
		"a split below":             {change(3, func(n node) { n.Wide = smallest }), api.ErrRange},
		"a split too wide":          {change(3, func(n node) { n.Wide = api.MaxWidth + 1 }), api.ErrRange},
		"a work without a command":  {change(4, func(n node) { n.C = api.Command{} }), api.ErrForm},
		"a work without an N":       {change(5, func(n node) { n.C.Kind = api.Tail }), api.ErrRange},
		"a work without a word":     {change(5, func(n node) { n.C.Kind = api.Drop }), api.ErrText},
		"a work with a word":        {change(5, func(n node) { n.C.Word = "a" }), api.ErrForm},
		"a join of no how":          {change(6, func(n node) { n.How = 0 }), api.ErrForm},
		"a join above":              {change(6, func(n node) { n.How = api.Again + 1 }), api.ErrForm},
		"a join with a command":     {change(6, func(n node) { n.C = sorted }), api.ErrForm},
		"a join with a word":        {change(6, func(n node) { n.C.Word = "a" }), api.ErrForm},
		"again without a command":   {change(6, func(n node) { n.How = api.Again }), api.ErrForm},
		"again without an N":        {change(6, func(n node) { n.How, n.C.Kind = api.Again, api.Head }), api.ErrRange},
		"again without two bytes":   {change(6, func(n node) { n.How, n.C = api.Again, api.Command{Kind: api.Swap, Word: "a"} }), api.ErrText},
		"a source with an input":    {change(1, func(n node) { n.In = in(0, 0) }), api.ErrForm},
		"a split without one":       {change(3, func(n node) { n.In = nil }), api.ErrForm},
		"a split with two":          {change(3, func(n node) { n.In = in(2, 0, 1, 0) }), api.ErrForm},
		"a work without one":        {change(4, func(n node) { n.In = nil }), api.ErrForm},
		"a work with two":           {change(4, func(n node) { n.In = in(3, 0, 3, 1) }), api.ErrForm},
		"a sink without one":        {change(7, func(n node) { n.In = nil }), api.ErrForm},
		"a sink with two":           {change(7, func(n node) { n.In = in(6, 0, 5, 0) }), api.ErrForm},
		"a join without one":        {change(6, func(n node) { n.In = nil }), api.ErrForm},
		"a join with six":           {change(6, func(n node) { n.In = in(0, 0, 1, 0, 2, 0, 3, 0, 4, 0, 5, 0) }), api.ErrForm},
		"a source's width":          {change(0, func(n node) { n.Wide = 1 }), api.ErrForm},
		"a source's command":        {change(0, func(n node) { n.C = sorted }), api.ErrForm},
		"a source's how":            {change(0, func(n node) { n.How = api.Behind }), api.ErrForm},
		"a split's file":            {change(3, func(n node) { n.File = "a" }), api.ErrForm},
		"a split's command":         {change(3, func(n node) { n.C.N = 1 }), api.ErrForm},
		"a split's how":             {change(3, func(n node) { n.How = -1 }), api.ErrForm},
		"a work's file":             {change(4, func(n node) { n.File = "a" }), api.ErrForm},
		"a work's width":            {change(4, func(n node) { n.Wide = 1 }), api.ErrForm},
		"a work's how":              {change(4, func(n node) { n.How = api.Again }), api.ErrForm},
		"a join's file":             {change(6, func(n node) { n.File = "A" }), api.ErrForm},
		"a join's width":            {change(6, func(n node) { n.Wide = 2 }), api.ErrForm},
		"a sink's width":            {change(7, func(n node) { n.Wide = -1 }), api.ErrForm},
		"a sink's command":          {change(7, func(n node) { n.C.Word = "a" }), api.ErrForm},
		"a sink's how":              {change(7, func(n node) { n.How = api.Merge }), api.ErrForm},
	}
}

func TestCheckOfWrongNodes(t *testing.T) {
	for name, x := range wrongNodes() {
		if e := Check(x.g); e != x.want {
			t.Errorf("%s: %d, want %d", name, e, x.want)
		}
	}
}

func TestCheckOfPorts(t *testing.T) {
	for name, x := range map[string]struct {
		g    api.Graph
		want api.Errno
	}{
		"itself":                      {change(4, func(n *api.Node) { n.In = in(4, 0) }), api.ErrWho},
		"a node behind":               {change(4, func(n *api.Node) { n.In = in(5, 0) }), api.ErrWho},
		"no node at all":              {change(4, func(n *api.Node) { n.In = in(8, 0) }), api.ErrWho},
		"a node below":                {change(4, func(n *api.Node) { n.In = in(-1, 0) }), api.ErrWho},
		"far out":                     {change(4, func(n *api.Node) { n.In = in(most, most) }), api.ErrWho},
		"far below":                   {change(4, func(n *api.Node) { n.In = in(smallest, smallest) }), api.ErrWho},
		"an output below":             {change(4, func(n *api.Node) { n.In = in(3, -1) }), api.ErrWho},
		"an output above":             {change(4, func(n *api.Node) { n.In = in(3, 2) }), api.ErrWho},
		"a source's second":           {change(2, func(n *api.Node) { n.In = in(0, 0, 1, 1) }), api.ErrWho},
		"a work's second":             {change(6, func(n *api.Node) { n.In = in(4, 1, 5, 0) }), api.ErrWho},
		"a join's second":             {change(7, func(n *api.Node) { n.In = in(6, 1) }), api.ErrWho},
		"twice in one node":           {change(6, func(n *api.Node) { n.In = in(4, 0, 4, 0) }), api.ErrTwice},
		"twice, far off":              {change(6, func(n *api.Node) { n.In = in(4, 0, 0, 0) }), api.ErrTwice},
		"twice a split's":             {change(5, func(n *api.Node) { n.In = in(3, 0) }), api.ErrTwice},
		"twice, of a sink":            {change(7, func(n *api.Node) { n.In = in(5, 0) }), api.ErrTwice},
		"who, then twice":             {change(6, func(n *api.Node) { n.In = in(4, 1, 0, 0) }), api.ErrWho},
		"twice, then who":             {change(6, func(n *api.Node) { n.In = in(0, 0, 4, 1) }), api.ErrTwice},
		"a split's third goes":        {change(3, func(n *api.Node) { n.Wide = 3 }), api.ErrForm},
		"a join leaves one":           {change(6, func(n *api.Node) { n.In = in(5, 0) }), api.ErrForm},
		"another's first output":      {change(6, func(n *api.Node) { n.In = in(5, 0, 4, 0) }), api.OK},
		"the other way round":         {change(2, func(n *api.Node) { n.In = in(1, 0, 0, 0) }), api.OK},
		"a source leads nowhere":      {graphOf(source("a"), source("b"), sink(0, 0)), api.ErrForm},
		"the last one leads nowhere":  {graphOf(source("a"), source("b"), sink(1, 0)), api.ErrForm},
		"a split leads nowhere":       {graphOf(source("a"), source("b"), split(2, 0, 0), sink(1, 0)), api.ErrForm},
		"half a split leads nowhere":  {graphOf(source("a"), split(2, 0, 0), sink(1, 1)), api.ErrForm},
		"a sink is no port":           {graphOf(source("a"), sink(0, 0), sink(1, 0)), api.ErrForm},
		"a sink with another":         {graphOf(source("a"), source("b"), sink(0, 0), sink(1, 0)), api.ErrForm},
		"a sink ahead of a source":    {graphOf(source("a"), sink(0, 0), source("b")), api.ErrForm},
		"no sink":                     {graphOf(source("a")), api.ErrForm},
		"no sink behind":              {graphOf(source("a"), work(sorted, 0, 0)), api.ErrForm},
		"a sink alone, of itself":     {graphOf(sink(0, 0)), api.ErrWho},
		"nil":                         {api.Graph{}, api.ErrForm},
		"none":                        {api.Graph{Nodes: []api.Node{}}, api.ErrForm},
		"a node too many":             {chain(api.MaxNodes + 1), api.ErrMany},
		"far too many, all with none": {api.Graph{Nodes: make([]api.Node, 10000)}, api.ErrMany},
		"the most, all with none":     {api.Graph{Nodes: make([]api.Node, api.MaxNodes)}, api.ErrForm},
	} {
		if e := Check(x.g); e != x.want {
			t.Errorf("%s: %d, want %d", name, e, x.want)
		}
	}
}

func TestCheckTellsTheFirstError(t *testing.T) {
	head := api.Command{Kind: api.Head} // without its N: ErrRange
	for name, x := range map[string]struct {
		l    []api.Node
		want api.Errno
	}{
		"text, then inputs":                {[]api.Node{{Kind: api.Source, In: in(0, 0)}}, api.ErrText},
		"text, then what has no use":       {[]api.Node{{Kind: api.Source, Wide: 1}}, api.ErrText},
		"text, then no sink":               {[]api.Node{source("A")}, api.ErrText},
		"range, then inputs":               {[]api.Node{{Kind: api.Split}}, api.ErrRange},
		"range, then what has no use":      {[]api.Node{source("a"), {Kind: api.Split, File: "a", In: in(0, 0)}}, api.ErrRange},
		"range, then who":                  {[]api.Node{split(0, 9, 9)}, api.ErrRange},
		"a command's error, then inputs":   {[]api.Node{work(head)}, api.ErrRange},
		"a join's error, then inputs":      {[]api.Node{again(head)}, api.ErrRange},
		"a join's error, then its width":   {[]api.Node{source("a"), {Kind: api.Join, How: api.Again, C: head, Wide: 1, In: in(0, 0)}}, api.ErrRange},
		"inputs, then who":                 {[]api.Node{{Kind: api.Source, File: "a", In: in(9, 9)}}, api.ErrForm},
		"two inputs, then who":             {[]api.Node{source("a"), work(sorted, 9, 9, 0, 0)}, api.ErrForm},
		"what has no use, then who":        {[]api.Node{{Kind: api.Work, C: sorted, Wide: 1, In: in(9, 9)}}, api.ErrForm},
		"a sink's who, then its place":     {[]api.Node{source("a"), sink(0, 1), sink(0, 0)}, api.ErrWho},
		"a sink's twice, then its place":   {[]api.Node{source("a"), work(sorted, 0, 0), sink(0, 0), sink(1, 0)}, api.ErrTwice},
		"the last one's who, then no sink": {[]api.Node{source("a"), work(sorted, 1, 0)}, api.ErrWho},
		"twice, then no sink":              {[]api.Node{source("a"), work(sorted, 0, 0), work(sorted, 0, 0)}, api.ErrTwice},
		"who, then a later text":           {[]api.Node{work(sorted, 0, 0), source("")}, api.ErrWho},
		"twice, then a later kind":         {[]api.Node{source("a"), work(sorted, 0, 0), work(sorted, 0, 0), {}}, api.ErrTwice},
		"a kind, then a later twice":       {[]api.Node{source("a"), {}, joined(api.Behind, 0, 0, 0, 0)}, api.ErrForm},
		"a sink ahead, then a later text":  {[]api.Node{source("a"), sink(0, 0), source("")}, api.ErrForm},
		"a text, then a sink ahead":        {[]api.Node{source(""), sink(0, 0), sink(1, 0)}, api.ErrText},
		"nowhere is last of all":           {[]api.Node{source("a"), source("b"), sink(0, 1)}, api.ErrWho},
		"many, then all else":              {make([]api.Node, api.MaxNodes+1), api.ErrMany},
	} {
		if e := Check(graphOf(x.l...)); e != x.want {
			t.Errorf("%s: %d, want %d", name, e, x.want)
		}
	}
}

// checkedTheLongWay tells the first error of rows that are written down all at once.
func checkedTheLongWay(g api.Graph) api.Errno {
	type row struct {
		is bool
		e  api.Errno
	}
	rows := []row{{len(g.Nodes) > api.MaxNodes, api.ErrMany}}
	var ahead, seen []api.Port
	for i, n := range g.Nodes {
		is := func(kinds ...int) bool { return slices.Contains(kinds, n.Kind) }
		rows = append(rows,
			row{!is(api.Source, api.Split, api.Work, api.Join, api.Sink), api.ErrForm},
			row{is(api.Source, api.Sink) && !command.Word(n.File), api.ErrText},
			row{is(api.Split) && !slices.Contains([]int{1, 2, 3, 4, 5}, n.Wide), api.ErrRange},
			row{is(api.Work) && command.Check(n.C) != api.OK, command.Check(n.C)},
			row{is(api.Join) && join.Check(n.How, n.C) != api.OK, join.Check(n.How, n.C)},
			row{is(api.Source) && len(n.In) != 0, api.ErrForm},
			row{is(api.Split, api.Work, api.Sink) && len(n.In) != 1, api.ErrForm},
			row{is(api.Join) && (len(n.In) == 0 || len(n.In) > 5), api.ErrForm},
			row{n.File != "" && !is(api.Source, api.Sink), api.ErrForm},
			row{n.Wide != 0 && !is(api.Split), api.ErrForm},
			row{n.C != api.Command{} && !is(api.Work, api.Join), api.ErrForm},
			row{n.How != 0 && !is(api.Join), api.ErrForm},
		)
		for _, p := range n.In {
			rows = append(rows, row{!slices.Contains(ahead, p), api.ErrWho}, row{slices.Contains(seen, p), api.ErrTwice})
			seen = append(seen, p)
		}
		rows = append(rows, row{is(api.Sink) && i < len(g.Nodes)-1, api.ErrForm}, row{!is(api.Sink) && i == len(g.Nodes)-1, api.ErrForm})
		for k := range max(0, min(5, Outs(n))) {
			ahead = append(ahead, api.Port{Node: i, Out: k})
		}
	}
	rows = append(rows, row{len(g.Nodes) == 0, api.ErrForm})
	for _, p := range ahead {
		rows = append(rows, row{!slices.Contains(seen, p), api.ErrForm})
	}
	for _, r := range rows {
		if r.is {
			return r.e
		}
	}
	return api.OK
}

// drawn answers a graph of at least so many nodes, with which nothing is wrong.
func drawn(r *rand.Rand, least int) api.Graph {
	commands := []api.Command{
		{Kind: api.Keep, Word: "a"}, {Kind: api.Drop, Word: "ab"}, {Kind: api.Swap, Word: "ab"}, {Kind: api.Field, N: 1}, {Kind: api.Field, N: 2},
		turned, sorted, once, counted, {Kind: api.Head, N: 2}, {Kind: api.Tail, N: 3},
	}
	var l []api.Node
	var open []api.Port
	add := func(n api.Node) {
		l = append(l, n)
		for k := range Outs(n) {
			open = append(open, api.Port{Node: len(l) - 1, Out: k})
		}
	}
	take := func(n int) []api.Port {
		r.Shuffle(len(open), func(i, j int) { open[i], open[j] = open[j], open[i] })
		ports := slices.Clone(open[:n])
		open = open[n:]
		return ports
	}
	add(source("a"))
	for len(l) < least || len(open) > 1 {
		kind := 1 + r.Intn(4)
		if len(l) >= least {
			kind = api.Join
		}
		switch kind {
		case api.Source:
			add(source(string(rune('a' + r.Intn(4)))))
		case api.Split:
			add(api.Node{Kind: api.Split, Wide: 1 + r.Intn(api.MaxWidth), In: take(1)})
		case api.Work:
			add(api.Node{Kind: api.Work, C: commands[r.Intn(len(commands))], In: take(1)})
		case api.Join:
			n := api.Node{Kind: api.Join, How: 1 + r.Intn(4), In: take(min(len(open), 1+r.Intn(api.MaxWidth)))}
			if n.How == api.Again {
				n.C = commands[r.Intn(len(commands))]
			}
			add(n)
		}
	}
	add(api.Node{Kind: api.Sink, File: "z", In: take(1)})
	if len(l) > api.MaxNodes {
		return drawn(r, least)
	}
	return api.Graph{Nodes: l}
}

// spoilt changes a field of a node, whichever.
func spoilt(r *rand.Rand, g api.Graph) {
	n := &g.Nodes[r.Intn(len(g.Nodes))]
	small := r.Intn(9) - 1
	switch r.Intn(9) {
	case 0:
		n.Kind = small
	case 1:
		n.File = []string{"", "a", "A"}[r.Intn(3)]
	case 2:
		n.C = []api.Command{{}, {Kind: small}, sorted, {N: small}, {Word: "a"}}[r.Intn(5)]
	case 3:
		n.How = small
	case 4:
		n.Wide = small
	case 5:
		n.In = append(n.In, api.Port{Node: r.Intn(len(g.Nodes)), Out: r.Intn(3)})
	case 6:
		n.In = n.In[:len(n.In)/2]
	default:
		if len(n.In) > 0 {
			n.In[r.Intn(len(n.In))] = api.Port{Node: r.Intn(len(g.Nodes)+2) - 1, Out: r.Intn(4) - 1}
		}
	}
}

func TestCheckAgainstTheLongWay(t *testing.T) {
	r := rand.New(rand.NewSource(1))
	told := map[api.Errno]int{}
	for range 20000 {
		g := drawn(r, r.Intn(12))
		if e := Check(g); e != api.OK || checkedTheLongWay(g) != api.OK {
			t.Fatalf("%v: %d", g, e)
		}
		for range 1 + r.Intn(3) {
			spoilt(r, g)
			e := Check(g)
			if want := checkedTheLongWay(g); e != want {
				t.Fatalf("%v: %d, want %d", g, e, want)
			}
			told[e]++
		}
		cut := api.Graph{Nodes: g.Nodes[:r.Intn(len(g.Nodes))]}
		if e := Check(cut); e != checkedTheLongWay(cut) {
			t.Fatalf("%v: %d, want %d", cut, e, checkedTheLongWay(cut))
		}
	}
	for _, e := range []api.Errno{api.OK, api.ErrForm, api.ErrText, api.ErrRange, api.ErrWho, api.ErrTwice} {
		if told[e] < 100 {
			t.Errorf("error %d was told just %d times", e, told[e])
		}
	}
}

func TestSame(t *testing.T) {
	all := []api.Graph{{}, {Nodes: make([]api.Node, 1)}, {Nodes: make([]api.Node, 2)}, {Nodes: make([]api.Node, api.MaxNodes+1)}}
	for _, f := range []func(n *api.Node){
		func(n *api.Node) {},
		func(n *api.Node) { n.Kind = 0 },
		func(n *api.Node) { n.Kind = api.Sort },
		func(n *api.Node) { n.File = "x" },
		func(n *api.Node) { n.C.Kind++ },
		func(n *api.Node) { n.C.Word = "x" },
		func(n *api.Node) { n.C.N = -1 },
		func(n *api.Node) { n.How = 9 },
		func(n *api.Node) { n.Wide = 9 },
		func(n *api.Node) { n.In = nil },
		func(n *api.Node) { n.In = in(9, 0) },
		func(n *api.Node) { n.In = in(9, 9) },
		func(n *api.Node) { n.In = in(9, 9, 9, 9) },
		func(n *api.Node) { n.In = in(9, 0, 9, 9) },
	} {
		for _, at := range []int{2, 7} {
			all = append(all, change(at, f))
		}
	}
	all = slices.Delete(all, 5, 6) // the sorter, twice as it is
	all = append(all, graphOf(sorter().Nodes[:7]...), graphOf(append(sorter().Nodes, api.Node{})...))
	for i, a := range all {
		for j, b := range all {
			if got := Same(a, b); got != (i == j) {
				t.Errorf("%d and %d: %t: %v, %v", i, j, got, a, b)
			}
		}
	}
	if !Same(sorter(), sorter()) {
		t.Error("two that are made alike differ")
	}
	if !Same(api.Graph{}, api.Graph{Nodes: []api.Node{}}) || !Same(api.Graph{Nodes: []api.Node{}}, api.Graph{}) {
		t.Error("no nodes, nil and empty, differ")
	}
	if !Same(graphOf(api.Node{}), graphOf(api.Node{In: []api.Port{}})) || !Same(graphOf(api.Node{In: []api.Port{}}), graphOf(api.Node{})) {
		t.Error("no inputs, nil and empty, differ")
	}
}

// of answers files out of names and texts, one name ahead of each text.
func of(s ...string) []api.File {
	var l []api.File
	for i := 0; i < len(s); i += 2 {
		l = append(l, api.File{Name: s[i], B: []byte(s[i+1])})
	}
	return l
}

func TestEval(t *testing.T) {
	files := of("a", "3\n1\n2\n0", "b", "b c\na\n\nb c", "c", "", "d", "\n", "z", "no")
	head := api.Command{Kind: api.Head, N: 3}
	for name, x := range map[string]struct {
		g    api.Graph
		want string
	}{
		"sorter":             {sorter(), "\n0\n1\n2\n3\na\nb c\nb c\n"},
		"as it is":           {graphOf(source("a"), sink(0, 0)), "3\n1\n2\n0\n"},
		"no bytes":           {graphOf(source("c"), sink(0, 0)), ""},
		"a line feed":        {graphOf(source("d"), sink(0, 0)), "\n"},
		"not there":          {graphOf(source("x"), sink(0, 0)), ""},
		"not there, counts":  {graphOf(source("x"), work(counted, 0, 0), sink(1, 0)), "0\n"},
		"in order":           {graphOf(source("a"), source("b"), joined(api.Behind, 1, 0, 0, 0), sink(2, 0)), "b c\na\n\nb c\n3\n1\n2\n0\n"},
		"the same file":      {graphOf(source("a"), source("a"), joined(api.Behind, 0, 0, 1, 0), sink(2, 0)), "3\n1\n2\n0\n3\n1\n2\n0\n"},
		"with none between":  {graphOf(source("a"), source("c"), source("d"), joined(api.Behind, 0, 0, 1, 0, 2, 0), sink(3, 0)), "3\n1\n2\n0\n\n"},
		"a part":             {graphOf(source("a"), split(3, 0, 0), joined(api.Behind, 1, 2, 1, 1, 1, 0), sink(2, 0)), "2\n0\n1\n3\n"},
		"as wide as can be":  {graphOf(source("a"), split(5, 0, 0), work(counted, 1, 0), joined(api.Behind, 2, 0, 1, 4, 1, 3, 1, 2, 1, 1), sink(3, 0)), "0\n0\n2\n1\n3\n"},
		"one wide":           {graphOf(source("a"), split(1, 0, 0), sink(1, 0)), "3\n1\n2\n0\n"},
		"unsorted, merged":   {graphOf(source("a"), source("b"), joined(api.Merge, 0, 0, 1, 0), sink(2, 0)), "3\n1\n2\n0\nb c\na\n\nb c\n"},
		"sums":               {graphOf(source("a"), source("b"), source("a"), joined(api.Sum, 0, 0, 1, 0, 2, 0), sink(3, 0)), "6\n"},
		"counts, summed":     {graphOf(source("b"), split(3, 0, 0), work(counted, 1, 0), work(counted, 1, 1), work(counted, 1, 2), joined(api.Sum, 2, 0, 3, 0, 4, 0), sink(5, 0)), "4\n"},
		"once again":         {graphOf(source("a"), source("a"), work(sorted, 0, 0), work(sorted, 1, 0), joined(api.Merge, 2, 0, 3, 0), again(once, 4, 0), sink(5, 0)), "0\n1\n2\n3\n"},
		"a head of heads":    {graphOf(source("a"), source("b"), work(head, 0, 0), work(head, 1, 0), again(head, 3, 0, 2, 0), sink(4, 0)), "b c\na\n\n"},
		"a field":            {graphOf(source("b"), work(api.Command{Kind: api.Field, N: 2}, 0, 0), sink(1, 0)), "c\n\n\nc\n"},
		"work upon work":     {graphOf(source("a"), work(sorted, 0, 0), work(api.Command{Kind: api.Tail, N: 2}, 1, 0), work(api.Command{Kind: api.Swap, Word: "3x"}, 2, 0), sink(3, 0)), "2\nx\n"},
		"a file as the sink": {graphOf(source("z"), work(turned, 0, 0), sink(1, 0)), "on\n"},
		"most nodes":         {chain(api.MaxNodes), "3\n1\n2\n0\n"},
	} {
		if b, e := Eval(x.g, files); string(b) != x.want || e != api.OK {
			t.Errorf("%s: %q, %d; want %q", name, b, e, x.want)
		}
	}
	for _, l := range [][]api.File{nil, {}} {
		if b, e := Eval(sorter(), l); len(b) != 0 || e != api.OK {
			t.Errorf("no files: %q, %d", b, e)
		}
	}
}

// wrongFiles answers files with what chapter 5 tells of them.
func wrongFiles() map[api.Errno][]api.File {
	return map[api.Errno][]api.File{
		api.ErrText:  of("a", "", "B", ""),
		api.ErrTwice: of("b", "", "a", ""),
		api.ErrMany:  of("a", strings.Repeat("a", api.MaxBytes+1)),
	}
}

func TestEvalOfWrongThings(t *testing.T) {
	for want, l := range wrongFiles() {
		for name, g := range sound() {
			if b, e := Eval(g, l); b != nil || e != want {
				t.Errorf("%s: %q, %d; want %d", name, b, e, want)
			}
		}
	}
	if b, e := Eval(sorter(), make([]api.File, api.MaxFiles+1)); b != nil || e != api.ErrMany {
		t.Errorf("too many files: %q, %d", b, e)
	}
	for name, x := range wrongNodes() {
		for _, l := range [][]api.File{nil, of("a", "1\n"), wrongFiles()[api.ErrText], wrongFiles()[api.ErrTwice], wrongFiles()[api.ErrMany]} {
			if b, e := Eval(x.g, l); b != nil || e != x.want {
				t.Errorf("%s: %q, %d; want %d", name, b, e, x.want)
			}
		}
	}
	for want, g := range map[api.Errno]api.Graph{
		api.ErrForm: {},
		api.ErrMany: chain(api.MaxNodes + 1),
		api.ErrWho:  graphOf(sink(0, 0)),
	} {
		if b, e := Eval(g, wrongFiles()[api.ErrText]); b != nil || e != want {
			t.Errorf("%v: %q, %d; want %d", g, b, e, want)
		}
	}
}

// theLongWay goes from a port back to the sources, by what the chapters ahead say of few bytes.
func theLongWay(t *testing.T, g api.Graph, files []api.File, p api.Port) []byte {
	t.Helper()
	n := g.Nodes[p.Node]
	var parts [][]byte
	for _, x := range n.In {
		parts = append(parts, theLongWay(t, g, files, x))
	}
	var b []byte
	var e api.Errno
	switch n.Kind {
	case api.Source:
		b, e = shell.Gather(files, []string{n.File})
	case api.Split:
		parts, e = line.Split(parts[0], n.Wide)
		b = parts[p.Out]
	case api.Work:
		b, e = command.Do(n.C, parts[0])
	case api.Join:
		b, e = join.Do(n.How, n.C, parts)
	default:
		b = parts[0]
	}
	if e != api.OK {
		t.Fatalf("node %d of %v: %d", p.Node, g, e)
	}
	return b
}

// drawnFiles answers some of the files a to d, each of few bytes.
func drawnFiles(r *rand.Rand) []api.File {
	var l []api.File
	for _, name := range []string{"a", "b", "c", "d"} {
		if r.Intn(6) == 0 {
			continue
		}
		b := make([]byte, r.Intn(30))
		for i := range b {
			b[i] = "ab1 \n\n"[r.Intn(6)]
		}
		l = append(l, api.File{Name: name, B: b})
	}
	return l
}

func TestEvalAgainstTheLongWay(t *testing.T) {
	r := rand.New(rand.NewSource(2))
	some := 0
	for range 5000 {
		g, files := drawn(r, r.Intn(30)), drawnFiles(r)
		want := theLongWay(t, g, files, api.Port{Node: len(g.Nodes) - 1})
		if b, e := Eval(g, files); string(b) != string(want) || e != api.OK {
			t.Fatalf("%v of %q: %q, %d; want %q", g, files, b, e, want)
		}
		if len(want) > 2 {
			some++
		}
	}
	if some < 1000 {
		t.Errorf("only %d graphs come to anything", some)
	}
}

// joinedSources answers a graph of five times five sources of the same file, joined by node 30, and what stands behind.
func joinedSources(behind ...api.Node) api.Graph {
	g := api.Graph{}
	var all []int
	for k := range api.MaxWidth {
		var five []int
		for i := range api.MaxWidth {
			g.Nodes = append(g.Nodes, source("a"))
			five = append(five, 6*k+i, 0)
		}
		g.Nodes = append(g.Nodes, joined(api.Behind, five...))
		all = append(all, 6*k+api.MaxWidth, 0)
	}
	g.Nodes = append(g.Nodes, joined(api.Behind, all...))
	g.Nodes = append(g.Nodes, behind...)
	return g
}

// TestEvalOfManyBytes: there is no limit for what comes into a node.
func TestEvalOfManyBytes(t *testing.T) {
	full := strings.Repeat("b\na\n", api.MaxBytes/4)
	lines := 25 * api.MaxBytes / 2
	for name, x := range map[string]struct {
		g    api.Graph
		want string
	}{
		"into the sink": {joinedSources(sink(30, 0)), strings.Repeat(full, 25)},
		"sorted":        {joinedSources(work(sorted, 30, 0), sink(31, 0)), strings.Repeat("a\n", lines/2) + strings.Repeat("b\n", lines/2)},
		"swapped":       {joinedSources(work(api.Command{Kind: api.Swap, Word: "ab"}, 30, 0), sink(31, 0)), strings.Repeat("b\n", lines)},
		"counted":       {joinedSources(work(counted, 30, 0), sink(31, 0)), strconv.Itoa(lines) + "\n"},
		"counted again": {joinedSources(again(counted, 30, 0), sink(31, 0)), strconv.Itoa(lines) + "\n"},
		"split":         {joinedSources(split(2, 30, 0), joined(api.Behind, 31, 1, 31, 0), sink(32, 0)), strings.Repeat(full, 25)},
		"merged": {
			joinedSources(split(2, 30, 0), work(sorted, 31, 0), work(sorted, 31, 1), joined(api.Merge, 32, 0, 33, 0), sink(34, 0)),
			strings.Repeat("a\n", lines/2) + strings.Repeat("b\n", lines/2),
		},
		// A sum takes numbers up to api.MaxBytes alone, and these counts are above that.
		"summed": {joinedSources(split(2, 30, 0), work(counted, 31, 0), work(counted, 31, 1), joined(api.Sum, 32, 0, 33, 0), sink(34, 0)), "0\n"},
	} {
		if b, e := Eval(x.g, of("a", full)); string(b) != x.want || e != api.OK {
			t.Errorf("%s: %d bytes, %d; want %d", name, len(b), e, len(x.want))
		}
	}
	open := strings.Repeat("a", api.MaxBytes)
	for name, g := range map[string]api.Graph{
		"as it is": graphOf(source("a"), sink(0, 0)),
		"turned":   chain(api.MaxNodes),
		"split":    graphOf(source("a"), split(2, 0, 0), joined(api.Merge, 1, 0, 1, 1), sink(2, 0)),
	} {
		// The end that a last line gets is a byte more.
		if b, e := Eval(g, of("a", open)); string(b) != open+"\n" || e != api.OK {
			t.Errorf("%s: %d bytes, %d", name, len(b), e)
		}
	}
}

// TestSplitPartsAreOfAllLines: even parts of more lines than a stream has bytes.
func TestSplitPartsAreOfAllLines(t *testing.T) {
	feeds := strings.Repeat("\n", api.MaxBytes)
	for k := range api.MaxWidth {
		// What isn't looked at is dropped, so that the sink has just one part.
		drop := api.Command{Kind: api.Head, N: 1}
		var l []api.Node
		l = append(l, split(api.MaxWidth, 30, 0))
		ports := []int{}
		for i := range api.MaxWidth {
			if i == k {
				l = append(l, work(counted, 31, i))
			} else {
				l = append(l, work(drop, 31, i))
			}
			ports = append(ports, 32+i, 0)
		}
		l = append(l, joined(api.Merge, ports...), sink(37, 0))
		want := strings.Repeat("\n", api.MaxWidth-1) + strconv.Itoa(25*api.MaxBytes/api.MaxWidth) + "\n"
		if b, e := Eval(joinedSources(l...), of("a", feeds)); string(b) != want || e != api.OK {
			t.Errorf("part %d: %q, %d; want %q", k, b, e, want)
		}
	}
}

// spareGraph answers a sorter with room behind its nodes, and behind their inputs.
func spareGraph() api.Graph {
	g := sorter()
	spare := api.Node{File: "spare", In: in(8, 8)}
	for i := range g.Nodes {
		n := &g.Nodes[i]
		n.In = append(slices.Clone(n.In), in(9, 9, 9, 9)...)[:len(n.In)]
	}
	g.Nodes = append(g.Nodes, spare, spare)[:len(g.Nodes)]
	return g
}

// spareFiles answers files with room behind them, and behind their bytes.
func spareFiles() []api.File {
	return []api.File{
		{Name: "a", B: []byte("2\n1spare")[:3]},
		{Name: "b", B: []byte("0spare")[:1]},
		{Name: "spare", B: []byte("spare")},
	}[:2]
}

// wholeGraph and wholeFiles answer what is handed in with all the room that it has.
func wholeGraph(g api.Graph) []api.Node {
	all := slices.Clone(g.Nodes[:cap(g.Nodes)])
	for i := range all {
		all[i].In = all[i].In[:cap(all[i].In)]
	}
	return all
}

func wholeFiles(l []api.File) []api.File {
	all := slices.Clone(l[:cap(l)])
	for i := range all {
		all[i].B = all[i].B[:cap(all[i].B)]
	}
	return all
}

func TestWhatIsHandedInStays(t *testing.T) {
	g, files := spareGraph(), spareFiles()
	wantGraph := wholeGraph(g)
	for i := range wantGraph {
		wantGraph[i].In = slices.Clone(wantGraph[i].In)
	}
	for _, n := range g.Nodes {
		Outs(n)
	}
	if e := Check(g); e != api.OK {
		t.Fatalf("check: %d", e)
	}
	Same(g, g)
	if b, e := Eval(g, files); string(b) != "0\n1\n2\n" || e != api.OK {
		t.Fatalf("eval: %q, %d", b, e)
	}
	if got := wholeGraph(g); !reflect.DeepEqual(got, wantGraph) {
		t.Errorf("changed: %v, want %v", got, wantGraph)
	}
	if got, want := wholeFiles(files), wholeFiles(spareFiles()); !reflect.DeepEqual(got, want) {
		t.Errorf("changed: %q, want %q", got, want)
	}
}

// TestAnswersAreNew: what was answered outlives what was handed in, and may be written to.
func TestAnswersAreNew(t *testing.T) {
	for name, g := range sound() {
		files := of("a", "2\n1\n", "b", "0\n", "z", "9\n", longest, "8\n")
		want, _ := Eval(g, of("a", "2\n1\n", "b", "0\n", "z", "9\n", longest, "8\n"))
		b, e := Eval(g, files)
		for _, f := range files {
			for i := range f.B {
				f.B[i] = '!'
			}
		}
		if string(b) != string(want) || e != api.OK || len(b) == 0 {
			t.Errorf("%s: %q, %d; want %q", name, b, e, want)
		}
		files = of("a", "2\n1\n", "b", "0\n", "z", "9\n", longest, "8\n")
		b, _ = Eval(g, files)
		for i := range b[:cap(b)] {
			b[:cap(b)][i] = '!'
		}
		if !shell.Same(files, of("a", "2\n1\n", "b", "0\n", "z", "9\n", longest, "8\n")) {
			t.Errorf("%s: what was answered is what was handed in: %q", name, files)
		}
	}
}

func TestMade(t *testing.T) {
	files := of("a", "3\n1\n2\n0")
	head := api.Command{Kind: api.Head, N: 3}
	for name, x := range map[string]struct {
		n    api.Node
		in   []string
		want []string
	}{
		"a source":        {source("a"), nil, []string{"3\n1\n2\n0\n"}},
		"no such file":    {source("b"), nil, []string{""}},
		"a split":         {split(3, 0, 0), []string{"a\nb\nc\nd"}, []string{"a\n", "b\n", "c\nd\n"}},
		"a work":          {work(turned, 9, 9), []string{"ab\ncd"}, []string{"ba\ndc\n"}},
		"work on nothing": {work(counted, 0, 0), []string{""}, []string{"0\n"}},
		"behind":          {joined(api.Behind, 0, 0, 0, 0), []string{"b", "a"}, []string{"b\na\n"}},
		"a merge":         {joined(api.Merge, 0, 0, 1, 0), []string{"b\nd\n", "a\nc"}, []string{"a\nb\nc\nd\n"}},
		"a sum":           {joined(api.Sum, 0, 0, 1, 0), []string{"2", "3\n"}, []string{"5\n"}},
		"again":           {again(head, 0, 0, 1, 0), []string{"a\nb", "c\nd\n"}, []string{"a\nb\nc\n"}},
		"a sink":          {sink(0, 0), []string{"a"}, nil},
	} {
		var in [][]byte
		for _, s := range x.in {
			in = append(in, []byte(s))
		}
		got, e := Made(x.n, files, in)
		var texts []string
		for _, b := range got {
			texts = append(texts, string(b))
		}
		if e != api.OK || !slices.Equal(texts, x.want) {
			t.Errorf("%s: %q, %d; want %q", name, texts, e, x.want)
		}
		if b, e := Made(x.n, files, append(in, nil)); b != nil || e != api.ErrForm {
			t.Errorf("%s: one more input: %q, %d", name, b, e)
		}
	}
	if b, e := Made(work(turned, 0, 0), nil, nil); b != nil || e != api.ErrForm {
		t.Errorf("an input too few: %q, %d", b, e)
	}
	if b, e := Made(api.Node{}, nil, nil); b != nil || e != api.ErrForm {
		t.Errorf("no node: %q, %d", b, e)
	}
	if b, e := Made(split(0, 0, 0), nil, make([][]byte, 1)); b != nil || e != api.ErrRange {
		t.Errorf("a split 0 wide: %q, %d", b, e)
	}
	if b, e := Made(source("a"), of("b", "", "a", ""), nil); b != nil || e != api.ErrTwice {
		t.Errorf("wrong files: %q, %d", b, e)
	}
	many := []byte(strings.Repeat("ab\n", 5*api.MaxBytes))
	if b, e := Made(work(turned, 0, 0), nil, [][]byte{many}); e != api.OK || string(b[0]) != strings.Repeat("ba\n", 5*api.MaxBytes) {
		t.Errorf("many bytes: %d", e)
	}
}
