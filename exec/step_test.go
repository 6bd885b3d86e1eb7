package exec

import (
	"slices"
	"strings"
	"testing"

	"gangsaw/api"
	"gangsaw/graph"
)

// state is what a step may change of a process and of the pipes around it.
type state struct {
	got, out  []string
	at        int
	read      bool
	over      bool
	from, to  []string // what the pipes of inputs and outputs have
	shut      string   // of each input, then of each output: x or -
	closed    string
	sunk      string
	untouched bool // whether all else is as it was
}

func texts(l [][]byte) []string {
	var s []string
	for _, b := range l {
		s = append(s, string(b))
	}
	return s
}

// around answers the pipes of a node: those of its inputs, then those of its outputs.
func around(m api.Machine, i int) (from, to []*api.Pipe) {
	to = make([]*api.Pipe, graph.Outs(m.G.Nodes[i]))
	at := 0
	for j, n := range m.G.Nodes {
		for _, p := range n.In {
			if j == i {
				from = append(from, &m.Pipes[at])
			}
			if p.Node == i {
				to[p.Out] = &m.Pipes[at]
			}
			at++
		}
	}
	return from, to
}

// seen answers the state of a process, if it was in the machine ahead.
func seen(ahead, m api.Machine, i int) state {
	flag := map[bool]string{true: "x", false: "-"}
	p := m.P[i]
	s := state{got: texts(p.Got), out: texts(p.Out), at: p.At, read: p.Read, over: p.Over, sunk: string(m.Sunk)}
	from, to := around(m, i)
	for k, x := range slices.Concat(from, to) {
		if k < len(from) {
			s.from = append(s.from, string(x.B))
		} else {
			s.to = append(s.to, string(x.B))
		}
		s.shut += flag[x.Shut]
		s.closed += flag[x.Closed]
	}
	rest := cloned(m)
	rest.P[i], rest.Sunk = ahead.P[i], ahead.Sunk
	af, at := around(ahead, i)
	rf, rt := around(rest, i)
	for k, x := range slices.Concat(rf, rt) {
		*x = *slices.Concat(af, at)[k]
	}
	s.untouched = alike(rest, ahead)
	return s
}

func same(a, b state) bool {
	return slices.Equal(a.got, b.got) && slices.Equal(a.out, b.out) && slices.Equal(a.from, b.from) && slices.Equal(a.to, b.to) &&
		a.at == b.at && a.read == b.read && a.over == b.over && a.shut == b.shut && a.closed == b.closed && a.sunk == b.sunk && a.untouched == b.untouched
}

type process = api.Process

func lists(s ...string) [][]byte {
	var l [][]byte
	for _, x := range s {
		l = append(l, []byte(x))
	}
	return l
}

// put answers a machine of the graph with that process of node i, and those pipes around it.
func put(t *testing.T, g api.Graph, i int, p process, pipes ...api.Pipe) api.Machine {
	t.Helper()
	m := made(t, g, of("a", "3\n1\n2"), 9)
	m.Sunk = []byte("#")
	m.P[i] = p
	from, to := around(m, i)
	for k, x := range slices.Concat(from, to) {
		*x = pipes[k]
	}
	return m
}

func has(s string) api.Pipe { return api.Pipe{B: []byte(s), Room: 9} }

func room(n int, s string) api.Pipe { return api.Pipe{B: []byte(s), Room: n} }

func shut() api.Pipe { return api.Pipe{Room: 9, Shut: true} }

func closed(p api.Pipe) api.Pipe {
	p.Closed = true
	return p
}

type stepCase struct {
	g     api.Graph
	i     int
	p     process
	pipes []api.Pipe
	want  state
}

func pipes(l ...api.Pipe) []api.Pipe { return l }

func testSteps(t *testing.T, cases map[string]stepCase) {
	t.Helper()
	for name, x := range cases {
		m := put(t, x.g, x.i, x.p, x.pipes...)
		n, e := Step(m, x.i)
		if e != api.OK {
			t.Errorf("%s: %d", name, e)
			continue
		}
		x.want.untouched = true
		if s := seen(m, n, x.i); !same(s, x.want) {
			t.Errorf("%s: %+v, want %+v", name, s, x.want)
		}
		if x, said, e := Run(m, []int{x.i}); !alike(x, n) || !slices.Equal(said, []api.Errno{api.OK}) || e != api.OK {
			t.Errorf("%s: run: %v, %v, %d; want %v", name, x, said, e, n)
		}
	}
}

var (
	two   = graphOf(source("a"), source("b"), joined(api.Behind, 0, 0, 1, 0), sink(2, 0))
	three = graphOf(source("a"), split(3, 0, 0), joined(api.Behind, 1, 2, 1, 1, 1, 0), sink(2, 0))
)

func TestStepWrites(t *testing.T) {
	turn := single(work(turned, 0, 0))
	testSteps(t, map[string]stepCase{
		"all": {turn, 1, process{Got: lists("x"), Out: lists("abc")}, pipes(has("y\n"), has("z")),
			state{got: []string{"x"}, out: []string{""}, from: []string{"y\n"}, to: []string{"zabc"}, shut: "--", closed: "--", sunk: "#"}},
		"as many as there is room for": {turn, 1, process{Got: lists(""), Out: lists("abc")}, pipes(has(""), room(2, "z")),
			state{got: []string{""}, out: []string{"bc"}, from: []string{""}, to: []string{"za"}, shut: "--", closed: "--", sunk: "#"}},
		"more than are read at once": {turn, 1, process{Got: lists(""), Out: lists("0123456789")}, pipes(has(""), has("")),
			state{got: []string{""}, out: []string{"9"}, from: []string{""}, to: []string{"012345678"}, shut: "--", closed: "--", sunk: "#"}},
		"into a shut one": {turn, 1, process{Got: lists(""), Out: lists("0123456789ab")}, pipes(has(""), shut()),
			state{got: []string{""}, out: []string{""}, from: []string{""}, to: []string{""}, shut: "-x", closed: "--", sunk: "#"}},
		"if all is read, too": {turn, 1, process{Got: lists(""), Out: lists("a"), At: 1, Read: true}, pipes(closed(has("")), has("")),
			state{got: []string{""}, out: []string{""}, at: 1, read: true, from: []string{""}, to: []string{"a"}, shut: "--", closed: "x-", sunk: "#"}},
		"of a source": {turn, 0, process{Out: lists("ab"), Read: true}, pipes(room(1, "")),
			state{out: []string{"b"}, read: true, to: []string{"a"}, shut: "-", closed: "-", sunk: "#"}},
		"of the first output": {three, 1, process{Got: lists(""), Out: lists("a", "b", "c"), Read: true}, pipes(has(""), has("x"), has("y"), has("z")),
			state{got: []string{""}, out: []string{"", "b", "c"}, read: true, from: []string{""}, to: []string{"xa", "y", "z"}, shut: "----", closed: "----", sunk: "#"}},
		"of the second output": {three, 1, process{Got: lists(""), Out: lists("", "b", "c"), Read: true}, pipes(has(""), has(""), has(""), has("")),
			state{got: []string{""}, out: []string{"", "", "c"}, read: true, from: []string{""}, to: []string{"", "b", ""}, shut: "----", closed: "----", sunk: "#"}},
		"of one that is taken": {three, 1, process{Got: lists(""), Out: lists("a", "bc", "d"), Read: true}, pipes(has(""), room(1, "x"), room(1, ""), has("")),
			state{got: []string{""}, out: []string{"a", "c", "d"}, read: true, from: []string{""}, to: []string{"x", "b", ""}, shut: "----", closed: "----", sunk: "#"}},
		"not into a closed one": {three, 1, process{Got: lists(""), Out: lists("a", "b", "c"), Read: true}, pipes(has(""), closed(has("")), closed(shut()), has("")),
			state{got: []string{""}, out: []string{"a", "b", ""}, read: true, from: []string{""}, to: []string{"", "", "c"}, shut: "--x-", closed: "-xx-", sunk: "#"}},
	})
}

func TestStepEnds(t *testing.T) {
	testSteps(t, map[string]stepCase{
		"a source": {single(work(turned, 0, 0)), 0, process{Out: lists(""), Read: true}, pipes(has("a")),
			state{out: []string{""}, read: true, over: true, to: []string{"a"}, shut: "-", closed: "x", sunk: "#"}},
		"all outputs": {three, 1, process{Got: lists(""), Out: lists("", "", ""), At: 1, Read: true}, pipes(closed(has("")), has("a"), shut(), has("")),
			state{got: []string{""}, out: []string{"", "", ""}, at: 1, read: true, over: true, from: []string{""}, to: []string{"a", "", ""}, shut: "--x-", closed: "xxxx", sunk: "#"}},
		"one that is closed": {three, 1, process{Got: lists(""), Out: lists("", "", ""), Read: true}, pipes(has("x"), closed(has("a")), has(""), closed(shut())),
			state{got: []string{""}, out: []string{"", "", ""}, read: true, over: true, from: []string{"x"}, to: []string{"a", "", ""}, shut: "---x", closed: "-xxx", sunk: "#"}},
		"a sink": {single(work(turned, 0, 0)), 2, process{Got: lists(""), At: 1, Read: true}, pipes(closed(has(""))),
			state{got: []string{""}, at: 1, read: true, over: true, from: []string{""}, shut: "-", closed: "x", sunk: "#"}},
		"a head that had enough": {single(work(head(1), 0, 0)), 1, process{Got: lists(""), Out: lists(""), Read: true}, pipes(shut(), has("")),
			state{got: []string{""}, out: []string{""}, read: true, over: true, from: []string{""}, to: []string{""}, shut: "x-", closed: "-x", sunk: "#"}},
	})
}

func TestStepIsFull(t *testing.T) {
	last := func(c api.Command, got, out string) stepCase {
		return stepCase{single(work(c, 0, 0)), 1, process{Got: lists(got), Out: lists("")}, pipes(closed(has("")), has("")),
			state{got: []string{""}, out: []string{out}, at: 1, read: true, from: []string{""}, to: []string{""}, shut: "--", closed: "x-", sunk: "#"}}
	}
	of3 := func(n api.Node, got []string, out string) stepCase {
		n.In = in(0, 0, 1, 0, 2, 0)
		g := graphOf(source("a"), source("b"), source("c"), n, sink(3, 0))
		return stepCase{g, 3, process{Got: lists(got...), Out: lists(""), At: 2}, pipes(has("x"), has("y"), closed(has("")), has("")),
			state{got: []string{"", "", ""}, out: []string{out}, at: 3, read: true, from: []string{"x", "y", ""}, to: []string{""}, shut: "----", closed: "--x-", sunk: "#"}}
	}
	testSteps(t, map[string]stepCase{
		"a source": {single(work(turned, 0, 0)), 0, process{Out: lists("")}, pipes(has("")),
			state{out: []string{"3\n1\n2\n"}, read: true, to: []string{""}, shut: "-", closed: "-", sunk: "#"}},
		"a source of no file": {graphOf(source("b"), sink(0, 0)), 0, process{Out: lists("")}, pipes(has("")),
			state{out: []string{""}, read: true, to: []string{""}, shut: "-", closed: "-", sunk: "#"}},
		"a sort":             last(sorted, "2\n1\n3", "1\n2\n3\n"),
		"a count":            last(counted, "2\n1\n3", "3\n"),
		"a count of nothing": last(counted, "", "0\n"),
		"a once":             last(once, "1\n1\n2\n1", "1\n2\n1\n"),
		"a head":             last(head(3), "2\n1\n", "2\n1\n"),
		"a head with more":   last(head(1), "2\n1\n", "2\n"),
		"a tail":             last(api.Command{Kind: api.Tail, N: 1}, "2\n1\n3", "3\n"),
		"a line, turned":     last(turned, "ab", "ba\n"),
		"lines, turned":      last(turned, "ab\ncd", "ba\ndc\n"),
		"lines that go":      last(keep("x"), "ab\ncd", ""),
		"behind":             of3(joined(api.Behind), []string{"a\nb", "", "c"}, "a\nb\nc\n"),
		"a merge":            of3(joined(api.Merge), []string{"b\nc\n", "a\nd", "b\n"}, "a\nb\nb\nc\nd\n"),
		"a sum":              of3(joined(api.Sum), []string{"1\n9", "x", "4"}, "5\n"),
		"a head again":       of3(again(head(2)), []string{"", "a\n", "b\nc"}, "a\nb\n"),
		"a split": {three, 1, process{Got: lists("a\nb\nc\nd"), Out: lists("", "", "")}, pipes(closed(has("")), has(""), has(""), has("")),
			state{got: []string{""}, out: []string{"a\n", "b\n", "c\nd\n"}, at: 1, read: true, from: []string{""}, to: []string{"", "", ""}, shut: "----", closed: "x---", sunk: "#"}},
		"a sink": {single(work(turned, 0, 0)), 2, process{Got: lists("")}, pipes(closed(has(""))),
			state{got: []string{""}, at: 1, read: true, from: []string{""}, shut: "-", closed: "x", sunk: "#"}},
		"a sink that has got some": {single(work(turned, 0, 0)), 2, process{Got: lists("a")}, pipes(closed(has(""))),
			state{got: []string{""}, at: 1, read: true, from: []string{""}, shut: "-", closed: "x", sunk: "#"}},
		"not at the first input": {two, 2, process{Got: lists("a", "b"), Out: lists("")}, pipes(closed(has("")), has("x"), has("")),
			state{got: []string{"a", "b"}, out: []string{""}, at: 1, from: []string{"", "x"}, to: []string{""}, shut: "---", closed: "x--", sunk: "#"}},
		"not at the first of two that are over": {two, 2, process{Got: lists("a", "b"), Out: lists("")}, pipes(closed(has("")), closed(has("")), has("")),
			state{got: []string{"a", "b"}, out: []string{""}, at: 1, from: []string{"", ""}, to: []string{""}, shut: "---", closed: "xx-", sunk: "#"}},
		"a shut one that is closed": {single(work(sorted, 0, 0)), 1, process{Got: lists("b\na"), Out: lists("")}, pipes(closed(shut()), has("")),
			state{got: []string{""}, out: []string{"a\nb\n"}, at: 1, read: true, from: []string{""}, to: []string{""}, shut: "x-", closed: "x-", sunk: "#"}},
	})
}

func TestStepReads(t *testing.T) {
	// some answers a step of a work that doesn't get to its end.
	some := func(c api.Command, got, pipe, left, out, rest string) stepCase {
		return stepCase{single(work(c, 0, 0)), 1, process{Got: lists(got), Out: lists("")}, pipes(has(pipe), has("")),
			state{got: []string{left}, out: []string{out}, from: []string{rest}, to: []string{""}, shut: "--", closed: "--", sunk: "#"}}
	}
	enough := func(n int, got, pipe, out string) stepCase {
		return stepCase{single(work(head(n), 0, 0)), 1, process{Got: lists(got), Out: lists("")}, pipes(has(pipe), has("")),
			state{got: []string{""}, out: []string{out}, read: true, from: []string{""}, to: []string{""}, shut: "x-", closed: "--", sunk: "#"}}
	}
	waits := func(n api.Node) stepCase {
		n.In = in(0, 0)
		return stepCase{single(n), 1, process{Got: lists("x\n"), Out: lists("")}, pipes(has("a\n"), has("")),
			state{got: []string{"x\na\n"}, out: []string{""}, from: []string{""}, to: []string{""}, shut: "--", closed: "--", sunk: "#"}}
	}
	testSteps(t, map[string]stepCase{
		"eight at most":           some(sorted, "x", "012345678", "x01234567", "", "8"),
		"just eight":              some(sorted, "", "01234567", "01234567", "", ""),
		"one":                     some(counted, "", "\n", "\n", "", ""),
		"no whole line":           some(turned, "ab", "cd", "abcd", "", ""),
		"a whole line":            some(turned, "ab", "c\n", "", "cba\n", ""),
		"whole lines and more":    some(turned, "ab", "\ncd\n\nef", "ef", "ba\ndc\n\n", ""),
		"a feed alone":            some(turned, "", "\n", "", "\n", ""),
		"a feed that was there":   some(turned, "ab\nc", "d", "cd", "ba\n", ""),
		"kept lines":              some(keep("b"), "a", "b\nc\nb\nb", "b", "ab\nb\n", ""),
		"dropped lines":           some(api.Command{Kind: api.Drop, Word: "b"}, "", "b\nbb\n", "", "", ""),
		"swapped":                 some(api.Command{Kind: api.Swap, Word: "ab"}, "a", "ba\na", "a", "bbb\n", ""),
		"fields":                  some(api.Command{Kind: api.Field, N: 2}, "a ", "b c\na\n", "", "b\n\n", ""),
		"a once waits":            some(once, "a\n", "a\nb\n", "a\na\nb\n", "", ""),
		"a tail waits":            some(api.Command{Kind: api.Tail, N: 1}, "a\n", "b\n", "a\nb\n", "", ""),
		"a head waits":            some(head(3), "a\n", "b\nc", "a\nb\nc", "", ""),
		"a head, and more behind": some(head(2), "a", "0\n3456789", "a0\n345678", "", "9"),
		"enough":                  enough(3, "a\nb\nc", "\n", "a\nb\nc\n"),
		"enough at once":          enough(1, "", "\n", "\n"),
		"more than enough":        enough(2, "a\n", "b\nc\nd", "a\nb\n"),
		"enough that was there":   enough(1, "a\nb\n", "c", "a\n"),
		"enough, the rest goes":   enough(1, "", "\n12345678", "\n"),
		"a merge waits":           waits(joined(api.Merge)),
		"a sum waits":             waits(joined(api.Sum)),
		"a head again waits":      waits(again(head(1))),
		"turned again waits":      waits(again(turned)),
		"a split waits":           waits(split(1)),
		"of a closed one": {single(work(head(1), 0, 0)), 1, process{Got: lists(""), Out: lists("")}, pipes(closed(has("a\nb")), has("x")),
			state{got: []string{""}, out: []string{"a\n"}, read: true, from: []string{""}, to: []string{"x"}, shut: "x-", closed: "x-", sunk: "#"}},
		"of a closed one, not its end": {single(work(sorted, 0, 0)), 1, process{Got: lists(""), Out: lists("")}, pipes(closed(has("a")), has("")),
			state{got: []string{"a"}, out: []string{""}, from: []string{""}, to: []string{""}, shut: "--", closed: "x-", sunk: "#"}},
		"a sink": {single(work(turned, 0, 0)), 2, process{Got: lists("")}, pipes(has("a\nbcdefgh")),
			state{got: []string{""}, from: []string{"h"}, shut: "-", closed: "-", sunk: "#a\nbcdefg"}},
		"a sink that has got some": {single(work(turned, 0, 0)), 2, process{Got: lists("x")}, pipes(has("a")),
			state{got: []string{""}, from: []string{""}, shut: "-", closed: "-", sunk: "#xa"}},
		"behind, the first": {two, 2, process{Got: lists("a", "b\nc"), Out: lists("")}, pipes(has("d\ne\nf"), has("x\n"), has("")),
			state{got: []string{"f", "b\nc"}, out: []string{"ad\ne\n"}, from: []string{"", "x\n"}, to: []string{""}, shut: "---", closed: "---", sunk: "#"}},
		"behind, the second": {two, 2, process{Got: lists("a\n", "b\nc"), Out: lists(""), At: 1}, pipes(has("d\ne\nf"), has("x"), has("")),
			state{got: []string{"a\n", "cx"}, out: []string{"b\n"}, at: 1, from: []string{"d\ne\nf", ""}, to: []string{""}, shut: "---", closed: "---", sunk: "#"}},
	})
}

// TestStepOfErrors: nothing is done then, and nothing but the error is answered.
func TestStepOfErrors(t *testing.T) {
	turn, merge := single(work(turned, 0, 0)), graphOf(source("a"), source("b"), joined(api.Merge, 0, 0, 1, 0), sink(2, 0))
	for name, x := range map[string]struct {
		g     api.Graph
		i     int
		p     process
		pipes []api.Pipe
		want  api.Errno
	}{
		"over":                        {turn, 1, process{Got: lists(""), Out: lists(""), Read: true, Over: true}, pipes(has("a"), has("")), api.ErrLate},
		"over, with bytes":            {turn, 1, process{Got: lists("a\n"), Out: lists("b"), At: 1, Read: true, Over: true}, pipes(has("a"), has("")), api.ErrLate},
		"over, with bytes and stuck":  {turn, 1, process{Got: lists(""), Out: lists("b"), At: 1, Read: true, Over: true}, pipes(has(""), room(1, "x")), api.ErrLate},
		"a source is over":            {turn, 0, process{Out: lists(""), Read: true, Over: true}, pipes(has("a")), api.ErrLate},
		"a sink is over":              {turn, 2, process{Got: lists(""), Read: true, Over: true}, pipes(has("a")), api.ErrLate},
		"no room":                     {turn, 1, process{Got: lists(""), Out: lists("b")}, pipes(has("a\n"), room(1, "x")), api.ErrStuck},
		"no room, all is read":        {turn, 1, process{Got: lists(""), Out: lists("b"), Read: true}, pipes(has(""), room(2, "xy")), api.ErrStuck},
		"no room, it could be full":   {turn, 1, process{Got: lists("a"), Out: lists("b")}, pipes(closed(has("")), room(2, "xy")), api.ErrStuck},
		"a closed one":                {turn, 1, process{Got: lists(""), Out: lists("b")}, pipes(has("a"), closed(has(""))), api.ErrStuck},
		"a closed and shut one":       {turn, 1, process{Got: lists(""), Out: lists("b")}, pipes(has("a"), closed(shut())), api.ErrStuck},
		"no room for any output":      {three, 1, process{Got: lists(""), Out: lists("a", "b", "c"), Read: true}, pipes(has(""), room(1, "x"), closed(has("")), api.Pipe{B: full()}), api.ErrStuck},
		"no room for those with some": {three, 1, process{Got: lists(""), Out: lists("a", "", ""), Read: true}, pipes(has(""), room(1, "x"), has(""), has("")), api.ErrStuck},
		"nothing comes":               {turn, 1, process{Got: lists("a\n"), Out: lists("")}, pipes(has(""), has("")), api.ErrStuck},
		"nothing comes to a sink":     {turn, 2, process{Got: lists("a\n")}, pipes(has("")), api.ErrStuck},
		"nothing comes by a shut one": {turn, 1, process{Got: lists(""), Out: lists("")}, pipes(shut(), has("")), api.ErrStuck},
		"nothing comes, first":        {merge, 2, process{Got: lists("", ""), Out: lists("")}, pipes(has(""), has("a"), has("")), api.ErrStuck},
		"nothing comes, second":       {merge, 2, process{Got: lists("", ""), Out: lists(""), At: 1}, pipes(has("a"), has(""), has("")), api.ErrStuck},
		"enough is there, none comes": {single(work(head(1), 0, 0)), 1, process{Got: lists("a\nb\n"), Out: lists("")}, pipes(has(""), has("")), api.ErrStuck},
	} {
		m := put(t, x.g, x.i, x.p, x.pipes...)
		ahead := cloned(m)
		n, e := Step(m, x.i)
		if e != x.want || !zero(n) {
			t.Errorf("%s: %v, %d; want %d", name, n, e, x.want)
		}
		n, said, e := Run(m, []int{x.i, x.i, -1})
		if e != api.OK || !slices.Equal(said, []api.Errno{x.want, x.want, api.ErrWho}) || !alike(n, ahead) || !alike(m, ahead) {
			t.Errorf("%s: run: %v, %v, %d; want %d and %v", name, n, said, e, x.want, ahead)
		}
	}
	m := sorterMachine(t)
	for _, i := range []int{smallest, -1, 8, 9, greatest} {
		if n, e := Step(m, i); e != api.ErrWho || !zero(n) {
			t.Errorf("process %d: %v, %d", i, n, e)
		}
	}
}

func TestRun(t *testing.T) {
	m := sorterMachine(t)
	for _, picks := range [][]int{nil, {}} {
		if n, said, e := Run(m, picks); e != api.OK || len(said) != 0 || !alike(n, m) {
			t.Errorf("nobody: %v, %v, %d", n, said, e)
		}
	}
	picks := []int{0, 0, 1, 2, 9, 0, -1, 2, 2, 0, 2, 0, 0, 2, 2, 3, 3, 7, 6, 1, 1, 2, 2, 2}
	want := []api.Errno{}
	x := m
	for _, i := range picks {
		n, e := Step(x, i)
		want = append(want, e)
		if e == api.OK {
			x = n
		}
	}
	n, said, e := Run(m, picks)
	if e != api.OK || !slices.Equal(said, want) || !alike(n, x) {
		t.Errorf("%v, %v, %d; want %v, %v", n, said, e, x, want)
	}
	for _, k := range []api.Errno{api.OK, api.ErrWho, api.ErrStuck, api.ErrLate} {
		if !slices.Contains(want, k) {
			t.Errorf("nobody says %d", k)
		}
	}
}

func TestRunOfTheMostPicks(t *testing.T) {
	m := sorterMachine(t)
	picks := make([]int, api.MaxPicks)
	for k := range picks {
		picks[k] = k % 8
	}
	n, said, e := Run(m, picks)
	if e != api.OK || len(said) != api.MaxPicks || string(n.Sunk) != "0\n1\n2\n3\n" || said[api.MaxPicks-1] != api.ErrLate {
		t.Errorf("%q, %d said, %d", n.Sunk, len(said), e)
	}
	if n, said, e := Run(m, append(picks, 0)); e != api.ErrMany || said != nil || !zero(n) {
		t.Errorf("a pick too many: %v, %d said, %d", n, len(said), e)
	}
}

// TestRunAsksOnce: a machine that grows above the limits goes on; only the next call tells it.
func TestRunAsksOnce(t *testing.T) {
	m := put(t, single(work(sorted, 0, 0)), 1, process{Got: [][]byte{full()}, Out: lists("")}, has("ab"), has(""))
	n, e := Step(m, 1)
	if e != api.OK || len(n.P[1].Got[0]) != bytesOfAList+2 {
		t.Fatalf("%d bytes, %d", len(n.P[1].Got[0]), e)
	}
	if _, e := Step(n, 0); e != api.ErrMany {
		t.Errorf("above the limit: %d", e)
	}
	x, said, e := Run(m, []int{1, 0, 9, 0, 0, 1, 1})
	if want := []api.Errno{0, 0, api.ErrWho, 0, 0, 0, 0}; e != api.OK || !slices.Equal(said, want) {
		t.Errorf("%v, %d; want %v", said, e, want)
	}
	if len(x.P[1].Out[0]) != bytesOfAList+2+6 || Check(x) != api.ErrMany {
		t.Errorf("%d bytes, %d", len(x.P[1].Out[0]), Check(x))
	}
	m.Sunk = full()
	y, e := Finish(m)
	// As a sink has it all: as much as was sunk, and the sorted lines.
	if e != api.OK || len(y.Sunk) != 2*bytesOfAList+2+6 || !strings.HasSuffix(string(y.Sunk), "xab3\n") || Check(y) != api.ErrMany {
		t.Errorf("%d bytes, %d", len(y.Sunk), e)
	}
}

func TestFinish(t *testing.T) {
	m := sorterMachine(t)
	n, e := Finish(m)
	if e != api.OK || string(n.Sunk) != "0\n1\n2\n3\n" {
		t.Fatalf("%q, %d", n.Sunk, e)
	}
	for i, p := range n.P {
		if !p.Over || !p.Read || p.At != len(p.Got) || strings.Join(texts(slices.Concat(p.Got, p.Out)), "") != "" {
			t.Errorf("process %d: %v", i, p)
		}
	}
	for k, p := range n.Pipes {
		if len(p.B) != 0 || !p.Closed || p.Shut || p.Room != m.Pipes[k].Room {
			t.Errorf("pipe %d: %v", k, p)
		}
	}
	if x, e := Finish(n); e != api.OK || !alike(x, n) {
		t.Errorf("again: %v, %d; want %v", x, e, n)
	}
	for i := range n.P {
		if x, e := Step(n, i); e != api.ErrLate || !zero(x) {
			t.Errorf("process %d: %v, %d", i, x, e)
		}
	}
}

func TestFinishOfAHead(t *testing.T) {
	whole := strings.Repeat("0123456789\n", 300)
	g := graphOf(source("a"), work(turned, 0, 0), work(head(2), 1, 0), sink(2, 0))
	for _, room := range []int{1, 2, 8, 9, api.MaxRoom} {
		n, e := Finish(made(t, g, of("a", whole), room))
		if e != api.OK || string(n.Sunk) != strings.Repeat("9876543210\n", 2) {
			t.Errorf("room %d: %q, %d", room, n.Sunk, e)
			continue
		}
		if p := n.P[2]; p.At != 0 || !p.Over || !n.Pipes[1].Shut || !n.Pipes[1].Closed || n.Pipes[0].Shut {
			t.Errorf("room %d: %v, %v", room, p, n.Pipes)
		}
	}
	// With a line too few it isn't shut.
	n, e := Finish(made(t, g, of("a", "12"), 1))
	if e != api.OK || string(n.Sunk) != "21\n" || n.Pipes[1].Shut || n.P[2].At != 1 {
		t.Errorf("%v, %d", n, e)
	}
}

// TestFinishIsStuck: from New on it never is, but machines may be handed in in which someone waits for ever.
func TestFinishIsStuck(t *testing.T) {
	for name, f := range map[string]func(m *api.Machine){
		"a closed pipe":            func(m *api.Machine) { m.Pipes[0].Closed = true },
		"a closed pipe at the end": func(m *api.Machine) { m.Pipes[7].Closed = true },
		"over, but not closed":     func(m *api.Machine) { m.P[0].Read, m.P[0].Over = true, true },
		"a reader is over":         func(m *api.Machine) { m.P[2].Read, m.P[2].Over, m.Pipes[2].Closed = true, true, true },
		"splits without room":      func(m *api.Machine) { m.P[4].Read, m.Pipes[3].Room = true, 1 },
	} {
		m := sorterMachine(t)
		f(&m)
		if n, e := Finish(m); e != api.ErrStuck || !zero(n) {
			t.Errorf("%s: %v, %d", name, n, e)
		}
	}
	m := sorterMachine(t)
	m.P[0].Read, m.P[0].Over, m.Pipes[0].Closed = true, true, true
	if n, e := Finish(m); e != api.OK || string(n.Sunk) != "0\n2\n" {
		t.Errorf("one source is over: %q, %d", n.Sunk, e)
	}
}

// joinedSources answers a graph of five times five sources of the same file, joined by node 30, and what stands behind.
func joinedSources(behind ...api.Node) api.Graph {
	g := api.Graph{}
	var all []int
	for k := range api.MaxWidth {
		var five []int
		for i := range api.MaxWidth {
			g.Nodes = append(g.Nodes, source("a"))
			five = append(five, 6*k+i, 0)
		}
		g.Nodes = append(g.Nodes, joined(api.Behind, five...))
		all = append(all, 6*k+api.MaxWidth, 0)
	}
	g.Nodes = append(g.Nodes, joined(api.Behind, all...))
	g.Nodes = append(g.Nodes, behind...)
	return g
}

// TestFinishOfManyBytes: what a process has got, or is sunk, may be more than what may be handed in.
func TestFinishOfManyBytes(t *testing.T) {
	files := of("a", strings.Repeat("b\na\n", api.MaxBytes/4))
	for name, g := range map[string]api.Graph{
		"into the sink": joinedSources(sink(30, 0)),
		"sorted":        joinedSources(work(sorted, 30, 0), sink(31, 0)),
		"swapped":       joinedSources(work(api.Command{Kind: api.Swap, Word: "ab"}, 30, 0), sink(31, 0)),
		"a head":        joinedSources(work(head(api.MaxN), 30, 0), sink(31, 0)),
		"split, merged": joinedSources(split(2, 30, 0), work(sorted, 31, 0), work(sorted, 31, 1), joined(api.Merge, 32, 0, 33, 0), sink(34, 0)),
		"split in five": joinedSources(split(5, 30, 0), joined(api.Behind, 31, 3, 31, 1, 31, 0, 31, 2, 31, 4), sink(32, 0)),
	} {
		want, _ := graph.Eval(g, files)
		n, e := Finish(made(t, g, files, 100))
		if e != api.OK || string(n.Sunk) != string(want) {
			t.Errorf("%s: %d bytes, %d; want %d", name, len(n.Sunk), e, len(want))
		}
	}
	// A pipe has an end even where its room has none: a part of 50000 bytes waits for a reader that waits for another part.
	g := joinedSources(split(2, 30, 0), joined(api.Behind, 31, 0, 31, 1), sink(32, 0))
	if n, e := Finish(made(t, g, files, 100)); e != api.ErrStuck || !zero(n) {
		t.Errorf("two parts of 50000 bytes: %d bytes, %d", len(n.Sunk), e)
	}
}
