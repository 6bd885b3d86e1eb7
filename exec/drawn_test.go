package exec

import (
	"bytes"
	"math/rand"
	"slices"
	"strings"
	"testing"

	"gangsaw/api"
	"gangsaw/command"
	"gangsaw/graph"
	"gangsaw/join"
	"gangsaw/line"
	"gangsaw/opt"
	"gangsaw/shell"
)

var commands = []api.Command{
	keep("a"), {Kind: api.Drop, Word: "ab"}, {Kind: api.Swap, Word: "ab"}, {Kind: api.Field, N: 1}, {Kind: api.Field, N: 2},
	turned, sorted, once, counted, head(1), head(3), {Kind: api.Tail, N: 3},
}

// drawn answers a graph of at least so many nodes, with which nothing is wrong.
func drawn(r *rand.Rand, least int) api.Graph {
	var l []api.Node
	var open []api.Port
	add := func(n api.Node) {
		l = append(l, n)
		for k := range graph.Outs(n) {
			open = append(open, api.Port{Node: len(l) - 1, Out: k})
		}
	}
	take := func(n int) []api.Port {
		r.Shuffle(len(open), func(i, j int) { open[i], open[j] = open[j], open[i] })
		ports := slices.Clone(open[:n])
		open = open[n:]
		return ports
	}
	add(source("a"))
	for len(l) < least || len(open) > 1 {
		kind := 1 + r.Intn(4)
		if len(l) >= least {
			kind = api.Join
		}
		switch kind {
		case api.Source:
			add(source(string(rune('a' + r.Intn(4)))))
		case api.Split:
			add(api.Node{Kind: api.Split, Wide: 1 + r.Intn(api.MaxWidth), In: take(1)})
		case api.Work:
			add(api.Node{Kind: api.Work, C: commands[r.Intn(len(commands))], In: take(1)})
		case api.Join:
			n := api.Node{Kind: api.Join, How: 1 + r.Intn(4), In: take(min(len(open), 1+r.Intn(api.MaxWidth)))}
			if n.How == api.Again {
				n.C = commands[r.Intn(len(commands))]
			}
			add(n)
		}
	}
	add(api.Node{Kind: api.Sink, File: "z", In: take(1)})
	if len(l) > api.MaxNodes {
		return drawn(r, least)
	}
	return api.Graph{Nodes: l}
}

func drawnBytes(r *rand.Rand, n int) []byte {
	b := make([]byte, r.Intn(n+1))
	for i := range b {
		b[i] = "ab1 \n\n"[r.Intn(6)]
	}
	return b
}

// drawnFiles answers some of the files a to d.
func drawnFiles(r *rand.Rand, n int) []api.File {
	var l []api.File
	for _, name := range []string{"a", "b", "c", "d"} {
		if r.Intn(6) > 0 {
			l = append(l, api.File{Name: name, B: drawnBytes(r, n)})
		}
	}
	return l
}

func drawnRoom(r *rand.Rand) int { return []int{1, 1, 2, 3, 7, 8, 9, 20, api.MaxRoom}[r.Intn(9)] }

// altered answers the machine with some fields as no steps may have brought them about; something may be wrong with it then.
func altered(r *rand.Rand, m api.Machine) api.Machine {
	m = cloned(m)
	for range 1 + r.Intn(6) {
		p, x := &m.P[r.Intn(len(m.P))], &m.Pipes[r.Intn(len(m.Pipes))]
		switch r.Intn(9) {
		case 0:
			x.Closed = !x.Closed
		case 1:
			x.Shut, x.B = true, nil
		case 2:
			x.Room = drawnRoom(r)
		case 3:
			x.B = drawnBytes(r, 9)
		case 4:
			p.Read = !p.Read
		case 5:
			p.Over = !p.Over
		case 6:
			p.At = r.Intn(len(p.Got)+2) - r.Intn(2)
		case 7:
			if len(p.Got) > 0 {
				p.Got[r.Intn(len(p.Got))] = drawnBytes(r, 9)
			}
		case 8:
			if len(p.Out) > 0 {
				p.Out[r.Intn(len(p.Out))] = drawnBytes(r, 9)
			}
		}
	}
	return m
}

// theLongWay is what chapter 6 makes of few bytes, by what the chapters ahead of it say.
func theLongWay(t *testing.T, n api.Node, files []api.File, got [][]byte) [][]byte {
	t.Helper()
	var b []byte
	var e api.Errno
	switch n.Kind {
	case api.Source:
		b, e = shell.Gather(files, []string{n.File})
	case api.Split:
		parts, e := line.Split(got[0], n.Wide)
		if e != api.OK {
			t.Fatal(e)
		}
		return parts
	case api.Work:
		b, e = command.Do(n.C, got[0])
	case api.Join:
		b, e = join.Do(n.How, n.C, got)
	default:
		return nil
	}
	if e != api.OK {
		t.Fatalf("%v: %d", n, e)
	}
	return [][]byte{b}
}

// steppedTheLongWay does what the chapter says, word by word, byte by byte, to a machine of few bytes with which nothing is wrong.
func steppedTheLongWay(t *testing.T, m api.Machine, i int) (api.Machine, api.Errno) {
	t.Helper()
	if i < 0 || i >= len(m.P) {
		return m, api.ErrWho
	}
	m = cloned(m)
	n, p := m.G.Nodes[i], &m.P[i]
	from, to := around(m, i)
	isFull := func() {
		p.Read = true
		for k, b := range theLongWay(t, n, m.Files, p.Got) {
			p.Out[k] = slices.Concat(p.Out[k], b)
		}
		p.Got = make([][]byte, len(p.Got))
	}
	if p.Over {
		return m, api.ErrLate
	}
	if strings.Join(texts(p.Out), "") != "" {
		for k, x := range to {
			took := 0
			for len(p.Out[k]) > 0 && !x.Closed && (x.Shut || x.Room == 0 || len(x.B) < x.Room) {
				if !x.Shut {
					x.B = slices.Concat(x.B, p.Out[k][:1])
				}
				p.Out[k] = slices.Clone(p.Out[k][1:])
				took++
			}
			if took > 0 {
				return m, api.OK
			}
		}
		return m, api.ErrStuck
	}
	if p.Read {
		for _, x := range to {
			x.Closed = true
		}
		p.Over = true
		return m, api.OK
	}
	if len(from) == 0 {
		isFull()
		return m, api.OK
	}
	x := from[p.At]
	if len(x.B) == 0 {
		if !x.Closed {
			return m, api.ErrStuck
		}
		p.At++
		if p.At == len(from) {
			isFull()
		}
		return m, api.OK
	}
	for range 8 {
		if len(x.B) > 0 {
			p.Got[p.At] = slices.Concat(p.Got[p.At], x.B[:1])
			x.B = slices.Clone(x.B[1:])
		}
	}
	got := string(p.Got[p.At])
	each := n.Kind == api.Work && n.C.Kind <= api.Turn
	switch {
	case n.Kind == api.Sink:
		m.Sunk = append(m.Sunk, got...)
		p.Got[p.At] = nil
	case each || n.Kind == api.Join && n.How == api.Behind:
		cells := strings.SplitAfter(got, "\n")
		whole := []byte(strings.Join(cells[:len(cells)-1], ""))
		p.Got[p.At] = []byte(cells[len(cells)-1])
		if each {
			whole = theLongWay(t, n, m.Files, [][]byte{whole})[0]
		}
		p.Out[0] = slices.Concat(p.Out[0], whole)
	case n.Kind == api.Work && n.C.Kind == api.Head && strings.Count(got, "\n") >= n.C.N:
		x.Shut, x.B = true, nil
		isFull()
	}
	return m, api.OK
}

func allOver(m api.Machine) bool {
	return !slices.ContainsFunc(m.P, func(p api.Process) bool { return !p.Over })
}

// TestStepAgainstTheLongWay: of machines from New on, and of such that are changed on the way.
func TestStepAgainstTheLongWay(t *testing.T) {
	r := rand.New(rand.NewSource(2))
	said := map[api.Errno]int{}
	for turn := range 600 {
		m := made(t, drawn(r, r.Intn(12)), drawnFiles(r, 30), drawnRoom(r))
		for range 80 {
			if turn%2 == 0 && r.Intn(20) == 0 {
				if x := altered(r, m); checkedTheLongWay(x) == api.OK {
					m = x
				}
			}
			i := r.Intn(len(m.P)+2) - 1
			want, e := steppedTheLongWay(t, m, i)
			n, f := Step(m, i)
			said[e]++
			if e != f || e == api.OK && !alike(n, want) || e != api.OK && !zero(n) {
				t.Fatalf("process %d of %v: %v, %d; want %v, %d", i, m, n, f, want, e)
			}
			if e == api.OK {
				m = n
			}
		}
	}
	for _, e := range []api.Errno{api.OK, api.ErrWho, api.ErrLate, api.ErrStuck} {
		if said[e] < 500 {
			t.Errorf("%d was said just %d times", e, said[e])
		}
	}
}

// stuckTheLongWay lets whoever can go on, in any order, till nobody can; it answers whether not all are over then.
func stuckTheLongWay(t *testing.T, r *rand.Rand, m api.Machine) (api.Machine, bool) {
	t.Helper()
	for {
		went := false
		for _, i := range r.Perm(len(m.P)) {
			for range 1 + r.Intn(9) {
				n, e := steppedTheLongWay(t, m, i)
				if e != api.OK {
					break
				}
				m, went = n, true
			}
		}
		if !went {
			return m, !allOver(m)
		}
	}
}

// TestFinishAgainstTheLongWay: it makes no difference who is picked, not even if a machine is changed on the way.
func TestFinishAgainstTheLongWay(t *testing.T) {
	r := rand.New(rand.NewSource(3))
	ended, stuck := 0, 0
	for range 800 {
		m := made(t, drawn(r, r.Intn(10)), drawnFiles(r, 20), drawnRoom(r))
		picks := make([]int, r.Intn(60))
		for k := range picks {
			picks[k] = r.Intn(len(m.P))
		}
		m, _, _ = Run(m, picks)
		if x := altered(r, m); checkedTheLongWay(x) == api.OK {
			m = x
		}
		want, isStuck := stuckTheLongWay(t, r, m)
		n, e := Finish(m)
		if isStuck {
			stuck++
			if e != api.ErrStuck || !zero(n) {
				t.Fatalf("%v: %v, %d; but it is stuck", m, n, e)
			}
			continue
		}
		ended++
		if e != api.OK || !alike(n, want) {
			t.Fatalf("%v: %v, %d; want %v", m, n, e, want)
		}
	}
	if ended < 100 || stuck < 100 {
		t.Errorf("%d ended, %d were stuck", ended, stuck)
	}
}

// someoneCan tells whether a process of the machine can go on.
func someoneCan(m api.Machine) bool {
	for i := range m.P {
		if _, e := Step(m, i); e == api.OK {
			return true
		}
	}
	return false
}

// TestWhoeverIsPicked: from New on somebody can always go on, and what is sunk is what the graph says.
func TestWhoeverIsPicked(t *testing.T) {
	r := rand.New(rand.NewSource(4))
	some := 0
	for range 250 {
		g, files, room := drawn(r, r.Intn(20)), drawnFiles(r, 40), drawnRoom(r)
		want, e := graph.Eval(g, files)
		if e != api.OK {
			t.Fatal(e)
		}
		m := made(t, g, files, room)
		final, e := Finish(m)
		if e != api.OK || string(final.Sunk) != string(want) {
			t.Fatalf("%v of %q, room %d: %q, %d; want %q", g, files, room, final.Sunk, e, want)
		}
		// Some processes are picked far more often than others.
		often := r.Perm(len(m.P))[:1+r.Intn(len(m.P))]
		for many := 40; !allOver(m); many += many / 8 {
			if !someoneCan(m) || Check(m) != api.OK {
				t.Fatalf("%v: nobody can go on", m)
			}
			picks := make([]int, r.Intn(min(many, api.MaxPicks)))
			for k := range picks {
				picks[k] = often[r.Intn(len(often))]
				if r.Intn(9) == 0 {
					picks[k] = r.Intn(len(m.P))
				}
			}
			x, said, e := Run(m, picks)
			if e != api.OK || len(said) != len(picks) {
				t.Fatalf("%v, %d", said, e)
			}
			m = x
			if !bytes.HasPrefix(want, m.Sunk) {
				t.Fatalf("%v of %q: %q is sunk, want %q", g, files, m.Sunk, want)
			}
		}
		if !alike(m, final) {
			t.Fatalf("%v of %q: %v, want %v", g, files, m, final)
		}
		if len(want) > 2 {
			some++
		}
	}
	if some < 80 {
		t.Errorf("only %d graphs come to anything", some)
	}
}

// TestPlansOfLines: what a line makes, however wide it is planned, with whatever room.
func TestPlansOfLines(t *testing.T) {
	r := rand.New(rand.NewSource(5))
	for range 150 {
		files := drawnFiles(r, 60)
		l := api.Line{From: []string{"a", "b", "c", "d"}[:1+r.Intn(4)], To: "z"}
		for range r.Intn(api.MaxCommands + 1) {
			l.Do = append(l.Do, commands[r.Intn(len(commands))])
		}
		want, e := shell.Line(files, l)
		if e != api.OK {
			t.Fatal(e)
		}
		for wide := 1; wide <= api.MaxWidth; wide++ {
			g, e := opt.Plan(l, wide)
			if e != api.OK {
				t.Fatal(e)
			}
			room := drawnRoom(r)
			m := made(t, g, files, room)
			picks := make([]int, r.Intn(500))
			for k := range picks {
				picks[k] = r.Intn(len(m.P))
			}
			m, _, _ = Run(m, picks)
			n, e := Finish(m)
			if e != api.OK || string(n.Sunk) != string(want) {
				t.Fatalf("%v of %q, wide %d, room %d: %q, %d; want %q", l, files, wide, room, n.Sunk, e, want)
			}
		}
	}
}

// TestPlansOfManyBytes: as much as a line may gather, byte by byte.
func TestPlansOfManyBytes(t *testing.T) {
	for name, b := range map[string]string{
		"one line": strings.Repeat("a", api.MaxBytes-1),
		"feeds":    strings.Repeat("\n", api.MaxBytes),
		"lines":    strings.Repeat("ab a\n1\n", 500),
	} {
		files := of("a", b)
		l := api.Line{From: []string{"a"}, To: "z", Do: []api.Command{turned, sorted, turned, once, {Kind: api.Swap, Word: "ab"}, head(api.MaxN)}}
		want, e := shell.Line(files, l)
		if e != api.OK {
			t.Fatal(e)
		}
		for _, wide := range []int{1, api.MaxWidth} {
			g, _ := opt.Plan(l, wide)
			for _, room := range []int{1, api.MaxRoom} {
				n, e := Finish(made(t, g, files, room))
				if e != api.OK || string(n.Sunk) != string(want) {
					t.Errorf("%s, wide %d, room %d: %d bytes, %d; want %d", name, wide, room, len(n.Sunk), e, len(want))
				}
			}
		}
	}
}
