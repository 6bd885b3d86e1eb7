package exec

import (
	"math/rand"
	"reflect"
	"slices"
	"testing"

	"gangsaw/api"
)

// spare answers a list with room behind it, and something in that.
func spare[T any](l []T, more ...T) []T { return append(slices.Clone(l), more...)[:len(l)] }

func spareBytes(b []byte) []byte { return spare(b, []byte("spare")...) }

func spareLists(l [][]byte) [][]byte {
	l = spare(l, []byte("more"), []byte("spare"))
	for i, b := range l {
		l[i] = spareBytes(b)
	}
	return l
}

// spareMachine answers the machine with room behind each of its lists.
func spareMachine(m api.Machine) api.Machine {
	m.G.Nodes = spare(m.G.Nodes, api.Node{File: "spare"})
	for i, n := range m.G.Nodes {
		m.G.Nodes[i].In = spare(n.In, in(9, 9, 8, 8)...)
	}
	m.Files = spare(m.Files, api.File{Name: "spare"})
	for i, f := range m.Files {
		m.Files[i].B = spareBytes(f.B)
	}
	m.Pipes = spare(m.Pipes, api.Pipe{Room: 9})
	for i, p := range m.Pipes {
		m.Pipes[i].B = spareBytes(p.B)
	}
	m.P = spare(m.P, api.Process{At: 9})
	for i, p := range m.P {
		m.P[i].Got, m.P[i].Out = spareLists(p.Got), spareLists(p.Out)
	}
	m.Sunk = spareBytes(m.Sunk)
	return m
}

// whole answers a copy of a list with all the room that it has.
func whole[T any](l []T) []T { return slices.Clone(l[:cap(l)]) }

func wholeLists(l [][]byte) [][]byte {
	l = whole(l)
	for i, b := range l {
		l[i] = whole(b)
	}
	return l
}

// wholeMachine answers a copy of the machine with all the room that its lists have.
func wholeMachine(m api.Machine) api.Machine {
	m.G.Nodes = whole(m.G.Nodes)
	for i, n := range m.G.Nodes {
		m.G.Nodes[i].In = whole(n.In)
	}
	m.Files = whole(m.Files)
	for i, f := range m.Files {
		m.Files[i].B = whole(f.B)
	}
	m.Pipes = whole(m.Pipes)
	for i, p := range m.Pipes {
		m.Pipes[i].B = whole(p.B)
	}
	m.P = whole(m.P)
	for i, p := range m.P {
		m.P[i].Got, m.P[i].Out = wholeLists(p.Got), wholeLists(p.Out)
	}
	m.Sunk = whole(m.Sunk)
	return m
}

// placesOf answers where the lists of a machine are, each with all the room that it has, by their addresses.
func placesOf(m api.Machine) [][2]uintptr {
	var l [][2]uintptr
	add := func(list any) {
		v := reflect.ValueOf(list)
		if v.Cap() > 0 {
			l = append(l, [2]uintptr{v.Pointer(), v.Pointer() + uintptr(v.Cap())*v.Type().Elem().Size()})
		}
	}
	add(m.G.Nodes)
	for _, n := range m.G.Nodes {
		add(n.In)
	}
	add(m.Files)
	for _, f := range m.Files {
		add(f.B)
	}
	add(m.Pipes)
	for _, p := range m.Pipes {
		add(p.B)
	}
	add(m.P)
	for _, p := range m.P {
		add(p.Got)
		add(p.Out)
		for _, b := range slices.Concat(p.Got, p.Out) {
			add(b)
		}
	}
	add(m.Sunk)
	return l
}

// share tells whether two of the places have something in common.
func share(l [][2]uintptr) bool {
	l = slices.Clone(l)
	slices.SortFunc(l, func(a, b [2]uintptr) int { return int(a[0]) - int(b[0]) })
	for i := 1; i < len(l); i++ {
		if l[i][0] < l[i-1][1] {
			return true
		}
	}
	return false
}

// answers answers all machines that come of one, by each call.
func answers(t *testing.T, m api.Machine, picks []int) map[string]api.Machine {
	t.Helper()
	all := map[string]api.Machine{}
	add := func(name string, x api.Machine, e api.Errno) {
		if e == api.OK {
			all[name] = x
		}
	}
	x, e := New(m.G, m.Files, 5)
	add("new", x, e)
	for i := range m.P {
		x, e := Step(m, i)
		add("step", x, e)
	}
	x, _, e = Run(m, picks)
	add("run", x, e)
	x, _, e = Run(m, nil)
	add("run of nobody", x, e)
	x, e = Finish(m)
	add("finish", x, e)
	Check(m)
	return all
}

func TestMemory(t *testing.T) {
	r := rand.New(rand.NewSource(6))
	for range 300 {
		m := made(t, drawn(r, r.Intn(12)), drawnFiles(r, 40), drawnRoom(r))
		picks := make([]int, r.Intn(100))
		for k := range picks {
			picks[k] = r.Intn(len(m.P))
		}
		m, _, _ = Run(m, picks)
		if x := altered(r, m); checkedTheLongWay(x) == api.OK {
			m = x
		}
		m = spareMachine(m)
		picks = spare(picks, 9, 9)
		ahead, picksAhead := wholeMachine(m), whole(picks)
		for name, x := range answers(t, m, picks) {
			if share(placesOf(x)) {
				t.Fatalf("%s of %v: lists of the answer share memory", name, m)
			}
			if share(append(placesOf(x), placesOf(m)...)) {
				t.Fatalf("%s of %v: the answer is what was handed in", name, m)
			}
		}
		if !reflect.DeepEqual(wholeMachine(m), ahead) || !slices.Equal(whole(picks), picksAhead) {
			t.Fatalf("%v was changed to %v", ahead, m)
		}
	}
}

// TestSharedListsAreNoMatter: what is handed in may be one list in many places.
func TestSharedListsAreNoMatter(t *testing.T) {
	b := spareBytes([]byte("b\na"))
	m := sorterMachine(t)
	other := cloned(m)
	for i := range m.P {
		for _, l := range [][][]byte{m.P[i].Got, m.P[i].Out} {
			for k := range l {
				l[k] = b
			}
		}
		for _, l := range [][][]byte{other.P[i].Got, other.P[i].Out} {
			for k := range l {
				l[k] = slices.Clone(b)
			}
		}
	}
	m.Sunk, other.Sunk = b, slices.Clone(b)
	n, e := Finish(m)
	x, f := Finish(other)
	if e != api.OK || f != api.OK || !alike(n, x) || string(b[:cap(b)][:8]) != "b\naspare" {
		t.Errorf("%v, %d; want %v, %d", n, e, x, f)
	}
}
