package exec

import (
	"bytes"
	"slices"

	"gangsaw/api"
	"gangsaw/command"
	"gangsaw/graph"
	"gangsaw/pipe"
)

// most is how many bytes one step reads at most.
const most = 8

const feed = '\n'

// running is a machine with memory of its own, with which nothing is wrong, and where its pipes are.
type running struct {
	m     api.Machine
	first []int            // of each node, the pipe of its first input
	into  map[api.Port]int // of each output, the pipe into which it goes
}

func started(m api.Machine) *running {
	r := &running{m: cloned(m), into: map[api.Port]int{}}
	pipes := 0
	for _, n := range r.m.G.Nodes {
		r.first = append(r.first, pipes)
		for _, from := range n.In {
			r.into[from] = pipes
			pipes++
		}
	}
	return r
}

func (r *running) over() bool {
	return !slices.ContainsFunc(r.m.P, func(p api.Process) bool { return !p.Over })
}

// round lets each process go on by a step, if it can, and tells whether one could.
func (r *running) round() bool {
	went := false
	for i := range r.m.P {
		if r.step(i) == api.OK {
			went = true
		}
	}
	return went
}

// step lets a process go on; it doesn't ask anew whether something is wrong with the machine, which may have grown above its limits.
func (r *running) step(i int) api.Errno {
	if i < 0 || i >= len(r.m.P) {
		return api.ErrWho
	}
	p := &r.m.P[i]
	switch {
	case p.Over:
		return api.ErrLate
	case slices.ContainsFunc(p.Out, func(b []byte) bool { return len(b) > 0 }):
		return r.write(i)
	case p.Read:
		return r.end(i)
	case len(p.Got) == 0:
		return r.full(i)
	default:
		return r.read(i)
	}
}

// write sends what one output has, as far as its pipe takes it.
func (r *running) write(i int) api.Errno {
	out := r.m.P[i].Out
	for k, b := range out {
		to := r.pipeOf(i, k)
		// With an error, as a closed one says it, the pipe takes none: n is 0.
		p, n, _ := pipe.Write(*to, b)
		if n > 0 {
			*to, out[k] = p, b[n:]
			return api.OK
		}
	}
	return api.ErrStuck
}

// end closes the pipes by hand: one that was handed in closed is no error here, as it is to pipe.Close.
func (r *running) end(i int) api.Errno {
	p := &r.m.P[i]
	for k := range p.Out {
		r.pipeOf(i, k).Closed = true
	}
	p.Over = true
	return api.OK
}

func (r *running) pipeOf(i, out int) *api.Pipe {
	return &r.m.Pipes[r.into[api.Port{Node: i, Out: out}]]
}

// read takes some bytes of the input at which a process is, or goes on to the next input.
func (r *running) read(i int) api.Errno {
	p := &r.m.P[i]
	from := &r.m.Pipes[r.first[i]+p.At]
	if pipe.Over(*from) {
		p.At++
		if p.At == len(p.Got) {
			return r.full(i)
		}
		return api.OK
	}
	rest, b, e := pipe.Read(*from, most)
	if e != api.OK {
		return e
	}
	if len(b) == 0 {
		return api.ErrStuck
	}
	*from = rest
	p.Got[p.At] = append(p.Got[p.At], b...)
	return r.came(i)
}

// came does what a process needn't wait with until all of its inputs are over.
func (r *running) came(i int) api.Errno {
	n, p := r.m.G.Nodes[i], &r.m.P[i]
	got := p.Got[p.At]
	if n.Kind == api.Sink {
		r.m.Sunk = append(r.m.Sunk, got...)
		p.Got[p.At] = nil
		return api.OK
	}
	// Most often no line is whole yet, and to look for one from the front is far quicker than from behind.
	if through := passing(n); through != nil && bytes.IndexByte(got, feed) >= 0 {
		cut := bytes.LastIndexByte(got, feed) + 1
		b, e := through(got[:cut])
		if e != api.OK {
			return e
		}
		p.Out[0] = append(p.Out[0], b...)
		p.Got[p.At] = got[cut:]
		return api.OK
	}
	if n.Kind == api.Work && n.C.Kind == api.Head && bytes.Count(got, []byte{feed}) >= n.C.N {
		return r.enough(i)
	}
	return api.OK
}

// passing answers what a node makes of whole lines as they come; nil, if it has to wait for all of them.
func passing(n api.Node) func(whole []byte) ([]byte, api.Errno) {
	switch {
	case n.Kind == api.Join && n.How == api.Behind:
		return func(whole []byte) ([]byte, api.Errno) { return whole, api.OK }
	case n.Kind == api.Work && command.Each(n.C):
		return func(whole []byte) ([]byte, api.Errno) {
			made, e := graph.Made(n, nil, [][]byte{whole})
			if e != api.OK {
				return nil, e
			}
			return made[0], api.OK
		}
	default:
		return nil
	}
}

// enough ends the reading, so that who writes isn't stuck.
func (r *running) enough(i int) api.Errno {
	from := &r.m.Pipes[r.first[i]+r.m.P[i].At]
	p, e := pipe.Shut(*from)
	if e != api.OK {
		return e
	}
	*from = p
	return r.full(i)
}

// full does what a process does when all that it needs came in.
func (r *running) full(i int) api.Errno {
	p := &r.m.P[i]
	made, e := graph.Made(r.m.G.Nodes[i], r.m.Files, p.Got)
	if e != api.OK {
		return e
	}
	for k, b := range made {
		p.Out[k] = append(p.Out[k], b...)
	}
	clear(p.Got)
	p.Read = true
	return api.OK
}
