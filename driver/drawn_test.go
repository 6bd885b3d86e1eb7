package driver

import (
	"math/rand"
	"reflect"
	"slices"
	"testing"

	"gangsaw/api"
	"gangsaw/exec"
	"gangsaw/opt"
	"gangsaw/shell"
)

var commands = []api.Command{
	{Kind: api.Keep, Word: "a"}, {Kind: api.Drop, Word: "ab"}, {Kind: api.Swap, Word: "ab"}, {Kind: api.Field, N: 1}, {Kind: api.Field, N: 2},
	{Kind: api.Turn}, sorted, {Kind: api.Once}, {Kind: api.Count},
	{Kind: api.Head, N: 1}, {Kind: api.Head, N: 3}, {Kind: api.Tail, N: 1}, {Kind: api.Tail, N: 4},
}

func drawnName(r *rand.Rand) string { return string(rune('a' + r.Intn(5))) }

func drawnBytes(r *rand.Rand, n int) []byte {
	b := make([]byte, r.Intn(n+1))
	for i := range b {
		b[i] = "ab1 \n\n"[r.Intn(6)]
	}
	return b
}

// drawnFiles answers some of the files a to e, of so many bytes at most.
func drawnFiles(r *rand.Rand, n int) []api.File {
	var l []api.File
	for _, name := range []string{"a", "b", "c", "d", "e"} {
		if r.Intn(4) > 0 {
			l = append(l, api.File{Name: name, B: drawnBytes(r, n)})
		}
	}
	return l
}

func drawnLine(r *rand.Rand) api.Line {
	l := api.Line{To: drawnName(r)}
	for range 1 + r.Intn(api.MaxSources) {
		l.From = append(l.From, drawnName(r))
	}
	for range r.Intn(api.MaxCommands + 1) {
		l.Do = append(l.Do, commands[r.Intn(len(commands))])
	}
	return l
}

func drawnScript(r *rand.Rand) []api.Line {
	s := make([]api.Line, r.Intn(api.MaxLines+1))
	for i := range s {
		s[i] = drawnLine(r)
	}
	return s
}

// drawnPicks answers picks of processes, some of which there may not be, some far more often than others.
func drawnPicks(r *rand.Rand, n int) []int {
	often := r.Perm(50)[:1+r.Intn(50)]
	picks := make([]int, r.Intn(n+1))
	for k := range picks {
		picks[k] = often[r.Intn(len(often))] - 1
	}
	return picks
}

func drawnRoom(r *rand.Rand) int { return rooms[r.Intn(len(rooms))] }

// TestTheSameFiles: however wide, with whatever room, whoever is picked.
func TestTheSameFiles(t *testing.T) {
	r := rand.New(rand.NewSource(1))
	changed := 0
	for range 1500 {
		files, s := drawnFiles(r, 60), drawnScript(r)
		want, e := shell.Run(files, s)
		if e != api.OK {
			t.Fatal(files, s, e)
		}
		if !shell.Same(files, want) {
			changed++
		}
		for wide := 1; wide <= api.MaxWidth; wide++ {
			room, picks := drawnRoom(r), drawnPicks(r, 400)
			l, e := Run(files, s, wide, room, picks)
			if e != api.OK || !shell.Same(l, want) {
				t.Fatalf("%v of %q, %d wide, room %d, picks %v: %q, %d, want %q", s, files, wide, room, picks, l, e, want)
			}
		}
	}
	if changed < 1000 {
		t.Errorf("only %d scripts changed a file", changed)
	}
}

// TestTheSameOfManyBytes: what chapter 5 says of lines that gather too much is said here, too.
func TestTheSameOfManyBytes(t *testing.T) {
	r := rand.New(rand.NewSource(2))
	said := map[api.Errno]int{}
	for range 150 {
		files, s := drawnFiles(r, api.MaxBytes), drawnScript(r)
		want, e := shell.Run(files, s)
		said[e]++
		for wide := 1; wide <= api.MaxWidth; wide += 2 {
			room := drawnRoom(r)
			l, f := Run(files, s, wide, room, drawnPicks(r, api.MaxPicks))
			if e != f || !shell.Same(l, want) {
				t.Fatalf("%v of %q, %d wide, room %d: %d, want %d", s, files, wide, room, f, e)
			}
		}
	}
	if said[api.OK] < 20 || said[api.ErrMany] < 20 {
		t.Errorf("it said %v", said)
	}
}

// TestLinesOneByOne: a script is its lines, each done to the files that the one ahead of it left.
func TestLinesOneByOne(t *testing.T) {
	r := rand.New(rand.NewSource(3))
	for range 300 {
		files, s := drawnFiles(r, 40), drawnScript(r)
		wide, room, picks := 1+r.Intn(api.MaxWidth), drawnRoom(r), drawnPicks(r, 100)
		want := map[string]string{}
		for _, f := range files {
			want[f.Name] = string(f.B)
		}
		now := files
		for _, l := range s {
			b, e := Line(now, l, wide, room, picks)
			if e != api.OK {
				t.Fatal(now, l, e)
			}
			want[l.To] = string(b)
			if now, e = shell.Put(now, l.To, b); e != api.OK {
				t.Fatal(e)
			}
		}
		got, e := Run(files, s, wide, room, picks)
		if e != api.OK || len(got) != len(want) {
			t.Fatalf("%v of %q: %q, %d, want %q", s, files, got, e, want)
		}
		for _, f := range got {
			if b, there := want[f.Name]; !there || b != string(f.B) {
				t.Fatalf("%v of %q: %q, want %q", s, files, got, want)
			}
		}
	}
}

// TestPicksThatAreAllItTakes: a machine that the picks bring to its end has nothing left to finish.
func TestPicksThatAreAllItTakes(t *testing.T) {
	r := rand.New(rand.NewSource(4))
	for range 200 {
		files, l, wide := drawnFiles(r, 40), drawnLine(r), 1+r.Intn(api.MaxWidth)
		g, e := opt.Plan(l, wide)
		if e != api.OK {
			t.Fatal(e)
		}
		picks := turns(api.MaxPicks, len(g.Nodes))
		m, _ := exec.New(g, files, 8)
		m, _, e = exec.Run(m, picks)
		if e != api.OK || slices.ContainsFunc(m.P, func(p api.Process) bool { return !p.Over }) {
			t.Fatalf("%v of %q, %d wide: not at its end, %d", l, files, wide, e)
		}
		want, _ := shell.Line(files, l)
		if b, e := Line(files, l, wide, 8, picks); e != api.OK || string(b) != string(want) {
			t.Fatalf("%v of %q, %d wide: %q, %d, want %q", l, files, wide, b, e, want)
		}
	}
}

// spare answers a list with room behind it, and something in that.
func spare[T any](l []T, more ...T) []T { return append(slices.Clone(l), more...)[:len(l)] }

// whole answers a copy of a list with all the room that it has.
func whole[T any](l []T) []T { return slices.Clone(l[:cap(l)]) }

// given is all that a call is handed, its lists with room behind them.
type given struct {
	files []api.File
	s     []api.Line
	picks []int
}

func drawnGiven(r *rand.Rand) given {
	x := given{
		files: spare(drawnFiles(r, 30), api.File{Name: "spare"}, api.File{Name: "more"}),
		s:     spare(drawnScript(r), api.Line{To: "spare"}),
		picks: spare(drawnPicks(r, 50), -7, -8),
	}
	for i, f := range x.files {
		x.files[i].B = spare(f.B, []byte("spare")...)
	}
	for i, l := range x.s {
		x.s[i].From = spare(l.From, "spare", "more")
		x.s[i].Do = spare(l.Do, api.Command{Kind: 77}, api.Command{Kind: 78})
	}
	return x
}

func (x given) whole() given {
	w := given{whole(x.files), whole(x.s), whole(x.picks)}
	for i, f := range w.files {
		w.files[i].B = whole(f.B)
	}
	for i, l := range w.s {
		w.s[i].From, w.s[i].Do = whole(l.From), whole(l.Do)
	}
	return w
}

func TestWhatIsHandedInStays(t *testing.T) {
	r := rand.New(rand.NewSource(5))
	for range 400 {
		x := drawnGiven(r)
		before := x.whole()
		for _, wide := range []int{0, 1, 2, 5} {
			for _, room := range []int{0, 1, 20} {
				Run(x.files, x.s, wide, room, x.picks)
				for _, l := range x.s {
					Line(x.files, l, wide, room, x.picks)
				}
			}
		}
		if after := x.whole(); !reflect.DeepEqual(after, before) {
			t.Fatalf("%v became %v", before, after)
		}
	}
}

// spoil writes into a list and the room behind it.
func spoil[T any](l []T, with T) {
	l = l[:cap(l)]
	for i := range l {
		l[i] = with
	}
}

func TestAnswersAreNew(t *testing.T) {
	r := rand.New(rand.NewSource(6))
	for range 400 {
		x := drawnGiven(r)
		if r.Intn(5) == 0 {
			x.s = nil
		}
		before := x.whole()
		wide, room := 1+r.Intn(api.MaxWidth), drawnRoom(r)
		want, _ := shell.Run(x.files, x.s)
		for _, l := range x.s {
			b, _ := Line(x.files, l, wide, room, x.picks)
			spoil(b, '!')
		}
		got, e := Run(x.files, x.s, wide, room, x.picks)
		for i, f := range got {
			if e != api.OK || string(f.B) != string(want[i].B) {
				t.Fatalf("file %d: %q, %d, want %q", i, f.B, e, want[i].B)
			}
			spoil(f.B, '!')
		}
		spoil(got, api.File{Name: "spoilt"})
		if after := x.whole(); !reflect.DeepEqual(after, before) {
			t.Fatalf("%v became %v by what was answered", before, after)
		}
	}
}

// TestTheSameEachTime: what is answered hangs on nothing but what is handed in.
func TestTheSameEachTime(t *testing.T) {
	r := rand.New(rand.NewSource(7))
	for range 50 {
		x := drawnGiven(r)
		wide, room := r.Intn(api.MaxWidth+2), r.Intn(4)
		first, e := Run(x.files, x.s, wide, room, x.picks)
		for range 5 {
			if l, f := Run(x.files, x.s, wide, room, x.picks); f != e || !shell.Same(l, first) {
				t.Fatalf("%q, %d, then %q, %d", first, e, l, f)
			}
		}
	}
}
