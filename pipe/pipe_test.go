package pipe

import (
	"math/rand"
	"reflect"
	"slices"
	"strings"
	"testing"

	"gangsaw/api"
)

const (
	most     = int(^uint(0) >> 1)
	smallest = -most - 1
)

// full is how many bytes go into a pipe whose room has no end.
const full = 40000

func times(n int) []byte { return []byte(strings.Repeat("x", n)) }

func of(room int, s string) api.Pipe { return api.Pipe{B: []byte(s), Room: room} }

func closed(p api.Pipe) api.Pipe {
	p.Closed = true
	return p
}

func shut(p api.Pipe) api.Pipe {
	p.Shut = true
	return p
}

func alike(a, b api.Pipe) bool {
	return string(a.B) == string(b.B) && a.Room == b.Room && a.Closed == b.Closed && a.Shut == b.Shut
}

func zero(p api.Pipe) bool { return p.B == nil && alike(p, api.Pipe{}) }

// wrong answers pipes that aren't in form, with what is wrong with them.
func wrong() map[string]told {
	return map[string]told{
		"no room":                  {of(-1, ""), api.ErrRange},
		"far from any room":        {of(smallest, ""), api.ErrRange},
		"too much room":            {of(api.MaxRoom+1, ""), api.ErrRange},
		"far too much room":        {of(most, ""), api.ErrRange},
		"more than its room":       {of(1, "ab"), api.ErrMany},
		"more than the most room":  {api.Pipe{B: times(api.MaxRoom + 1), Room: api.MaxRoom}, api.ErrMany},
		"more than without an end": {api.Pipe{B: times(full + 1)}, api.ErrMany},
		"shut with bytes":          {shut(of(0, "a")), api.ErrForm},
		"shut with bytes, a room":  {shut(of(9, "ab")), api.ErrForm},
		"shut, closed, with bytes": {shut(closed(of(1, "a"))), api.ErrForm},
		"closed, no room":          {closed(of(-1, "")), api.ErrRange},
		"closed, more":             {closed(of(2, "abc")), api.ErrMany},
		"range, then many":         {api.Pipe{B: times(full + 1), Room: -1}, api.ErrRange},
		"too much room, then many": {api.Pipe{B: times(full + 1), Room: api.MaxRoom + 1}, api.ErrRange},
		"range, then form":         {shut(of(api.MaxRoom+1, "a")), api.ErrRange},
		"many, then form":          {shut(of(1, "ab")), api.ErrMany},
		"many without an end":      {shut(api.Pipe{B: times(full + 1)}), api.ErrMany},
	}
}

type told struct {
	p api.Pipe
	e api.Errno
}

func TestNew(t *testing.T) {
	for _, room := range []int{0, 1, 2, 3, api.MaxRoom - 1, api.MaxRoom} {
		if p, e := New(room); e != api.OK || !alike(p, of(room, "")) {
			t.Errorf("%d: %v, %d", room, p, e)
		}
	}
	for _, room := range []int{-1, smallest, api.MaxRoom + 1, most} {
		if p, e := New(room); e != api.ErrRange || !zero(p) {
			t.Errorf("%d: %v, %d", room, p, e)
		}
	}
}

func TestCheck(t *testing.T) {
	for name, p := range map[string]api.Pipe{
		"nothing":             {},
		"an empty list":       {B: []byte{}, Shut: true},
		"some":                of(3, "ab"),
		"as much as there is": of(3, "abc"),
		"one":                 of(1, "a"),
		"the most room":       {B: times(api.MaxRoom), Room: api.MaxRoom},
		"more than any room":  {B: times(api.MaxRoom + 1)},
		"full":                {B: times(full)},
		"full, closed":        closed(api.Pipe{B: times(full)}),
		"closed":              closed(of(1, "")),
		"closed with bytes":   closed(of(1, "a")),
		"shut":                shut(of(1, "")),
		"shut and closed":     shut(closed(of(0, ""))),
		"spare room behind":   {B: times(full + 9)[:2], Room: 2},
	} {
		if e := Check(p); e != api.OK {
			t.Errorf("%s: %d", name, e)
		}
	}
	for name, x := range wrong() {
		if e := Check(x.p); e != x.e {
			t.Errorf("%s: %d, want %d", name, e, x.e)
		}
	}
}

func TestTheOthersSayItFirst(t *testing.T) {
	for name, x := range wrong() {
		for _, b := range []string{"", "a", "abc"} {
			if p, n, e := Write(x.p, []byte(b)); e != x.e || n != 0 || !zero(p) {
				t.Errorf("%s: write %q: %v, %d, %d", name, b, p, n, e)
			}
		}
		for _, k := range []int{-1, 0, 1, api.MaxBytes, api.MaxBytes + 1} {
			if p, b, e := Read(x.p, k); e != x.e || b != nil || !zero(p) {
				t.Errorf("%s: read %d: %v, %q, %d", name, k, p, b, e)
			}
		}
		if p, e := Close(x.p); e != x.e || !zero(p) {
			t.Errorf("%s: close: %v, %d", name, p, e)
		}
		if p, e := Shut(x.p); e != x.e || !zero(p) {
			t.Errorf("%s: shut: %v, %d", name, p, e)
		}
	}
}

func TestOver(t *testing.T) {
	for name, x := range map[string]struct {
		p    api.Pipe
		want bool
	}{
		"open, empty":            {of(1, ""), false},
		"open, with bytes":       {of(1, "a"), false},
		"closed, with bytes":     {closed(of(1, "a")), false},
		"closed, empty":          {closed(of(1, "")), true},
		"closed, no list":        {api.Pipe{Closed: true}, true},
		"shut":                   {shut(of(1, "")), false},
		"shut and closed":        {shut(closed(of(1, ""))), true},
		"closed, a wrong room":   {closed(of(-1, "")), true},
		"open, a wrong room":     {of(-1, ""), false},
		"shut, closed, with one": {shut(closed(of(0, "a"))), false},
	} {
		if got := Over(x.p); got != x.want {
			t.Errorf("%s: %v", name, got)
		}
	}
}

func TestWrite(t *testing.T) {
	for name, x := range map[string]struct {
		p    api.Pipe
		b    string
		want api.Pipe
		n    int
	}{
		"all":                        {of(5, "ab"), "cd", of(5, "abcd"), 2},
		"all that there is room for": {of(5, "ab"), "cde", of(5, "abcde"), 3},
		"more than that":             {of(5, "ab"), "cdefg", of(5, "abcde"), 3},
		"into an empty one":          {of(3, ""), "abcd", of(3, "abc"), 3},
		"byte by byte":               {of(1, ""), "ab", of(1, "a"), 1},
		"no room":                    {of(1, "a"), "b", of(1, "a"), 0},
		"nothing":                    {of(2, "a"), "", of(2, "a"), 0},
		"nothing into nothing":       {of(2, ""), "", of(2, ""), 0},
		"any bytes":                  {of(9, "\x00"), "\n\xff\n", of(9, "\x00\n\xff\n"), 3},
		"no end of it":               {of(0, "a"), string(times(3000)), of(0, "a"+string(times(3000))), 3000},
		"shut":                       {shut(of(2, "")), "abcdef", shut(of(2, "")), 6},
		"shut, nothing":              {shut(of(2, "")), "", shut(of(2, "")), 0},
		"shut, no end":               {shut(of(0, "")), "abc", shut(of(0, "")), 3},
	} {
		p, n, e := Write(x.p, []byte(x.b))
		if e != api.OK || n != x.n || !alike(p, x.want) {
			t.Errorf("%s: %v, %d, %d, want %v, %d", name, p, n, e, x.want, x.n)
		}
	}
}

func TestWriteOfTheMost(t *testing.T) {
	for _, x := range []struct{ room, has, b, n int }{
		{0, 0, full, full},
		{0, 0, full + 1, full},
		{0, 1, full, full - 1},
		{0, full - 1, 2, 1},
		{0, full, 1, 0},
		{0, full, 0, 0},
		{0, api.MaxBytes, 3 * full, full - api.MaxBytes},
		{api.MaxRoom, 0, full, api.MaxRoom},
		{api.MaxRoom, 1, api.MaxRoom - 1, api.MaxRoom - 1},
		{api.MaxRoom, api.MaxRoom, 1, 0},
		{1, 0, 2 * full, 1},
	} {
		p, n, e := Write(api.Pipe{B: times(x.has), Room: x.room}, times(x.b))
		if e != api.OK || n != x.n || len(p.B) != x.has+x.n || Check(p) != api.OK {
			t.Errorf("%v: %d bytes, %d, %d", x, len(p.B), n, e)
		}
	}
	if p, n, e := Write(shut(of(1, "")), times(2*full)); e != api.OK || n != 2*full || len(p.B) != 0 || !p.Shut {
		t.Errorf("shut: %v, %d, %d", p, n, e)
	}
}

func TestLate(t *testing.T) {
	for name, p := range map[string]api.Pipe{
		"closed":            closed(of(3, "")),
		"closed with bytes": closed(of(3, "ab")),
		"closed, no end":    closed(of(0, "")),
		"shut and closed":   shut(closed(of(3, ""))),
	} {
		for _, b := range [][]byte{nil, {}, []byte("a"), times(9)} {
			if q, n, e := Write(p, b); e != api.ErrLate || n != 0 || !zero(q) {
				t.Errorf("%s: write %q: %v, %d, %d", name, b, q, n, e)
			}
		}
		if q, e := Close(p); e != api.ErrLate || !zero(q) {
			t.Errorf("%s: close: %v, %d", name, q, e)
		}
	}
}

func TestRead(t *testing.T) {
	for name, x := range map[string]struct {
		p    api.Pipe
		most int
		want api.Pipe
		b    string
	}{
		"some":             {of(5, "abc"), 2, of(5, "c"), "ab"},
		"all":              {of(5, "abc"), 3, of(5, ""), "abc"},
		"more than it has": {of(5, "abc"), 4, of(5, ""), "abc"},
		"the most":         {of(5, "abc"), api.MaxBytes, of(5, ""), "abc"},
		"none":             {of(5, "abc"), 0, of(5, "abc"), ""},
		"of an empty one":  {of(5, ""), 2, of(5, ""), ""},
		"of a closed one":  {closed(of(5, "abc")), 1, closed(of(5, "bc")), "a"},
		"of an ended one":  {closed(of(5, "")), 1, closed(of(5, "")), ""},
		"of a shut one":    {shut(of(5, "")), 1, shut(of(5, "")), ""},
		"any bytes":        {of(0, "\n\xff\x00\n"), 3, of(0, "\n"), "\n\xff\x00"},
	} {
		p, b, e := Read(x.p, x.most)
		if e != api.OK || string(b) != x.b || !alike(p, x.want) {
			t.Errorf("%s: %v, %q, %d, want %v, %q", name, p, b, e, x.want, x.b)
		}
	}
	p, b, e := Read(api.Pipe{B: times(full)}, api.MaxBytes)
	if e != api.OK || len(b) != api.MaxBytes || len(p.B) != full-api.MaxBytes {
		t.Errorf("full: %d bytes, %d are left, %d", len(b), len(p.B), e)
	}
	for _, k := range []int{-1, smallest, api.MaxBytes + 1, most} {
		for _, p := range []api.Pipe{{}, of(5, "abc"), closed(of(5, "")), shut(of(0, ""))} {
			if q, b, e := Read(p, k); e != api.ErrRange || b != nil || !zero(q) {
				t.Errorf("%d of %v: %v, %q, %d", k, p, q, b, e)
			}
		}
	}
}

func TestCloseAndShut(t *testing.T) {
	for name, p := range map[string]api.Pipe{
		"empty":            of(5, ""),
		"with bytes":       of(5, "abc"),
		"no end":           of(0, "abc"),
		"shut":             shut(of(5, "")),
		"closed":           closed(of(5, "")),
		"closed, some":     closed(of(5, "abc")),
		"closed, shut":     shut(closed(of(5, ""))),
		"full":             {B: times(full)},
		"as much as room":  of(1, "a"),
		"the most of room": {B: times(api.MaxRoom), Room: api.MaxRoom},
	} {
		if !p.Closed {
			if q, e := Close(p); e != api.OK || !alike(q, closed(p)) {
				t.Errorf("%s: close: %v, %d", name, q, e)
			}
		}
		want := shut(p)
		want.B = nil
		if q, e := Shut(p); e != api.OK || !alike(q, want) {
			t.Errorf("%s: shut: %v, %d", name, q, e)
		}
	}
}

// theLongWay is a pipe into which bytes go one by one.
type theLongWay struct{ p api.Pipe }

func (w *theLongWay) write(b []byte) (n int, e api.Errno) {
	if w.p.Closed {
		return 0, api.ErrLate
	}
	for _, c := range b {
		if w.p.Shut {
			n++
			continue
		}
		if w.p.Room > 0 && len(w.p.B) == w.p.Room || len(w.p.B) == full {
			break
		}
		w.p.B = slices.Concat(w.p.B, []byte{c})
		n++
	}
	return n, api.OK
}

func (w *theLongWay) read(k int) (b []byte, e api.Errno) {
	if k < 0 || k > api.MaxBytes {
		return nil, api.ErrRange
	}
	for ; k > 0 && len(w.p.B) > 0; k-- {
		b = append(b, w.p.B[0])
		w.p.B = slices.Clone(w.p.B[1:])
	}
	return b, api.OK
}

func drawn(r *rand.Rand, n int) []byte {
	b := make([]byte, r.Intn(n+1))
	r.Read(b)
	return b
}

func TestAgainstTheLongWay(t *testing.T) {
	r := rand.New(rand.NewSource(1))
	for range 3000 {
		p, e := New([]int{0, 1, 2, 3, 7, 20, api.MaxRoom}[r.Intn(7)])
		if e != api.OK {
			t.Fatal(e)
		}
		w := theLongWay{p: p}
		for range 30 {
			before := p
			var q api.Pipe
			var got, want []any
			switch r.Intn(20) {
			case 0:
				q, e = Close(p)
				got, want = []any{e}, []any{map[bool]api.Errno{true: api.ErrLate}[w.p.Closed]}
				w.p.Closed = true
			case 1:
				q, e = Shut(p)
				got, want = []any{e}, []any{api.OK}
				w.p.Shut, w.p.B = true, nil
			case 2, 3, 4, 5, 6, 7, 8, 9, 10:
				b := drawn(r, 9)
				var n, m int
				var f api.Errno
				q, n, e = Write(p, b)
				m, f = w.write(b)
				got, want = []any{n, e}, []any{m, f}
			default:
				k := r.Intn(10) - 1
				var b, c []byte
				var f api.Errno
				q, b, e = Read(p, k)
				c, f = w.read(k)
				got, want = []any{string(b), e}, []any{string(c), f}
			}
			if !reflect.DeepEqual(got, want) {
				t.Fatalf("of %v: %v, want %v", before, got, want)
			}
			if e != api.OK {
				if !zero(q) {
					t.Fatalf("of %v: %v with error %d", before, q, e)
				}
				continue
			}
			p = q
			if !alike(p, w.p) || Check(p) != api.OK || Over(p) != (w.p.Closed && len(w.p.B) == 0) {
				t.Fatalf("%v became %v, want %v", before, p, w.p)
			}
		}
	}
}

// TestNothingIsLost sends bytes through pipes of any room: they come out as they went in.
func TestNothingIsLost(t *testing.T) {
	r := rand.New(rand.NewSource(2))
	for _, room := range []int{0, 1, 2, 8, 9, api.MaxRoom} {
		for range 20 {
			whole := drawn(r, 900)
			left := whole
			p, _ := New(room)
			var out []byte
			for turn := 0; !Over(p) && turn < 5000; turn++ { // byte by byte it needs some 900
				var n int
				var b []byte
				p, n, _ = Write(p, left[:min(len(left), r.Intn(50))])
				left = left[n:]
				if len(left) == 0 {
					p, _ = Close(p)
				}
				for more := true; more; more = p.Closed && len(b) > 0 {
					p, b, _ = Read(p, 8)
					out = append(out, b...)
				}
			}
			if string(out) != string(whole) {
				t.Fatalf("room %d: %q, want %q", room, out, whole)
			}
		}
	}
}

// spare answers bytes with room behind them, and something in it.
func spare(s string) []byte { return []byte(s + "#####")[:len(s)] }

func whole(b []byte) string { return string(b[:cap(b)]) }

// doAll does all that there is to do with a pipe, and answers the lists that come of it.
func doAll(p api.Pipe, b []byte, k int) (lists [][]byte) {
	w, _, _ := Write(p, b)
	r, first, _ := Read(p, k)
	c, _ := Close(p)
	s, _ := Shut(p)
	Check(p)
	Over(p)
	return [][]byte{w.B, r.B, first, c.B, s.B}
}

func forms(s string) []api.Pipe {
	p := api.Pipe{B: spare(s), Room: 4}
	empty := api.Pipe{B: spare(""), Room: 4}
	endless := api.Pipe{B: spare(s)}
	return []api.Pipe{p, endless, closed(p), empty, shut(empty), shut(closed(empty)), shut(p), {B: spare(s), Room: 1}}
}

func TestWhatIsHandedInStays(t *testing.T) {
	for i := range forms("abc") {
		for k := -1; k < 5; k++ {
			for _, b := range []string{"", "d", "de", "defghi"} {
				p := forms("abc")[i]
				in := spare(b)
				own, other := whole(p.B), whole(in)
				doAll(p, in, k)
				if whole(p.B) != own || whole(in) != other {
					t.Fatalf("%q, %q became %q, %q", own, other, whole(p.B), whole(in))
				}
			}
		}
	}
}

func spoil(b []byte) {
	all := b[:cap(b)]
	for i := range all {
		all[i] = '!'
	}
}

func TestAnswersAreNew(t *testing.T) {
	for i := range forms("abc") {
		for k := -1; k < 5; k++ {
			for _, b := range []string{"", "d", "de", "defghi"} {
				p := forms("abc")[i]
				in := spare(b)
				own, other := whole(p.B), whole(in)
				lists := doAll(p, in, k)
				var before []string
				for _, l := range lists {
					before = append(before, string(l))
				}
				for j, l := range lists {
					spoil(l)
					for m, later := range lists[j+1:] {
						if string(later) != before[j+1+m] {
							t.Fatalf("of %v: lists %d and %d share memory", p, j, j+1+m)
						}
					}
				}
				if whole(p.B) != own || whole(in) != other {
					t.Fatalf("%q, %q are shared: %q, %q", own, other, whole(p.B), whole(in))
				}
				lists = doAll(p, in, k)
				spoil(p.B)
				spoil(in)
				for j, l := range lists {
					if string(l) != before[j] {
						t.Fatalf("list %d hangs on what was handed in: %q, want %q", j, l, before[j])
					}
				}
			}
		}
	}
}
