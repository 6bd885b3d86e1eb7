package command

import (
	"bytes"
	"slices"
	"strconv"
	"strings"
	"testing"

	"gangsaw/api"
	"gangsaw/line"
)

const (
	most  = int(^uint(0) >> 1)
	least = -most - 1
)

func TestWord(t *testing.T) {
	for _, s := range []string{"a", "z", "0", "9", "a1", "0x", strings.Repeat("z", api.MaxWord)} {
		if !Word(s) {
			t.Errorf("%q is a word", s)
		}
	}
	for _, s := range []string{"", " ", "a b", "a ", " a", "A", "aZ", "`", "{", "/", ":", "a-b", "a_", "a\n", "\x00", "a\x00", "\xff", "é", strings.Repeat("z", api.MaxWord+1), strings.Repeat("é", api.MaxWord)} {
		if Word(s) {
			t.Errorf("%q is no word", s)
		}
	}
	for i := range 256 {
		want := strings.IndexByte("abcdefghijklmnopqrstuvwxyz0123456789", byte(i)) >= 0
		if s := string([]byte{byte(i)}); Word(s) != want || Word("a"+s+"b") != want {
			t.Errorf("%q: want %v", s, want)
		}
	}
}

// sound answers a command of each kind with which nothing is wrong.
func sound() []api.Command {
	return []api.Command{
		{Kind: api.Keep, Word: "a"},
		{Kind: api.Drop, Word: "a"},
		{Kind: api.Swap, Word: "ab"},
		{Kind: api.Field, N: 2},
		{Kind: api.Turn},
		{Kind: api.Sort},
		{Kind: api.Once},
		{Kind: api.Count},
		{Kind: api.Head, N: 2},
		{Kind: api.Tail, N: 2},
	}
}

func TestCheckSound(t *testing.T) {
	all := append(sound(),
		api.Command{Kind: api.Keep, Word: strings.Repeat("9", api.MaxWord)},
		api.Command{Kind: api.Swap, Word: "aa"},
		api.Command{Kind: api.Swap, Word: "0z"},
		api.Command{Kind: api.Field, N: 1},
		api.Command{Kind: api.Field, N: api.MaxN},
		api.Command{Kind: api.Head, N: 1},
		api.Command{Kind: api.Head, N: api.MaxN},
		api.Command{Kind: api.Tail, N: 1},
		api.Command{Kind: api.Tail, N: api.MaxN},
	)
	for _, c := range all {
		if e := Check(c); e != api.OK {
			t.Errorf("%v: %d, want OK", c, e)
		}
	}
}

// wrong are commands with what is told of each, the first of several errors.
func wrong() map[api.Command]api.Errno {
	w := map[api.Command]api.Errno{
		{}:                                api.ErrForm,
		{Kind: -1}:                        api.ErrForm,
		{Kind: api.Tail + 1, N: 1}:        api.ErrForm,
		{Kind: api.Tail + 1}:              api.ErrForm,
		{Kind: most}:                      api.ErrForm,
		{Kind: least, Word: "a", N: 1}:    api.ErrForm,
		{Kind: 0, Word: "a"}:              api.ErrForm,
		{Kind: api.Swap, Word: "a"}:       api.ErrText,
		{Kind: api.Swap, Word: "abc"}:     api.ErrText,
		{Kind: api.Swap, Word: "a "}:      api.ErrText,
		{Kind: api.Swap, Word: "é"}:       api.ErrText,
		{Kind: api.Swap, Word: "\na"}:     api.ErrText,
		{Kind: api.Head, Word: " ", N: 0}: api.ErrForm,
	}
	for _, kind := range []int{api.Keep, api.Drop, api.Swap} {
		w[api.Command{Kind: kind}] = api.ErrText
		w[api.Command{Kind: kind, Word: "A?"}] = api.ErrText
		w[api.Command{Kind: kind, Word: strings.Repeat("a", api.MaxWord+1)}] = api.ErrText
		w[api.Command{Kind: kind, N: 1}] = api.ErrForm
		w[api.Command{Kind: kind, Word: "ab", N: 1}] = api.ErrForm
		w[api.Command{Kind: kind, Word: "ab", N: -1}] = api.ErrForm
		w[api.Command{Kind: kind, Word: "A?", N: api.MaxN + 1}] = api.ErrForm
	}
	for _, kind := range []int{api.Field, api.Head, api.Tail} {
		for _, n := range []int{0, -1, api.MaxN + 1, most, least} {
			w[api.Command{Kind: kind, N: n}] = api.ErrRange
			w[api.Command{Kind: kind, Word: "a", N: n}] = api.ErrForm
		}
		w[api.Command{Kind: kind, Word: "a", N: 1}] = api.ErrForm
		w[api.Command{Kind: kind, Word: "?", N: 1}] = api.ErrForm
	}
	for _, kind := range []int{api.Turn, api.Sort, api.Once, api.Count} {
		w[api.Command{Kind: kind, Word: "a"}] = api.ErrForm
		w[api.Command{Kind: kind, Word: "?"}] = api.ErrForm
		w[api.Command{Kind: kind, N: 1}] = api.ErrForm
		w[api.Command{Kind: kind, N: -1}] = api.ErrForm
		w[api.Command{Kind: kind, Word: "a", N: most}] = api.ErrForm
	}
	return w
}

func TestCheckWrong(t *testing.T) {
	for c, want := range wrong() {
		if e := Check(c); e != want {
			t.Errorf("%v: %d, want %d", c, e, want)
		}
	}
}

func TestEach(t *testing.T) {
	for kind, want := range map[int]bool{least: false, -1: false, 0: false, api.Keep: true, api.Drop: true, api.Swap: true, api.Field: true, api.Turn: true, api.Sort: false, api.Once: false, api.Count: false, api.Head: false, api.Tail: false, api.Tail + 1: false, most: false} {
		for _, c := range []api.Command{{Kind: kind}, {Kind: kind, Word: "?", N: -1}} {
			if Each(c) != want {
				t.Errorf("%v: want %v", c, want)
			}
		}
	}
}

// TestHas: no kind has both, and what is no kind has neither.
func TestHas(t *testing.T) {
	words := []int{api.Keep, api.Drop, api.Swap}
	numbers := []int{api.Field, api.Head, api.Tail}
	for kind := -1; kind <= api.Tail+1; kind++ {
		if got, want := HasWord(kind), slices.Contains(words, kind); got != want {
			t.Errorf("%d: has a word: %v", kind, got)
		}
		if got, want := HasNumber(kind), slices.Contains(numbers, kind); got != want {
			t.Errorf("%d: has a number: %v", kind, got)
		}
	}
}

func TestDo(t *testing.T) {
	for _, x := range []struct {
		c        api.Command
		in, want string
	}{
		{api.Command{Kind: api.Keep, Word: "ab"}, "ab\na\nxabx\nb a\n\ncab", "ab\nxabx\ncab\n"},
		{api.Command{Kind: api.Keep, Word: "ab"}, "a\nb", ""},
		{api.Command{Kind: api.Drop, Word: "ab"}, "ab\na\nxabx\nb a\n\ncab", "a\nb a\n\n"},
		{api.Command{Kind: api.Drop, Word: "ab"}, "a\nb", "a\nb\n"},
		{api.Command{Kind: api.Swap, Word: "ab"}, "aabb\n\nA\xc3\xff a", "bbbb\n\nA\xc3\xff b\n"},
		{api.Command{Kind: api.Swap, Word: "aa"}, "aba\n", "aba\n"},
		{api.Command{Kind: api.Field, N: 1}, "a b\n b\n\n \nab", "a\n\n\n\nab\n"},
		{api.Command{Kind: api.Field, N: 2}, "a b c\na  c\na\n b\na \na\tb c", "b\n\n\nb\n\nc\n"},
		{api.Command{Kind: api.Field, N: 3}, "a b c\na  c\n  x y\n   \n", "c\nc\nx\n\n"},
		{api.Command{Kind: api.Field, N: api.MaxN}, strings.Repeat(" ", api.MaxN-1) + "x y\n" + strings.Repeat(" ", api.MaxN-2) + "x", "x\n\n"},
		{api.Command{Kind: api.Turn}, "abc\n\na b \n\xc3\xa9\x00", "cba\n\n b a\n\x00\xa9\xc3\n"},
		{api.Command{Kind: api.Sort}, "b\n\na\nab\n\xff\nB\na\n\x00", "\n\x00\nB\na\na\nab\nb\n\xff\n"},
		{api.Command{Kind: api.Sort}, "10\n9\n1\n1 \n", "1\n1 \n10\n9\n"},
		{api.Command{Kind: api.Once}, "a\na\nb\na\na\na\n\n\nc\nc ", "a\nb\na\n\nc\nc \n"},
		{api.Command{Kind: api.Once}, "a\na", "a\n"},
		{api.Command{Kind: api.Count}, "", "0\n"},
		{api.Command{Kind: api.Count}, "\n", "1\n"},
		{api.Command{Kind: api.Count}, "a\n\nb", "3\n"},
		{api.Command{Kind: api.Head, N: 1}, "a\nb\nc", "a\n"},
		{api.Command{Kind: api.Head, N: 3}, "a\nb\nc", "a\nb\nc\n"},
		{api.Command{Kind: api.Head, N: 4}, "a\nb\nc", "a\nb\nc\n"},
		{api.Command{Kind: api.Head, N: 2}, "\n\n\n", "\n\n"},
		{api.Command{Kind: api.Tail, N: 1}, "a\nb\nc", "c\n"},
		{api.Command{Kind: api.Tail, N: 3}, "a\nb\nc\n", "a\nb\nc\n"},
		{api.Command{Kind: api.Tail, N: api.MaxN}, "a\nb\nc\n", "a\nb\nc\n"},
		{api.Command{Kind: api.Tail, N: 2}, "a\n\n", "a\n\n"},
	} {
		got, e := Do(x.c, []byte(x.in))
		if e != api.OK || string(got) != x.want {
			t.Errorf("%v of %q: %q, %d; want %q", x.c, x.in, got, e, x.want)
		}
	}
}

func TestDoNothing(t *testing.T) {
	for _, c := range sound() {
		want := ""
		if c.Kind == api.Count {
			want = "0\n"
		}
		for _, b := range [][]byte{nil, {}} {
			if got, e := Do(c, b); e != api.OK || string(got) != want {
				t.Errorf("%v of nothing: %q, %d; want %q", c, got, e, want)
			}
		}
	}
}

func TestDoErrors(t *testing.T) {
	long := bytes.Repeat([]byte("a"), api.MaxBytes+1)
	for c, want := range wrong() {
		for _, b := range [][]byte{nil, []byte("a\n"), long} {
			if got, e := Do(c, b); e != want || got != nil {
				t.Errorf("%v of %d bytes: %d bytes, %d; want none, %d", c, len(b), len(got), e, want)
			}
		}
	}
	feeds := bytes.Repeat([]byte("\n"), api.MaxBytes+1)
	for _, c := range sound() {
		for _, b := range [][]byte{long, feeds} {
			if got, e := Do(c, b); e != api.ErrMany || got != nil {
				t.Errorf("%v of too many bytes: %d bytes, %d; want none, ErrMany", c, len(got), e)
			}
		}
	}
}

// A last line without an end gets one, even where no byte of room is left.
func TestDoTheMostBytes(t *testing.T) {
	full := strings.Repeat("b", api.MaxBytes)
	for _, c := range []api.Command{{Kind: api.Keep, Word: "b"}, {Kind: api.Drop, Word: "a"}, {Kind: api.Swap, Word: "ab"}, {Kind: api.Field, N: 1}, {Kind: api.Turn}, {Kind: api.Sort}, {Kind: api.Once}, {Kind: api.Head, N: 1}, {Kind: api.Tail, N: 1}} {
		if got, e := Do(c, []byte(full)); e != api.OK || string(got) != full+"\n" {
			t.Errorf("%v: %d bytes, %d", c, len(got), e)
		}
	}
	feeds := bytes.Repeat([]byte("\n"), api.MaxBytes)
	for c, want := range map[api.Command]string{
		{Kind: api.Sort}:              string(feeds),
		{Kind: api.Turn}:              string(feeds),
		{Kind: api.Once}:              "\n",
		{Kind: api.Count}:             strconv.Itoa(api.MaxBytes) + "\n",
		{Kind: api.Head, N: api.MaxN}: string(feeds[:api.MaxN]),
		{Kind: api.Tail, N: api.MaxN}: string(feeds[:api.MaxN]),
	} {
		if got, e := Do(c, feeds); e != api.OK || string(got) != want {
			t.Errorf("%v of line feeds: %d bytes, %d; want %d", c, len(got), e, len(want))
		}
	}
}

// texts answers every text of up to so many bytes out of these letters.
func texts(letters string, longest int) []string {
	all := []string{""}
	from := 0
	for range longest {
		to := len(all)
		for _, s := range all[from:to] {
			for _, x := range strings.Split(letters, "") {
				all = append(all, s+x)
			}
		}
		from = to
	}
	return all
}

// more are sound commands, those with a number with other ones, too.
func more() []api.Command {
	all := sound()
	for _, kind := range []int{api.Field, api.Head, api.Tail} {
		for _, n := range []int{1, 3, 5} {
			all = append(all, api.Command{Kind: kind, N: n})
		}
	}
	return all
}

func TestPartsAreDoneAsTheWhole(t *testing.T) {
	for _, s := range texts("ab \n", 6) {
		for _, c := range more() {
			if !Each(c) {
				continue
			}
			whole, e := Do(c, []byte(s))
			if e != api.OK {
				t.Fatalf("%v of %q: %d", c, s, e)
			}
			for wide := 1; wide <= 3; wide++ {
				parts, _ := line.Split([]byte(s), wide)
				var got []byte
				for _, p := range parts {
					done, e := Do(c, p)
					if e != api.OK {
						t.Fatalf("%v of the part %q: %d", c, p, e)
					}
					got = append(got, done...)
				}
				if !bytes.Equal(got, whole) {
					t.Fatalf("%v of %q in %d parts: %q, the whole: %q", c, s, wide, got, whole)
				}
			}
		}
	}
}

// plain does a command the long way, line by line.
func plain(c api.Command, lines []string) string {
	var out []string
	for i, s := range lines {
		keep := true
		switch c.Kind {
		case api.Keep:
			keep = strings.Contains(s, c.Word)
		case api.Drop:
			keep = !strings.Contains(s, c.Word)
		case api.Swap:
			s = strings.ReplaceAll(s, c.Word[:1], c.Word[1:])
		case api.Field:
			for range c.N - 1 {
				_, s, _ = strings.Cut(s, " ")
			}
			s, _, _ = strings.Cut(s, " ")
		case api.Turn:
			back := ""
			for j := range len(s) {
				back = s[j:j+1] + back
			}
			s = back
		case api.Once:
			keep = i == 0 || lines[i-1] != s
		case api.Head:
			keep = i < c.N
		case api.Tail:
			keep = i+c.N >= len(lines)
		}
		if keep {
			out = append(out, s+"\n")
		}
	}
	if c.Kind == api.Sort { // without the ends: some bytes are below a line feed
		slices.SortFunc(out, func(a, b string) int { return strings.Compare(a[:len(a)-1], b[:len(b)-1]) })
	}
	if c.Kind == api.Count {
		return strconv.Itoa(len(out)) + "\n"
	}
	return strings.Join(out, "")
}

func TestDoIsWhatItIsTheLongWay(t *testing.T) {
	for _, s := range texts("ab \n", 6) {
		lines, _ := line.Of([]byte(s))
		for _, c := range more() {
			if got, e := Do(c, []byte(s)); e != api.OK || string(got) != plain(c, lines) {
				t.Fatalf("%v of %q: %q, %d; want %q", c, s, got, e, plain(c, lines))
			}
		}
	}
}

// Over does to lines what Do does to bytes, and has no limit of bytes.
func TestOver(t *testing.T) {
	for _, s := range texts("ab \n", 5) {
		lines, _ := line.Of([]byte(s))
		kept := slices.Clone(lines)
		for _, c := range more() {
			got, e := Over(c, lines)
			if e != api.OK || string(line.Ended(got)) != plain(c, lines) {
				t.Fatalf("%v of %q: %q, %d; want %q", c, lines, got, e, plain(c, lines))
			}
			for i := range got {
				got[i] = "#"
			}
			if !slices.Equal(lines, kept) {
				t.Fatalf("%v: the lines are now %q, they were %q", c, lines, kept)
			}
		}
	}
	long := []string{strings.Repeat("b", api.MaxBytes), strings.Repeat("a", 2*api.MaxBytes)}
	if got, e := Over(api.Command{Kind: api.Sort}, long); e != api.OK || len(got) != 2 || got[0] != long[1] || got[1] != long[0] {
		t.Errorf("long lines: %d of them, %d", len(got), e)
	}
	for c, want := range wrong() {
		if got, e := Over(c, []string{"a"}); e != want || got != nil {
			t.Errorf("%v: %q, %d; want none, %d", c, got, e, want)
		}
	}
}

// What is handed in stays as it is, the room behind it too, and what is answered outlives it.
func TestHandedInIsOnlyReadAndNotKept(t *testing.T) {
	const text = "ba a\nab b\nab b\nb"
	for _, c := range sound() {
		room := []byte(text + "yz")
		in := room[:len(text)]
		got, _ := Do(c, in)
		told := string(got)
		if string(room) != text+"yz" {
			t.Errorf("%v: the bytes are now %q", c, room)
		}
		for i := range room {
			room[i] = '#'
		}
		if string(got) != told {
			t.Errorf("%v: the answer shares what was handed in: %q", c, got)
		}
	}
}
