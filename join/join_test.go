package join

import (
	"bytes"
	"slices"
	"strconv"
	"strings"
	"testing"

	"gangsaw/api"
	"gangsaw/command"
	"gangsaw/line"
)

const (
	most     = int(^uint(0) >> 1)
	smallest = -most - 1
)

// of answers texts as parts.
func of(texts ...string) [][]byte {
	var parts [][]byte
	for _, s := range texts {
		parts = append(parts, []byte(s))
	}
	return parts
}

// sound answers commands with which nothing is wrong, some of each kind, and the join for each.
func sound() map[api.Command]int {
	return map[api.Command]int{
		{Kind: api.Keep, Word: "a"}:   api.Behind,
		{Kind: api.Drop, Word: "a"}:   api.Behind,
		{Kind: api.Swap, Word: "ab"}:  api.Behind,
		{Kind: api.Field, N: 1}:       api.Behind,
		{Kind: api.Field, N: 2}:       api.Behind,
		{Kind: api.Turn}:              api.Behind,
		{Kind: api.Sort}:              api.Merge,
		{Kind: api.Once}:              api.Again,
		{Kind: api.Count}:             api.Sum,
		{Kind: api.Head, N: 1}:        api.Again,
		{Kind: api.Head, N: 3}:        api.Again,
		{Kind: api.Head, N: api.MaxN}: api.Again,
		{Kind: api.Tail, N: 1}:        api.Again,
		{Kind: api.Tail, N: 3}:        api.Again,
		{Kind: api.Tail, N: api.MaxN}: api.Again,
	}
}

// wrong answers commands with what chapter 2 tells of each.
func wrong() map[api.Command]api.Errno {
	return map[api.Command]api.Errno{
		{}:                                 api.ErrForm,
		{Kind: -1}:                         api.ErrForm,
		{Kind: api.Tail + 1}:               api.ErrForm,
		{Kind: most, N: 1}:                 api.ErrForm,
		{Word: "a"}:                        api.ErrForm,
		{Kind: api.Sort, Word: "a"}:        api.ErrForm,
		{Kind: api.Count, N: 1}:            api.ErrForm,
		{Kind: api.Head, Word: "a", N: 1}:  api.ErrForm,
		{Kind: api.Head}:                   api.ErrRange,
		{Kind: api.Tail, N: api.MaxN + 1}:  api.ErrRange,
		{Kind: api.Field, N: -1}:           api.ErrRange,
		{Kind: api.Keep}:                   api.ErrText,
		{Kind: api.Drop, Word: "A"}:        api.ErrText,
		{Kind: api.Swap, Word: "a"}:        api.ErrText,
		{Kind: api.Swap, Word: "abc"}:      api.ErrText,
		{Kind: api.Keep, Word: "a", N: -1}: api.ErrForm,
	}
}

func TestFor(t *testing.T) {
	for c, want := range sound() {
		if how, e := For(c); how != want || e != api.OK {
			t.Errorf("%v: %d, %d; want %d", c, how, e, want)
		}
	}
	for c, want := range wrong() {
		if how, e := For(c); how != 0 || e != want {
			t.Errorf("%v: %d, %d; want 0, %d", c, how, e, want)
		}
	}
}

func TestCheckHow(t *testing.T) {
	for _, how := range []int{smallest, -1, 0, api.Again + 1, most} {
		for _, c := range []api.Command{{}, {Kind: api.Sort}, {Kind: api.Head}, {Kind: api.Keep, Word: "A"}} {
			if e := Check(how, c); e != api.ErrForm {
				t.Errorf("%d with %v: %d, want ErrForm", how, c, e)
			}
		}
	}
	for _, how := range []int{api.Behind, api.Merge, api.Sum} {
		if e := Check(how, api.Command{}); e != api.OK {
			t.Errorf("%d without a command: %d", how, e)
		}
	}
}

func TestCheckCommand(t *testing.T) {
	for c := range sound() {
		if e := Check(api.Again, c); e != api.OK {
			t.Errorf("again %v: %d", c, e)
		}
	}
	for c, want := range wrong() {
		if e := Check(api.Again, c); e != want {
			t.Errorf("again %v: %d, want %d", c, e, want)
		}
	}
	for _, how := range []int{api.Behind, api.Merge, api.Sum} {
		for c := range sound() {
			if e := Check(how, c); e != api.ErrForm {
				t.Errorf("%d with %v: %d, want ErrForm", how, c, e)
			}
		}
		for c := range wrong() {
			if e := Check(how, c); c != (api.Command{}) && e != api.ErrForm {
				t.Errorf("%d with %v: %d, want ErrForm", how, c, e)
			}
		}
	}
}

func TestDo(t *testing.T) {
	for _, x := range []struct {
		how   int
		parts [][]byte
		want  string
	}{
		{api.Behind, nil, ""},
		{api.Behind, of(""), ""},
		{api.Behind, of("", "", ""), ""},
		{api.Behind, of("\n", "", "\n"), "\n\n"},
		{api.Behind, of("b\nc", "a", "", "\nd\n"), "b\nc\na\n\nd\n"},
		{api.Merge, nil, ""},
		{api.Merge, of("", ""), ""},
		{api.Merge, of("a\nc\n"), "a\nc\n"},
		{api.Merge, of("a\nc", "b\nd"), "a\nb\nc\nd\n"},
		{api.Merge, of("b\n", "a\n", "", "\n"), "\na\nb\n"},
		{api.Merge, of("a\na\n", "a\nb\n", "a"), "a\na\na\na\nb\n"},
		{api.Merge, of("c\na\n", "b\nd\n"), "b\nc\na\nd\n"},
		{api.Merge, of("a\nc\n", "a\nb\n"), "a\na\nb\nc\n"},
		{api.Merge, of("b\nz\n", "b\na\n"), "b\nb\na\nz\n"},
		{api.Merge, of("b\na\n", "b\nz\n"), "b\na\nb\nz\n"},
		{api.Merge, of("10\n9\n", "1\n"), "1\n10\n9\n"},
		{api.Merge, of("\xff\n", "z\n", "\x00\n"), "\x00\nz\n\xff\n"},
		{api.Merge, of("a\x00\n", "a\n", "a\x00"), "a\na\x00\na\x00\n"},
		{api.Sum, nil, "0\n"},
		{api.Sum, of("", "", ""), "0\n"},
		{api.Sum, of("0\n", "0\n"), "0\n"},
		{api.Sum, of("7\n", "35\n", "8"), "50\n"},
		{api.Sum, of("\n7\n", "1\n2\n", "3\nx"), "4\n"},
		{api.Sum, of("4000\n", "4000\n", "4000\n", "4000\n", "4000\n"), "20000\n"},
		{api.Sum, of("4001\n", "3999\n"), "3999\n"},
		{api.Sum, of("-1\n", "+1\n", "01\n", "-0\n", "2\n"), "2\n"},
		{api.Sum, of("1 \n", " 1\n", "1\r\n", "0x1\n", "1_0\n"), "0\n"},
		{api.Sum, of("99999999999999999999999999\n", "00\n", "1.0\n", "1e1\n", "\xd9\xa1\n"), "0\n"},
		{api.Sum, of("a\n1\n", "1\n"), "1\n"},
	} {
		got, e := Do(x.how, api.Command{}, x.parts)
		if e != api.OK || string(got) != x.want {
			t.Errorf("%d of %q: %q, %d; want %q", x.how, x.parts, got, e, x.want)
		}
	}
}

func TestDoAgain(t *testing.T) {
	for _, x := range []struct {
		c     api.Command
		parts [][]byte
		want  string
	}{
		{api.Command{Kind: api.Once}, of("a\nb", "b\nb\nc\n", "", "c\na\n"), "a\nb\nc\na\n"},
		{api.Command{Kind: api.Head, N: 3}, of("a", "", "b\nc\nd\n", "e"), "a\nb\nc\n"},
		{api.Command{Kind: api.Head, N: 9}, of("a", "b"), "a\nb\n"},
		{api.Command{Kind: api.Tail, N: 3}, of("a\nb", "c\n", "", "d"), "b\nc\nd\n"},
		{api.Command{Kind: api.Count}, of("a\nb", "c\n", "", "\n"), "4\n"},
		{api.Command{Kind: api.Count}, nil, "0\n"},
		{api.Command{Kind: api.Sort}, of("c\na", "b"), "a\nb\nc\n"},
		{api.Command{Kind: api.Keep, Word: "ab"}, of("a", "b\nab", "xab"), "ab\nxab\n"},
		{api.Command{Kind: api.Drop, Word: "ab"}, of("a", "b\nab", "xab"), "a\nb\n"},
		{api.Command{Kind: api.Swap, Word: "ab"}, of("a", "ba\n"), "b\nbb\n"},
		{api.Command{Kind: api.Field, N: 2}, of("a b", "c\n"), "b\n\n"},
		{api.Command{Kind: api.Turn}, of("ab", "cd"), "ba\ndc\n"},
		{api.Command{Kind: api.Tail, N: 1}, nil, ""},
	} {
		got, e := Do(api.Again, x.c, x.parts)
		if e != api.OK || string(got) != x.want {
			t.Errorf("again %v of %q: %q, %d; want %q", x.c, x.parts, got, e, x.want)
		}
	}
}

// joins answers every join with a command that it may have.
func joins() []struct {
	how int
	c   api.Command
} {
	all := []struct {
		how int
		c   api.Command
	}{{how: api.Behind}, {how: api.Merge}, {how: api.Sum}}
	for c := range sound() {
		all = append(all, struct {
			how int
			c   api.Command
		}{api.Again, c})
	}
	return all
}

func TestDoMany(t *testing.T) {
	full := strings.Repeat("a\n", api.MaxBytes/2)
	for _, j := range joins() {
		for name, x := range map[string]struct {
			parts [][]byte
			want  api.Errno
		}{
			"the most parts":              {make([][]byte, api.MaxWidth), api.OK},
			"one part too many":           {make([][]byte, api.MaxWidth+1), api.ErrMany},
			"far too many parts":          {make([][]byte, 10000), api.ErrMany},
			"the most bytes":              {of(full), api.OK},
			"one byte too many":           {of(full + "a"), api.ErrMany},
			"the most bytes in all":       {of(full[:1998], "", full[1998:]), api.OK},
			"one byte too many in all":    {of(full[:1998], "", full[1998:], "a"), api.ErrMany},
			"one part's bytes, each":      {of(full, full, full, full, full), api.ErrMany},
			"too many parts, of too many": {of(full, full, full, full, full, full), api.ErrMany},
		} {
			got, e := Do(j.how, j.c, x.parts)
			if e != x.want || e != api.OK && got != nil {
				t.Errorf("%d %v, %s: %d bytes, %d; want %d", j.how, j.c, name, len(got), e, x.want)
			}
		}
	}
}

func TestDoErrorsOfCheckFirst(t *testing.T) {
	tooMany := make([][]byte, api.MaxWidth+1)
	tooLong := [][]byte{make([]byte, api.MaxBytes+1)}
	for _, parts := range [][][]byte{nil, of("a\n"), tooMany, tooLong} {
		for c, want := range wrong() {
			if got, e := Do(api.Again, c, parts); e != want || got != nil {
				t.Errorf("again %v: %d bytes, %d; want none, %d", c, len(got), e, want)
			}
		}
		for _, how := range []int{smallest, 0, api.Again + 1, most} {
			if got, e := Do(how, api.Command{}, parts); e != api.ErrForm || got != nil {
				t.Errorf("%d: %d bytes, %d; want none, ErrForm", how, len(got), e)
			}
		}
		for _, how := range []int{api.Behind, api.Merge, api.Sum} {
			if got, e := Do(how, api.Command{Kind: api.Sort}, parts); e != api.ErrForm || got != nil {
				t.Errorf("%d with a command: %d bytes, %d; want none, ErrForm", how, len(got), e)
			}
		}
	}
}

// Last lines without an end get one each, even where no byte of room is left.
func TestDoEndsTheMostBytes(t *testing.T) {
	var parts [][]byte
	want := ""
	for i := range api.MaxWidth {
		s := strings.Repeat(string(rune('b'+i)), api.MaxBytes/api.MaxWidth)
		parts = append(parts, []byte(s))
		want += s + "\n"
	}
	for _, j := range joins() {
		if j.how == api.Sum || j.c.N > 0 && j.c.N < api.MaxN || j.c.Kind == api.Keep || j.c.Kind == api.Field || j.c.Kind == api.Count {
			continue // these leave less
		}
		if got, e := Do(j.how, j.c, parts); e != api.OK || string(got) != want {
			t.Errorf("%d %v: %d bytes, %d; want %d", j.how, j.c, len(got), e, len(want))
		}
	}
	if got, e := Do(api.Again, api.Command{Kind: api.Count}, parts); e != api.OK || string(got) != strconv.Itoa(api.MaxWidth)+"\n" {
		t.Errorf("count again: %q, %d", got, e)
	}
}

// texts answers every text of up to so many bytes out of these letters.
func texts(letters string, longest int) []string {
	all := []string{""}
	from := 0
	for range longest {
		to := len(all)
		for _, s := range all[from:to] {
			for _, x := range strings.Split(letters, "") {
				all = append(all, s+x)
			}
		}
		from = to
	}
	return all
}

// inParts does a command to so many parts, and joins what that comes to.
func inParts(t *testing.T, c api.Command, s string, wide int) []byte {
	t.Helper()
	parts, e := line.Split([]byte(s), wide)
	for i, p := range parts {
		if e == api.OK {
			parts[i], e = command.Do(c, p)
		}
	}
	how, f := For(c)
	if e != api.OK || f != api.OK {
		t.Fatalf("%v of %q in %d parts: %d, %d", c, s, wide, e, f)
	}
	again := api.Command{}
	if how == api.Again {
		again = c
	}
	got, e := Do(how, again, parts)
	if e != api.OK {
		t.Fatalf("%v of %q in %d parts: joined %d", c, s, wide, e)
	}
	return got
}

func TestPartsJoinedAreTheWhole(t *testing.T) {
	all := append(texts("ab \n", 5), texts("a\n", 9)...)
	all = append(all, strings.Repeat("\n", api.MaxBytes), strings.Repeat("b\na\na b\n", api.MaxBytes/8))
	for _, s := range all {
		for c := range sound() {
			want, e := command.Do(c, []byte(s))
			if e != api.OK {
				t.Fatalf("%v of %q: %d", c, s, e)
			}
			for wide := 1; wide <= api.MaxWidth; wide++ {
				if got := inParts(t, c, s, wide); !bytes.Equal(got, want) {
					t.Fatalf("%v of %q in %d parts: %q, the whole: %q", c, s, wide, got, want)
				}
			}
		}
	}
}

// mergedTheLongWay takes the least first line, looked for by sorting, till none is left.
func mergedTheLongWay(parts ...string) string {
	type first struct {
		s    string
		part int
	}
	out := ""
	for {
		var firsts []first
		for i, p := range parts {
			if s, _, _ := strings.Cut(p, "\n"); p != "" {
				firsts = append(firsts, first{s, i})
			}
		}
		if firsts == nil {
			return out
		}
		slices.SortStableFunc(firsts, func(a, b first) int { return strings.Compare(a.s, b.s) })
		out += firsts[0].s + "\n"
		_, parts[firsts[0].part], _ = strings.Cut(parts[firsts[0].part], "\n")
	}
}

func TestMergeIsWhatItIsTheLongWay(t *testing.T) {
	few := texts("ab\n", 4)
	for _, a := range few {
		for _, b := range few {
			for _, c := range []string{"", "a\n", "b\na", "\nab\n"} {
				got, e := Do(api.Merge, api.Command{}, of(a, b, c))
				if want := mergedTheLongWay(a, b, c); e != api.OK || string(got) != want {
					t.Fatalf("%q, %q, %q: %q, %d; want %q", a, b, c, got, e, want)
				}
			}
		}
	}
}

func TestSumTakesJustTheNumbers(t *testing.T) {
	for n := -10; n <= api.MaxBytes+10; n++ {
		want := "0\n"
		if n >= 0 && n <= api.MaxBytes {
			want = strconv.Itoa(n) + "\n"
		}
		if got, e := Do(api.Sum, api.Command{}, of(strconv.Itoa(n))); e != api.OK || string(got) != want {
			t.Errorf("%d: %q, %d; want %q", n, got, e, want)
		}
	}
}

// Over does to lists of lines what Do does to parts, and has no limit of them, nor of bytes.
func TestOver(t *testing.T) {
	few := texts("a1\n", 3)
	for _, a := range few {
		for _, b := range few {
			la, _ := line.Of([]byte(a))
			lb, _ := line.Of([]byte(b))
			lists := [][]string{la, lb, la}
			kept := [][]string{slices.Clone(la), slices.Clone(lb), slices.Clone(la)}
			for _, j := range joins() {
				want, _ := Do(j.how, j.c, of(a, b, a))
				got, e := Over(j.how, j.c, lists)
				if e != api.OK || !bytes.Equal(line.Ended(got), want) {
					t.Fatalf("%d %v of %q: %q, %d; want %q", j.how, j.c, lists, got, e, want)
				}
				for i := range got {
					got[i] = "#"
				}
				if !slices.EqualFunc(lists, kept, slices.Equal) {
					t.Fatalf("%d %v: the lists are now %q, they were %q", j.how, j.c, lists, kept)
				}
			}
		}
	}
	long := []string{strings.Repeat("a", api.MaxBytes), strings.Repeat("b", api.MaxBytes)}
	lists := slices.Repeat([][]string{long}, api.MaxWidth+1)
	for _, j := range joins() {
		if got, e := Over(j.how, j.c, lists); e != api.OK || j.how == api.Merge && (len(got) != 2*len(lists) || got[api.MaxWidth] != long[0] || got[api.MaxWidth+1] != long[1]) {
			t.Errorf("%d %v of many: %d lines, %d", j.how, j.c, len(got), e)
		}
	}
	for c, want := range wrong() {
		if got, e := Over(api.Again, c, lists); e != want || got != nil {
			t.Errorf("again %v: %q, %d; want none, %d", c, got, e, want)
		}
	}
	for _, how := range []int{smallest, 0, api.Again + 1, most} {
		if got, e := Over(how, api.Command{}, nil); e != api.ErrForm || got != nil {
			t.Errorf("%d: %q, %d; want none, ErrForm", how, got, e)
		}
	}
}

// What is handed in stays as it is, the room behind it too, and what is answered outlives it.
func TestHandedInIsOnlyReadAndNotKept(t *testing.T) {
	const text = "b\na\na\n1"
	for _, j := range joins() {
		room := []byte(text + "yz" + text + "yz")
		a, b := room[:len(text)], room[len(text)+2:][:len(text)]
		lists := [][]byte{a, b, a, nil}
		got, e := Do(j.how, j.c, lists[:3])
		told := string(got)
		if e != api.OK || string(room) != text+"yz"+text+"yz" {
			t.Errorf("%d %v: %d, the bytes are now %q", j.how, j.c, e, room)
		}
		if len(lists[0]) != len(text) || &lists[0][0] != &a[0] || &lists[1][0] != &b[0] || &lists[2][0] != &a[0] || lists[3] != nil {
			t.Errorf("%d %v: the parts are now %q", j.how, j.c, lists)
		}
		for i := range room {
			room[i] = '#'
		}
		if string(got) != told {
			t.Errorf("%d %v: the answer shares what was handed in: %q", j.how, j.c, got)
		}
	}
}
