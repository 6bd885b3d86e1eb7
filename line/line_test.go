package line

import (
	"bytes"
	"slices"
	"strings"
	"testing"

	"gangsaw/api"
)

// texts answers every text of up to so many bytes out of these letters.
func texts(letters string, most int) []string {
	all := []string{""}
	last := all
	for range most {
		var next []string
		for _, s := range last {
			for i := range len(letters) {
				next = append(next, s+letters[i:i+1])
			}
		}
		all = append(all, next...)
		last = next
	}
	return all
}

// whole is what Of, Bytes and Split must keep: the text, its last line ended.
func whole(s string) string {
	if s == "" || strings.HasSuffix(s, "\n") {
		return s
	}
	return s + "\n"
}

func TestOf(t *testing.T) {
	for _, c := range []struct {
		in   string
		want []string
	}{
		{"", nil},
		{"\n", []string{""}},
		{"\n\n", []string{"", ""}},
		{"a", []string{"a"}},
		{"a\n", []string{"a"}},
		{"a\nb", []string{"a", "b"}},
		{"a\n\nb\n", []string{"a", "", "b"}},
		{"\na", []string{"", "a"}},
		{"a\r\n b \n", []string{"a\r", " b "}},
		{"\x00\xff\n\xc3\n", []string{"\x00\xff", "\xc3"}},
	} {
		got, e := Of([]byte(c.in))
		if e != api.OK || !slices.Equal(got, c.want) {
			t.Errorf("Of(%q) = %q, %d; want %q", c.in, got, e, c.want)
		}
	}
}

func TestOfMany(t *testing.T) {
	for _, s := range []string{"a", "\n", "a\n"} {
		most := []byte(strings.Repeat(s, api.MaxBytes))[:api.MaxBytes]
		got, e := Of(most)
		if e != api.OK || strings.Join(got, "\n") != strings.TrimSuffix(string(most), "\n") {
			t.Errorf("the most bytes of %q: %d lines, %d", s, len(got), e)
		}
		got, e = Of(append(most, 'a'))
		if e != api.ErrMany || got != nil {
			t.Errorf("one byte too many of %q: %d lines, %d; want none, ErrMany", s, len(got), e)
		}
	}
}

func TestBytes(t *testing.T) {
	long := strings.Repeat("a", api.MaxBytes)
	feeds := make([]string, api.MaxBytes)
	for _, c := range []struct {
		name string
		in   []string
		want string
		e    api.Errno
	}{
		{"nil", nil, "", api.OK},
		{"none", []string{}, "", api.OK},
		{"an empty one", []string{""}, "\n", api.OK},
		{"some", []string{"a", "", "b c"}, "a\n\nb c\n", api.OK},
		{"odd bytes", []string{"\x00\xff\r"}, "\x00\xff\r\n", api.OK},
		{"a line feed alone", []string{"\n"}, "", api.ErrForm},
		{"a line feed at the end", []string{"a", "b\n"}, "", api.ErrForm},
		{"a line feed within", []string{"a\nb", "c"}, "", api.ErrForm},
		{"the longest", []string{long[1:]}, long[1:] + "\n", api.OK},
		{"no room for its end", []string{long}, "", api.ErrMany},
		{"far too long", []string{long + long}, "", api.ErrMany},
		{"just full", []string{long[3:], "a"}, long[3:] + "\na\n", api.OK},
		{"full, and an empty one", []string{long[1:], ""}, "", api.ErrMany},
		{"the most lines", feeds, strings.Repeat("\n", api.MaxBytes), api.OK},
		{"a line too many", append(slices.Clone(feeds), ""), "", api.ErrMany},
		{"too long, with a line feed", []string{long + "\n"}, "", api.ErrForm},
		{"too long, then a line feed", []string{long, "\n"}, "", api.ErrMany},
		{"a line feed, then too long", []string{"\n", long}, "", api.ErrForm},
		{"full, then a line feed", []string{long[1:], "\n"}, "", api.ErrForm},
	} {
		got, e := Bytes(c.in)
		if e != c.e || string(got) != c.want {
			t.Errorf("%s: %d bytes, %d; want %d, %d", c.name, len(got), e, len(c.want), c.e)
		}
		if e != api.OK && got != nil {
			t.Errorf("%s: an error, and bytes", c.name)
		}
	}
}

func TestSplit(t *testing.T) {
	for _, c := range []struct {
		in    string
		parts int
		want  []string
	}{
		{"", 1, []string{""}},
		{"", 3, []string{"", "", ""}},
		{"a", 1, []string{"a\n"}},
		{"a", 2, []string{"", "a\n"}},
		{"\n", 2, []string{"", "\n"}},
		{"1\n2\n3\n4\n5", 3, []string{"1\n", "2\n3\n", "4\n5\n"}},
		{"1\n2\n3\n4\n5\n6\n7\n", 5, []string{"1\n", "2\n", "3\n4\n", "5\n", "6\n7\n"}},
		{"1\n2\n3\n", 5, []string{"", "1\n", "", "2\n", "3\n"}},
	} {
		got, e := Split([]byte(c.in), c.parts)
		var told []string
		for _, p := range got {
			told = append(told, string(p))
		}
		if e != api.OK || !slices.Equal(told, c.want) {
			t.Errorf("Split(%q, %d) = %q, %d; want %q", c.in, c.parts, told, e, c.want)
		}
	}
}

func TestSplitErrors(t *testing.T) {
	most := []byte(strings.Repeat("a", api.MaxBytes))
	for _, c := range []struct {
		b     []byte
		parts int
		want  api.Errno
	}{
		{nil, 0, api.ErrRange},
		{nil, -1, api.ErrRange},
		{nil, api.MaxWidth + 1, api.ErrRange},
		{nil, int(^uint(0) >> 1), api.ErrRange},
		{nil, -int(^uint(0)>>1) - 1, api.ErrRange},
		{most, 0, api.ErrRange},
		{slices.Concat(most, []byte("a")), 1, api.ErrMany},
		{slices.Concat(most, []byte("a")), 0, api.ErrMany},
		{slices.Concat(most, []byte("\n")), api.MaxWidth + 1, api.ErrMany},
	} {
		got, e := Split(c.b, c.parts)
		if e != c.want || got != nil {
			t.Errorf("%d bytes, %d parts: %d parts, %d; want none, %d", len(c.b), c.parts, len(got), e, c.want)
		}
	}
}

// A last line without an end gets one, even where no byte of room is left.
func TestSplitEndsTheMostBytes(t *testing.T) {
	most := strings.Repeat("a", api.MaxBytes)
	for parts := 1; parts <= api.MaxWidth; parts++ {
		got, e := Split([]byte(most), parts)
		if e != api.OK || len(got) != parts || string(got[parts-1]) != most+"\n" {
			t.Errorf("%d parts: %d of them, %d", parts, len(got), e)
		}
	}
}

// All and Parts do what Of and Split do, and have no limit of bytes.
func TestAllAndParts(t *testing.T) {
	for _, s := range texts("a\n", 7) {
		lines, _ := Of([]byte(s))
		if got := All([]byte(s)); !slices.Equal(got, lines) {
			t.Errorf("All(%q) = %q, want %q", s, got, lines)
		}
		for parts := 1; parts <= api.MaxWidth; parts++ {
			want, _ := Split([]byte(s), parts)
			if got, e := Parts(lines, parts); e != api.OK || !slices.EqualFunc(got, want, bytes.Equal) {
				t.Errorf("Parts(%q, %d) = %q, %d; want %q", lines, parts, got, e, want)
			}
		}
	}
	many := All([]byte(strings.Repeat("a\n", 3*api.MaxBytes) + "b"))
	if len(many) != 3*api.MaxBytes+1 || many[0] != "a" || many[3*api.MaxBytes] != "b" {
		t.Errorf("all of many bytes: %d lines", len(many))
	}
	got, e := Parts(many[1:], 3)
	if want := strings.Repeat("a\n", api.MaxBytes); e != api.OK || len(got) != 3 || string(got[0]) != want || string(got[1]) != want || string(got[2]) != want[2:]+"b\n" {
		t.Errorf("parts of many bytes: %d, %d", len(got), e)
	}
	for _, parts := range []int{-1, 0, api.MaxWidth + 1} {
		if got, e := Parts(many, parts); e != api.ErrRange || got != nil {
			t.Errorf("%d parts: %d, %d; want none, ErrRange", parts, len(got), e)
		}
	}
}

func TestOfOfBytesIsTheLines(t *testing.T) {
	words := texts("a \n", 2)
	for _, a := range words {
		for _, b := range words {
			for _, l := range [][]string{{a}, {a, b}, {a, b, a}} {
				got, e := Bytes(l)
				if strings.Contains(a+b, "\n") && len(l) > 1 || strings.Contains(a, "\n") {
					if e != api.ErrForm {
						t.Errorf("Bytes(%q): %d, want ErrForm", l, e)
					}
					continue
				}
				back, f := Of(got)
				if e != api.OK || f != api.OK || !slices.Equal(back, l) {
					t.Errorf("Of(Bytes(%q)) = %q, %d, %d", l, back, e, f)
				}
			}
		}
	}
}

func TestPartsAreTheWhole(t *testing.T) {
	for _, s := range texts("a\n", 9) {
		lines := strings.SplitAfter(whole(s), "\n")
		lines = lines[:len(lines)-1]
		got, e := Of([]byte(s))
		if e != api.OK || len(got) != len(lines) {
			t.Fatalf("Of(%q) = %q, %d", s, got, e)
		}
		for parts := 1; parts <= api.MaxWidth; parts++ {
			p, e := Split([]byte(s), parts)
			if e != api.OK || len(p) != parts || string(bytes.Join(p, nil)) != whole(s) {
				t.Fatalf("Split(%q, %d) = %q, %d", s, parts, p, e)
			}
			for k := range parts {
				if want := lines[k*len(lines)/parts : (k+1)*len(lines)/parts]; string(p[k]) != strings.Join(want, "") {
					t.Fatalf("Split(%q, %d): part %d is %q, want %q", s, parts, k, p[k], want)
				}
			}
		}
	}
}

// What is handed in stays as it is, the room behind it too.
func TestHandedInIsOnlyRead(t *testing.T) {
	room := []byte("1\n2\n3\n4yz")
	Of(room[:7])
	Split(room[:7], 3)
	Split(room[:7], 0)
	if string(room) != "1\n2\n3\n4yz" {
		t.Errorf("bytes are now %q", room)
	}
	words := []string{"a", "b", "c\n"}
	Bytes(words[:2])
	Bytes(words)
	if !slices.Equal(words, []string{"a", "b", "c\n"}) {
		t.Errorf("words are now %q", words)
	}
}

// Of's lines and Split's parts outlive what was handed in, and no part shares room with another one.
func TestAnswersAreNewMemory(t *testing.T) {
	in := []byte("1\n2\n3\n4\n5\n")
	lines, _ := Of(in)
	parts, _ := Split(in, 3)
	for i := range in {
		in[i] = '#'
	}
	if !slices.Equal(lines, []string{"1", "2", "3", "4", "5"}) {
		t.Errorf("lines share what was handed in: %q", lines)
	}
	if string(bytes.Join(parts, nil)) != "1\n2\n3\n4\n5\n" {
		t.Errorf("parts share what was handed in: %q", parts)
	}
	for k, p := range parts {
		all := p[:cap(p)]
		for i := range all {
			all[i] = byte('a' + k)
		}
	}
	for k, p := range parts {
		if strings.Trim(string(p[:cap(p)]), string(rune('a'+k))) != "" {
			t.Errorf("part %d shares room: %q", k, p[:cap(p)])
		}
	}
}
