package fields

import (
	"math/rand"
	"slices"
	"strings"
	"testing"

	"solstice/api"
)

func TestSplit(t *testing.T) {
	for line, want := range map[string][]string{
		"":                     nil,
		" \t\r ":               nil,
		"#":                    nil,
		"# a \" b":             nil,
		"  # a":                nil,
		`a "b c"d # e`:         {"a", "b cd"},
		"a\tb\rc  d\r":         {"a", "b", "c", "d"},
		"a#b":                  {"a"},
		`""`:                   {""},
		`"" ""`:                {"", ""},
		`""""`:                 {""},
		`a""b`:                 {"ab"},
		`"a#b" c`:              {"a#b", "c"},
		"\"a\tb\rc\"":          {"a\tb\rc"},
		`"a"#"`:                {"a"},
		`x"a b"y"c d"z`:        {"xa byc dz"},
		"é \xff \x01 \x0b\x0c": {"é", "\xff", "\x01", "\x0b\x0c"},
		"a\u00a0b":             {"a\u00a0b"},
	} {
		if l, e := Split(line); e != api.OK || !slices.Equal(l, want) {
			t.Errorf("%q: %q %d", line, l, e)
		}
	}
}

func TestSplitRefuses(t *testing.T) {
	long := strings.Repeat("a", api.MaxLine)
	for line, want := range map[string]api.Errno{
		long:            api.OK,
		long + "a":      api.ErrLen,
		long + "\x00":   api.ErrLen,
		long + "\"":     api.ErrLen,
		"\x00":          api.ErrField,
		"\n":            api.ErrField,
		"a\x00b":        api.ErrField,
		"a\nb":          api.ErrField,
		"a\n":           api.ErrField,
		"# \x00":        api.ErrField,
		"# \n":          api.ErrField,
		"\"\x00\"":      api.ErrField,
		"\"a\nb\"":      api.ErrField,
		`"`:             api.ErrField,
		`a"`:            api.ErrField,
		`"a" "b`:        api.ErrField,
		`"""`:           api.ErrField,
		`"a # b`:        api.ErrField,
		`a # "b`:        api.OK,
		"a\r":           api.OK,
		`"# not yet" "`: api.ErrField,
	} {
		l, e := Split(line)
		if e != want || e != api.OK && len(l) != 0 {
			t.Errorf("%q: %q %d", line, l, e)
		}
	}
}

func TestLines(t *testing.T) {
	for text, want := range map[string][]string{"": nil, "a": {"a"}, "a\n": {"a"}, "a\nb": {"a", "b"}, "\n": {""}, "\n\n": {"", ""}, "a\n\nb\n": {"a", "", "b"}, "\na": {"", "a"}, "a\r\nb\r\n": {"a\r", "b\r"}, "\x00": {"\x00"}} {
		if l, e := Lines(text); e != api.OK || !slices.Equal(l, want) {
			t.Errorf("%q: %q %d", text, l, e)
		}
	}
	if l, e := Lines(strings.Repeat("\n", api.MaxText)); len(l) != api.MaxText || e != api.OK {
		t.Error(len(l), e)
	}
	if l, e := Lines(strings.Repeat("\n", api.MaxText+1)); len(l) != 0 || e != api.ErrLen {
		t.Error(len(l), e)
	}
}

func TestJoin(t *testing.T) {
	long := strings.Repeat("a", api.MaxLine)
	for _, c := range []struct {
		l    []string
		want string
		e    api.Errno
	}{
		{nil, "", api.OK},
		{[]string{""}, `""`, api.OK},
		{[]string{"a", "b c", "", "d#", "e\tf", "g\rh", "#"}, "a \"b c\" \"\" \"d#\" \"e\tf\" \"g\rh\" \"#\"", api.OK},
		{[]string{long}, long, api.OK},
		{[]string{long, ""}, "", api.ErrLen},
		{[]string{long + "a"}, "", api.ErrLen},
		{[]string{long[2:] + " "}, "", api.ErrLen},
		{[]string{long[3:] + " "}, `"` + long[3:] + ` "`, api.OK},
		{[]string{long, long, "\""}, "", api.ErrField},
		{[]string{"a\x00"}, "", api.ErrField},
		{[]string{"a\n"}, "", api.ErrField},
		{[]string{`"`}, "", api.ErrField},
	} {
		if s, e := Join(c.l); s != c.want || e != c.e {
			t.Errorf("%q: %q %d", c.l, s, e)
		}
	}
}

func TestWhatIsJoinedIsSplit(t *testing.T) {
	r := rand.New(rand.NewSource(1))
	const letters = "ab #\t\r'\\\xff\x01"
	for range 20000 {
		l := make([]string, r.Intn(6))
		for i := range l {
			b := make([]byte, r.Intn(5))
			for k := range b {
				b[k] = letters[r.Intn(len(letters))]
			}
			l[i] = string(b)
		}
		s, e := Join(l)
		if back, f := Split(s); e != api.OK || f != api.OK || !slices.Equal(back, l) {
			t.Fatalf("%q: %q %d %q %d", l, s, e, back, f)
		}
	}
}

func TestAnswersAreNewMemory(t *testing.T) {
	a, _ := Split("a b c d e")
	b, _ := Split("a b c d e")
	_ = append(a[:1], "x")
	if b[1] != "b" {
		t.Error(b)
	}
	in := make([]string, 1, 3)
	in[0] = "a b"
	_, _ = Join(in)
	if in[0] != "a b" || in[:3][1] != "" {
		t.Error(in[:3])
	}
}
