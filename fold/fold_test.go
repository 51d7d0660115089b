package fold

import (
	"math/rand"
	"slices"
	"strings"
	"testing"

	"solstice/api"
)

func TestLine(t *testing.T) {
	a := func(n int) string { return strings.Repeat("a", n) }
	tail := func(n int) string { return strings.Repeat("\x80", n) }
	for k, c := range []struct{ in, want string }{
		{"", "\r\n"},
		{"a", "a\r\n"},
		{a(75), a(75) + "\r\n"},
		{a(76), a(75) + "\r\n a\r\n"},
		{a(149), a(75) + "\r\n " + a(74) + "\r\n"},
		{a(150), a(75) + "\r\n " + a(74) + "\r\n a\r\n"},
		{" " + a(75), " " + a(74) + "\r\n a\r\n"},
		{a(75) + "  b", a(75) + "\r\n   b\r\n"},
		// A letter of several bytes stays whole.
		{a(74) + "é", a(74) + "\r\n é\r\n"},
		{a(73) + "é", a(73) + "é\r\n"},
		{a(73) + "€", a(73) + "\r\n €\r\n"},
		{a(74) + "€", a(74) + "\r\n €\r\n"},
		{a(72) + "𝄞", a(72) + "\r\n 𝄞\r\n"},
		{a(73) + "𝄞", a(73) + "\r\n 𝄞\r\n"},
		{a(74) + "𝄞", a(74) + "\r\n 𝄞\r\n"},
		{a(75) + "𝄞", a(75) + "\r\n 𝄞\r\n"},
		{a(75) + a(73) + "é", a(75) + "\r\n " + a(73) + "\r\n é\r\n"},
		// What is no letter: any byte ahead goes with it; more than three are parted anywhere.
		{a(75) + tail(1), a(74) + "\r\n a" + tail(1) + "\r\n"},
		{a(73) + tail(3), a(72) + "\r\n a" + tail(3) + "\r\n"},
		{a(72) + tail(4), a(72) + tail(3) + "\r\n " + tail(1) + "\r\n"},
		{a(75) + tail(4), a(74) + "\r\n a" + tail(4) + "\r\n"},
		{tail(76), tail(75) + "\r\n " + tail(1) + "\r\n"},
		{a(75) + "\xc0", a(75) + "\r\n \xc0\r\n"},
		{a(75) + "\x7f", a(75) + "\r\n \x7f\r\n"},
		{a(75) + "\xbf", a(74) + "\r\n a\xbf\r\n"},
	} {
		if s, e := Line(c.in); s != c.want || e != api.OK {
			t.Errorf("%d: %q %d", k, s, e)
		}
	}
}

func TestLineRefuses(t *testing.T) {
	long := strings.Repeat("a", api.MaxText)
	for s, want := range map[string]api.Errno{long: api.OK, long + "a": api.ErrLen, long + "\n": api.ErrLen, "\n": api.ErrLine, "\r": api.ErrLine, "a\nb": api.ErrLine, "a\r\n": api.ErrLine, "\x00\x0b\x85\u2028": api.OK} {
		if got, e := Line(s); e != want || e != api.OK && got != "" {
			t.Errorf("%.20q: %.20q %d", s, got, e)
		}
	}
}

func TestUnfold(t *testing.T) {
	for text, want := range map[string][]string{
		"":                     nil,
		"a":                    {"a"},
		"a\r\n":                {"a"},
		"a\n":                  {"a"},
		"\r\n":                 {""},
		"\n\n":                 {"", ""},
		"a\r\n\r\nb":           {"a", "", "b"},
		"a\nb\r\nc":            {"a", "b", "c"},
		"a\r\n b\r\n":          {"ab"},
		"a\n b":                {"ab"},
		"a\r\n\tb":             {"ab"},
		"a\r\n  b":             {"a b"},
		"a\r\n \tb":            {"a\tb"},
		"a\n \n b":             {"ab"},
		"a\r\n ":               {"a"},
		"\n ":                  nil,
		"\n \n":                {""},
		" a":                   {" a"},
		"a\n\n  b":             {"a", " b"},
		"a\n\n b":              {"a", "b"},
		"a\x00b\x0bc\x85":      {"a\x00b\x0bc\x85"},
		"\xe2\x82\r\n \xac\n":  {"€"},
		"a\r\n\u00a0b":         {"a", "\u00a0b"},
		"a\n \r\n \n\t\r\n\tb": {"ab"},
	} {
		if l, e := Unfold(text); e != api.OK || !slices.Equal(l, want) {
			t.Errorf("%q: %q %d", text, l, e)
		}
	}
}

func TestUnfoldRefuses(t *testing.T) {
	long := strings.Repeat("\n", 10*api.MaxText)
	for text, want := range map[string]api.Errno{long: api.OK, long + "\n": api.ErrLen, long + "\r": api.ErrLen, "\r": api.ErrLine, "a\rb": api.ErrLine, "a\r\r\n": api.ErrLine, "a\r\n\r": api.ErrLine, "a\r \n": api.ErrLine} {
		if l, e := Unfold(text); e != want || e != api.OK && len(l) != 0 {
			t.Errorf("%.20q: %d %d", text, len(l), e)
		}
	}
}

func TestWhatIsFoldedIsUnfolded(t *testing.T) {
	r := rand.New(rand.NewSource(1))
	pieces := []string{"a", " ", "\t", "é", "€", "𝄞", "\x80", "\xbf", "\xff", "\x00", strings.Repeat("x", 70)}
	for range 3000 {
		var b strings.Builder
		for range r.Intn(300) {
			b.WriteString(pieces[r.Intn(len(pieces))])
		}
		s := b.String()
		text, e := Line(s)
		if e != api.OK {
			t.Fatal(e)
		}
		l, e := Unfold(text)
		if e != api.OK || !slices.Equal(l, []string{s}) {
			t.Fatalf("%q: %q %q %d", s, text, l, e)
		}
		for _, piece := range strings.Split(strings.TrimSuffix(text, "\r\n"), "\r\n") {
			if len(piece) > api.MaxFold {
				t.Fatalf("%q", piece)
			}
		}
	}
}
