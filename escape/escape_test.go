package escape

import (
	"math/rand"
	"slices"
	"testing"

	"solstice/api"
)

func TestPut(t *testing.T) {
	for s, want := range map[string]string{"": "", "a,b": `a\,b`, `a\b;c`: `a\\b\;c`, "a\nb": `a\nb`, "\t": "\t", `\n`: `\\n`, "é€:\"=\xff\x80": "é€:\"=\xff\x80", "\n\n": `\n\n`, `,;\`: `\,\;\\`} {
		if got, e := Put(s); got != want || e != api.OK {
			t.Errorf("%q: %q %d", s, got, e)
		}
	}
}

func TestGet(t *testing.T) {
	for s, want := range map[string]string{"": "", `a\,b`: "a,b", `a\\b\;c`: `a\b;c`, `a\nb\Nc`: "a\nb\nc", "\t": "\t", `\\n`: `\n`, `\\\n`: "\\\n", "é:\"=\xff": "é:\"=\xff", `\\\,`: `\,`} {
		if got, e := Get(s); got != want || e != api.OK {
			t.Errorf("%q: %q %d", s, got, e)
		}
	}
	for _, s := range []string{",", ";", "a,b", `\\,`, `\\;`, `\`, `a\`, `\\\`, `\a`, `\t`, `\"`, `\ `, "\\\n", "a\nb", "\n", "\r", "\\\x00"} {
		if got, e := Get(s); got != "" || e != api.ErrText {
			t.Errorf("%q: %q %d", s, got, e)
		}
	}
}

func TestBytesThatMayNotBe(t *testing.T) {
	for c := range 256 {
		s := "a" + string([]byte{byte(c)}) + "b"
		bad := c < 0x20 && c != 9 || c == 0x7F
		if got, e := Put(s); bad && c != 10 && (got != "" || e != api.ErrText) || (!bad || c == 10) && e != api.OK {
			t.Error(c, got, e)
		}
		special := c == '\\' || c == ';' || c == ','
		if got, e := Get(s); (bad || special) && (got != "" || e != api.ErrText) || !bad && !special && (got != s || e != api.OK) {
			t.Error(c, got, e)
		}
		if got, e := List([]string{"x", s}); bad && c != 10 && (got != "" || e != api.ErrText) {
			t.Error(c, got, e)
		}
		if got, e := Unlist("x," + s); bad && (len(got) != 0 || e != api.ErrText) {
			t.Error(c, got, e)
		}
	}
}

func TestListAndUnlist(t *testing.T) {
	for want, l := range map[string][]string{"": {""}, ",": {"", ""}, "a": {"a"}, `a\,b,c`: {"a,b", "c"}, `\\,\\\,`: {`\`, `\,`}, `\n,\;`: {"\n", ";"}} {
		if s, e := List(l); s != want || e != api.OK {
			t.Errorf("%q: %q %d", l, s, e)
		}
		if got, e := Unlist(want); !slices.Equal(got, l) || e != api.OK {
			t.Errorf("%q: %q %d", want, got, e)
		}
	}
	for _, l := range [][]string{nil, {}} {
		if s, e := List(l); s != "" || e != api.ErrLen {
			t.Error(s, e)
		}
	}
	for _, s := range []string{`\`, `a,\`, `a;b`, `\a,b`, `a,b\`, "\n", `a,;`} {
		if got, e := Unlist(s); len(got) != 0 || e != api.ErrText {
			t.Errorf("%q: %q %d", s, got, e)
		}
	}
}

func TestWhatIsPutIsGot(t *testing.T) {
	r := rand.New(rand.NewSource(1))
	const letters = "ab\\;,\n\tnN:é\"\xff"
	for range 5000 {
		l := make([]string, 1+r.Intn(5))
		for i := range l {
			b := make([]byte, r.Intn(8))
			for k := range b {
				b[k] = letters[r.Intn(len(letters))]
			}
			l[i] = string(b)
		}
		s, e := Put(l[0])
		if back, f := Get(s); back != l[0] || e != api.OK || f != api.OK {
			t.Fatalf("%q: %q %d %q %d", l[0], s, e, back, f)
		}
		s, e = List(l)
		if back, f := Unlist(s); !slices.Equal(back, l) || e != api.OK || f != api.OK {
			t.Fatalf("%q: %q %d %q %d", l, s, e, back, f)
		}
	}
}
