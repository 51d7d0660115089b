package line

import (
	"math/rand"
	"reflect"
	"strings"
	"testing"

	"solstice/api"
)

func of(name, value string, params ...api.Param) api.Line {
	return api.Line{Name: name, Params: params, Value: value}
}

func param(name string, values ...string) api.Param {
	return api.Param{Name: name, Values: values}
}

var long = strings.Repeat("N", api.MaxName)

func TestTextAndParse(t *testing.T) {
	for want, l := range map[string]api.Line{
		"A:":                             of("A", ""),
		"a-9:b:c;d,e\"f\t":               of("a-9", "b:c;d,e\"f\t"),
		`RDATE;TZID="a:b":x`:             of("RDATE", "x", param("TZID", "a:b")),
		"A;B=:c":                         of("A", "c", param("B", "")),
		"A;B=,:c":                        of("A", "c", param("B", "", "")),
		`A;B=1,"2,3","4;5",6=7;C=d e:`:   of("A", "", param("B", "1", "2,3", "4;5", "6=7"), param("C", "d e")),
		"A;B=x;B=y:z":                    of("A", "z", param("B", "x"), param("B", "y")),
		long + ";" + long + "=é\xff:\\n": of(long, "\\n", param(long, "é\xff")),
		"BEGIN:VEVENT":                   of("BEGIN", "VEVENT"),
	} {
		if s, e := Text(l); s != want || e != api.OK || Check(l) != api.OK {
			t.Errorf("%q %q %d", want, s, e)
		}
		if got, e := Parse(want); !reflect.DeepEqual(got, l) || e != api.OK {
			t.Errorf("%q: %v %d", want, got, e)
		}
	}
	for s, want := range map[string]api.Line{
		`A;B="":c`:            of("A", "c", param("B", "")),
		`A;B="x",y,"z w":"c"`: of("A", `"c"`, param("B", "x", "y", "z w")),
		`A;B="x";C=y:`:        of("A", "", param("B", "x"), param("C", "y")),
	} {
		if got, e := Parse(s); !reflect.DeepEqual(got, want) || e != api.OK {
			t.Errorf("%q: %v %d", s, got, e)
		}
	}
}

func TestParseRefuses(t *testing.T) {
	for _, s := range []string{"", "A", ":", ":x", ";B=c:", "A;", "A;:", "A;B", "A;B:c", "A;B=", "A;B=c", "A;=c:", "A;B=c;", "A;B=c;:", "A;B=c,", `A;B="c:d`, `A;B="c"`, `A;B="c"d:`, `A;B=c"d:`, `A;B=c":"d:`, `A;B=c"d":`, `A;B="c""d":`, `A;B="c",`, "A B:", "A_:", "é:", " A:", "A :", "A;B C=d:", "A\n:", "A:\n", "A:\x00", "A:\x1f", "A:\x7f", "A:b\rc", "A;B=\x00:", "A;B=\n:", "A;B=\"\x7f\":", long + "N:", "A;" + long + "N=c:", "\"A\":"} {
		if l, e := Parse(s); !reflect.DeepEqual(l, api.Line{}) || e != api.ErrLine {
			t.Errorf("%q: %v %d", s, l, e)
		}
	}
}

func TestCheckRefuses(t *testing.T) {
	for k, l := range []api.Line{{}, of("", "x"), of("A:", ""), of("A_", ""), of("A", "\n"), of("A", "\x00"), of("A", "\x7f"), of(long+"N", ""), of("A", "", param("", "x")), of("A", "", param("B")), of("A", "", param("B;", "x")), of("A", "", param("B", "x", "\"")), of("A", "", param("B", "\n")), of("A", "", param("B", "x"), param("C", "\x7f")), of("A", "", param(long+"N", "x"))} {
		if e := Check(l); e != api.ErrLine {
			t.Error(k, e)
		}
		if s, e := Text(l); s != "" || e != api.ErrLine {
			t.Error(k, s, e)
		}
	}
}

func TestParam(t *testing.T) {
	l := of("A", "", param("tzid", "x", "y"), param("TZID", "z"), param("", "w"), param("é"))
	for name, want := range map[string][]string{"TZID": {"x", "y"}, "tZiD": {"x", "y"}, "": {"w"}, "é": nil} {
		if v, ok := Param(l, name); !ok || len(v) != len(want) || len(v) > 0 && !reflect.DeepEqual(v, want) {
			t.Errorf("%q: %q %v", name, v, ok)
		}
	}
	for _, name := range []string{"TZI", "TZIDS", "É", "T\x5aıD", "tz\xc4\xb1d", "\u017f"} {
		if v, ok := Param(l, name); len(v) != 0 || ok {
			t.Errorf("%q: %q %v", name, v, ok)
		}
	}
	v, _ := Param(l, "TZID")
	v[0] = "changed"
	if l.Params[0].Values[0] != "x" {
		t.Error("what is told shares the line's memory")
	}
	if v, ok := Param(api.Line{}, "A"); len(v) != 0 || ok {
		t.Error(v, ok)
	}
}

func TestWhatIsWrittenIsRead(t *testing.T) {
	r := rand.New(rand.NewSource(1))
	text := func(letters string) string {
		b := make([]byte, r.Intn(6))
		for i := range b {
			b[i] = letters[r.Intn(len(letters))]
		}
		return string(b)
	}
	for range 20000 {
		l := of("N"+text("aZ-9"), text("ab:;,=\" \té\xff"))
		for range r.Intn(3) {
			p := param("P" + text("aZ-9"))
			for range 1 + r.Intn(3) {
				p.Values = append(p.Values, text("ab:;,= \té\xff"))
			}
			l.Params = append(l.Params, p)
		}
		s, e := Text(l)
		if back, f := Parse(s); !reflect.DeepEqual(back, l) || e != api.OK || f != api.OK {
			t.Fatalf("%v: %q %d %v %d", l, s, e, back, f)
		}
	}
}

// Any bytes are read or refused, and what is read is written as a text that is read the same.
func TestAnyBytes(t *testing.T) {
	r := rand.New(rand.NewSource(2))
	const letters = "AB;;=:,\"\x00 \n"
	for range 200000 {
		b := make([]byte, r.Intn(14))
		for i := range b {
			b[i] = letters[r.Intn(len(letters))]
		}
		l, e := Parse(string(b))
		if e != api.OK {
			continue
		}
		s, f := Text(l)
		if back, g := Parse(s); !reflect.DeepEqual(back, l) || f != api.OK || g != api.OK {
			t.Fatalf("%q: %v %q", b, l, s)
		}
	}
}
