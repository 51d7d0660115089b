package whole

import (
	"math"
	"math/rand"
	"slices"
	"strconv"
	"strings"
	"testing"
	"time"

	"solstice/api"
	"solstice/gen"
	"solstice/recur"
	"solstice/source"
	"solstice/tree"
	"solstice/turns"
	"solstice/vtz"
)

const text = `
Rule EU 1977 1980 - Apr Sun>=1 1:00u 1:00 S
Rule EU 1977 only - Sep lastSun 1:00u 0 -
Rule EU 1978 only - Oct 1 1:00u 0 -
Rule EU 1979 1995 - Sep lastSun 1:00u 0 -
Rule EU 1981 max - Mar lastSun 1:00u 1:00 S
Rule EU 1996 max - Oct lastSun 1:00u 0 -
Rule Twice 2000 max - Mar 1 0 1 S
Rule Twice 2000 max - Mar 9 0 0 -
Zone Berlin 0:53:28 - LMT 1893 Apr
1:00 - CET 1980
1:00 EU CE%sT
Link Berlin Oslo
Zone UTC 0 - UTC
Zone Bad 0 - /A
Zone Back 0 - A 1990
0 - B 1990
0 - C
Zone Far 0 - A 9989
0 - B
Zone Early 0 - A 1
1 - B
Zone Wide 23:00 1:00 A
Zone Same 0 Twice A
`

func at(y, m, d, hour, minute int) int {
	return int(time.Date(y, time.Month(m), d, hour, minute, 0, 0, time.UTC).Unix())
}

func TestCompile(t *testing.T) {
	want := "BEGIN:VTIMEZONE\r\nTZID:UTC\r\nBEGIN:STANDARD\r\nDTSTART:00010101T000000\r\nTZOFFSETFROM:+0000\r\nTZOFFSETTO:+0000\r\nTZNAME:UTC\r\nEND:STANDARD\r\nEND:VTIMEZONE\r\n"
	if s, e := Compile(text, "UTC"); s != want || e != api.OK {
		t.Error(s, e)
	}
	s, e := Compile(text, "Oslo")
	if !strings.Contains(s, "TZID:Oslo\r\n") || !strings.Contains(s, "RRULE:FREQ=YEARLY;BYMONTH=10;BYDAY=-1SU\r\n") || e != api.OK {
		t.Error(s, e)
	}
}

// errors are what is told of names.
var errors = map[string]api.Errno{"Paris": api.ErrNone, "": api.ErrNone, "Bad": api.ErrFormat, "Back": api.ErrOrder, "Far": api.ErrYear, "Early": api.ErrYear, "Wide": api.ErrZone, "Same": api.ErrEncode}

func TestFaults(t *testing.T) {
	for name, want := range errors {
		if s, e := Compile(text, name); s != "" || e != want {
			t.Error(name, s, e)
		}
		if s, e := Calendar(text, []string{"UTC", name, "Paris"}); s != "" || e != want {
			t.Error(name, s, e)
		}
	}
	for bad, want := range map[string]api.Errno{"x": api.ErrWord, "\x00": api.ErrField, strings.Repeat("\n", 60001): api.ErrLen, "Zone Z 0 - A 1990": api.ErrZone, "Link A B": api.ErrNone, "": api.ErrNone} {
		if s, e := Compile(bad, "Z"); s != "" || e != want {
			t.Errorf("%.20q %s %d", bad, s, e)
		}
		if off, name, e := Zic(bad, "Z", 0); off != 0 || name != "" || e != want {
			t.Errorf("%.20q %d %s %d", bad, off, name, e)
		}
		if l, e := Expand(bad, "Z", api.Event{}, 0, 1); len(l) != 0 || e != want {
			t.Errorf("%.20q %v %d", bad, l, e)
		}
		if bad == "" {
			want = api.ErrLen
		}
		if s, e := Calendar(bad, nil); s != "" || e != want {
			t.Errorf("%.20q %s %d", bad, s, e)
		}
	}
	if _, _, e := Zic(text, "Bad", math.MinInt); e != api.ErrYear {
		t.Error(e)
	}
	if _, _, e := Zic(text, "Bad", 0); e != api.ErrFormat {
		t.Error(e)
	}
	if _, e := Expand(text, "UTC", api.Event{}, 1, 0); e != api.ErrArg {
		t.Error(e)
	}
	if _, e := Expand(text, "UTC", api.Event{Has: true, Rule: api.Recur{Freq: api.Secondly, Interval: 1}}, 0, 100000); e != api.ErrFuel {
		t.Error(e)
	}
}

func TestOffsetAndZic(t *testing.T) {
	calendar, e := Compile(text, "Berlin")
	if e != api.OK {
		t.Fatal(e)
	}
	for x, want := range map[int]struct {
		off  int
		name string
	}{at(1800, 1, 1, 0, 0): {3208, "LMT"}, at(1900, 1, 1, 0, 0): {3600, "CET"}, at(2026, 7, 1, 0, 0): {7200, "CEST"}, at(2026, 12, 1, 0, 0): {3600, "CET"}, at(9990, 12, 31, 23, 59): {3600, "CET"}} {
		if off, name, e := Offset(calendar, x); off != want.off || name != want.name || e != api.OK {
			t.Error(x, off, name, e)
		}
		if off, name, e := Zic(text, "Oslo", x); off != want.off || name != want.name || e != api.OK {
			t.Error(x, off, name, e)
		}
	}
	for bad, want := range map[string]api.Errno{"": api.ErrTree, "BEGIN:A\nEND:A": api.ErrNone, "\r": api.ErrLine, "BEGIN:VTIMEZONE\nEND:VTIMEZONE": api.ErrZone} {
		if off, name, e := Offset(bad, 0); off != 0 || name != "" || e != want {
			t.Error(bad, off, name, e)
		}
	}
	for _, x := range []int{at(1, 1, 1, 0, 0) - 1, at(9991, 1, 1, 0, 0), math.MinInt, math.MaxInt} {
		if off, name, e := Offset(calendar, x); off != 0 || name != "" || e != api.ErrYear {
			t.Error(x, off, name, e)
		}
	}
}

func TestExpand(t *testing.T) {
	r, _ := recur.Parse("FREQ=WEEKLY;COUNT=3")
	x := api.Event{Start: at(2026, 3, 22, 9, 0), Has: true, Rule: r}
	l, e := Expand(text, "Berlin", x, at(2026, 1, 1, 0, 0), at(2026, 12, 31, 0, 0))
	if !slices.Equal(l, []int{at(2026, 3, 22, 8, 0), at(2026, 3, 29, 7, 0), at(2026, 4, 5, 7, 0)}) || e != api.OK {
		t.Error(l, e)
	}
	if l, e := Expand(text, "UTC", api.Event{Start: 5}, 0, 10); !slices.Equal(l, []int{5}) || e != api.OK {
		t.Error(l, e)
	}
}

func TestCalendar(t *testing.T) {
	s, e := Calendar(text, []string{"Oslo", "UTC", "Oslo"})
	if e != api.OK || !strings.HasPrefix(s, "BEGIN:VCALENDAR\r\nVERSION:2.0\r\nPRODID:solstice\r\nBEGIN:VTIMEZONE\r\nTZID:Oslo\r\n") || !strings.HasSuffix(s, "END:VTIMEZONE\r\nEND:VCALENDAR\r\n") {
		t.Error(s, e)
	}
	l, e := tree.Parse(s)
	if e != api.OK {
		t.Fatal(e)
	}
	var ids []string
	for _, k := range tree.Kids(l, 0) {
		v, e := vtz.Read(l, k)
		if e != api.OK {
			t.Error(k, e)
		}
		ids = append(ids, v.Id)
	}
	if !slices.Equal(ids, []string{"Oslo", "UTC", "Oslo"}) {
		t.Error(ids)
	}
	if off, name, e := Offset(s, 0); off != 3600 || name != "CET" || e != api.OK {
		t.Error(off, name, e)
	}
	for n, want := range map[int]api.Errno{0: api.ErrLen, 1: api.OK, api.MaxZones: api.OK, api.MaxZones + 1: api.ErrLen} {
		if s, e := Calendar(text, slices.Repeat([]string{"UTC"}, n)); e != want || (s == "") != (e != api.OK) {
			t.Error(n, e)
		}
	}
}

// some is a source of a zone with rules and eras.
func some(r *rand.Rand) api.Source {
	var s api.Source
	for range 1 + r.Intn(6) {
		from := 1950 + r.Intn(60)
		to := []int{from, from + r.Intn(30), api.MaxYear}[r.Intn(3)]
		on := []api.On{{Kind: api.OnDay, Day: 1 + r.Intn(28)}, {Kind: api.OnLast, Week: r.Intn(7)}, {Kind: api.OnAfter, Week: r.Intn(7), Day: 1 + r.Intn(28)}, {Kind: api.OnBefore, Week: r.Intn(7), Day: 1 + r.Intn(28)}}[r.Intn(4)]
		secs := []int{3600 * r.Intn(25), 3600 * r.Intn(25), r.Intn(2*api.MaxSecs) - api.MaxSecs}[r.Intn(3)]
		s.Rules = append(s.Rules, api.Rule{Name: []string{"R", "S"}[r.Intn(2)], From: from, To: to, Month: 1 + r.Intn(12), On: on, At: api.At{Secs: secs, Kind: 1 + r.Intn(3)}, Save: []int{0, 0, 3600, 7200, -3600, 1800}[r.Intn(6)], Letter: []string{"", "S", "D"}[r.Intn(3)]})
	}
	z := api.Zone{Name: "Z"}
	year := 1940
	for range r.Intn(4) {
		year += 1 + r.Intn(15)
		e, x := era(r, s), s.Rules[r.Intn(len(s.Rules))]
		e.Until, e.Year, e.Month, e.At = true, year, 1+r.Intn(12), api.At{Secs: 3600 * r.Intn(25), Kind: 1 + r.Intn(3)}
		e.On = api.On{Kind: api.OnDay, Day: 1 + r.Intn(28)}
		if r.Intn(3) == 0 {
			// It ends where a rule sets in, or near that.
			e.Month, e.On, e.At = x.Month, x.On, x.At
		}
		z.Eras = append(z.Eras, e)
	}
	s.Zones = []api.Zone{{Name: "Z", Eras: append(z.Eras, era(r, s))}}
	return s
}

func era(r *rand.Rand, s api.Source) api.Era {
	e := api.Era{Std: 1800 * (r.Intn(50) - 25), Kind: 1 + r.Intn(3), Format: []string{"A%sT", "%z", "X/Y", "Q"}[r.Intn(4)]}
	switch e.Kind {
	case api.EraSave:
		e.Save = 1800 * r.Intn(4)
	case api.EraRule:
		e.Rule = s.Rules[r.Intn(len(s.Rules))].Name
	}
	return e
}

// What is written of a zone, read back, tells the same at every time; and it is small.
func TestTheSame(t *testing.T) {
	compiled := 0
	for k := range 400 {
		s := some(rand.New(rand.NewSource(int64(k))))
		text, e := source.Text(s)
		if e != api.OK {
			t.Fatal(k, e)
		}
		calendar, e := Compile(text, "Z")
		if e == api.ErrOrder || e == api.ErrEncode {
			continue
		}
		if e != api.OK {
			t.Fatal(k, e, text)
		}
		compiled++
		same(t, s, text, calendar)
	}
	if compiled < 300 {
		t.Error("too few are compiled", compiled)
	}
}

func same(t *testing.T, s api.Source, text, calendar string) {
	t.Helper()
	v, e := vtz.Parse(calendar)
	steady, f := gen.Steady(s, "Z")
	first, l, g := turns.Of(s, "Z", min(steady+30, api.MaxYear))
	if e != api.OK || f != api.OK || g != api.OK {
		t.Fatal(e, f, g, text)
	}
	yearOne := at(1, 1, 1, 0, 0)
	times := []int{yearOne, yearOne + api.Day, at(1800, 1, 1, 0, 0)}
	for _, x := range l {
		times = append(times, x.At-1, x.At, x.At+40*api.Day)
	}
	endless := 0
	for _, o := range v.Obs {
		if o.Has && !o.Rule.Until {
			endless++
		}
	}
	if endless > 12 || len(v.Obs) > 1+len(l) {
		t.Fatal(endless, len(v.Obs), text)
	}
	for _, x := range times {
		want := first
		if i := turns.Last(l, x); i >= 0 {
			want = l[i]
		}
		off, name, cost, e := vtz.At(v, x)
		named := name == want.Abbr || x < yearOne+api.Day
		if off != want.Off || !named || cost > 90*len(v.Obs) || e != api.OK {
			t.Fatal(time.Unix(int64(x), 0).UTC(), off, name, cost, e, want, text)
		}
	}
	// By the calls of the whole, now and then.
	for i, x := range times {
		if i%50 != 0 {
			continue
		}
		off, name, e := Offset(calendar, x)
		offToo, nameToo, f := Zic(text, "Z", x)
		if off != offToo || name != nameToo && x >= yearOne+api.Day || e != api.OK || f != api.OK {
			t.Fatal(x, off, name, e, offToo, nameToo, f, text)
		}
	}
}

// Any bytes are read, or refused.
func TestAnyBytes(t *testing.T) {
	r := rand.New(rand.NewSource(1))
	calendar, _ := Compile(text, "Berlin")
	for _, whole := range []string{text, calendar} {
		for range 3000 {
			b := []byte(whole)
			for range 1 + r.Intn(4) {
				k := r.Intn(len(b))
				switch r.Intn(3) {
				case 0:
					b[k] = byte(r.Intn(256))
				case 1:
					b = append(b[:k], b[k+1:]...)
				case 2:
					b = slices.Insert(b, k, b[r.Intn(len(b))])
				}
			}
			if s, e := Compile(string(b), "Berlin"); (s == "") != (e != api.OK) {
				t.Fatalf("%q %d", b, e)
			}
			if off, name, e := Offset(string(b), 0); e != api.OK && (off != 0 || name != "") {
				t.Fatalf("%q %d", b, e)
			}
		}
	}
}

// A source at its greatest is compiled, too.
func TestMuch(t *testing.T) {
	var b strings.Builder
	for i := range 200 {
		b.WriteString("Rule R " + strconv.Itoa(1+i) + " 9000 - " + []string{"Jan", "Feb", "Mar", "Apr", "May", "Jun"}[i%6] + " " + strconv.Itoa(1+i%28) + " " + strconv.Itoa(i%24) + ":00 " + strconv.Itoa(i%2) + " -\n")
	}
	b.WriteString("Zone Z 0 R A%s\n")
	if s, e := Compile(b.String(), "Z"); e == api.OK && s == "" || e != api.OK && s != "" {
		t.Error(e)
	}
}
