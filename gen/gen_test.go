package gen

import (
	"math"
	"reflect"
	"slices"
	"strings"
	"testing"
	"time"

	"solstice/api"
	"solstice/recur"
	"solstice/source"
	"solstice/tree"
)

const rules = `
Rule EU 1977 1980 - Apr Sun>=1 1:00u 1:00 S
Rule EU 1977 only - Sep lastSun 1:00u 0 -
Rule EU 1978 only - Oct 1 1:00u 0 -
Rule EU 1979 1995 - Sep lastSun 1:00u 0 -
Rule EU 1981 max - Mar lastSun 1:00u 1:00 S
Rule EU 1996 max - Oct lastSun 1:00u 0 -
`

func read(t *testing.T, text string) api.Source {
	t.Helper()
	s, line, e := source.Parse(text)
	if e != api.OK {
		t.Fatal(text, line, e)
	}
	return s
}

func stamp(t int) string { return time.Unix(int64(t), 0).UTC().Format("20060102T150405") }

// say writes an observance in a line.
func say(o api.Observance) string {
	s := "S"
	if o.Dst {
		s = "D"
	}
	s += " " + stamp(o.Start) + " " + (time.Duration(o.From) * time.Second).String() + " " + (time.Duration(o.To) * time.Second).String() + " " + o.Name
	if o.Has {
		text, _ := recur.Text(o.Rule)
		s += " " + strings.TrimPrefix(text, "FREQ=YEARLY;")
	}
	for _, d := range o.Dates {
		s += " " + stamp(d)
	}
	return s
}

func sayAll(v api.Vtz) string {
	var l []string
	for _, o := range v.Obs {
		l = append(l, say(o))
	}
	return strings.Join(l, "\n")
}

func zone(t *testing.T, text string) string {
	t.Helper()
	v, e := Zone(read(t, text), "Z")
	if e != api.OK || v.Id != "Z" {
		t.Fatal(text, e)
	}
	return sayAll(v)
}

func TestZone(t *testing.T) {
	for text, want := range map[string][]string{
		"Zone Z 1:00 - A":      {"S 00010101T000000 1h0m0s 1h0m0s A"},
		"Zone Z 1:00 0:30 A/B": {"D 00010101T000000 1h30m0s 1h30m0s B"},
		"Zone Z 1 - A 1990\n2 - B": {
			"S 00010101T000000 1h0m0s 1h0m0s A",
			"S 19900101T000000 1h0m0s 2h0m0s B",
		},
		// Turns that are alike are put together, though no rule ties them.
		"Zone Z 1 - A 1990\n2 - B 1991\n1 - A 1992\n2 - B 1993\n1 - A": {
			"S 00010101T000000 1h0m0s 1h0m0s A",
			"S 19900101T000000 1h0m0s 2h0m0s B 19920101T000000",
			"S 19910101T000000 2h0m0s 1h0m0s A 19930101T000000",
		},
		rules + "Zone Z 1:00 - CET 1980\n1:00 EU CE%sT": {
			"S 00010101T000000 1h0m0s 1h0m0s CET",
			"D 19800406T020000 1h0m0s 2h0m0s CEST",
			"S 19800928T030000 2h0m0s 1h0m0s CET UNTIL=19950924T010000Z;BYMONTH=9;BYDAY=-1SU",
			"D 19810329T020000 1h0m0s 2h0m0s CEST UNTIL=19970330T010000Z;BYMONTH=3;BYDAY=-1SU",
			"S 19961027T030000 2h0m0s 1h0m0s CET 19971026T030000",
			"D 19980329T020000 1h0m0s 2h0m0s CEST BYMONTH=3;BYDAY=-1SU",
			"S 19981025T030000 2h0m0s 1h0m0s CET BYMONTH=10;BYDAY=-1SU",
		},
		// A rule's times are told by the clock that stands ahead: here two hours ahead of midnight, on the Saturday.
		"Rule R 1990 1993 - Mar Sun>=8 0:00u 1 S\nRule R 1990 1993 - Oct lastSun 0:00u 0 -\nZone Z -2 R A%s": {
			"S 00010101T000000 -2h0m0s -2h0m0s A",
			"D 19900310T220000 -2h0m0s -1h0m0s AS UNTIL=19930314T000000Z;BYMONTH=3;BYMONTHDAY=7,8,9,10,11,12,13;BYDAY=SA",
			"S 19901027T230000 -1h0m0s -2h0m0s A 19911026T230000 19921024T230000 19931030T230000",
		},
		// Two turns are no run; a year left out ends one.
		"Rule R 1990 1991 - Mar 1 0 1 S\nRule R 1990 1991 - Oct 1 0 0 -\nZone Z 0 R A%s": {
			"S 00010101T000000 0s 0s A",
			"D 19900301T000000 0s 1h0m0s AS 19910301T000000",
			"S 19901001T000000 1h0m0s 0s A 19911001T000000",
		},
		"Rule R 1990 1992 - Mar 1 0 1 S\nRule R 1994 1996 - Mar 1 0 1 S\nRule R 1990 1996 - Oct 1 0 0 -\nZone Z 0 R A%s": {
			"S 00010101T000000 0s 0s A",
			"D 19900301T000000 0s 1h0m0s AS UNTIL=19920301T000000Z;BYMONTH=3;BYMONTHDAY=1",
			"S 19901001T000000 1h0m0s 0s A UNTIL=19920930T230000Z;BYMONTH=10;BYMONTHDAY=1",
			"D 19940301T000000 0s 1h0m0s AS UNTIL=19960301T000000Z;BYMONTH=3;BYMONTHDAY=1",
			"S 19941001T000000 1h0m0s 0s A UNTIL=19960930T230000Z;BYMONTH=10;BYMONTHDAY=1",
		},
		// The same rule in two eras: what is not the same in all four is of another run, or none.
		"Rule R 1990 1999 - Mar 1 0 1 S\nRule R 1990 1999 - Oct 1 0 0 -\nZone Z 0 R A%s 1994\n0 R B%s": {
			"S 00010101T000000 0s 0s A",
			"D 19900301T000000 0s 1h0m0s AS UNTIL=19930301T000000Z;BYMONTH=3;BYMONTHDAY=1",
			"S 19901001T000000 1h0m0s 0s A UNTIL=19930930T230000Z;BYMONTH=10;BYMONTHDAY=1",
			"S 19940101T000000 0s 0s B",
			"D 19940301T000000 0s 1h0m0s BS UNTIL=19990301T000000Z;BYMONTH=3;BYMONTHDAY=1",
			"S 19941001T000000 1h0m0s 0s B UNTIL=19990930T230000Z;BYMONTH=10;BYMONTHDAY=1",
		},
		// A rule that changes nothing has no turn; the others go on.
		"Rule R 1990 max - Mar 1 0 1 S\nRule R 1990 max - Jun 1 0 1 S\nRule R 1990 max - Oct 1 0 0 -\nZone Z 0 R A%s": {
			"S 00010101T000000 0s 0s A",
			"D 19900301T000000 0s 1h0m0s AS 19910301T000000",
			"S 19901001T000000 1h0m0s 0s A 19911001T000000",
			"D 19920301T000000 0s 1h0m0s AS BYMONTH=3;BYMONTHDAY=1",
			"S 19921001T000000 1h0m0s 0s A BYMONTH=10;BYMONTHDAY=1",
		},
		// What goes on stands in the order of its turns.
		"Rule R 1990 max - Oct 1 0 0 -\nRule R 1991 max - Mar 1 0 1 S\nZone Z 0 R A%s": {
			"S 00010101T000000 0s 0s A",
			"D 19910301T000000 0s 1h0m0s AS 19920301T000000",
			"S 19911001T000000 1h0m0s 0s A 19921001T000000",
			"D 19930301T000000 0s 1h0m0s AS BYMONTH=3;BYMONTHDAY=1",
			"S 19931001T000000 1h0m0s 0s A BYMONTH=10;BYMONTHDAY=1",
		},
		// A form that is not encoded is put together; a run's first turn has to be on its day, too.
		"Rule R 1990 1993 - Feb lastSun 24:00 1 S\nRule R 1990 1993 - Oct 1 0 0 -\nZone Z 0 R A%s": {
			"S 00010101T000000 0s 0s A",
			"D 19900226T000000 0s 1h0m0s AS 19910225T000000 19920224T000000 19930301T000000",
			"S 19901001T000000 1h0m0s 0s A UNTIL=19930930T230000Z;BYMONTH=10;BYMONTHDAY=1",
		},
	} {
		if got := zone(t, text); got != strings.Join(want, "\n") {
			t.Errorf("%s:\n%s\n--- wanted\n%s", text, got, strings.Join(want, "\n"))
		}
	}
}

func TestIdIsTheNameThatIsAsked(t *testing.T) {
	s := read(t, "Zone Z 0 - A\nLink Z Other/Name")
	v, e := Zone(s, "Other/Name")
	if v.Id != "Other/Name" || len(v.Obs) != 1 || e != api.OK {
		t.Error(v, e)
	}
}

func TestSteady(t *testing.T) {
	const going = "Rule R 1990 max - Mar 1 0 1 S\nRule R 1985 1999 - Oct 1 0 0 -\nRule S 2005 max - Oct 1 0 0 -\n"
	for text, want := range map[string]int{
		"Zone Z 0 - A":                                          2,
		"Zone Z 0 - A 1990\n0 - B":                              1992,
		going + "Zone Z 0 - A 1990\n0 - B":                      1992,
		going + "Zone Z 0 R A 1990\n0 - B":                      1992,
		going + "Zone Z 0 R A":                                  2001,
		going + "Zone Z 0 R A 2010\n0 R A":                      2012,
		going + "Zone Z 0 R A 2010\n0 S A":                      2012,
		going + "Zone Z 0 S A 1980\n0 R A":                      2001,
		"Rule R 1990 max - Mar 1 0 1 S\nZone Z 0 R A":           1992,
		"Zone Z 0 - A 9988\n0 - B":                              9990,
		"Zone Z 0 - A 9989\n0 - B":                              0,
		"Rule R 1 9989 - Mar 1 0 1 S\nZone Z 0 R A":             0,
		"Rule R 1 9988 - Mar 1 0 1 S\nZone Z 0 R A":             9990,
		"Rule R 9989 max - Mar 1 0 1 S\nZone Z 0 R A":           0,
		"Rule R 9989 max - Mar 1 0 1 S\nZone Z 0 R A 10\n0 - B": 12,
	} {
		n, e := Steady(read(t, text), "Z")
		if n != want || (e == api.OK) != (want > 0) || want == 0 && e != api.ErrYear {
			t.Error(text, n, e)
		}
	}
}

func TestFaults(t *testing.T) {
	const pair = "Rule R 1990 max - Mar 1 0 1 S\nRule R 1990 max - Oct 1 0 0 -\n"
	for text, want := range map[string]api.Errno{
		"Zone Y 0 - A":                   api.ErrNone,
		"Zone Z 0 - A 9989\n0 - /B":      api.ErrYear,
		"Zone Z 0 - /A":                  api.ErrFormat,
		"Zone Z 0 - A 1\n0 - /B":         api.ErrFormat,
		"Zone Z 0 - A 2\n0 - B 2\n0 - A": api.ErrOrder,
		"Zone Z 0 - A 2\n0 - B":          api.OK,
		"Zone Z 1 - A 2\n0 - B":          api.ErrYear, // that is still year 1 of UTC
		"Zone Z -1 - A 2\n0 - B":         api.OK,
		"Rule R 1 max - Mar 1 0 1 S\nRule R 1 max - Mar 9 0 0 -\nZone Z 0 R A": api.ErrYear,
		pair + "Zone Z 0 R A%sT":                                         api.OK,
		pair + "Rule R 1990 max - Mar 9 0 2 D\nZone Z 0 R A":             api.ErrEncode,
		pair + "Rule R 1990 1999 - Mar 9 0 2 D\nZone Z 0 R A":            api.OK,
		pair + "Rule R 1990 max - Mar 9 0 2 D\nZone Z 0 R A 1999\n0 - B": api.OK,
		// A form that is not encoded, though it may have no turn.
		pair + "Rule R 1990 max - Nov lastSun 24:00 0 -\nZone Z 0 R A": api.ErrEncode,
		pair + "Rule R 1990 max - Nov lastSun 23:59 0 -\nZone Z 0 R A": api.OK,
		pair + "Rule R 1990 max - Nov lastSun -0:01 0 -\nZone Z 0 R A": api.ErrEncode,
		pair + "Rule R 1990 max - Nov Sun>=25 0 0 -\nZone Z 0 R A":     api.ErrEncode,
		pair + "Rule R 1990 max - Feb Sun>=29 3 1 S\nZone Z 0 R A":     api.ErrEncode,
		pair + "Rule R 1990 max - Nov Sun>=24 -24 0 -\nZone Z 0 R A":   api.OK,
		// One that is not encoded moved by the clock ahead of it.
		"Rule R 1990 max - Mar lastSun 0u 1 S\nRule R 1990 max - Oct 1 0 0 -\nZone Z -5 R A%s":         api.ErrEncode,
		"Rule R 1990 max - Mar lastSun 0u 1 S\nRule R 1990 max - Oct 1 0 0 -\nZone Z 5 R A%s":          api.OK,
		"Rule R 1990 max - Mar lastSun 23s 1 S\nRule R 1990 max - Oct lastSun 23s 0 -\nZone Z 5 R A%s": api.ErrEncode,
	} {
		v, e := Zone(read(t, text), "Z")
		if e != want || e != api.OK && !reflect.DeepEqual(v, api.Vtz{}) {
			t.Error(text, v, e)
		}
	}
	bad := api.Source{Zones: make([]api.Zone, 1)}
	if n, e := Steady(bad, "Z"); n != 0 || e != api.ErrZone {
		t.Error(n, e)
	}
	if v, e := Zone(bad, "Z"); !reflect.DeepEqual(v, api.Vtz{}) || e != api.ErrZone {
		t.Error(v, e)
	}
}

func TestTreeAndText(t *testing.T) {
	v := api.Vtz{Id: "a;b", Obs: []api.Observance{
		{Start: 0, From: 3600, To: -1, Name: "X+1"},
		{Dst: true, Start: 3600, From: -1, To: 3600, Name: "Y", Has: true, Dates: []int{7, 5}, Rule: api.Recur{Freq: api.Yearly, Interval: 1, Month: []int{3}, Days: []api.ByDay{{Num: -1}}, Until: true, UntilAt: 86400, Utc: true, Wkst: 1}},
	}}
	want := strings.Join([]string{
		"BEGIN:VTIMEZONE", `TZID:a\;b`,
		"BEGIN:STANDARD", "DTSTART:19700101T000000", "TZOFFSETFROM:+0100", "TZOFFSETTO:-000001", "TZNAME:X+1", "END:STANDARD",
		"BEGIN:DAYLIGHT", "DTSTART:19700101T010000", "TZOFFSETFROM:-000001", "TZOFFSETTO:+0100", "TZNAME:Y", "RRULE:FREQ=YEARLY;UNTIL=19700102T000000Z;BYMONTH=3;BYDAY=-1SU", "RDATE:19700101T000007,19700101T000005", "END:DAYLIGHT",
		"END:VTIMEZONE", "",
	}, "\r\n")
	if s, e := Text(v); s != want || e != api.OK {
		t.Error(s, e)
	}
	l, e := Tree(v)
	if len(l) != 3 || l[0].Own != 2 || l[1].Own != 0 || l[2].Name != "DAYLIGHT" || tree.Check(l) != api.OK || e != api.OK {
		t.Error(l, e)
	}
	for k, change := range []func(v *api.Vtz){
		func(v *api.Vtz) { v.Id = "" },
		func(v *api.Vtz) { v.Id = "a\nb" },
		func(v *api.Vtz) { v.Obs = nil },
		func(v *api.Vtz) { v.Obs[0].To = 86400 },
		func(v *api.Vtz) { v.Obs[0].Start = math.MinInt },
		func(v *api.Vtz) { v.Obs[1].Rule.Interval = 2 },
		func(v *api.Vtz) { v.Obs[1].Rule.Utc = false },
		func(v *api.Vtz) { v.Obs[1].Has = false },
	} {
		x := v
		x.Obs = slices.Clone(v.Obs)
		change(&x)
		if l, e := Tree(x); len(l) != 0 || e != api.ErrZone {
			t.Error(k, l, e)
		}
		if s, e := Text(x); s != "" || e != api.ErrZone {
			t.Error(k, s, e)
		}
	}
	// Too long a text.
	x := api.Vtz{Id: "Z"}
	for range 2000 {
		o := v.Obs[1]
		o.Dates = make([]int, 30)
		x.Obs = append(x.Obs, o)
	}
	if s, e := Text(x); s != "" || e != api.ErrLen {
		t.Error(len(s), e)
	}
	if l, e := Tree(x); len(l) != 2001 || e != api.OK {
		t.Error(len(l), e)
	}
}

// What cannot be said in a VTIMEZONE is made, but not written.
func TestAnOffsetOfADayIsNotWritten(t *testing.T) {
	v, e := Zone(read(t, "Zone Z 23:00 1:00 A"), "Z")
	if len(v.Obs) != 1 || v.Obs[0].To != 86400 || e != api.OK {
		t.Error(v, e)
	}
	if s, e := Text(v); s != "" || e != api.ErrZone {
		t.Error(s, e)
	}
}

func TestWhatGoesOnIsFew(t *testing.T) {
	v, e := Zone(read(t, rules+"Zone Z 1:00 EU CE%sT"), "Z")
	endless := 0
	for _, o := range v.Obs {
		if o.Has && !o.Rule.Until {
			endless++
		}
	}
	if e != api.OK || endless != 2 || len(v.Obs) > 10 {
		t.Error(len(v.Obs), endless, e)
	}
}

func TestAnswersShareNoMemory(t *testing.T) {
	s := read(t, rules+"Zone Z 1:00 EU CE%sT")
	a, _ := Zone(s, "Z")
	b, _ := Zone(s, "Z")
	for _, o := range a.Obs {
		for _, l := range [][]int{o.Dates, o.Rule.Month, o.Rule.MonthDay} {
			for i := range l {
				l[i] = 99
			}
			_ = append(l, 98)
		}
	}
	c, _ := Zone(s, "Z")
	if !reflect.DeepEqual(b, c) {
		t.Error("an answer is shared")
	}
	for i, o := range a.Obs {
		if len(o.Rule.Month) > 0 {
			o.Rule.Month[0] = i
		}
	}
	for i, o := range a.Obs {
		if len(o.Rule.Month) > 0 && o.Rule.Month[0] != i {
			t.Error("two rules share a list")
		}
	}
}
