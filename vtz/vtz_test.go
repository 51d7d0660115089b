package vtz

import (
	"math"
	"math/rand"
	"reflect"
	"slices"
	"strings"
	"testing"
	"time"

	"solstice/api"
	"solstice/gen"
	"solstice/recur"
	"solstice/rrule"
	"solstice/source"
	"solstice/tree"
	"solstice/turns"
)

func at(y, m, d, hour, minute, second int) int {
	return int(time.Date(y, time.Month(m), d, hour, minute, second, 0, time.UTC).Unix())
}

const berlin = `BEGIN:VCALENDAR
VERSION:2.0
BEGIN:vTimeZone
tzid;X=y:Europe\,Berlin
X-OTHER:1
BEGIN:VALARM
DTSTART:none
END:VALARM
BEGIN:Daylight
DTSTART:19810329T020000
TZOFFSETFROM:+0100
TZOFFSETTO:+0200
tzname;LANGUAGE=de:CEST
RRULE:FREQ=YEARLY;BYMONTH=3;BYDAY=-1SU
COMMENT:x
BEGIN:X
END:X
END:Daylight
BEGIN:STANDARD
RDATE:19801001T030000
DTSTART:19800928T030000
TZOFFSETFROM:+0200
TZOFFSETTO:+0100
TZNAME:CET
RRULE:FREQ=YEARLY;UNTIL=19950924T010000Z;BYMONTH=9;BYDAY=-1SU
rdate;VALUE=DATE-TIME:19960929T030000,19800101T030000
END:STANDARD
LAST-MODIFIED:y
END:VTIMEZONE
END:VCALENDAR
`

func march() api.Recur {
	return api.Recur{Freq: api.Yearly, Interval: 1, Wkst: 1, Month: []int{3}, Days: []api.ByDay{{Num: -1}}}
}

func berlinIs() api.Vtz {
	september := march()
	september.Month, september.Until, september.UntilAt, september.Utc = []int{9}, true, at(1995, 9, 24, 1, 0, 0), true
	return api.Vtz{Id: "Europe,Berlin", Obs: []api.Observance{
		{Dst: true, Start: at(1981, 3, 29, 2, 0, 0), From: 3600, To: 7200, Name: "CEST", Has: true, Rule: march()},
		{Start: at(1980, 9, 28, 3, 0, 0), From: 7200, To: 3600, Name: "CET", Has: true, Rule: september, Dates: []int{at(1980, 10, 1, 3, 0, 0), at(1996, 9, 29, 3, 0, 0), at(1980, 1, 1, 3, 0, 0)}},
	}}
}

func TestParseAndRead(t *testing.T) {
	v, e := Parse(berlin)
	if !reflect.DeepEqual(v, berlinIs()) || e != api.OK || Check(v) != api.OK {
		t.Error(v, e)
	}
	l, _ := tree.Parse(berlin)
	for k, c := range l {
		v, e := Read(l, k)
		if c.Name == "vTimeZone" && (e != api.OK || v.Id != "Europe,Berlin") || c.Name != "vTimeZone" && (e != api.ErrNone || !reflect.DeepEqual(v, api.Vtz{})) {
			t.Error(k, v, e)
		}
	}
	for _, k := range []int{-1, len(l), math.MinInt, math.MaxInt} {
		if v, e := Read(l, k); e != api.ErrNone || !reflect.DeepEqual(v, api.Vtz{}) {
			t.Error(k, v, e)
		}
	}
	if _, e := Read(nil, 0); e != api.ErrTree {
		t.Error(e)
	}
	if _, e := Read([]api.Comp{{Name: "VTIMEZONE", Own: 1}}, 7); e != api.ErrTree {
		t.Error(e)
	}
	// Of two the first one is read, and if that is wrong, that is told.
	one := strings.TrimSuffix(strings.TrimPrefix(berlin, "BEGIN:VCALENDAR\nVERSION:2.0\n"), "END:VCALENDAR\n")
	if v, e := Parse(one); v.Id != "Europe,Berlin" || e != api.OK {
		t.Error(v, e)
	}
	if v, e := Parse("BEGIN:A\n" + one + strings.Replace(one, "Europe", "X", 1) + "END:A"); v.Id != "Europe,Berlin" || e != api.OK {
		t.Error(v, e)
	}
	if v, e := Parse("BEGIN:A\nBEGIN:VTIMEZONE\nEND:VTIMEZONE\n" + one + "END:A"); !reflect.DeepEqual(v, api.Vtz{}) || e != api.ErrZone {
		t.Error(v, e)
	}
}

func TestParseRefuses(t *testing.T) {
	for _, c := range []struct {
		old, new string
		want     api.Errno
	}{
		{"BEGIN:VCALENDAR", "\r", api.ErrLine},
		{"VERSION:2.0", "VERSION", api.ErrLine},
		{"END:VCALENDAR", "END:X", api.ErrTree},
		{"vTimeZone", "VTIMEZONES", api.ErrTree},
		{"tzid;X=y:", "TZIDS:", api.ErrZone},
		{"X-OTHER:1", "TZID:1", api.ErrZone},
		{`Europe\,Berlin`, "Europe,Berlin", api.ErrZone},
		{`Europe\,Berlin`, `Europe\nBerlin`, api.ErrZone},
		{`Europe\,Berlin`, "", api.ErrZone},
		{"DTSTART:1981", "DTSTARTS:1981", api.ErrZone},
		{"COMMENT:x", "DTSTART:19810329T020000", api.ErrZone},
		{"DTSTART:19810329T020000", "DTSTART:19810329T020000Z", api.ErrZone},
		{"DTSTART:19810329T020000", "DTSTART:19810329", api.ErrZone},
		{"TZOFFSETFROM:+0100\n", "", api.ErrZone},
		{"COMMENT:x", "TZOFFSETFROM:+0100", api.ErrZone},
		{"TZOFFSETTO:+0200", "TZOFFSETTO:0200", api.ErrZone},
		{"COMMENT:x", "tzoffsetTO:+0200", api.ErrZone},
		{"TZNAME:CET", "TZNAME:C T", api.ErrZone},
		{"TZNAME:CET\n", "", api.ErrZone},
		{"TZNAME:CET", "TZNAME:CET\nTZNAME:CET", api.ErrZone},
		{"TZNAME:CET", "TZNAME:CE,T", api.ErrZone},
		{"COMMENT:x", "RRULE:FREQ=YEARLY;BYMONTH=3;BYDAY=-1SU", api.ErrZone},
		{"FREQ=YEARLY;BYMONTH=3;BYDAY=-1SU", "FREQ=YEARLY;BYMONTH=3", api.ErrZone},
		{"FREQ=YEARLY;BYMONTH=3;BYDAY=-1SU", "FREQ=DAILY", api.ErrZone},
		{"FREQ=YEARLY;BYMONTH=3;BYDAY=-1SU", "", api.ErrZone},
		{"UNTIL=19950924T010000Z", "UNTIL=19950924T010000", api.ErrZone},
		{"RDATE:19801001T030000", "RDATE:19801001T030000Z", api.ErrZone},
		{"RDATE:19801001T030000", "RDATE:", api.ErrZone},
		{"RDATE:19801001T030000", "RDATE:19801001", api.ErrZone},
		{"RDATE:19801001T030000", "RDATE:" + strings.Repeat("19801001T030000,", 1998) + "19801001T030000", api.ErrZone},
		{"RDATE:19801001T030000", "RDATE:" + strings.Repeat("19801001T030000,", 1997) + "19801001T030000", api.OK},
		{"RDATE:19801001T030000\n", "", api.OK},
		{"DTSTART:none", "TZID:x", api.OK},
	} {
		v, e := Parse(strings.Replace(berlin, c.old, c.new, 1))
		if e != c.want || e != api.OK && !reflect.DeepEqual(v, api.Vtz{}) {
			t.Errorf("%s %.50s: %d", c.old, c.new, e)
		}
	}
	for text, want := range map[string]api.Errno{"": api.ErrTree, "BEGIN:A\nEND:A": api.ErrNone, "BEGIN:VTIMEZONE\nTZID:A\nEND:VTIMEZONE": api.ErrZone, strings.Repeat(" ", 600001): api.ErrLen} {
		if _, e := Parse(text); e != want {
			t.Errorf("%.20q: %d", text, e)
		}
	}
}

func TestOnset(t *testing.T) {
	v := berlinIs()
	summer, winter := v.Obs[0], v.Obs[1]
	for _, c := range []struct {
		o    api.Observance
		t    int
		at   int
		ok   bool
		cost int
	}{
		{summer, at(1981, 3, 29, 1, 0, 0) - 1, 0, false, 2},
		{summer, at(1980, 3, 29, 1, 0, 0), 0, false, 0},
		{summer, at(1981, 3, 29, 1, 0, 0), at(1981, 3, 29, 1, 0, 0), true, 2},
		{summer, at(1983, 3, 27, 1, 0, 0) - 1, at(1982, 3, 28, 1, 0, 0), true, 6},
		{summer, at(9998, 3, 29, 1, 0, 0), at(9998, 3, 29, 1, 0, 0), true, 84},
		{summer, api.MaxNum, at(9999, 3, 28, 1, 0, 0), true, 84},
		{summer, api.MaxNum + 1, 0, false, 0},
		{summer, -api.MaxNum - 1, 0, false, 0},
		{summer, math.MinInt, 0, false, 0},
		{summer, math.MaxInt, 0, false, 0},
		{winter, at(1980, 1, 1, 1, 0, 0) - 1, 0, false, 2},
		{winter, at(1980, 1, 1, 1, 0, 0), at(1980, 1, 1, 1, 0, 0), true, 2},
		{winter, at(1980, 9, 30, 0, 0, 0), at(1980, 9, 28, 1, 0, 0), true, 2},
		{winter, at(1980, 12, 30, 0, 0, 0), at(1980, 10, 1, 1, 0, 0), true, 2},
		{winter, at(1996, 9, 1, 0, 0, 0), at(1995, 9, 24, 1, 0, 0), true, 32},
		{winter, at(2026, 9, 1, 0, 0, 0), at(1996, 9, 29, 1, 0, 0), true, 32},
	} {
		got, ok, cost := Onset(c.o, c.t)
		if got != c.at || ok != c.ok || cost != c.cost {
			t.Error(c.o.Name, time.Unix(int64(c.t), 0).UTC(), got, ok, cost, c.cost)
		}
	}
	wrong := summer
	wrong.Name = ""
	if got, ok, cost := Onset(wrong, at(2000, 1, 1, 0, 0, 0)); got != 0 || ok || cost != 0 {
		t.Error(got, ok, cost)
	}
	plain := api.Observance{Start: 100, From: 50, To: 60, Name: "A", Dates: []int{300, 200}}
	for x, want := range map[int]int{50: 50, 149: 50, 150: 150, 249: 150, 250: 250, 1000: 250} {
		if got, ok, cost := Onset(plain, x); got != want || !ok || cost != 0 {
			t.Error(x, got, ok, cost)
		}
	}
}

// A rule that tells a day only now and then: February 29, if it is a Sunday: none from 1880 to 1920.
func TestARuleIsLookedAtFarBack(t *testing.T) {
	r := api.Recur{Freq: api.Yearly, Interval: 1, Wkst: 1, Month: []int{2}, MonthDay: []int{29}, Days: []api.ByDay{{}}}
	o := api.Observance{Start: at(1852, 2, 29, 0, 0, 0), Name: "A", Has: true, Rule: r}
	for x, want := range map[int]int{at(1920, 2, 28, 0, 0, 0): at(1880, 2, 29, 0, 0, 0), at(1920, 2, 29, 0, 0, 0): at(1920, 2, 29, 0, 0, 0), at(1947, 1, 1, 0, 0, 0): at(1920, 2, 29, 0, 0, 0)} {
		if got, ok, _ := Onset(o, x); got != want || !ok {
			t.Error(x, got, ok)
		}
	}
}

// What is looked at begins 15000 days ahead: a year that ends a second earlier is not gone through.
func TestHowFarBackIsLooked(t *testing.T) {
	o := berlinIs().Obs[0]
	x := at(2000, 1, 1, 0, 0, 0) + 15000*api.Day - o.From
	_, _, fewer := Onset(o, x)
	_, _, more := Onset(o, x-1)
	if fewer != 84 || more != 86 {
		t.Error(fewer, more)
	}
}

func TestUntilAtTheEndsOfTheYears(t *testing.T) {
	r := march()
	r.Until, r.Utc, r.UntilAt = true, true, at(9999, 12, 31, 23, 59, 59)
	o := api.Observance{Start: at(9990, 3, 1, 0, 0, 0), From: 80000, To: 0, Name: "A", Has: true, Rule: r}
	if got, ok, _ := Onset(o, api.MaxNum); got != at(9999, 3, 28, 0, 0, 0)-80000 || !ok {
		t.Error(got, ok)
	}
	o.Rule.UntilAt, o.Start, o.From = at(1, 1, 1, 0, 0, 0), at(1, 6, 1, 0, 0, 0), -80000
	if got, ok, cost := Onset(o, api.MaxNum); got != at(1, 6, 1, 0, 0, 0)+80000 || !ok || cost != 0 {
		t.Error(got, ok, cost)
	}
}

func TestAt(t *testing.T) {
	v := berlinIs()
	for _, c := range []struct {
		t    int
		off  int
		name string
	}{
		{at(1, 1, 1, 0, 0, 0), 7200, ""},
		{at(1980, 1, 1, 1, 0, 0) - 1, 7200, ""},
		{at(1980, 1, 1, 1, 0, 0), 3600, "CET"},
		{at(1981, 3, 29, 1, 0, 0) - 1, 3600, "CET"},
		{at(1981, 3, 29, 1, 0, 0), 7200, "CEST"},
		{at(1981, 9, 27, 1, 0, 0), 3600, "CET"},
		{at(1996, 12, 1, 0, 0, 0), 3600, "CET"},
		{at(1998, 1, 1, 0, 0, 0), 7200, "CEST"},
		{at(9990, 12, 31, 23, 59, 59), 7200, "CEST"},
	} {
		off, name, cost, e := At(v, c.t)
		_, _, a := Onset(v.Obs[0], c.t)
		_, _, b := Onset(v.Obs[1], c.t)
		if off != c.off || name != c.name || cost != a+b || e != api.OK {
			t.Error(time.Unix(int64(c.t), 0).UTC(), off, name, cost, e)
		}
	}
	for _, x := range []int{at(1, 1, 1, 0, 0, 0) - 1, at(9991, 1, 1, 0, 0, 0), math.MinInt, math.MaxInt} {
		if off, name, cost, e := At(v, x); off != 0 || name != "" || cost != 0 || e != api.ErrYear {
			t.Error(x, off, name, cost, e)
		}
		if off, name, cost, e := At(api.Vtz{}, x); off != 0 || name != "" || cost != 0 || e != api.ErrZone {
			t.Error(x, off, name, cost, e)
		}
	}
}

func TestOfThoseAtOneTimeTheFirstHolds(t *testing.T) {
	v := api.Vtz{Id: "Z", Obs: []api.Observance{{Start: 100, From: 100, To: 1, Name: "A"}, {Start: 0, From: 0, To: 2, Name: "B"}, {Start: 50, From: 50, To: 3, Name: "C"}}}
	if off, name, _, e := At(v, 5); off != 1 || name != "A" || e != api.OK {
		t.Error(off, name, e)
	}
	// Ahead of all the first one of those that begin first counts, too.
	if off, name, _, e := At(v, -5); off != 100 || name != "" || e != api.OK {
		t.Error(off, name, e)
	}
	v.Obs[2].Start = 49
	if off, _, _, _ := At(v, -5); off != 50 {
		t.Error(off)
	}
}

// slow works out all onsets of an observance up to a time.
func slow(v api.Vtz, t int) (int, string) {
	best, off, name := math.MinInt, 0, ""
	for _, o := range v.Obs {
		l := append([]int{o.Start}, o.Dates...)
		if o.Has {
			r := o.Rule
			if r.Until {
				r.UntilAt += o.From
			}
			more, _, e := rrule.Times(r, o.Start, math.MinInt/4, t+o.From, api.MaxFuel)
			if e != api.OK {
				panic(e)
			}
			l = append(l, more...)
		}
		for _, x := range l {
			if x -= o.From; x <= t && x > best {
				best, off, name = x, o.To, o.Name
			}
		}
	}
	return off, name
}

func TestAtIsAsSaidOnceMore(t *testing.T) {
	r := rand.New(rand.NewSource(1))
	for range 150 {
		v := api.Vtz{Id: "Z", Obs: []api.Observance{{Start: at(1, 1, 1, 0, 0, 0), Name: "LMT"}}}
		for range r.Intn(6) {
			o := api.Observance{Start: at(1900+r.Intn(100), 1+r.Intn(12), 1+r.Intn(28), r.Intn(24), 0, 0), From: 3600 * (r.Intn(40) - 20), To: 3600 * (r.Intn(40) - 20), Name: string(rune('A' + r.Intn(26)))}
			for range r.Intn(3) {
				o.Dates = append(o.Dates, at(1900+r.Intn(200), 1+r.Intn(12), 1+r.Intn(28), r.Intn(24), 0, 0))
			}
			if r.Intn(2) == 0 {
				o.Has = true
				o.Rule = api.Recur{Freq: api.Yearly, Interval: 1, Wkst: r.Intn(7), Month: []int{1 + r.Intn(12)}}
				if r.Intn(2) == 0 {
					o.Rule.Days = []api.ByDay{{Num: r.Intn(10) - 5, Week: r.Intn(7)}}
				}
				for d := r.Intn(20); len(o.Rule.Days) == 0 && len(o.Rule.MonthDay) == 0 || r.Intn(2) == 0 && len(o.Rule.MonthDay) < 7; d++ {
					o.Rule.MonthDay = append(o.Rule.MonthDay, d+1)
				}
				if r.Intn(2) == 0 {
					o.Rule.Until, o.Rule.Utc, o.Rule.UntilAt = true, true, o.Start+r.Intn(20000*api.Day)
				}
			}
			v.Obs = append(v.Obs, o)
		}
		for range 30 {
			x := at(1890, 1, 1, 0, 0, 0) + r.Intn(90000*api.Day)
			off, name, _, e := At(v, x)
			if wantOff, wantName := slow(v, x); off != wantOff || name != wantName || e != api.OK {
				t.Fatal(v, x, off, name, e, wantOff, wantName)
			}
		}
	}
}

const rules = `
Rule EU 1977 1980 - Apr Sun>=1 1:00u 1:00 S
Rule EU 1977 only - Sep lastSun 1:00u 0 -
Rule EU 1978 only - Oct 1 1:00u 0 -
Rule EU 1979 1995 - Sep lastSun 1:00u 0 -
Rule EU 1981 max - Mar lastSun 1:00u 1:00 S
Rule EU 1996 max - Oct lastSun 1:00u 0 -
Rule US 1967 2006 - Oct lastSun 2:00 0 S
Rule US 1967 1973 - Apr lastSun 2:00 1:00 D
Rule US 1974 only - Jan 6 2:00 1:00 D
Rule US 1975 only - Feb lastSun 2:00 1:00 D
Rule US 1976 1986 - Apr lastSun 2:00 1:00 D
Rule US 1987 2006 - Apr Sun>=1 2:00 1:00 D
Rule US 2007 max - Mar Sun>=8 2:00 1:00 D
Rule US 2007 max - Nov Sun>=1 2:00 0 S
Rule LH 1981 1984 - Oct lastSun 2:00 1:00 -
Rule LH 1982 1985 - Mar Sun>=1 2:00 0 -
Rule LH 1987 1999 - Oct lastSun 2:00 0:30 -
Rule LH 1990 1995 - Mar Sun>=1 2:00 0 -
Rule LH 2008 max - Apr Sun>=1 2:00 0 -
Rule LH 2008 max - Oct Sun>=1 2:00 0:30 -
`

// What is written of a zone and read back tells the same as the source does.
func TestWhatIsWrittenTellsTheSame(t *testing.T) {
	for _, text := range []string{
		"Zone Z 0:53:28 - LMT 1893 Apr\n1:00 - CET 1977\n1:00 EU CE%sT",
		"Zone Z -7:52:58 - LMT 1883 Nov 18 20:00u\n-8:00 - PST 1967\n-8:00 US P%sT",
		"Zone Z 10:36:20 - LMT 1895 Feb\n10 - AEST 1981 Mar\n10:30 LH +1030/+1130 1985 Jul\n10:30 LH +1030/+11",
		"Zone Z -0:25:21 - LMT 1916 May 21 2:00s\n-0:25:21 1:00 IST 1916 Oct 1 2:00s\n0 EU GMT/IST 1968 Oct 27\n1 - IST 1971 Oct 31 2u\n0 EU %z",
		"Zone Z 5:30 - IST",
		"Zone Z 11:00 1:00 XST 1990\n-11 EU X%sT 2000 Mar 26 12:00\n12 US Y%sT",
		"Zone Z 0 - A 2 Jan 2\n1 - B",
	} {
		s, _, e := source.Parse(rules + text)
		if e != api.OK {
			t.Fatal(text, e)
		}
		made, e := gen.Zone(s, "Z")
		if e != api.OK {
			t.Fatal(text, e)
		}
		written, e := gen.Text(made)
		v, f := Parse(written)
		if e != api.OK || f != api.OK || len(v.Obs) != len(made.Obs) || v.Id != "Z" {
			t.Fatal(text, e, f)
		}
		if again, e := gen.Text(v); again != written || e != api.OK {
			t.Fatal(text, again, e)
		}
		first, l, e := turns.Of(s, "Z", 9992)
		if e != api.OK {
			t.Fatal(text, e)
		}
		times := []int{at(1, 1, 2, 0, 0, 0), at(1, 6, 1, 0, 0, 0), at(9990, 12, 31, 23, 59, 59)}
		for i, x := range l {
			// Each second year's turns from the 22nd century on are enough.
			if x.At < at(2100, 1, 1, 0, 0, 0) || i%97 < 2 && x.At < at(9990, 1, 1, 0, 0, 0) {
				times = append(times, x.At-1, x.At, x.At+1)
			}
		}
		for _, x := range times {
			want := first
			if i := turns.Last(l, x); i >= 0 {
				want = l[i]
			}
			off, name, cost, e := At(v, x)
			if off != want.Off || name != want.Abbr || e != api.OK || cost > 1000 {
				t.Fatal(text, time.Unix(int64(x), 0).UTC(), off, name, cost, e, want)
			}
		}
		if off, _, _, e := At(v, at(1, 1, 1, 0, 0, 0)); off != first.Off || e != api.OK {
			t.Fatal(text, off, e)
		}
	}
}

func TestArgumentsAreNotChanged(t *testing.T) {
	v := berlinIs()
	for x := at(1975, 1, 1, 0, 0, 0); x < at(2000, 1, 1, 0, 0, 0); x += 50 * api.Day {
		At(v, x)
		Onset(v.Obs[1], x)
	}
	if !reflect.DeepEqual(v, berlinIs()) {
		t.Error(v)
	}
	l, _ := tree.Parse(berlin)
	kept, _ := tree.Parse(berlin)
	a, _ := Read(l, 1)
	b, _ := Read(l, 1)
	a.Obs[1].Dates[0], a.Obs[1].Rule.Month[0] = 1, 1
	if !reflect.DeepEqual(l, kept) || !slices.Equal(b.Obs[1].Rule.Month, []int{9}) || b.Obs[1].Dates[0] == 1 {
		t.Error("memory is shared")
	}
	if _, e := recur.Text(a.Obs[0].Rule); e != api.OK {
		t.Error(e)
	}
}
