package rrule

import (
	"math"
	"math/rand"
	"slices"
	"strings"
	"sync"
	"testing"
	"time"

	"solstice/api"
	"solstice/civil"
	"solstice/filter"
	"solstice/recur"
)

func at(y, m, d, hour, minute, second int) int {
	return int(time.Date(y, time.Month(m), d, hour, minute, second, 0, time.UTC).Unix())
}

func rule(t *testing.T, s string) api.Recur {
	t.Helper()
	r, e := recur.Parse(s)
	if e != api.OK {
		t.Fatal(s, e)
	}
	return r
}

var firstTime, lastTime = at(1, 1, 1, 0, 0, 0), at(9999, 12, 31, 23, 59, 59)

var bad = api.Recur{Freq: 8, Interval: 1}

// say writes times, shortly.
func say(l []int) string {
	var b []string
	for _, t := range l {
		b = append(b, time.Unix(int64(t), 0).UTC().Format("20060102T150405"))
	}
	return strings.Join(b, " ")
}

func TestTimes(t *testing.T) {
	start := at(1997, 9, 2, 9, 0, 0) // a Tuesday
	for s, want := range map[string]string{
		"FREQ=DAILY;COUNT=3":                                                          "19970902T090000 19970903T090000 19970904T090000",
		"FREQ=DAILY;INTERVAL=10;COUNT=3":                                              "19970902T090000 19970912T090000 19970922T090000",
		"FREQ=DAILY;UNTIL=19970904T090000":                                            "19970902T090000 19970903T090000 19970904T090000",
		"FREQ=DAILY;UNTIL=19970904T085959Z":                                           "19970902T090000 19970903T090000",
		"FREQ=DAILY;UNTIL=19960101T000000":                                            "19970902T090000",
		"FREQ=WEEKLY;COUNT=3":                                                         "19970902T090000 19970909T090000 19970916T090000",
		"FREQ=WEEKLY;INTERVAL=2;COUNT=4;BYDAY=TU,SU":                                  "19970902T090000 19970907T090000 19970916T090000 19970921T090000",
		"FREQ=WEEKLY;INTERVAL=2;COUNT=4;BYDAY=TU,SU;WKST=SU":                          "19970902T090000 19970914T090000 19970916T090000 19970928T090000",
		"FREQ=MONTHLY;COUNT=4;BYDAY=1FR":                                              "19970902T090000 19970905T090000 19971003T090000 19971107T090000",
		"FREQ=MONTHLY;COUNT=4;BYMONTHDAY=-3":                                          "19970902T090000 19970928T090000 19971029T090000 19971128T090000",
		"FREQ=MONTHLY;COUNT=3;BYMONTHDAY=31":                                          "19970902T090000 19971031T090000 19971231T090000",
		"FREQ=MONTHLY;COUNT=4;BYDAY=TU,WE,TH;BYSETPOS=3":                              "19970902T090000 19970904T090000 19971007T090000 19971106T090000",
		"FREQ=MONTHLY;BYDAY=MO,TU,WE,TH,FR;BYSETPOS=-2;COUNT=3":                       "19970902T090000 19970929T090000 19971030T090000",
		"FREQ=YEARLY;COUNT=3;BYMONTH=6,7":                                             "19970902T090000 19980602T090000 19980702T090000",
		"FREQ=YEARLY;INTERVAL=3;COUNT=4;BYYEARDAY=1,100,200":                          "19970902T090000 20000101T090000 20000409T090000 20000718T090000",
		"FREQ=YEARLY;COUNT=3;BYDAY=20MO":                                              "19970902T090000 19980518T090000 19990517T090000",
		"FREQ=YEARLY;COUNT=3;BYWEEKNO=20;BYDAY=MO":                                    "19970902T090000 19980511T090000 19990517T090000",
		"FREQ=YEARLY;COUNT=3;BYWEEKNO=1;BYDAY=MO":                                     "19970902T090000 19971229T090000 19990104T090000",
		"FREQ=YEARLY;INTERVAL=4;BYMONTH=11;BYDAY=TU;BYMONTHDAY=2,3,4,5,6,7,8;COUNT=2": "19970902T090000 19971104T090000",
		"FREQ=YEARLY;BYMONTH=2;BYMONTHDAY=29;COUNT=3":                                 "19970902T090000 20000229T090000 20040229T090000",
		"FREQ=HOURLY;INTERVAL=3;COUNT=3":                                              "19970902T090000 19970902T120000 19970902T150000",
		"FREQ=MINUTELY;INTERVAL=90;COUNT=3":                                           "19970902T090000 19970902T103000 19970902T120000",
		"FREQ=SECONDLY;INTERVAL=1000;COUNT=3":                                         "19970902T090000 19970902T091640 19970902T093320",
		"FREQ=DAILY;BYHOUR=23,9;BYMINUTE=40,0,20;COUNT=5":                             "19970902T090000 19970902T092000 19970902T094000 19970902T230000 19970902T232000",
		"FREQ=DAILY;BYHOUR=8;COUNT=2":                                                 "19970902T090000 19970903T080000",
		"FREQ=HOURLY;BYHOUR=1;BYMINUTE=5,3;COUNT=3":                                   "19970902T090000 19970903T010300 19970903T010500",
		"FREQ=MINUTELY;BYSECOND=7,5;COUNT=3":                                          "19970902T090000 19970902T090005 19970902T090007",
	} {
		// A rule whose count is not reached soon is looked at up to some years from its start.
		l, cost, e := Times(rule(t, s), start, start, at(2004, 12, 31, 0, 0, 0), api.MaxFuel)
		if say(l) != want || cost < 0 || e != api.OK && e != api.ErrFuel {
			t.Errorf("%s:\n%s %d\n%s", s, say(l), e, want)
		}
	}
}

func TestTheStartIsTold(t *testing.T) {
	x := at(2024, 3, 10, 0, 0, 0)
	r := rule(t, "FREQ=YEARLY;BYMONTH=6;BYMONTHDAY=1")
	for _, c := range []struct{ from, to, want int }{{x, x, 1}, {x + 1, x + 1, 0}, {x - 1, x - 1, 0}, {x, at(2024, 6, 1, 0, 0, 0), 2}, {x + 1, at(2024, 6, 1, 0, 0, 0), 1}, {x, at(2024, 6, 1, 0, 0, 0) - 1, 1}, {at(1, 1, 1, 0, 0, 0), at(2025, 6, 1, 0, 0, 0), 3}} {
		if l, _, e := Times(r, x, c.from, c.to, api.MaxFuel); len(l) != c.want || e != api.OK {
			t.Error(c, say(l), e)
		}
	}
	// Times of the start's period ahead of it are none, but they count among the places.
	r = rule(t, "FREQ=MONTHLY;BYMONTHDAY=5,10,15,20;BYSETPOS=3,1")
	if l, _, _ := Times(r, x, x, at(2024, 4, 30, 0, 0, 0), api.MaxFuel); say(l) != "20240310T000000 20240315T000000 20240405T000000 20240415T000000" {
		t.Error(say(l))
	}
}

func TestCost(t *testing.T) {
	start := at(2000, 1, 15, 0, 0, 0)
	for _, c := range []struct {
		rule     string
		from, to int
		count    int
		cost     int
	}{
		{"FREQ=YEARLY", start, start, 1, 2},
		{"FREQ=YEARLY", start, at(2001, 1, 1, 0, 0, 0) - 1, 1, 2},
		{"FREQ=YEARLY", start, at(2001, 1, 1, 0, 0, 0), 1, 4},
		{"FREQ=YEARLY", at(1999, 1, 1, 0, 0, 0), at(2000, 1, 1, 0, 0, 0) - 1, 0, 0},
		{"FREQ=YEARLY", at(1999, 1, 1, 0, 0, 0), at(2000, 1, 1, 0, 0, 0), 0, 2},
		{"FREQ=YEARLY", at(2000, 12, 31, 23, 59, 59), at(2000, 12, 31, 23, 59, 59), 0, 2},
		{"FREQ=YEARLY", at(2001, 1, 1, 0, 0, 0), at(2001, 1, 1, 0, 0, 0), 0, 2},
		{"FREQ=YEARLY", at(2050, 6, 1, 0, 0, 0), at(2051, 6, 1, 0, 0, 0), 1, 4},
		{"FREQ=YEARLY;INTERVAL=7", at(2050, 6, 1, 0, 0, 0), at(2063, 6, 1, 0, 0, 0), 2, 4},
		{"FREQ=YEARLY;INTERVAL=7", at(2050, 6, 1, 0, 0, 0), at(2055, 12, 31, 0, 0, 0), 0, 0},
		{"FREQ=YEARLY;INTERVAL=7", at(2049, 6, 1, 0, 0, 0), at(2055, 12, 31, 0, 0, 0), 0, 2},
		{"FREQ=YEARLY;BYMONTH=2;BYMONTHDAY=30", start, at(2009, 6, 1, 0, 0, 0), 1, 10},
		{"FREQ=YEARLY;BYMONTHDAY=1", start, at(2000, 6, 1, 0, 0, 0), 6, 13},
		{"FREQ=YEARLY;BYMONTHDAY=1;BYSETPOS=-1", start, at(2000, 12, 1, 0, 0, 0), 2, 13},
		{"FREQ=YEARLY;COUNT=1", start, at(2000, 6, 1, 0, 0, 0), 1, 0},
		{"FREQ=YEARLY;COUNT=3", start, at(2020, 6, 1, 0, 0, 0), 3, 6},
		{"FREQ=YEARLY;COUNT=3", at(2050, 1, 1, 0, 0, 0), at(2051, 1, 1, 0, 0, 0), 0, 6},
		{"FREQ=YEARLY;COUNT=30", at(2010, 1, 15, 0, 0, 0), at(2011, 1, 15, 0, 0, 0), 2, 24},
		{"FREQ=YEARLY;COUNT=8;BYMONTHDAY=1", start, at(2020, 6, 1, 0, 0, 0), 8, 13},
		{"FREQ=YEARLY;UNTIL=20020115T000000", start, at(2020, 6, 1, 0, 0, 0), 3, 6},
		{"FREQ=YEARLY;UNTIL=20011231T235959", start, at(2020, 6, 1, 0, 0, 0), 2, 4},
		{"FREQ=YEARLY;UNTIL=20020101T000000", start, at(2020, 6, 1, 0, 0, 0), 2, 6},
		{"FREQ=YEARLY;UNTIL=19991231T000000", start, at(2020, 6, 1, 0, 0, 0), 1, 0},
		{"FREQ=YEARLY;UNTIL=20000101T000000", start, at(2020, 6, 1, 0, 0, 0), 1, 2},
		{"FREQ=DAILY;BYHOUR=0,12;BYMINUTE=0,1,2", start, start + 2*api.Day - 1, 12, 14},
		{"FREQ=DAILY;BYMONTH=3", start, start + 5*api.Day - 1, 1, 5},
		{"FREQ=SECONDLY;BYSECOND=0", start, start + 119, 2, 122},
		{"FREQ=YEARLY", at(9999, 1, 1, 0, 0, 0), at(20000, 1, 1, 0, 0, 0), 1, 2},
		{"FREQ=YEARLY", at(10000, 1, 1, 0, 0, 0), at(20000, 1, 1, 0, 0, 0), 0, 0},
		{"FREQ=YEARLY", -api.MaxNum, api.MaxNum, 8000, 16000},
	} {
		l, cost, e := Times(rule(t, c.rule), start, c.from, c.to, api.MaxFuel)
		if len(l) != c.count || cost != c.cost || e != api.OK {
			t.Error(c.rule, say([]int{c.from, c.to}), len(l), cost, e)
		}
		if l, cost, e := Times(rule(t, c.rule), start, c.from, c.to, c.cost); len(l) != c.count || cost != c.cost || e != api.OK {
			t.Error(c.rule, c.cost, len(l), cost, e)
		}
		if c.cost > 0 {
			if l, cost, e := Times(rule(t, c.rule), start, c.from, c.to, c.cost-1); len(l) != 0 || cost != 0 || e != api.ErrFuel {
				t.Error(c.rule, c.cost-1, len(l), cost, e)
			}
		}
	}
}

// A period that is not wholly of the years has no times, and ends the rule.
func TestTheYearsEnd(t *testing.T) {
	for _, c := range []struct {
		rule  string
		start int
		count int
		cost  int
	}{
		{"FREQ=WEEKLY;WKST=SU", firstTime, 1, 0}, // its week begins in year 0
		{"FREQ=WEEKLY;WKST=MO;COUNT=3", firstTime, 3, 6},
		{"FREQ=WEEKLY;WKST=SU;COUNT=3", firstTime, 1, 0},
		{"FREQ=WEEKLY", lastTime, 1, 0},
		{"FREQ=WEEKLY", lastTime - 7*api.Day, 1, 2},
		{"FREQ=DAILY", lastTime - 2*api.Day, 3, 6},
		{"FREQ=YEARLY;BYWEEKNO=1", lastTime, 1, 0},
		{"FREQ=YEARLY;BYWEEKNO=1;WKST=TH", firstTime, 1, 0},
	} {
		for _, from := range []int{firstTime, -api.MaxNum} {
			l, cost, e := Times(rule(t, c.rule), c.start, from, api.MaxNum, api.MaxFuel)
			if len(l) != c.count || cost != c.cost || e != api.OK {
				t.Error(c.rule, c.start, len(l), cost, e)
			}
		}
	}
	// Periods that are not gone through end it, too.
	l, cost, e := Times(rule(t, "FREQ=WEEKLY;WKST=SU"), firstTime, at(2000, 1, 1, 0, 0, 0), at(2001, 1, 1, 0, 0, 0), api.MaxFuel)
	if len(l) != 0 || cost != 0 || e != api.OK {
		t.Error(l, cost, e)
	}
}

func TestFaultsInOrder(t *testing.T) {
	day := rule(t, "FREQ=DAILY")
	for _, c := range []struct {
		r                     api.Recur
		start, from, to, fuel int
		want                  api.Errno
	}{
		{bad, math.MinInt, 1, 0, -1, api.ErrRecur},
		{day, firstTime - 1, 1, 0, -1, api.ErrYear},
		{day, lastTime + 1, 1, 0, -1, api.ErrYear},
		{day, math.MinInt, 1, 0, -1, api.ErrYear},
		{day, math.MaxInt, 1, 0, -1, api.ErrYear},
		{day, 0, 1, 0, 10, api.ErrArg},
		{day, 0, -api.MaxNum - 1, 0, 10, api.ErrArg},
		{day, 0, 0, api.MaxNum + 1, 10, api.ErrArg},
		{day, 0, math.MinInt, math.MaxInt, 10, api.ErrArg},
		{day, 0, 0, 0, -1, api.ErrArg},
		{day, 0, 0, 0, api.MaxFuel + 1, api.ErrArg},
		{day, 0, 0, 0, 1, api.ErrFuel},
		{day, 0, 0, 0, 2, api.OK},
		{day, 0, 0, api.MaxNum, api.MaxFuel, api.ErrFuel},
		{day, 0, -10, -1, 0, api.OK},
	} {
		l, cost, e := Times(c.r, c.start, c.from, c.to, c.fuel)
		if e != c.want || e != api.OK && (len(l) != 0 || cost != 0) {
			t.Error(c, l, cost, e)
		}
	}
	for _, c := range []struct {
		r             api.Recur
		start, period int
		want          api.Errno
	}{{bad, math.MinInt, math.MinInt, api.ErrRecur}, {day, firstTime - 1, math.MinInt, api.ErrYear}, {day, 0, math.MinInt, api.ErrYear}, {day, 0, math.MaxInt, api.ErrYear}, {day, 0, firstTime/api.Day - 1, api.ErrYear}, {day, 0, firstTime / api.Day, api.OK}} {
		if l, e := Of(c.r, c.start, c.period); e != c.want || e != api.OK && len(l) != 0 {
			t.Error(c, l, e)
		}
	}
}

func TestLast(t *testing.T) {
	r := rule(t, "FREQ=YEARLY;BYMONTH=3;BYDAY=-1SU")
	start := at(1981, 3, 29, 2, 0, 0)
	for _, c := range []struct {
		to, back int
		want     int
		ok       bool
		cost     int
	}{
		{at(2026, 11, 18, 0, 0, 0), 400 * api.Day, at(2026, 3, 29, 2, 0, 0), true, 4},
		{at(2026, 3, 29, 2, 0, 0), 0, at(2026, 3, 29, 2, 0, 0), true, 2},
		{at(2026, 3, 29, 2, 0, 0) - 1, 0, 0, false, 2},
		{start - 1, api.MaxNum / 2, 0, false, 2},
		{at(1980, 12, 31, 0, 0, 0), 1, 0, false, 0},
		{start, 1, start, true, 2},
	} {
		x, ok, cost, e := Last(r, start, c.to, c.back, api.MaxFuel)
		if x != c.want || ok != c.ok || cost != c.cost || e != api.OK {
			t.Error(c, x, ok, cost, e)
		}
	}
	for _, c := range []struct {
		r                     api.Recur
		start, to, back, fuel int
		want                  api.Errno
	}{
		{bad, math.MinInt, math.MinInt, -1, -1, api.ErrRecur},
		{r, firstTime - 1, math.MinInt, -1, -1, api.ErrYear},
		{r, start, start, -1, 10, api.ErrArg},
		{r, start, start, math.MinInt, 10, api.ErrArg},
		{r, start, start, api.MaxNum + 1, 10, api.ErrArg},
		{r, start, start, math.MaxInt, 10, api.ErrArg},
		{r, start, math.MinInt, 0, 10, api.ErrArg},
		{r, start, math.MaxInt, 0, 10, api.ErrArg},
		{r, start, math.MaxInt, math.MaxInt, 10, api.ErrArg},
		{r, start, -api.MaxNum, 1, 10, api.ErrArg},
		{r, start, -api.MaxNum, 0, 10, api.OK},
		{r, start, 0, api.MaxNum, 10, api.OK},
		{r, start, -1, api.MaxNum, 10, api.ErrArg},
		{r, start, start, 1, -1, api.ErrArg},
		{r, start, start, 1, api.MaxFuel + 1, api.ErrArg},
		{r, start, start, 1, 1, api.ErrFuel},
	} {
		x, ok, cost, e := Last(c.r, c.start, c.to, c.back, c.fuel)
		if e != c.want || x != 0 || ok || cost != 0 {
			t.Error(c, x, ok, cost, e)
		}
	}
}

func TestOf(t *testing.T) {
	start := at(2024, 2, 29, 9, 30, 15)
	for s, c := range map[string]struct {
		period int
		want   string
	}{
		"FREQ=YEARLY":                            {2023, ""},
		"FREQ=YEARLY;BYMONTH=1":                  {1999, "19990129T093015"},
		"FREQ=MONTHLY;BYDAY=SU":                  {2024*12 + 1, "20240204T093015 20240211T093015 20240218T093015 20240225T093015"},
		"FREQ=MONTHLY;BYDAY=SU;BYSETPOS=-1,1,-4": {2024*12 + 1, "20240204T093015 20240225T093015"},
		"FREQ=MONTHLY;BYDAY=SU;BYSETPOS=5,-5":    {2024*12 + 1, ""},
		"FREQ=DAILY;BYSECOND=1,0;BYHOUR=1":       {0, "19700101T013000 19700101T013001"},
		"FREQ=HOURLY;BYMINUTE=7,5":               {-1, "19691231T230515 19691231T230715"},
		"FREQ=MINUTELY":                          {-1, "19691231T235915"},
		"FREQ=SECONDLY":                          {-1, "19691231T235959"},
		"FREQ=SECONDLY;BYSECOND=0":               {-1, ""},
		"FREQ=DAILY;COUNT=1":                     {0, "19700101T093015"},
		"FREQ=DAILY;UNTIL=19700101T000000":       {5, "19700106T093015"},
	} {
		if l, e := Of(rule(t, s), start, c.period); say(l) != c.want || e != api.OK {
			t.Error(s, say(l), e)
		}
	}
	all := rule(t, "FREQ=DAILY")
	for n := range 60 {
		all.Second, all.Minute = append(all.Second, n), append(all.Minute, n)
		if n < 24 {
			all.Hour = append(all.Hour, n)
		}
	}
	if l, e := Of(all, start, 0); len(l) != api.Day || l[0] != 0 || l[api.Day-1] != api.Day-1 || e != api.OK {
		t.Error(len(l), e)
	}
}

// slow goes through a rule's periods and, in each, all its seconds, or at least all those that may be.
func slow(r api.Recur, start, from, to int) (l []int, cost int) {
	_, secs := start/api.Day, ((start%api.Day)+api.Day)%api.Day
	take := func(t int) {
		if t >= from && t <= to {
			l = append(l, t)
		}
	}
	take(start)
	told := 1
	p, _ := filter.Period(r, start)
	for ; ; p += r.Interval {
		a, b, e := filter.Span(r, p)
		if e != api.OK || a > to || r.Until && a > r.UntilAt || r.Count > 0 && told >= r.Count {
			return l, cost
		}
		var lets []int
		for t := a; t <= b; {
			if filter.Lets(r, start, t) {
				lets = append(lets, t)
			}
			// Long periods' days have one time alone, where nothing is said of times of day.
			if b-a > api.Day && len(r.Second)+len(r.Minute)+len(r.Hour) == 0 {
				if t == a {
					t += secs
					if secs > 0 {
						continue
					}
				}
				t += api.Day
				continue
			}
			t++
		}
		if r.Count > 0 || b >= from {
			cost += 1 + len(lets)
		}
		for i, t := range lets {
			chosen := len(r.SetPos) == 0 || slices.Contains(r.SetPos, i+1) || slices.Contains(r.SetPos, i-len(lets))
			if !chosen || t <= start || r.Until && t > r.UntilAt || r.Count > 0 && told >= r.Count {
				continue
			}
			told++
			take(t)
		}
	}
}

func some(r *rand.Rand) api.Recur {
	list := func(odds, least, most int) []int {
		var l []int
		if r.Intn(odds) > 0 {
			return nil
		}
		for range 1 + r.Intn(5) {
			if n := least + r.Intn(most-least+1); (n != 0 || least == 0) && !slices.Contains(l, n) {
				l = append(l, n)
			}
		}
		return l
	}
	x := api.Recur{Freq: 1 + r.Intn(7), Interval: 1 + r.Intn(3), Wkst: r.Intn(7), Month: list(3, 1, 12), MonthDay: list(3, -31, 31), YearDay: list(4, -366, 366), WeekNo: list(4, -53, 53), SetPos: list(3, -4, 4)}
	if x.Freq <= api.Weekly {
		x.Second, x.Minute, x.Hour = list(5, 0, 59), list(5, 0, 59), list(5, 0, 23)
	}
	for range r.Intn(3) {
		d := api.ByDay{Num: r.Intn(11) - 5, Week: r.Intn(7)}
		if x.Freq < api.Monthly || r.Intn(2) == 0 {
			d.Num = 0
		}
		if !slices.Contains(x.Days, d) {
			x.Days = append(x.Days, d)
		}
	}
	switch r.Intn(3) {
	case 0:
		x.Count = 1 + r.Intn(20)
	case 1:
		x.Until, x.UntilAt = true, at(2000, 1, 1, 0, 0, 0)+r.Intn(2000*api.Day)
	}
	return x
}

// reach is how far a rule is looked at, by its frequency.
func reach(freq int) int {
	return []int{0, 600, 7200, api.Day, 3 * api.Day, 8 * api.Day, 700 * api.Day, 2500 * api.Day}[freq]
}

func TestTimesAreAsSaidOnceMore(t *testing.T) {
	r := rand.New(rand.NewSource(1))
	rules, times := 0, 0
	for range 800 {
		x := some(r)
		if recur.Check(x) != api.OK {
			continue
		}
		start := at(2000, 1, 1, 0, 0, 0) + r.Intn(1000*api.Day)
		from := start + r.Intn(2*reach(x.Freq)) - reach(x.Freq)
		to := from + r.Intn(reach(x.Freq))
		if x.Count > 0 {
			// Rules that tell next to nothing are not counted for ever.
			x.Until, x.UntilAt = false, 0
		}
		want, cost := slow(x, start, from, to)
		l, got, e := Times(x, start, from, to, api.MaxFuel)
		if e != api.OK || !slices.Equal(l, want) || got != cost {
			t.Fatal(x, say([]int{start, from, to}), say(l), got, e, say(want), cost)
		}
		rules, times = rules+1, times+len(l)
		// Two spans side by side are the whole.
		mid := from + r.Intn(to-from+1)
		a, _, _ := Times(x, start, from, mid, api.MaxFuel)
		b, _, _ := Times(x, start, mid+1, max(to, mid+1), api.MaxFuel)
		if mid < to && !slices.Equal(append(a, b...), l) {
			t.Fatal(x, start, from, mid, to)
		}
		tail, ok, _, e := Last(x, start, to, to-from, api.MaxFuel)
		if e != api.OK || ok != (len(l) > 0) || ok && tail != l[len(l)-1] {
			t.Fatal(x, start, from, to, tail, ok, e)
		}
	}
	if rules < 200 || times < 500 {
		t.Fatal("too little is seen", rules, times)
	}
}

func TestArgumentsAreNotChanged(t *testing.T) {
	r := rule(t, "FREQ=DAILY;BYHOUR=23,9,4;BYMINUTE=40,0,20;BYSECOND=3,2;BYSETPOS=-1,1")
	kept := rule(t, "FREQ=DAILY;BYHOUR=23,9,4;BYMINUTE=40,0,20;BYSECOND=3,2;BYSETPOS=-1,1")
	day, _ := civil.Number(api.Date{Year: 2000, Month: 1, Day: 1})
	var g sync.WaitGroup
	for range 4 {
		g.Go(func() {
			l, _, e := Times(r, day*api.Day, day*api.Day, (day+9)*api.Day, api.MaxFuel)
			if len(l) != 19 || e != api.OK {
				t.Error(l, e)
			}
		})
	}
	g.Wait()
	if !slices.Equal(r.Hour, kept.Hour) || !slices.Equal(r.Minute, kept.Minute) || !slices.Equal(r.Second, kept.Second) || !slices.Equal(r.SetPos, kept.SetPos) {
		t.Error(r)
	}
}
