package filter

import (
	"math"
	"math/rand"
	"slices"
	"testing"
	"time"

	"solstice/api"
	"solstice/recur"
)

func at(y, m, d, hour, minute, second int) int {
	return int(time.Date(y, time.Month(m), d, hour, minute, second, 0, time.UTC).Unix())
}

func rule(t *testing.T, s string) api.Recur {
	t.Helper()
	r, e := recur.Parse(s)
	if e != api.OK {
		t.Fatal(s, e)
	}
	return r
}

var first, last = at(1, 1, 1, 0, 0, 0), at(9999, 12, 31, 23, 59, 59)

var bad = api.Recur{Freq: 8, Interval: 1}

func TestPeriod(t *testing.T) {
	x := at(2024, 2, 29, 13, 14, 15) // a Thursday
	for s, want := range map[string]int{
		"FREQ=SECONDLY":                  x,
		"FREQ=MINUTELY":                  x / 60,
		"FREQ=HOURLY;INTERVAL=7":         x / 3600,
		"FREQ=DAILY":                     x / 86400,
		"FREQ=WEEKLY":                    (x/86400 + 3) / 7,
		"FREQ=WEEKLY;WKST=TH":            x / 86400 / 7,
		"FREQ=WEEKLY;WKST=FR":            (x/86400 - 1) / 7,
		"FREQ=WEEKLY;WKST=SU":            (x/86400 + 4) / 7,
		"FREQ=MONTHLY":                   2024*12 + 1,
		"FREQ=YEARLY":                    2024,
		"FREQ=YEARLY;BYMONTH=1":          2024,
		"FREQ=YEARLY;BYWEEKNO=1":         2024,
		"FREQ=YEARLY;BYWEEKNO=1;WKST=SU": 2024,
	} {
		if p, e := Period(rule(t, s), x); p != want || e != api.OK {
			t.Error(s, p, e)
		}
	}
	// Ahead of 1970 all is rounded down.
	for s, want := range map[string]int{"FREQ=SECONDLY": -1, "FREQ=MINUTELY": -1, "FREQ=HOURLY": -1, "FREQ=DAILY": -1, "FREQ=WEEKLY;WKST=TH": -1, "FREQ=WEEKLY": 0, "FREQ=MONTHLY": 1969*12 + 11, "FREQ=YEARLY": 1969, "FREQ=YEARLY;BYWEEKNO=1": 1970} {
		if p, e := Period(rule(t, s), -1); p != want || e != api.OK {
			t.Error(s, p, e)
		}
	}
	if p, e := Period(rule(t, "FREQ=YEARLY;BYWEEKNO=1;WKST=TH"), first); p != 0 || e != api.OK {
		t.Error(p, e)
	}
	for _, x := range []int{first - 1, last + 1, math.MinInt, math.MaxInt} {
		if p, e := Period(rule(t, "FREQ=DAILY"), x); p != 0 || e != api.ErrYear {
			t.Error(x, p, e)
		}
		if p, e := Period(bad, x); p != 0 || e != api.ErrRecur {
			t.Error(x, p, e)
		}
	}
}

var kinds = []string{"FREQ=SECONDLY", "FREQ=MINUTELY", "FREQ=HOURLY", "FREQ=DAILY", "FREQ=WEEKLY", "FREQ=WEEKLY;WKST=SU", "FREQ=WEEKLY;WKST=WE", "FREQ=MONTHLY", "FREQ=YEARLY", "FREQ=YEARLY;BYWEEKNO=1", "FREQ=YEARLY;BYWEEKNO=1;WKST=SA", "FREQ=YEARLY;BYWEEKNO=1;WKST=TH"}

func TestSpansLieSideBySide(t *testing.T) {
	r := rand.New(rand.NewSource(1))
	for _, s := range kinds {
		x := rule(t, s)
		for range 3000 {
			n := first + r.Intn(last-first+1)
			p, e := Period(x, n)
			from, to, f := Span(x, p)
			if f == api.ErrYear && (n < first+366*api.Day || n > last-366*api.Day) {
				continue
			}
			if e != api.OK || f != api.OK || n < from || n > to {
				t.Fatal(s, n, p, e, from, to, f)
			}
			for _, edge := range []int{from, to} {
				if q, _ := Period(x, edge); q != p {
					t.Fatal(s, n, p, edge, q)
				}
			}
			if q, e := Period(x, to+1); to < last && (q != p+1 || e != api.OK) {
				t.Fatal(s, n, p, to, q)
			}
		}
	}
}

func TestSpanAtTheEdges(t *testing.T) {
	for s, want := range map[string][2]int{
		"FREQ=SECONDLY":                  {first, last},
		"FREQ=MINUTELY":                  {first / 60, last / 60},
		"FREQ=HOURLY":                    {first / 3600, last / 3600},
		"FREQ=DAILY":                     {first / 86400, last / 86400},
		"FREQ=MONTHLY":                   {12, 9999*12 + 11},
		"FREQ=YEARLY":                    {1, 9999},
		"FREQ=YEARLY;BYWEEKNO=1":         {1, 9998}, // the last week goes on into the year 10000
		"FREQ=YEARLY;BYWEEKNO=1;WKST=SU": {2, 9998},
		"FREQ=YEARLY;BYWEEKNO=1;WKST=TU": {1, 9998},
		"FREQ=YEARLY;BYWEEKNO=1;WKST=SA": {2, 9999}, // a Saturday begins the year 10000
	} {
		x := rule(t, s)
		for k, p := range want {
			if from, to, e := Span(x, p); e != api.OK || from < first || to > last || from > to {
				t.Error(s, p, from, to, e)
			}
			out := p - 1
			if k == 1 {
				out = p + 1
			}
			if from, to, e := Span(x, out); from != 0 || to != 0 || e != api.ErrYear {
				t.Error(s, out, from, to, e)
			}
		}
	}
	for _, s := range kinds {
		for _, p := range []int{math.MinInt, math.MaxInt, 1 << 62, -1 << 62, 1 << 40, -1 << 40, 1<<40 + 1, 1 << 58} {
			if from, to, e := Span(rule(t, s), p); from != 0 || to != 0 || e != api.ErrYear {
				t.Error(s, p, from, to, e)
			}
		}
	}
	if from, to, e := Span(bad, 0); from != 0 || to != 0 || e != api.ErrRecur {
		t.Error(from, to, e)
	}
	if from, to, e := Span(rule(t, "FREQ=MONTHLY"), 2024*12+1); from != at(2024, 2, 1, 0, 0, 0) || to != at(2024, 2, 29, 23, 59, 59) || e != api.OK {
		t.Error(from, to, e)
	}
}

func TestLets(t *testing.T) {
	start := at(2024, 2, 29, 13, 14, 15) // a Thursday
	for s, c := range map[string]struct{ yes, no []int }{
		"FREQ=MONTHLY;BYDAY=-1SU":           {[]int{at(2024, 3, 31, 13, 14, 15), at(1999, 2, 28, 13, 14, 15)}, []int{at(2024, 3, 24, 13, 14, 15), at(2024, 3, 31, 13, 14, 16), at(2024, 3, 31, 13, 15, 15), at(2024, 3, 31, 14, 14, 15), at(2024, 3, 30, 13, 14, 15)}},
		"FREQ=YEARLY":                       {[]int{start, at(2028, 2, 29, 13, 14, 15)}, []int{at(2025, 2, 28, 13, 14, 15), at(2024, 3, 29, 13, 14, 15)}},
		"FREQ=YEARLY;BYMONTH=3,4":           {[]int{at(2024, 3, 29, 13, 14, 15), at(2025, 4, 29, 13, 14, 15)}, []int{start, at(2024, 3, 28, 13, 14, 15)}},
		"FREQ=YEARLY;BYMONTH=3;BYDAY=2SU":   {[]int{at(2024, 3, 10, 13, 14, 15)}, []int{at(2024, 3, 3, 13, 14, 15), at(2024, 1, 14, 13, 14, 15)}},
		"FREQ=YEARLY;BYDAY=2SU,-53MO,-1TU":  {[]int{at(2024, 1, 14, 13, 14, 15), at(2024, 1, 1, 13, 14, 15), at(2024, 12, 31, 13, 14, 15)}, []int{at(2024, 2, 11, 13, 14, 15), at(2023, 1, 2, 13, 14, 15)}},
		"FREQ=YEARLY;BYYEARDAY=60,-1":       {[]int{start, at(2023, 3, 1, 13, 14, 15), at(2023, 12, 31, 13, 14, 15)}, []int{at(2023, 2, 28, 13, 14, 15), at(2024, 3, 1, 13, 14, 15)}},
		"FREQ=YEARLY;BYYEARDAY=-366":        {[]int{at(2024, 1, 1, 13, 14, 15)}, []int{at(2023, 1, 1, 13, 14, 15), at(2022, 12, 31, 13, 14, 15)}},
		"FREQ=YEARLY;BYMONTHDAY=-1,1":       {[]int{start, at(2023, 2, 28, 13, 14, 15), at(2023, 4, 1, 13, 14, 15)}, []int{at(2024, 2, 28, 13, 14, 15)}},
		"FREQ=YEARLY;BYWEEKNO=9":            {[]int{start, at(2023, 3, 2, 13, 14, 15)}, []int{at(2024, 2, 28, 13, 14, 15), at(2024, 2, 22, 13, 14, 15)}},
		"FREQ=YEARLY;BYWEEKNO=-1":           {[]int{at(2020, 12, 31, 13, 14, 15), at(2024, 12, 26, 13, 14, 15)}, []int{at(2020, 12, 24, 13, 14, 15), at(2025, 1, 2, 13, 14, 15)}},
		"FREQ=YEARLY;BYWEEKNO=1;BYDAY=MO":   {[]int{at(2024, 12, 30, 13, 14, 15)}, []int{at(2024, 12, 31, 13, 14, 15), at(2025, 1, 6, 13, 14, 15)}},
		"FREQ=YEARLY;BYWEEKNO=53;BYMONTH=1": {[]int{}, []int{at(2020, 12, 31, 13, 14, 15), at(2021, 1, 1, 13, 14, 15)}},
		"FREQ=MONTHLY":                      {[]int{start, at(2024, 3, 29, 13, 14, 15)}, []int{at(2024, 3, 30, 13, 14, 15)}},
		"FREQ=MONTHLY;BYMONTHDAY=31":        {[]int{at(2024, 3, 31, 13, 14, 15)}, []int{start, at(2024, 4, 30, 13, 14, 15)}},
		"FREQ=WEEKLY":                       {[]int{start, at(2024, 3, 7, 13, 14, 15)}, []int{at(2024, 3, 8, 13, 14, 15)}},
		"FREQ=WEEKLY;BYDAY=MO,FR":           {[]int{at(2024, 3, 4, 13, 14, 15), at(2024, 3, 8, 13, 14, 15)}, []int{start}},
		"FREQ=DAILY":                        {[]int{at(2024, 3, 8, 13, 14, 15)}, []int{at(2024, 3, 8, 13, 14, 14)}},
		"FREQ=DAILY;BYHOUR=1,2;BYMINUTE=3":  {[]int{at(2024, 3, 8, 2, 3, 15)}, []int{at(2024, 3, 8, 13, 3, 15), at(2024, 3, 8, 2, 14, 15), at(2024, 3, 8, 2, 3, 14)}},
		"FREQ=DAILY;BYMONTHDAY=8;BYDAY=FR":  {[]int{at(2024, 3, 8, 13, 14, 15)}, []int{at(2024, 4, 8, 13, 14, 15), at(2024, 3, 15, 13, 14, 15)}},
		"FREQ=HOURLY":                       {[]int{at(2024, 3, 8, 1, 14, 15)}, []int{at(2024, 3, 8, 1, 13, 15), at(2024, 3, 8, 1, 14, 16)}},
		"FREQ=HOURLY;BYSECOND=0;BYHOUR=1":   {[]int{at(2024, 3, 8, 1, 14, 0)}, []int{at(2024, 3, 8, 2, 14, 0), at(2024, 3, 8, 1, 14, 15)}},
		"FREQ=MINUTELY":                     {[]int{at(2024, 3, 8, 1, 1, 15)}, []int{at(2024, 3, 8, 1, 1, 16)}},
		"FREQ=SECONDLY":                     {[]int{at(2024, 3, 8, 1, 1, 1), first, last}, []int{first - 1, last + 1, math.MinInt, math.MaxInt}},
		"FREQ=SECONDLY;BYYEARDAY=60":        {[]int{start}, []int{at(2024, 3, 8, 1, 1, 1)}},
	} {
		r := rule(t, s)
		for _, x := range c.yes {
			if !Lets(r, start, x) {
				t.Error(s, "lets not", time.Unix(int64(x), 0).UTC())
			}
		}
		for _, x := range c.no {
			if Lets(r, start, x) {
				t.Error(s, "lets", x)
			}
		}
	}
	x := rule(t, "FREQ=SECONDLY")
	for _, s := range []int{first - 1, last + 1, math.MinInt, math.MaxInt} {
		if Lets(x, s, start) || Lets(bad, start, start) {
			t.Error(s)
		}
	}
	// SetPos is none of the filter's.
	if !Lets(rule(t, "FREQ=DAILY;BYHOUR=13;BYSETPOS=7"), start, start) {
		t.Error("setpos is looked at")
	}
}

// The weeks of the years 0 and 10000 are counted as those of the years between.
func TestWeeksOfTheYearsBeside(t *testing.T) {
	for wkst := 0; wkst < 7; wkst++ {
		for _, no := range []int{1, 52, 53, -1, -2, -52, -53} {
			r := api.Recur{Freq: api.Yearly, Interval: 1, Wkst: wkst, WeekNo: []int{no}, Days: []api.ByDay{{Week: 0}, {Week: 1}, {Week: 2}, {Week: 3}, {Week: 4}, {Week: 5}, {Week: 6}}}
			// 400 years make a whole count of weeks.
			const cycle = 146097 * api.Day
			for k := range 10 {
				early, late := first+k*api.Day, last-k*api.Day
				if Lets(r, early, early) != Lets(r, early+cycle, early+cycle) {
					t.Error(wkst, no, k, "at the beginning")
				}
				if Lets(r, late, late) != Lets(r, late-cycle, late-cycle) {
					t.Error(wkst, no, k, "at the end")
				}
			}
		}
	}
}

// slow says it once more, by the library's calendar.
func slow(r api.Recur, start, t int) bool {
	s, x := time.Unix(int64(start), 0).UTC(), time.Unix(int64(t), 0).UTC()
	in := func(l []int, n, count int) bool { return slices.Contains(l, n) || slices.Contains(l, n-count-1) }
	clock := func(l []int, asks bool, a, b int) bool {
		return len(l) == 0 && (!asks || a == b) || slices.Contains(l, b)
	}
	if !clock(r.Second, r.Freq > 1, s.Second(), x.Second()) || !clock(r.Minute, r.Freq > 2, s.Minute(), x.Minute()) || !clock(r.Hour, r.Freq > 3, s.Hour(), x.Hour()) {
		return false
	}
	if len(r.Month) > 0 && !slices.Contains(r.Month, int(x.Month())) {
		return false
	}
	monthLen := time.Date(x.Year(), x.Month()+1, 0, 0, 0, 0, 0, time.UTC).Day()
	yearLen := time.Date(x.Year(), 12, 31, 0, 0, 0, 0, time.UTC).YearDay()
	if len(r.MonthDay) > 0 && !in(r.MonthDay, x.Day(), monthLen) || len(r.YearDay) > 0 && !in(r.YearDay, x.YearDay(), yearLen) {
		return false
	}
	if len(r.WeekNo) > 0 {
		begin := x.AddDate(0, 0, -((int(x.Weekday()) - r.Wkst + 7) % 7))
		middle := begin.AddDate(0, 0, 3)
		no := (middle.YearDay()-1)/7 + 1
		// The year's last week is that of December 28.
		dec := time.Date(middle.Year(), 12, 28, 0, 0, 0, 0, time.UTC)
		end := dec.AddDate(0, 0, -((int(dec.Weekday())-r.Wkst+7)%7)+3)
		if !in(r.WeekNo, no, (end.YearDay()-1)/7+1) {
			return false
		}
	}
	if len(r.Days) > 0 {
		found := false
		for _, d := range r.Days {
			place, count := (x.YearDay()-1)/7+1, (x.YearDay()-1)/7+1+(yearLen-x.YearDay())/7
			if r.Freq == api.Monthly || len(r.Month) > 0 {
				place, count = (x.Day()-1)/7+1, (x.Day()-1)/7+1+(monthLen-x.Day())/7
			}
			if int(x.Weekday()) == d.Week && (d.Num == 0 || d.Num == place || d.Num == place-count-1) {
				found = true
			}
		}
		return found
	}
	if len(r.YearDay)+len(r.MonthDay) > 0 {
		return true
	}
	if len(r.WeekNo) > 0 || r.Freq == api.Weekly {
		return x.Weekday() == s.Weekday()
	}
	return r.Freq < api.Monthly || x.Day() == s.Day() && (r.Freq == api.Monthly || len(r.Month) > 0 || x.Month() == s.Month())
}

func TestLetsIsAsSaidOnceMore(t *testing.T) {
	r := rand.New(rand.NewSource(1))
	list := func(odds, least, most int) []int {
		var l []int
		if r.Intn(odds) > 0 {
			return nil
		}
		for range 1 + r.Intn(most-least) {
			if n := least + r.Intn(most-least+1); (n != 0 || least == 0) && !slices.Contains(l, n) {
				l = append(l, n)
			}
		}
		return l
	}
	lets, rules := 0, 0
	for range 30000 {
		x := api.Recur{Freq: 1 + r.Intn(7), Interval: 1, Wkst: r.Intn(7), Second: list(6, 0, 59), Minute: list(6, 0, 59), Hour: list(6, 0, 23), Month: list(3, 1, 12), MonthDay: list(4, -31, 31), YearDay: list(4, -366, 366), WeekNo: list(3, -53, 53)}
		if r.Intn(3) == 0 {
			x.Days = []api.ByDay{{Num: r.Intn(11) - 5, Week: r.Intn(7)}}
		}
		if recur.Check(x) != api.OK {
			continue
		}
		rules++
		start := first + r.Intn(last-first+1)
		for range 60 {
			n := start + api.Day*(r.Intn(800)-400)
			if r.Intn(3) == 0 {
				n += r.Intn(api.Day)
			}
			if n < first || n > last {
				continue
			}
			want := slow(x, start, n)
			if want {
				lets++
			}
			if Lets(x, start, n) != want {
				t.Fatal(x, time.Unix(int64(start), 0).UTC(), time.Unix(int64(n), 0).UTC(), want)
			}
		}
	}
	if lets < 1000 || rules < 1000 {
		t.Fatal("too little is seen", lets, rules)
	}
}
