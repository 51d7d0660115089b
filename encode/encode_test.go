package encode

import (
	"math"
	"reflect"
	"testing"

	"solstice/api"
	"solstice/civil"
	"solstice/filter"
	"solstice/recur"
	"solstice/week"
)

func TestOn(t *testing.T) {
	for _, c := range []struct {
		month int
		on    api.On
		move  int
		want  string
	}{
		{3, api.On{Kind: api.OnAfter, Week: 0, Day: 8}, 0, "FREQ=YEARLY;BYMONTH=3;BYDAY=2SU"},
		{3, api.On{Kind: api.OnAfter, Week: 0, Day: 1}, 0, "FREQ=YEARLY;BYMONTH=3;BYDAY=1SU"},
		{3, api.On{Kind: api.OnAfter, Week: 6, Day: 22}, 0, "FREQ=YEARLY;BYMONTH=3;BYDAY=4SA"},
		{3, api.On{Kind: api.OnAfter, Week: 0, Day: 2}, 0, "FREQ=YEARLY;BYMONTH=3;BYMONTHDAY=2,3,4,5,6,7,8;BYDAY=SU"},
		{3, api.On{Kind: api.OnAfter, Week: 0, Day: 2}, -1, "FREQ=YEARLY;BYMONTH=3;BYDAY=1SA"},
		{3, api.On{Kind: api.OnAfter, Week: 6, Day: 7}, 1, "FREQ=YEARLY;BYMONTH=3;BYDAY=2SU"},
		{3, api.On{Kind: api.OnAfter, Week: 3, Day: 25}, 0, "FREQ=YEARLY;BYMONTH=3;BYMONTHDAY=25,26,27,28,29,30,31;BYDAY=WE"},
		{4, api.On{Kind: api.OnBefore, Week: 0, Day: 7}, 0, "FREQ=YEARLY;BYMONTH=4;BYDAY=1SU"},
		{4, api.On{Kind: api.OnBefore, Week: 0, Day: 30}, 0, "FREQ=YEARLY;BYMONTH=4;BYMONTHDAY=24,25,26,27,28,29,30;BYDAY=SU"},
		{4, api.On{Kind: api.OnBefore, Week: 1, Day: 30}, -2, "FREQ=YEARLY;BYMONTH=4;BYDAY=4SA"},
		{2, api.On{Kind: api.OnBefore, Week: 1, Day: 28}, 0, "FREQ=YEARLY;BYMONTH=2;BYDAY=4MO"},
		{10, api.On{Kind: api.OnLast, Week: 0}, 0, "FREQ=YEARLY;BYMONTH=10;BYDAY=-1SU"},
		{2, api.On{Kind: api.OnLast, Week: 6}, 0, "FREQ=YEARLY;BYMONTH=2;BYDAY=-1SA"},
		{12, api.On{Kind: api.OnDay, Day: 31}, 0, "FREQ=YEARLY;BYMONTH=12;BYMONTHDAY=31"},
		{12, api.On{Kind: api.OnDay, Day: 31}, -30, "FREQ=YEARLY;BYMONTH=12;BYMONTHDAY=1"},
		{2, api.On{Kind: api.OnDay, Day: 27}, 1, "FREQ=YEARLY;BYMONTH=2;BYMONTHDAY=28"},
		// What is not encoded.
		{10, api.On{Kind: api.OnLast, Week: 0}, 1, ""},
		{10, api.On{Kind: api.OnLast, Week: 0}, -1, ""},
		{12, api.On{Kind: api.OnDay, Day: 31}, 1, ""},
		{12, api.On{Kind: api.OnDay, Day: 1}, -1, ""},
		{2, api.On{Kind: api.OnDay, Day: 29}, 0, ""},
		{2, api.On{Kind: api.OnDay, Day: 29}, -1, ""},
		{2, api.On{Kind: api.OnBefore, Day: 29}, -1, ""},
		{2, api.On{Kind: api.OnBefore, Day: 29}, 0, ""},
		{2, api.On{Kind: api.OnAfter, Day: 29}, -20, ""},
		{4, api.On{Kind: api.OnDay, Day: 31}, -1, ""},
		{3, api.On{Kind: api.OnAfter, Day: 26}, 0, ""},
		{3, api.On{Kind: api.OnAfter, Day: 25}, 1, ""},
		{3, api.On{Kind: api.OnBefore, Day: 6}, 0, ""},
		{3, api.On{Kind: api.OnBefore, Day: 7}, -1, ""},
		{3, api.On{Kind: api.OnAfter, Day: 1}, -1, ""},
	} {
		r, e := On(c.month, c.on, c.move)
		if c.want == "" {
			if e != api.ErrEncode || !reflect.DeepEqual(r, api.Recur{}) {
				t.Error(c, r, e)
			}
			continue
		}
		if s, f := recur.Text(r); s != c.want || e != api.OK || f != api.OK {
			t.Error(c, s, e, f)
		}
	}
}

func TestFaultsInOrder(t *testing.T) {
	good, bad := api.On{Kind: api.OnDay, Day: 20}, api.On{Kind: api.OnDay}
	for _, c := range []struct {
		month int
		on    api.On
		move  int
		want  api.Errno
	}{{0, bad, 41, api.ErrOn}, {0, good, 41, api.ErrDate}, {13, good, 41, api.ErrDate}, {math.MinInt, good, 0, api.ErrDate}, {math.MaxInt, api.On{Kind: api.OnLast}, 0, api.ErrDate}, {1, good, 41, api.ErrEncode}, {1, good, -41, api.ErrEncode}, {1, good, math.MaxInt, api.ErrEncode}, {1, good, math.MinInt, api.ErrEncode}, {1, api.On{Kind: api.OnLast}, math.MinInt, api.ErrEncode}} {
		if r, e := On(c.month, c.on, c.move); e != c.want || !reflect.DeepEqual(r, api.Recur{}) {
			t.Error(c, r, e)
		}
	}
}

// In each year the rule lets just the form's day, moved; what might be told so is told, or not encoded.
func TestTheRuleLetsTheFormsDay(t *testing.T) {
	years := []int{1, 4, 1900, 2000, 2021, 2022, 2023, 2024, 2025, 2026, 2027, 2028, 9999}
	for month := 1; month <= 12; month++ {
		for kind := api.OnDay; kind <= api.OnBefore; kind++ {
			for day := 0; day <= 31; day++ {
				for move := -8; move <= 8; move++ {
					on := api.On{Kind: kind, Week: (day + month) % 7, Day: day}
					if kind == api.OnDay {
						on.Week = 0
					}
					r, e := On(month, on, move)
					if e != api.OK {
						continue
					}
					if recur.Check(r) != api.OK || r.Freq != api.Yearly || r.Interval != 1 || r.Wkst != 1 || len(r.Month) != 1 {
						t.Fatal(month, on, move, r)
					}
					for _, year := range years {
						n, e := week.Resolve(year, month, on)
						if e != api.OK {
							t.Fatal(month, on, move, year, e)
						}
						check(t, r, year, month, n+move)
					}
				}
			}
		}
	}
}

func check(t *testing.T, r api.Recur, year, month, want int) {
	t.Helper()
	from, _ := civil.Number(api.Date{Year: year, Month: month, Day: 1})
	for day := from - 8; day < from+40; day++ {
		at := day * api.Day
		if d, e := civil.Date(day); e != api.OK || d.Year < 1 || d.Year > 9999 {
			continue
		}
		if filter.Lets(r, at, at) != (day == want) {
			t.Fatal(r, year, month, day-from+1, want-from+1)
		}
	}
}

func TestMove(t *testing.T) {
	for _, c := range []struct {
		a              api.At
		std, save, now int
		days, secs     int
		ok             bool
	}{
		{api.At{Secs: 7200, Kind: api.AtWall}, 3600, 0, 3600, 0, 7200, true},
		{api.At{Secs: 3600, Kind: api.AtUtc}, 3600, 0, 3600, 0, 7200, true},
		{api.At{Secs: 7200, Kind: api.AtStd}, 3600, 3600, 7200, 0, 10800, true},
		{api.At{Secs: 3600, Kind: api.AtUtc}, -36000, 0, -36000, -1, 54000, true},
		{api.At{Secs: 86400, Kind: api.AtWall}, 3600, 3600, 7200, 1, 0, true},
		{api.At{Secs: 86400, Kind: api.AtWall}, 3600, 3600, 3600, 0, 82800, true},
		{api.At{Secs: -1, Kind: api.AtWall}, 0, 0, 0, -1, 86399, true},
		{api.At{Secs: api.MaxSecs, Kind: api.AtUtc}, 0, 0, 172800, 6, 0, true},
		{api.At{Secs: -api.MaxSecs, Kind: api.AtUtc}, 0, 0, -172800, -6, 0, true},
		{api.At{Secs: 0, Kind: api.AtUtc}, 0, 0, 172801, 0, 0, false},
		{api.At{Secs: 0, Kind: api.AtUtc}, 0, 0, -172801, 0, 0, false},
		{api.At{Secs: 0, Kind: api.AtUtc}, 0, 0, math.MaxInt, 0, 0, false},
		{api.At{Secs: 0, Kind: api.AtUtc}, 0, 0, math.MinInt, 0, 0, false},
		{api.At{Secs: 0, Kind: api.AtUtc}, api.MaxSecs + 1, 0, 0, 0, 0, false},
		{api.At{Secs: 0, Kind: api.AtUtc}, 0, math.MinInt, 0, 0, 0, false},
		{api.At{Secs: 0, Kind: api.AtWall}, api.MaxSecs, api.MaxSecs, 0, -8, 0, true},
		{api.At{Secs: api.MaxSecs + 1, Kind: api.AtUtc}, 0, 0, 0, 0, 0, false},
		{api.At{Secs: 0, Kind: 0}, 0, 0, 0, 0, 0, false},
		{api.At{Secs: math.MinInt, Kind: 9}, 0, 0, 0, 0, 0, false},
	} {
		if days, secs, ok := Move(c.a, c.std, c.save, c.now); days != c.days || secs != c.secs || ok != c.ok {
			t.Error(c, days, secs, ok)
		}
	}
}

func TestAnswersAreNewMemory(t *testing.T) {
	on := api.On{Kind: api.OnAfter, Week: 0, Day: 2}
	a, _ := On(3, on, 0)
	b, _ := On(3, on, 0)
	a.Month[0], a.MonthDay[0], a.Days[0].Week = 9, 9, 5
	if b.Month[0] != 3 || b.MonthDay[0] != 2 || b.Days[0].Week != 0 {
		t.Error(b)
	}
}
