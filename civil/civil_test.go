package civil

import (
	"math"
	"testing"
	"time"

	"solstice/api"
)

func TestLong(t *testing.T) {
	for year, want := range map[int]bool{0: true, 1: false, 4: true, 100: false, 400: true, 1900: false, 2000: true, 2023: false, 2024: true, -1: false, -4: true, -100: false, -400: true, math.MaxInt: false, math.MinInt: true} {
		if Long(year) != want {
			t.Error(year)
		}
	}
}

func TestLen(t *testing.T) {
	for month, want := range []int{0, 31, 28, 31, 30, 31, 30, 31, 31, 30, 31, 30, 31, 0} {
		if n := Len(2023, month); n != want {
			t.Error(month, n)
		}
	}
	for year, want := range map[int]int{2024: 29, 1900: 28, 2000: 29, -4: 29, -1: 28, 20000: 29} {
		if n := Len(year, 2); n != want {
			t.Error(year, n)
		}
	}
	if Len(2024, -1) != 0 || Len(2024, math.MinInt) != 0 || Len(2024, math.MaxInt) != 0 {
		t.Error("a month that is none has a length")
	}
}

func TestDaysThereAndBack(t *testing.T) {
	day := time.Date(0, 1, 1, 0, 0, 0, 0, time.UTC)
	first := int(day.Unix() / api.Day)
	last := int(time.Date(10000, 12, 31, 0, 0, 0, 0, time.UTC).Unix() / api.Day)
	for n := first; n <= last; n++ {
		want := api.Date{Year: day.Year(), Month: int(day.Month()), Day: day.Day()}
		if d, e := Date(n); d != want || e != api.OK {
			t.Fatal(n, d, e, want)
		}
		if back, e := Number(want); back != n || e != api.OK {
			t.Fatal(want, back, e, n)
		}
		if w := Weekday(n); w != int(day.Weekday()) {
			t.Fatal(n, w)
		}
		if y, e := YearDay(n); y != day.YearDay() || e != api.OK {
			t.Fatal(n, y, e)
		}
		day = day.AddDate(0, 0, 1)
	}
	for _, n := range []int{first - 1, last + 1, math.MinInt, math.MaxInt} {
		if d, e := Date(n); d != (api.Date{}) || e != api.ErrYear {
			t.Error(n, d, e)
		}
		if y, e := YearDay(n); y != 0 || e != api.ErrYear {
			t.Error(n, y, e)
		}
	}
}

func TestNumberRefuses(t *testing.T) {
	for _, d := range []api.Date{{}, {Year: -1, Month: 1, Day: 1}, {Year: 10001, Month: 1, Day: 1}, {Year: 2000, Month: 0, Day: 1}, {Year: 2000, Month: 13, Day: 1}, {Year: 2000, Month: 1, Day: 0}, {Year: 2000, Month: 1, Day: 32}, {Year: 2023, Month: 2, Day: 29}, {Year: 1900, Month: 2, Day: 29}, {Year: 2000, Month: 4, Day: 31}, {Year: 2000, Month: 2, Day: 30}, {Year: 2000, Month: 1, Day: math.MaxInt}, {Year: math.MinInt, Month: math.MinInt, Day: math.MinInt}, {Year: math.MaxInt, Month: 1, Day: 1}} {
		if n, e := Number(d); n != 0 || e != api.ErrDate {
			t.Error(d, n, e)
		}
	}
	for d, want := range map[api.Date]int{{Year: 2000, Month: 3, Day: 1}: 11017, {Year: 1970, Month: 1, Day: 1}: 0, {Year: 1969, Month: 12, Day: 31}: -1, {Year: 2000, Month: 2, Day: 29}: 11016} {
		if n, e := Number(d); n != want || e != api.OK {
			t.Error(d, n, e)
		}
	}
}

func TestWeekdayOfAnyNumber(t *testing.T) {
	if w := Weekday(11017); w != 3 {
		t.Error("March 1 of 2000", w)
	}
	// Weekdays go on by one, and come again behind seven, up to the greatest numbers either way.
	for _, from := range []int{math.MinInt, -20, math.MaxInt - 20} {
		for n := from; n < from+20; n++ {
			if Weekday(n+1) != (Weekday(n)+1)%7 {
				t.Error(n, Weekday(n), Weekday(n+1))
			}
		}
	}
	if a, b := Weekday(math.MaxInt), Weekday(math.MaxInt%7); a != b {
		t.Error(a, b)
	}
	if a, b := Weekday(math.MinInt), Weekday(math.MinInt%7); a != b {
		t.Error(a, b)
	}
}
