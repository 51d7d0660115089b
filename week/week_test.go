package week

import (
	"math"
	"testing"
	"time"

	"solstice/api"
	"solstice/civil"
)

func number(t *testing.T, y, m, d int) int {
	t.Helper()
	n, e := civil.Number(api.Date{Year: y, Month: m, Day: d})
	if e != api.OK {
		t.Fatal(y, m, d, e)
	}
	return n
}

// forms are all that may come near to a right form.
func forms() []api.On {
	var l []api.On
	for kind := -1; kind <= 5; kind++ {
		for week := -1; week <= 7; week++ {
			for day := -1; day <= 32; day++ {
				l = append(l, api.On{Kind: kind, Week: week, Day: day})
			}
		}
	}
	return append(l, api.On{Kind: api.OnDay, Day: math.MaxInt}, api.On{Kind: api.OnAfter, Week: math.MinInt, Day: 1})
}

func right(on api.On) bool {
	day, week := on.Day >= 1 && on.Day <= 31, on.Week >= 0 && on.Week <= 6
	return on.Kind == api.OnDay && day && on.Week == 0 || on.Kind == api.OnLast && week && on.Day == 0 || (on.Kind == api.OnAfter || on.Kind == api.OnBefore) && day && week
}

func TestCheck(t *testing.T) {
	for _, on := range forms() {
		want := api.ErrOn
		if right(on) {
			want = api.OK
		}
		if e := Check(on); e != want {
			t.Error(on, e)
		}
	}
}

// slow finds a form's day by looking at one day behind the other.
func slow(t *testing.T, year, month int, on api.On) int {
	n := number(t, year, month, max(on.Day, 1))
	step := 1
	switch on.Kind {
	case api.OnDay:
		return n
	case api.OnLast:
		n, step = number(t, year, month, civil.Len(year, month)), -1
	case api.OnBefore:
		step = -1
	}
	for civil.Weekday(n) != on.Week {
		n += step
	}
	return n
}

func TestResolve(t *testing.T) {
	for _, year := range []int{1, 4, 1900, 1970, 2000, 2023, 2024, 2026, 9999} {
		for month := 1; month <= 12; month++ {
			for _, on := range forms() {
				n, e := Resolve(year, month, on)
				switch {
				case !right(on):
					if n != 0 || e != api.ErrOn {
						t.Fatal(year, month, on, n, e)
					}
				case on.Day > civil.Len(year, month):
					if n != 0 || e != api.ErrDate {
						t.Fatal(year, month, on, n, e)
					}
				case e != api.OK || n != slow(t, year, month, on):
					t.Fatal(year, month, on, n, e)
				}
			}
		}
	}
}

func TestResolveRefusesInOrder(t *testing.T) {
	good, bad := api.On{Kind: api.OnDay, Day: 1}, api.On{}
	for _, c := range []struct {
		year, month int
		on          api.On
		want        api.Errno
	}{{0, 0, bad, api.ErrOn}, {0, 0, good, api.ErrYear}, {10000, 1, good, api.ErrYear}, {math.MinInt, 1, good, api.ErrYear}, {2000, 0, good, api.ErrDate}, {2000, 13, good, api.ErrDate}, {2000, 13, api.On{Kind: api.OnLast}, api.ErrDate}, {2000, math.MaxInt, good, api.ErrDate}, {2023, 2, api.On{Kind: api.OnAfter, Day: 29}, api.ErrDate}, {2024, 2, api.On{Kind: api.OnAfter, Day: 29}, api.OK}} {
		if _, e := Resolve(c.year, c.month, c.on); e != c.want {
			t.Error(c, e)
		}
	}
	if n, e := Resolve(2026, 10, api.On{Kind: api.OnLast}); n != number(t, 2026, 10, 25) || e != api.OK {
		t.Error(n, e)
	}
	// The months beside: December 31 of year 0, January of 10000.
	if n, e := Resolve(1, 1, api.On{Kind: api.OnBefore, Week: 0, Day: 1}); n != number(t, 0, 12, 31) || e != api.OK {
		t.Error(n, e)
	}
	if n, e := Resolve(9999, 12, api.On{Kind: api.OnAfter, Week: 6, Day: 31}); n != number(t, 10000, 1, 1) || e != api.OK {
		t.Error(n, e)
	}
}

func TestFirstAndLastAreNth(t *testing.T) {
	for _, year := range []int{1, 1999, 2000, 2024, 9999} {
		for month := 1; month <= 12; month++ {
			from, size := number(t, year, month, 1), civil.Len(year, month)
			for w := 0; w < 7; w++ {
				first, _ := Resolve(year, month, api.On{Kind: api.OnAfter, Week: w, Day: 1})
				last, _ := Resolve(year, month, api.On{Kind: api.OnLast, Week: w})
				before, _ := Resolve(year, month, api.On{Kind: api.OnBefore, Week: w, Day: size})
				if n, ok := Nth(from, from+size-1, 1, w); n != first || !ok {
					t.Error(year, month, w, n, ok)
				}
				if n, ok := Nth(from, from+size-1, -1, w); n != last || !ok || before != last {
					t.Error(year, month, w, n, ok, before)
				}
			}
		}
	}
}

func TestNthCountsFromBothEnds(t *testing.T) {
	for from := -9; from <= 9; from++ {
		for size := -2; size <= 30; size++ {
			for w := 0; w < 7; w++ {
				var l []int
				for n := from; n < from+size; n++ {
					if civil.Weekday(n) == w {
						l = append(l, n)
					}
				}
				for num := -7; num <= 7; num++ {
					want, is := 0, false
					if num > 0 && num <= len(l) {
						want, is = l[num-1], true
					} else if num < 0 && -num <= len(l) {
						want, is = l[len(l)+num], true
					}
					if n, ok := Nth(from, from+size-1, num, w); n != want || ok != is {
						t.Fatal(from, size, w, num, n, ok)
					}
				}
			}
		}
	}
}

func TestNthAtTheEdges(t *testing.T) {
	const far = 7 * 1000
	for _, c := range []struct {
		from, to, num, week int
		ok                  bool
	}{{0, far, 1000, 4, true}, {0, far + 7, 1001, 4, false}, {0, far, -1000, 4, true}, {0, far + 7, -1001, 4, false}, {0, far, 1, -1, false}, {0, far, 1, 7, false}, {0, far, math.MinInt, 0, false}, {0, far, math.MaxInt, 0, false}, {0, far, 0, 0, false}, {math.MinInt, math.MaxInt, 1000, 3, true}, {math.MinInt, math.MaxInt, -1000, 3, true}, {math.MaxInt - 20, math.MaxInt, 4, 3, false}, {math.MinInt, math.MinInt + 20, -4, 3, false}, {math.MaxInt, math.MinInt, 1, 3, false}, {math.MaxInt, math.MinInt, -1, 3, false}, {math.MaxInt, math.MaxInt, 1, civil.Weekday(math.MaxInt), true}, {math.MinInt, math.MinInt, -1, civil.Weekday(math.MinInt), true}} {
		n, ok := Nth(c.from, c.to, c.num, c.week)
		if ok != c.ok || !ok && n != 0 || ok && (civil.Weekday(n) != c.week || n < c.from || n > c.to) {
			t.Error(c, n, ok)
		}
	}
}

func TestNoIsThatOfTheCalendar(t *testing.T) {
	first, last := number(t, 1, 1, 1), number(t, 9999, 12, 31)
	day := time.Date(1, 1, 1, 0, 0, 0, 0, time.UTC)
	for n := first; n <= last; n++ {
		y, no := day.ISOWeek()
		if year, w, e := No(n, 1); year != y || w != no || e != api.OK {
			t.Fatal(n, year, w, e, y, no)
		}
		day = day.AddDate(0, 0, 1)
	}
	for _, n := range []int{first - 1, last + 1, math.MinInt, math.MaxInt} {
		if year, w, e := No(n, 1); year != 0 || w != 0 || e != api.ErrYear {
			t.Error(n, year, w, e)
		}
	}
	for _, w := range []int{-1, 7, math.MinInt, math.MaxInt} {
		if _, _, e := No(math.MaxInt, w); e != api.ErrArg {
			t.Error(w, e)
		}
		if n, e := Weeks(math.MaxInt, w); n != 0 || e != api.ErrArg {
			t.Error(w, n, e)
		}
	}
}

func TestWeeksOfAllBeginnings(t *testing.T) {
	for wkst := 0; wkst < 7; wkst++ {
		for n := number(t, 1, 1, 8); n < number(t, 9999, 12, 20); n += 5 {
			year, no, e := No(n, wkst)
			later, then, _ := No(n+7, wkst)
			if e != api.OK || later == year && then != no+1 || later != year && (later != year+1 || then != 1) {
				t.Fatal(n, wkst, year, no, later, then)
			}
			if size, e := Weeks(year, wkst); e != api.OK || later != year && size != no || no > size {
				t.Fatal(n, wkst, size, e, no)
			}
			if civil.Weekday(n) == wkst && n > number(t, 1, 1, 8) {
				if y, w, _ := No(n-1, wkst); y == year && w == no {
					t.Fatal(n, wkst, "the week goes on over its beginning")
				}
			}
		}
	}
	for _, year := range []int{0, 10000, -1, math.MinInt, math.MaxInt} {
		if n, e := Weeks(year, 0); n != 0 || e != api.ErrYear {
			t.Error(year, n, e)
		}
	}
	// The years beside, by their weeks: January 1 of year 1 is a Monday.
	if year, no, e := No(number(t, 1, 1, 1), 4); year != 0 || no != 53 || e != api.OK {
		t.Error(year, no, e)
	}
	if n, e := Weeks(9999, 1); n != 52 || e != api.OK {
		t.Error(n, e)
	}
}
