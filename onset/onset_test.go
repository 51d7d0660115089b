package onset

import (
	"math"
	"reflect"
	"slices"
	"testing"

	"solstice/api"
	"solstice/civil"
)

func local(t *testing.T, y, m, d, secs int) int {
	t.Helper()
	n, e := civil.Number(api.Date{Year: y, Month: m, Day: d})
	if e != api.OK {
		t.Fatal(y, m, d, e)
	}
	return n*api.Day + secs
}

func plain(name string, from, to, month, day, save int, letter string) api.Rule {
	return api.Rule{Name: name, From: from, To: to, Month: month, On: api.On{Kind: api.OnDay, Day: day}, At: api.At{Kind: api.AtWall}, Save: save, Letter: letter}
}

func TestOf(t *testing.T) {
	l := []api.Rule{
		plain("B", 1, 9999, 1, 1, 0, ""),
		plain("A", 2000, 2002, 10, 1, 0, "W"),
		plain("A", 2001, 2001, 3, 1, 3600, "S"),
		plain("A", 1999, 1999, 3, 1, 3600, "S"),
	}
	l[2].At.Secs = -api.MaxSecs
	l[3].At = api.At{Secs: 7200, Kind: api.AtUtc}
	want := []api.Onset{
		{Rule: 3, Year: 1999, Local: local(t, 1999, 3, 1, 7200)},
		{Rule: 1, Year: 2000, Local: local(t, 2000, 10, 1, 0)},
		{Rule: 2, Year: 2001, Local: local(t, 2001, 2, 25, 0)},
		{Rule: 1, Year: 2001, Local: local(t, 2001, 10, 1, 0)},
		{Rule: 1, Year: 2002, Local: local(t, 2002, 10, 1, 0)},
	}
	for last, size := range map[int]int{1: 0, 1998: 0, 1999: 1, 2000: 2, 2001: 4, 2002: 5, 9999: 5} {
		if got, e := Of(l, "A", last); e != api.OK || !slices.Equal(got, want[:size]) {
			t.Error(last, got, e)
		}
	}
	for _, name := range []string{"", "C", "a"} {
		if got, e := Of(l, name, 9999); len(got) != 0 || e != api.OK {
			t.Error(name, got, e)
		}
	}
	if got, e := Of(nil, "A", 9999); len(got) != 0 || e != api.OK {
		t.Error(got, e)
	}
	if got, e := Of(l, "B", 9999); len(got) != 9999 || e != api.OK {
		t.Error(len(got), e)
	}
}

func TestOnsetsOfOneTimeStandByRule(t *testing.T) {
	l := []api.Rule{plain("A", 2000, 2001, 1, 2, 0, ""), plain("A", 2000, 2001, 1, 1, 0, ""), plain("A", 2000, 2001, 1, 1, 0, "")}
	l[1].At.Secs = api.Day
	// December 31 of 2000 and two days behind it is January 2 of 2001.
	l = append(l, plain("A", 2000, 2000, 12, 31, 0, ""))
	l[3].At.Secs = 2 * api.Day
	got, e := Of(l, "A", 2001)
	var rules, years []int
	for _, x := range got {
		rules, years = append(rules, x.Rule), append(years, x.Year)
	}
	if e != api.OK || !slices.Equal(rules, []int{2, 0, 1, 2, 0, 1, 3}) || !slices.Equal(years, []int{2000, 2000, 2000, 2001, 2001, 2001, 2000}) {
		t.Error(rules, years, e)
	}
}

func TestADayThatAYearHasNot(t *testing.T) {
	r := plain("A", 2000, 2009, 2, 1, 0, "X")
	r.On = api.On{Kind: api.OnAfter, Week: 0, Day: 29}
	got, e := Of([]api.Rule{r}, "A", 9999)
	var years []int
	for _, x := range got {
		years = append(years, x.Year)
	}
	if e != api.OK || !slices.Equal(years, []int{2000, 2004, 2008}) || got[0].Local != local(t, 2000, 3, 5, 0) {
		t.Error(got, e)
	}
	r = plain("A", 2001, 2001, 2, 29, 0, "X")
	if got, e := Of([]api.Rule{r}, "A", 9999); len(got) != 0 || e != api.OK {
		t.Error(got, e)
	}
	if s, e := Letter([]api.Rule{r, plain("A", 2005, 2005, 1, 1, 0, "Y")}, "A"); s != "Y" || e != api.OK {
		t.Error(s, e)
	}
}

func TestLetter(t *testing.T) {
	late := plain("A", 2000, 2001, 1, 1, 0, "late")
	late.At.Secs = 3600
	for k, c := range []struct {
		l    []api.Rule
		want string
	}{
		{nil, ""},
		{[]api.Rule{plain("B", 2000, 2000, 1, 1, 0, "B")}, ""},
		{[]api.Rule{plain("A", 2000, 2000, 1, 1, 1, "S")}, ""},
		{[]api.Rule{plain("A", 1990, 2000, 1, 1, 1, "S"), plain("A", 2000, 2000, 1, 1, 0, "W")}, "W"},
		{[]api.Rule{plain("A", 2000, 2000, 2, 1, 0, "a"), plain("A", 2000, 2000, 1, 1, 0, "b")}, "b"},
		{[]api.Rule{plain("A", 2000, 2000, 1, 1, 0, "a"), plain("A", 2000, 2009, 1, 1, 0, "b")}, "a"},
		{[]api.Rule{late, plain("A", 2000, 2009, 1, 1, 0, "b")}, "b"},
		{[]api.Rule{plain("A", 9999, 9999, 1, 1, 0, "x")}, "x"},
		{[]api.Rule{plain("A", 1990, 1990, 1, 1, 0, ""), plain("A", 1991, 1991, 1, 1, 0, "x")}, ""},
	} {
		if s, e := Letter(c.l, "A"); s != c.want || e != api.OK {
			t.Error(k, s, e)
		}
	}
}

func TestFaultsInOrder(t *testing.T) {
	bad := plain("B", 2000, 1999, 1, 1, 0, "")
	good := plain("B", 2000, 2000, 1, 1, 0, "")
	for k, c := range []struct {
		l    []api.Rule
		last int
		want api.Errno
	}{
		{make([]api.Rule, api.MaxRules+1), 0, api.ErrLen},
		{make([]api.Rule, api.MaxRules), 0, api.ErrRule},
		{[]api.Rule{good, bad}, 0, api.ErrRule},
		{[]api.Rule{good}, 0, api.ErrYear},
		{[]api.Rule{good}, 10000, api.ErrYear},
		{nil, math.MinInt, api.ErrYear},
		{nil, math.MaxInt, api.ErrYear},
		{slices.Repeat([]api.Rule{good}, api.MaxRules), 9999, api.OK},
	} {
		if l, e := Of(c.l, "A", c.last); len(l) != 0 || e != c.want {
			t.Error(k, l, e)
		}
		want := c.want
		if want == api.ErrYear {
			want = api.OK
		}
		if s, e := Letter(c.l, "A"); s != "" || e != want {
			t.Error(k, s, e)
		}
	}
}

func TestALaterYearOnlyAdds(t *testing.T) {
	l := []api.Rule{plain("A", 1990, 9999, 3, 31, 3600, "S"), plain("A", 1990, 9999, 9, 30, 0, "W"), plain("A", 1995, 2005, 12, 31, 60, "X")}
	l[2].At.Secs = api.MaxSecs
	before := slices.Clone(l)
	all, _ := Of(l, "A", 2010)
	for last := 1985; last < 2010; last++ {
		got, _ := Of(l, "A", last)
		want := slices.DeleteFunc(slices.Clone(all), func(x api.Onset) bool { return x.Year > last })
		if !slices.Equal(got, want) {
			t.Error(last)
		}
	}
	if !reflect.DeepEqual(l, before) {
		t.Error("the rules are changed")
	}
}
