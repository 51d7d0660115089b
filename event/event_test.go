package event

import (
	"math"
	"math/rand"
	"reflect"
	"slices"
	"strings"
	"testing"
	"time"

	"solstice/api"
	"solstice/recur"
	"solstice/rrule"
	"solstice/source"
	"solstice/turns"
	"solstice/zic"
)

const text = `
Rule EU 1981 max - Mar lastSun 1:00u 1:00 S
Rule EU 1996 max - Oct lastSun 1:00u 0 -
Zone Berlin 1:00 - CET 1980
1:00 EU CE%sT
Link Berlin Oslo
Zone Bad 0 - /A
Zone Late 0 - A 9995
0 - B
Rule L 1990 only - Jan 1 0 0 X
Rule L 2003 only - Jan 1 0 1 -
Zone Soon 0 L %s
`

func read(t *testing.T) api.Source {
	t.Helper()
	s, line, e := source.Parse(text)
	if e != api.OK {
		t.Fatal(line, e)
	}
	return s
}

func at(y, m, d, hour, minute int) int {
	return int(time.Date(y, time.Month(m), d, hour, minute, 0, 0, time.UTC).Unix())
}

func rule(t *testing.T, s string) api.Recur {
	t.Helper()
	r, e := recur.Parse(s)
	if e != api.OK {
		t.Fatal(s, e)
	}
	return r
}

func say(l []int) string {
	var b []string
	for _, t := range l {
		b = append(b, time.Unix(int64(t), 0).UTC().Format("20060102T1504"))
	}
	return strings.Join(b, " ")
}

func TestUtc(t *testing.T) {
	s := read(t)
	start := at(2026, 3, 27, 2, 30)
	daily := api.Event{Start: start, Has: true, Rule: rule(t, "FREQ=DAILY")}
	with := func(change func(x *api.Event)) api.Event {
		x := daily
		change(&x)
		return x
	}
	for _, c := range []struct {
		x    api.Event
		a, b int
		want string
	}{
		{api.Event{Start: start}, at(2026, 1, 1, 0, 0), at(2026, 12, 31, 0, 0), "20260327T0130"},
		{api.Event{Start: start}, start - 3600, start - 3600, "20260327T0130"},
		{api.Event{Start: start}, start - 3599, start, ""},
		// On March 29 there is no 2:30: the offset ahead of the gap counts.
		{daily, at(2026, 3, 1, 0, 0), at(2026, 3, 31, 0, 0), "20260327T0130 20260328T0130 20260329T0130 20260330T0030"},
		{daily, at(2026, 3, 28, 1, 30), at(2026, 3, 30, 0, 30), "20260328T0130 20260329T0130 20260330T0030"},
		{daily, at(2026, 3, 28, 1, 31), at(2026, 3, 30, 0, 29), "20260329T0130"},
		// The gap's end is of the time behind it.
		{api.Event{Start: at(2026, 3, 29, 3, 0), Dates: []int{at(2026, 3, 29, 3, 0) - 1}}, at(2026, 3, 29, 0, 0), at(2026, 3, 30, 0, 0), "20260329T0100 20260329T0159"},
		// On October 25 there are two: the first one counts.
		{daily, at(2026, 10, 24, 0, 0), at(2026, 10, 27, 0, 0), "20261024T0030 20261025T0030 20261026T0130"},
		{with(func(x *api.Event) { x.Not = []int{start, start + 2*api.Day, start + 1} }), at(2026, 3, 1, 0, 0), at(2026, 3, 31, 0, 0), "20260328T0130 20260330T0030"},
		{with(func(x *api.Event) { x.Dates = []int{start + api.Day, start - 9*api.Day, start + 3600, start + 3600} }), at(2026, 3, 1, 0, 0), at(2026, 3, 29, 0, 0), "20260318T0130 20260327T0130 20260327T0230 20260328T0130"},
		{api.Event{Start: start, Dates: []int{start, start + 60}, Not: []int{start}}, at(2026, 3, 1, 0, 0), at(2026, 3, 29, 0, 0), "20260327T0131"},
		// Two local times that are one time.
		{api.Event{Start: at(2026, 3, 29, 2, 30), Dates: []int{at(2026, 3, 29, 3, 30)}}, at(2026, 3, 1, 0, 0), at(2026, 3, 30, 0, 0), "20260329T0130"},
		{with(func(x *api.Event) { x.Rule = rule(t, "FREQ=DAILY;COUNT=2") }), at(2026, 3, 1, 0, 0), at(2026, 3, 31, 0, 0), "20260327T0130 20260328T0130"},
		// An end that is local, one of UTC, and one ahead of the start.
		{with(func(x *api.Event) { x.Rule = rule(t, "FREQ=DAILY;UNTIL=20260329T023000") }), at(2026, 3, 1, 0, 0), at(2026, 3, 31, 0, 0), "20260327T0130 20260328T0130 20260329T0130"},
		{with(func(x *api.Event) { x.Rule = rule(t, "FREQ=DAILY;UNTIL=20260329T013000Z") }), at(2026, 3, 1, 0, 0), at(2026, 3, 31, 0, 0), "20260327T0130 20260328T0130 20260329T0130"},
		{with(func(x *api.Event) { x.Rule = rule(t, "FREQ=DAILY;UNTIL=20260329T012959Z") }), at(2026, 3, 1, 0, 0), at(2026, 3, 31, 0, 0), "20260327T0130 20260328T0130"},
		{with(func(x *api.Event) { x.Rule = rule(t, "FREQ=DAILY;UNTIL=20260330T003000Z") }), at(2026, 3, 1, 0, 0), at(2026, 3, 31, 0, 0), "20260327T0130 20260328T0130 20260329T0130 20260330T0030"},
		{with(func(x *api.Event) { x.Rule = rule(t, "FREQ=DAILY;UNTIL=20200101T000000Z"); x.Dates = []int{start + 60} }), at(2026, 3, 1, 0, 0), at(2026, 3, 31, 0, 0), "20260327T0130 20260327T0131"},
		{with(func(x *api.Event) { x.Rule = rule(t, "FREQ=DAILY;UNTIL=20200101T000000") }), at(2026, 3, 1, 0, 0), at(2026, 3, 31, 0, 0), "20260327T0130"},
		{api.Event{Start: at(1, 1, 1, 0, 0), Dates: []int{at(9990, 12, 31, 23, 59)}}, at(1, 1, 1, 0, 0), at(9990, 12, 31, 23, 59), "99901231T2259"},
	} {
		for _, name := range []string{"Berlin", "Oslo"} {
			l, e := Utc(s, name, c.x, c.a, c.b, api.MaxFuel)
			if say(l) != c.want || e != api.OK {
				t.Errorf("%v %s:\n%s %d\n%s", c.x, say([]int{c.a, c.b}), say(l), e, c.want)
			}
		}
	}
}

func TestCheck(t *testing.T) {
	const half = api.MaxNum / 2
	right := api.Event{Start: at(1, 1, 1, 0, 0), Has: true, Rule: rule(t, "FREQ=DAILY"), Dates: []int{half, -half}, Not: make([]int, 2000)}
	if e := Check(right); e != api.OK {
		t.Error(e)
	}
	for k, change := range []func(x *api.Event){
		func(x *api.Event) { x.Start-- },
		func(x *api.Event) { x.Start = at(9991, 1, 1, 0, 0) },
		func(x *api.Event) { x.Start = math.MinInt },
		func(x *api.Event) { x.Start = math.MaxInt },
		func(x *api.Event) { x.Has = false },
		func(x *api.Event) { x.Has, x.Rule = false, api.Recur{Wkst: 1} },
		func(x *api.Event) { x.Has, x.Rule = false, api.Recur{Month: []int{1}} },
		func(x *api.Event) { x.Rule = api.Recur{} },
		func(x *api.Event) { x.Rule.Interval = 0 },
		func(x *api.Event) { x.Dates = []int{0, half + 1} },
		func(x *api.Event) { x.Dates = []int{-half - 1} },
		func(x *api.Event) { x.Dates = make([]int, 2001) },
		func(x *api.Event) { x.Not = make([]int, 2001) },
		func(x *api.Event) { x.Not = []int{math.MaxInt} },
		func(x *api.Event) { x.Not = []int{math.MinInt} },
	} {
		x := right
		change(&x)
		if e := Check(x); e != api.ErrArg {
			t.Error(k, e)
		}
	}
	for k, x := range []api.Event{{Start: at(9990, 12, 31, 23, 59)}, {Rule: api.Recur{Days: []api.ByDay{}}}, {Dates: make([]int, 2000)}} {
		if e := Check(x); e != api.OK {
			t.Error(k, e)
		}
	}
}

func TestFaultsInOrder(t *testing.T) {
	const half = api.MaxNum / 2
	s := read(t)
	daily := api.Event{Has: true, Rule: rule(t, "FREQ=DAILY")}
	bad := api.Event{Start: math.MinInt}
	first, last := at(1, 1, 1, 0, 0), at(9990, 12, 31, 23, 59)+59
	for k, c := range []struct {
		name       string
		x          api.Event
		a, b, fuel int
		want       api.Errno
	}{
		{"Paris", bad, 1, 0, -1, api.ErrNone},
		{"Bad", bad, 1, 0, -1, api.ErrArg},
		{"Bad", daily, 1, 0, -1, api.ErrArg},
		{"Bad", daily, first - 1, last, -1, api.ErrYear},
		{"Bad", daily, first, last + 1, -1, api.ErrYear},
		{"Bad", daily, math.MinInt, math.MaxInt, -1, api.ErrYear},
		{"Bad", daily, 0, 1, -1, api.ErrFormat},
		// A name that is none, met two years behind the window's end.
		{"Soon", api.Event{Dates: []int{at(2000, 1, 1, 0, 0)}}, 0, at(2000, 12, 31, 23, 59), 0, api.OK},
		{"Soon", api.Event{Dates: []int{at(2000, 1, 1, 0, 0)}}, 0, at(2001, 1, 1, 0, 0), 0, api.ErrFormat},
		{"Late", daily, 0, 1, -1, api.ErrArg},
		{"Late", daily, 0, 1, api.MaxFuel + 1, api.ErrArg},
		{"Late", daily, 0, 1, 2, api.ErrFuel},
		{"Late", daily, 0, 1, 6, api.OK},
		{"Late", api.Event{Dates: []int{5}}, 5, 5, -1, api.OK},
		{"Late", daily, at(1900, 1, 1, 0, 0), last, api.MaxFuel, api.ErrFuel},
	} {
		l, e := Utc(s, c.name, c.x, c.a, c.b, c.fuel)
		if e != c.want || (e == api.OK) != (len(l) > 0) {
			t.Error(k, l, e)
		}
	}
	for k, c := range []struct {
		first api.Turn
		l     []api.Turn
		x     api.Event
		a, b  int
		fuel  int
		want  api.Errno
	}{
		{api.Turn{Off: 172800}, nil, bad, 1, 0, -1, api.ErrArg},
		{api.Turn{Off: 172800}, nil, daily, first - 1, last, 9, api.ErrArg},
		{api.Turn{Off: -172800}, nil, daily, 0, 1, 9, api.ErrArg},
		{api.Turn{At: half + 1}, nil, daily, 0, 1, 9, api.ErrArg},
		{api.Turn{}, []api.Turn{{}, {Off: math.MinInt}}, daily, 0, 1, 9, api.ErrArg},
		{api.Turn{}, []api.Turn{{At: -half - 1}, {}}, daily, 0, 1, 9, api.ErrArg},
		{api.Turn{}, nil, daily, 1, 0, 9, api.ErrArg},
		{api.Turn{}, nil, daily, first - 1, last, 9, api.ErrYear},
		{api.Turn{}, nil, daily, 0, 1, -1, api.ErrArg},
		{api.Turn{}, nil, daily, 0, 1, 5, api.ErrFuel},
		{api.Turn{Off: 172799, At: half}, []api.Turn{{At: -half, Off: -172799}}, daily, 0, 1, 100, api.OK},
	} {
		l, cost, e := Expand(c.first, c.l, c.x, c.a, c.b, c.fuel)
		if e != c.want || e != api.OK && (len(l) != 0 || cost != 0) {
			t.Error(k, l, cost, e)
		}
	}
}

func TestCost(t *testing.T) {
	r := rule(t, "FREQ=DAILY")
	_, want, _ := rrule.Times(r, 0, -2*api.Day, 7*api.Day+2*api.Day, api.MaxFuel)
	l, cost, e := Expand(api.Turn{}, nil, api.Event{Has: true, Rule: r}, 0, 7*api.Day, api.MaxFuel)
	if len(l) != 8 || cost != want || cost == 0 || e != api.OK {
		t.Error(l, cost, e)
	}
	// An end of UTC saves nothing: the rule is taken as without it.
	r = rule(t, "FREQ=DAILY;UNTIL=19700102T000000Z")
	l, cost, e = Expand(api.Turn{}, nil, api.Event{Has: true, Rule: r}, 0, 7*api.Day, api.MaxFuel)
	if len(l) != 2 || cost != want || e != api.OK {
		t.Error(l, cost, e)
	}
	if l, cost, e := Expand(api.Turn{}, nil, api.Event{}, 0, api.Day, 0); len(l) != 1 || cost != 0 || e != api.OK {
		t.Error(l, cost, e)
	}
}

// Turns in any order are taken as zic.Among takes them.
func TestExpandIsAsSaidOnceMore(t *testing.T) {
	r := rand.New(rand.NewSource(1))
	rules := []string{"FREQ=DAILY", "FREQ=HOURLY;INTERVAL=5", "FREQ=WEEKLY;BYDAY=SU,MO;COUNT=7", "FREQ=DAILY;UNTIL=19700301T120000", "FREQ=DAILY;UNTIL=19700301T120000Z"}
	told := 0
	for range 2000 {
		first := api.Turn{Off: r.Intn(345599) - 172799}
		var l []api.Turn
		for range r.Intn(6) {
			l = append(l, api.Turn{At: r.Intn(100 * api.Day), Off: r.Intn(345599) - 172799})
		}
		x := api.Event{Start: r.Intn(60 * api.Day)}
		for range r.Intn(4) {
			x.Dates = append(x.Dates, r.Intn(100*api.Day))
		}
		if r.Intn(3) > 0 {
			x.Has, x.Rule = true, rule(t, rules[r.Intn(len(rules))])
		}
		a := r.Intn(50 * api.Day)
		b := a + r.Intn(50*api.Day)
		plain := x.Rule
		if plain.Utc {
			plain.Until, plain.UntilAt, plain.Utc = false, 0, false
		}
		locals := append([]int{x.Start}, x.Dates...)
		if x.Has {
			more, _, _ := rrule.Times(plain, x.Start, -5*api.Day, 200*api.Day, api.MaxFuel)
			for _, local := range more {
				if !x.Rule.Utc || local == x.Start || zic.Among(first, l, local) <= x.Rule.UntilAt {
					locals = append(locals, local)
				}
			}
		}
		if r.Intn(2) == 0 {
			x.Not = append(x.Not, locals[r.Intn(len(locals))], locals[r.Intn(len(locals))])
		}
		var want []int
		for _, local := range locals {
			if n := zic.Among(first, l, local); n >= a && n <= b && !slices.Contains(x.Not, local) && !slices.Contains(want, n) {
				want = append(want, n)
			}
		}
		slices.Sort(want)
		kept, keptTurns := x, slices.Clone(l)
		kept.Dates, kept.Not = slices.Clone(x.Dates), slices.Clone(x.Not)
		got, _, e := Expand(first, l, x, a, b, api.MaxFuel)
		if !slices.Equal(got, want) || e != api.OK {
			t.Fatal(first, l, x, a, b, say(got), say(want), e)
		}
		if !slices.Equal(kept.Dates, x.Dates) || !slices.Equal(kept.Not, x.Not) || !reflect.DeepEqual(kept.Rule, x.Rule) || !slices.Equal(keptTurns, l) {
			t.Fatal("arguments are changed")
		}
		told += len(got)
	}
	if told < 1000 {
		t.Fatal("too little is seen", told)
	}
}

func TestManyTimesAndTurnsAreTakenSoon(t *testing.T) {
	s := read(t)
	first, l, e := turns.Of(s, "Berlin", 9992)
	if e != api.OK {
		t.Fatal(e)
	}
	x := api.Event{Start: at(9700, 1, 1, 0, 0), Has: true, Rule: rule(t, "FREQ=DAILY")}
	out, _, e := Expand(first, l, x, at(9700, 1, 1, 0, 0), at(9970, 1, 1, 0, 0), api.MaxFuel)
	if len(out) < 98000 || e != api.OK {
		t.Error(len(out), e)
	}
}
