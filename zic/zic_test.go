package zic

import (
	"math"
	"math/rand"
	"slices"
	"testing"
	"time"

	"solstice/api"
	"solstice/source"
	"solstice/turns"
)

const text = `
Rule EU 1981 max - Mar lastSun 1:00u 1:00 S
Rule EU 1996 max - Oct lastSun 1:00u 0 -
Zone Berlin 0:53:28 - LMT 1893 Apr
1:00 - CET 1980
1:00 EU CE%sT
Link Berlin Oslo
Zone Jump -10 - A 2011 Dec 30
14 - B
Zone Back 14 - B 2011 Dec 30
-10 - A
Zone Fixed 5:30 - IST
Zone Bad 0 - /A
Zone Late 0 - A 9999
0 - B
Rule L 1990 only - Jan 1 0 0 X
Rule L 2003 only - Jan 1 0 1 -
Zone Soon 0 L %s
Zone Sooner 0 L %s 2010
0 - A
`

func read(t *testing.T) api.Source {
	t.Helper()
	s, line, e := source.Parse(text)
	if e != api.OK {
		t.Fatal(line, e)
	}
	return s
}

func at(y, m, d, hour, minute int) int {
	return int(time.Date(y, time.Month(m), d, hour, minute, 0, 0, time.UTC).Unix())
}

func TestAt(t *testing.T) {
	s := read(t)
	for _, c := range []struct {
		name string
		t    int
		want api.Turn
	}{
		{"Berlin", at(1, 1, 1, 0, 0), api.Turn{Off: 3208, Abbr: "LMT", Rule: -1}},
		{"Berlin", at(1893, 3, 31, 23, 6), api.Turn{Off: 3208, Abbr: "LMT", Rule: -1}},
		{"Berlin", at(1893, 3, 31, 23, 7), api.Turn{At: at(1893, 3, 31, 23, 6) + 32, Off: 3600, Abbr: "CET", Rule: -1}},
		{"Berlin", at(2026, 3, 29, 1, 0) - 1, api.Turn{At: at(2025, 10, 26, 1, 0), Off: 3600, Abbr: "CET", Rule: 1, Year: 2025}},
		{"Berlin", at(2026, 3, 29, 1, 0), api.Turn{At: at(2026, 3, 29, 1, 0), Off: 7200, Save: 3600, Abbr: "CEST", Rule: 0, Year: 2026}},
		{"Oslo", at(9990, 12, 31, 23, 59), api.Turn{At: at(9990, 10, 28, 1, 0), Off: 3600, Abbr: "CET", Rule: 1, Year: 9990}},
		{"Fixed", 0, api.Turn{Off: 19800, Abbr: "IST", Rule: -1}},
	} {
		if got, e := At(s, c.name, c.t); got != c.want || e != api.OK {
			t.Error(c, got, e)
		}
	}
}

func TestFaultsInOrder(t *testing.T) {
	s := read(t)
	first, last := at(1, 1, 1, 0, 0), at(9990, 12, 31, 23, 59)+59
	for _, c := range []struct {
		s    api.Source
		name string
		t    int
		want api.Errno
	}{
		{api.Source{Rules: make([]api.Rule, 1)}, "", math.MinInt, api.ErrRule},
		{s, "Paris", math.MinInt, api.ErrNone},
		{s, "Bad", first - 1, api.ErrYear},
		{s, "Bad", last + 1, api.ErrYear},
		{s, "Bad", math.MinInt, api.ErrYear},
		{s, "Bad", math.MaxInt, api.ErrYear},
		{s, "Bad", first, api.ErrFormat},
		{s, "Late", first, api.ErrYear},
		// A name that is none, met in the last year that is looked up to: two behind the time's own, or the one that the zone needs.
		{s, "Soon", at(2000, 12, 31, 23, 59), api.OK},
		{s, "Soon", at(2001, 1, 1, 0, 0), api.ErrFormat},
		{s, "Sooner", at(1950, 1, 1, 0, 0), api.ErrFormat},
		{s, "Fixed", first, api.OK},
		{s, "Fixed", last, api.OK},
	} {
		if got, e := At(c.s, c.name, c.t); e != c.want || e != api.OK && got != (api.Turn{}) {
			t.Error(c.name, c.t, got, e)
		}
		if got, e := Local(c.s, c.name, c.t); e != c.want || e != api.OK && got != 0 {
			t.Error(c.name, c.t, got, e)
		}
	}
}

func TestLocal(t *testing.T) {
	s := read(t)
	for _, c := range []struct {
		name        string
		local, want int
	}{
		// In the gap the offset ahead of it counts; of two times the first one.
		{"Berlin", at(2026, 3, 29, 1, 59), at(2026, 3, 29, 0, 59)},
		{"Berlin", at(2026, 3, 29, 2, 0), at(2026, 3, 29, 1, 0)},
		{"Berlin", at(2026, 3, 29, 2, 30), at(2026, 3, 29, 1, 30)},
		{"Berlin", at(2026, 3, 29, 3, 0) - 1, at(2026, 3, 29, 2, 0) - 1},
		{"Berlin", at(2026, 3, 29, 3, 0), at(2026, 3, 29, 1, 0)},
		{"Berlin", at(2026, 10, 25, 2, 0), at(2026, 10, 25, 0, 0)},
		{"Berlin", at(2026, 10, 25, 3, 0) - 1, at(2026, 10, 25, 1, 0) - 1},
		{"Berlin", at(2026, 10, 25, 3, 0), at(2026, 10, 25, 2, 0)},
		{"Berlin", at(1, 1, 1, 0, 0), at(1, 1, 1, 0, 0) - 3208},
		{"Jump", at(2011, 12, 30, 12, 0), at(2011, 12, 30, 22, 0)},
		{"Jump", at(2011, 12, 31, 0, 0), at(2011, 12, 30, 10, 0)},
		{"Back", at(2011, 12, 29, 12, 0), at(2011, 12, 28, 22, 0)},
		{"Back", at(2011, 12, 30, 0, 0), at(2011, 12, 30, 10, 0)},
		{"Fixed", 19800, 0},
	} {
		if got, e := Local(s, c.name, c.local); got != c.want || e != api.OK {
			t.Error(c, got, e)
		}
	}
}

func TestAmongAtTheEdges(t *testing.T) {
	const half = api.MaxNum / 2
	turn := func(at, off int) api.Turn { return api.Turn{At: at, Off: off} }
	for k, c := range []struct {
		first api.Turn
		l     []api.Turn
		local int
		want  int
	}{
		{turn(0, 10), nil, 100, 90},
		{turn(half, -half), nil, half, 2 * half},
		{turn(half+1, 10), nil, 100, 0},
		{turn(0, half+1), nil, 100, 0},
		{turn(0, -half-1), nil, 100, 0},
		{turn(0, 10), nil, half + 1, 0},
		{turn(0, 10), nil, -half - 1, 0},
		{turn(0, 10), nil, math.MinInt, 0},
		{turn(0, 10), []api.Turn{turn(half, half)}, half, half - 10},
		{turn(0, 10), []api.Turn{turn(0, 0), turn(-half-1, 0)}, 100, 0},
		{turn(0, 10), []api.Turn{turn(0, math.MaxInt), turn(0, 0)}, 100, 0},
		{turn(0, 10), []api.Turn{turn(math.MinInt, 0)}, 100, 0},
		// The last one in order counts, though it stand ahead in time.
		{turn(0, 10), []api.Turn{turn(50, 20), turn(40, 5)}, 100, 95},
		{turn(0, 10), []api.Turn{turn(40, 5), turn(90, 20)}, 100, 95},
		{turn(0, 10), []api.Turn{turn(40, 5), turn(90, 20)}, 109, 104},
		{turn(0, 10), []api.Turn{turn(40, 5), turn(90, 20)}, 110, 90},
		{turn(0, 10), []api.Turn{turn(90, 5)}, 99, 89},
		{turn(0, 10), []api.Turn{turn(90, 5)}, 100, 95},
	} {
		if got := Among(c.first, c.l, c.local); got != c.want {
			t.Error(k, got)
		}
	}
}

// Where turns are more than four days apart, the time of a time's local time is that time, but in what is told twice.
func TestThereAndBack(t *testing.T) {
	r := rand.New(rand.NewSource(1))
	for range 500 {
		first := api.Turn{Off: r.Intn(345600) - 172800}
		var l []api.Turn
		at := r.Intn(1000)
		for range r.Intn(5) {
			l = append(l, api.Turn{At: at, Off: r.Intn(345600) - 172800})
			at += 4*api.Day + 1 + r.Intn(api.Day)
		}
		kept := slices.Clone(l)
		for range 200 {
			x := r.Intn(30*api.Day) - 5*api.Day
			i := turns.Last(l, x)
			now, before := first.Off, first.Off
			if i >= 0 {
				now = l[i].Off
			}
			if i > 0 {
				before = l[i-1].Off
			}
			got := Among(first, l, x+now)
			// What is told twice is told of the first time.
			if twice := i >= 0 && now < before && x < l[i].At+before-now; twice {
				x -= before - now
			}
			if got != x {
				t.Fatal(first, l, x, got)
			}
		}
		if !slices.Equal(l, kept) {
			t.Fatal("the turns are changed")
		}
	}
}
