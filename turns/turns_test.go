package turns

import (
	"math"
	"reflect"
	"slices"
	"strings"
	"testing"
	"time"

	"solstice/api"
	"solstice/source"
)

const rules = `
Rule EU 1977 1980 - Apr Sun>=1 1:00u 1:00 S
Rule EU 1977 only - Sep lastSun 1:00u 0 -
Rule EU 1978 only - Oct 1 1:00u 0 -
Rule EU 1979 1995 - Sep lastSun 1:00u 0 -
Rule EU 1981 max - Mar lastSun 1:00u 1:00 S
Rule EU 1996 max - Oct lastSun 1:00u 0 -
Rule Y 2000 2003 - Mar 1 0 1:00 S
Rule Y 2000 2003 - Oct 1 0 0 W
`

func read(t *testing.T, text string) api.Source {
	t.Helper()
	s, line, e := source.Parse(rules + text)
	if e != api.OK {
		t.Fatal(text, line, e)
	}
	return s
}

func of(t *testing.T, text string, last int) (api.Turn, []api.Turn) {
	t.Helper()
	first, l, e := Of(read(t, text), "Z", last)
	if e != api.OK {
		t.Fatal(text, e)
	}
	return first, l
}

// say writes turns: each its time, offset, saving and name.
func say(first api.Turn, l []api.Turn) string {
	text := []string{one(first)[strings.Index(one(first), " ")+1:]}
	for _, t := range l {
		text = append(text, one(t))
	}
	return strings.Join(text, "; ")
}

func one(t api.Turn) string {
	return time.Unix(int64(t.At), 0).UTC().Format("2006-01-02T15:04:05") + " " + (time.Duration(t.Off) * time.Second).String() + " " + (time.Duration(t.Save) * time.Second).String() + " " + t.Abbr
}

func TestOf(t *testing.T) {
	for text, want := range map[string]string{
		"Zone Z -0:30 - LMT":                "-30m0s 0s LMT",
		"Zone Z 1:00 0:30 LMT/LST":          "1h30m0s 30m0s LST",
		"Zone Z 1:00 Y X%sT":                "1h0m0s 0s XWT; 2000-02-29T23:00:00 2h0m0s 1h0m0s XST; 2000-09-30T22:00:00 1h0m0s 0s XWT; 2001-02-28T23:00:00 2h0m0s 1h0m0s XST; 2001-09-30T22:00:00 1h0m0s 0s XWT",
		"Zone Z 1 - A 1990\n2 - B":          "1h0m0s 0s A; 1989-12-31T23:00:00 2h0m0s 0s B",
		"Zone Z 1 - A 1990\n1 - A":          "1h0m0s 0s A",
		"Zone Z 1 - A 1990\n0 1 A":          "1h0m0s 0s A; 1989-12-31T23:00:00 1h0m0s 1h0m0s A",
		"Zone Z 1 1 A 1990\n2 - A":          "2h0m0s 1h0m0s A; 1989-12-31T22:00:00 2h0m0s 0s A",
		"Zone Z 1 1 A 1990 Jan 1 0s\n2 - A": "2h0m0s 1h0m0s A; 1989-12-31T23:00:00 2h0m0s 0s A",
		"Zone Z 1 1 A 1990 Jan 1 0u\n2 - A": "2h0m0s 1h0m0s A; 1990-01-01T00:00:00 2h0m0s 0s A",
		// An era begins with what its rules have said last, at its beginning or ahead of it.
		"Zone Z 0 - A 2000 Mar 1 0:00u\n0 Y X%sT 2000 Oct 1 0u\n0 - B":           "0s 0s A; 2000-03-01T00:00:00 1h0m0s 1h0m0s XST; 2000-09-30T23:00:00 0s 0s XWT; 2000-10-01T00:00:00 0s 0s B",
		"Zone Z 0 - A 2000 Feb 29 23:59:59u\n0 Y X%sT 2000 Apr\n0 - B":           "0s 0s A; 2000-02-29T23:59:59 0s 0s XWT; 2000-03-01T00:00:00 1h0m0s 1h0m0s XST; 2000-03-31T23:00:00 0s 0s B",
		"Zone Z 0 - A 2000 Jun\n0 Y X%sT 2000 Jul\n0 - B":                        "0s 0s A; 2000-06-01T00:00:00 1h0m0s 1h0m0s XST; 2000-06-30T23:00:00 0s 0s B",
		"Zone Z 0 - A 1999\n0 Y X%sT 2000\n0 - B":                                "0s 0s A; 1999-01-01T00:00:00 0s 0s XWT; 2000-01-01T00:00:00 0s 0s B",
		"Zone Z 0 Y X%sT 2000 Jun\n0 Y U%sT 2000 Jul\n0 - B":                     "0s 0s XWT; 2000-03-01T00:00:00 1h0m0s 1h0m0s XST; 2000-05-31T23:00:00 1h0m0s 1h0m0s UST; 2000-06-30T23:00:00 0s 0s B",
		"Zone Z 0 - A 2000 Jun\n0 1 B 2000 Oct 1 0:00\n0 Y X%sT 2000 Nov\n0 - C": "0s 0s A; 2000-06-01T00:00:00 1h0m0s 1h0m0s B; 2000-09-30T23:00:00 0s 0s XWT; 2000-11-01T00:00:00 0s 0s C",
		// Each era has its own rules' onsets, also where a name comes again.
		"Zone Z 0 Y X%sT 2000 Jun\n0 EU %s 2000 Aug\n0 Y U%sT": "0s 0s XWT; 2000-03-01T00:00:00 1h0m0s 1h0m0s XST; 2000-05-31T23:00:00 1h0m0s 1h0m0s S; 2000-07-31T23:00:00 1h0m0s 1h0m0s UST; 2000-09-30T23:00:00 0s 0s UWT; 2001-03-01T00:00:00 1h0m0s 1h0m0s UST; 2001-09-30T23:00:00 0s 0s UWT",
		// The end hangs on what holds then: at 0:30 by the clock of the time ahead of the change it has not come yet.
		"Zone Z 0 Y X%sT 2000 Mar 1 0:00\n0 - B":    "0s 0s XWT; 2000-03-01T00:00:00 0s 0s B",
		"Zone Z 0 Y X%sT 2000 Mar 1 1:30\n0 - B":    "0s 0s XWT; 2000-03-01T00:00:00 1h0m0s 1h0m0s XST; 2000-03-01T00:30:00 0s 0s B",
		"Zone Z 0 Y X%sT 2000 Oct 1 0:00\n0 - B":    "0s 0s XWT; 2000-03-01T00:00:00 1h0m0s 1h0m0s XST; 2000-09-30T23:00:00 0s 0s B",
		"Zone Z 0 Y X%sT 2000 Oct 1 0:00:01\n0 - B": "0s 0s XWT; 2000-03-01T00:00:00 1h0m0s 1h0m0s XST; 2000-09-30T23:00:00 0s 0s XWT; 2000-10-01T00:00:01 0s 0s B",
		"Rule V 2000 only - Jan 1 0 0 -\nRule V 2000 only - Feb 1 0 0 -\nRule V 2000 only - Mar 1 0 0 S\nZone Z 0 V X%s": "0s 0s X; 2000-03-01T00:00:00 0s 0s XS",
	} {
		first, l := of(t, text, 2001)
		if got := say(first, l); got != want {
			t.Errorf("%s:\n%s\n%s", text, got, want)
		}
	}
}

func TestWhatATurnTells(t *testing.T) {
	first, l := of(t, "Zone Z 0 - A 2000 Feb\n0 Y X%sT 2001 Jun\n0 Y U%sT", 2002)
	if first != (api.Turn{Abbr: "A", Rule: -1}) {
		t.Error(first)
	}
	at := func(s string) int {
		x, err := time.Parse(time.DateTime, s)
		if err != nil {
			t.Fatal(err)
		}
		return int(x.Unix())
	}
	want := []api.Turn{
		{At: at("2000-02-01 00:00:00"), Abbr: "XWT", Rule: -1},
		{At: at("2000-03-01 00:00:00"), Off: 3600, Save: 3600, Abbr: "XST", Rule: 6, Year: 2000},
		{At: at("2000-09-30 23:00:00"), Abbr: "XWT", Rule: 7, Year: 2000},
		{At: at("2001-03-01 00:00:00"), Off: 3600, Save: 3600, Abbr: "XST", Rule: 6, Year: 2001},
		{At: at("2001-05-31 23:00:00"), Off: 3600, Save: 3600, Abbr: "UST", Rule: -1},
		{At: at("2001-09-30 23:00:00"), Abbr: "UWT", Rule: 7, Year: 2001},
		{At: at("2002-03-01 00:00:00"), Off: 3600, Save: 3600, Abbr: "UST", Rule: 6, Year: 2002},
		{At: at("2002-09-30 23:00:00"), Abbr: "UWT", Rule: 7, Year: 2002},
	}
	if !slices.Equal(l, want) {
		t.Error(l)
	}
}

func TestBerlinIsAsTheLibraryHasIt(t *testing.T) {
	zone, err := time.LoadLocation("Europe/Berlin")
	if err != nil {
		t.Skip(err)
	}
	first, l := of(t, "Zone Z 1:00 - CET 1980\n1:00 EU CE%sT", 2030)
	for at := int(time.Date(1971, 1, 1, 0, 0, 0, 0, time.UTC).Unix()); at < int(time.Date(2030, 12, 31, 0, 0, 0, 0, time.UTC).Unix()); at += 1800 {
		holds := first
		if i := Last(l, at); i >= 0 {
			holds = l[i]
		}
		name, off := time.Unix(int64(at), 0).In(zone).Zone()
		if holds.Off != off || holds.Abbr != name {
			t.Fatal(at, holds, name, off)
		}
	}
}

func TestFaultsInOrder(t *testing.T) {
	const order = "Rule O 2000 only - Mar 1 2:00 1:00 S\nRule O 2000 only - Mar 1 2:30 -1:00 -\nRule O 2000 only - Mar 1 3:00 1:00 S\n"
	for text, want := range map[string]api.Errno{
		"Zone Z 0 Y X 2000\n0 - Y":  api.OK,
		"Zone Y 0 - Y":              api.ErrNone,
		"Zone Z 0 Y %s":             api.OK,
		"Zone Z 0 EU %s":            api.ErrFormat, // its letter ahead of the rules is none
		"Zone Z 0 - %s":             api.ErrFormat,
		"Zone Z 0 - /A":             api.ErrFormat,
		"Zone Z 0 - A/":             api.OK,
		"Zone Z 0 1 A/":             api.ErrFormat,
		"Zone Z 0 Y A/":             api.ErrFormat,
		"Zone Z 0 - A 1990\n0 Y A/": api.ErrFormat,
		// An end that is not behind the beginning.
		"Zone Z 0 - A 1990\n0 - B 1990\n0 - C":               api.ErrOrder,
		"Zone Z 0 - A 1990\n0 - B 1989\n0 - C":               api.ErrOrder,
		"Zone Z 0 - A 1990\n0 - B 1990 Jan 1 0:00:01\n0 - C": api.OK,
		"Zone Z 0 - A 1990\n0 - B 1990\n0 - /C":              api.ErrOrder,
		"Zone Z 0 - A 1990\n0 - B 1989\n0 - /C":              api.ErrOrder,
		"Zone Z 0 - A 1990\n0 - /B 1989\n0 - C":              api.ErrFormat,
		"Zone Z 0 - A 1990\n1 - B 1990 Jan 1 0:30\n0 - C":    api.ErrOrder,
		// Onsets whose times do not rise, though what they bring be left out.
		order + "Zone Z 0 O X%s":                 api.ErrOrder,
		order + "Zone Z 0 O X%s 2000 Feb\n0 - Y": api.OK,
		order + "Zone Z 0 O X%s 1999\n0 - /Y":    api.ErrFormat,
		"Rule O 2000 only - Mar 1 2:00 0 -\nRule O 2000 only - Mar 1 2:00 0 -\nZone Z 0 O X":    api.ErrOrder,
		"Rule O 2000 only - Mar 1 2:00 0 -\nRule O 2000 only - Mar 1 2:00:01 0 -\nZone Z 0 O X": api.OK,
		// An end that goes back behind the onset that has moved it.
		"Zone Z 0 Y X%sT 2000 Mar 1 0:30\n0 - B":    api.ErrOrder,
		"Zone Z 0 Y X%sT 2000 Mar 1 1:00\n0 - B":    api.ErrOrder,
		"Zone Z 0 Y X%sT 2000 Mar 1 0:30\n0 - /B":   api.ErrFormat,
		"Zone Z 0 Y X%sT 2000 Mar 1 1:00:01\n0 - B": api.OK,
	} {
		first, l, e := Of(read(t, text), "Z", 2001)
		if e != want || e != api.OK && (first != (api.Turn{}) || len(l) != 0) {
			t.Error(text, first, l, e)
		}
	}
}

func TestNeeds(t *testing.T) {
	for text, want := range map[string]int{"Zone Z 0 - A": 1, "Zone Z 0 - A 1990\n0 - B": 1991, "Zone Z 0 - A 1990 Dec 31 96:00\n0 - B 1980\n0 - C": 1991, "Zone Z 0 - A 9999\n0 - B": 10000} {
		s := read(t, text)
		n, e := Needs(s, "Z")
		if n != want || e != api.OK {
			t.Error(text, n, e)
		}
		for _, last := range []int{n - 1, 0, -1, 10000, math.MinInt, math.MaxInt} {
			if _, l, e := Of(s, "Z", last); e != api.ErrYear || len(l) != 0 {
				t.Error(text, last, l, e)
			}
		}
		if _, _, e := Of(s, "Z", 9999); n > 9999 && e != api.ErrYear || n <= 9999 && e == api.ErrYear {
			t.Error(text, e)
		}
	}
	bad := api.Source{Rules: make([]api.Rule, 1)}
	if n, e := Needs(bad, "Z"); n != 0 || e != api.ErrRule {
		t.Error(n, e)
	}
	if _, _, e := Of(bad, "Z", 0); e != api.ErrRule {
		t.Error(e)
	}
	if n, e := Needs(api.Source{}, "Z"); n != 0 || e != api.ErrNone {
		t.Error(n, e)
	}
}

func TestLinksLeadToTheZone(t *testing.T) {
	s := read(t, "Zone Z 0 Y X%sT\nLink Z A\nLink A B")
	first, l, _ := Of(s, "Z", 2003)
	other, k, e := Of(s, "B", 2003)
	if first != other || !reflect.DeepEqual(l, k) || e != api.OK || len(l) != 8 {
		t.Error(other, k, e)
	}
	if n, e := Needs(s, "A"); n != 1 || e != api.OK {
		t.Error(n, e)
	}
}

func TestLast(t *testing.T) {
	l := []api.Turn{{At: 10}, {At: 20}, {At: 15}, {At: math.MaxInt}, {At: math.MinInt}, {At: 30}}
	for at, want := range map[int]int{math.MinInt: 4, 0: 4, 10: 4, 29: 4, 30: 5, math.MaxInt: 5} {
		if i := Last(l, at); i != want {
			t.Error(at, i)
		}
	}
	for at, want := range map[int]int{9: -1, 10: 0, 14: 0, 15: 2, 19: 2, 20: 2, 30: 2, math.MinInt: -1} {
		if i := Last(l[:3], at); i != want {
			t.Error(at, i)
		}
	}
	if i := Last(nil, 0); i != -1 {
		t.Error(i)
	}
}

func TestTheTurnsOfTwoYearsAreTheSame(t *testing.T) {
	for _, text := range []string{"Zone Z 1 EU CE%sT", "Zone Z 0 Y X%sT 2001 Jul\n1 EU CE%sT", "Zone Z 0 - A 2000\n0 Y X%sT 2001\n0 EU B%s"} {
		all, l := of(t, text, 2040)
		for last := 2002; last < 2040; last++ {
			first, k := of(t, text, last)
			edge := int(time.Date(last, 12, 1, 0, 0, 0, 0, time.UTC).Unix())
			if i, j := Last(l, edge-1), Last(k, edge-1); first != all || !slices.Equal(l[:i+1], k[:j+1]) {
				t.Error(text, last)
			}
		}
	}
}
