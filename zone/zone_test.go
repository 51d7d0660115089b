package zone

import (
	"math"
	"math/rand"
	"strings"
	"testing"

	"solstice/api"
	"solstice/fields"
)

var until = api.Era{Std: 3600, Kind: api.EraRule, Rule: "EU", Format: "CE%sT", Until: true, Year: 1980, Month: 4, On: api.On{Kind: api.OnAfter, Week: 0, Day: 1}, At: api.At{Secs: 7200, Kind: api.AtStd}}

var last = api.Era{Std: -3600, Kind: api.EraNone, Format: "X"}

func TestFormat(t *testing.T) {
	long := strings.Repeat("a", api.MaxName)
	for s, want := range map[string]bool{"": false, "a": true, "CE%sT": true, "%s": true, "%z": true, "+%z-": true, "GMT/BST": true, "/": true, "a/": true, "/a": true, "a/b/c": false, "%": false, "a%": false, "%d": false, "%S": false, "%s%s": false, "%s%z": false, "%%": false, "%%s": false, "a%s/b": false, "%z/a": false, "a/%": false, "+01": true, "-": true, "a_b": false, "a b": false, "é": false, "a\x00": false, "a:b": false, long: true, long + "a": false} {
		if Format(s) != want {
			t.Errorf("%q", s)
		}
	}
}

// wrong are changes that make an era of a rule with an end wrong.
var wrong = []func(e *api.Era){
	func(e *api.Era) { e.Std = 86400 },
	func(e *api.Era) { e.Std = -86400 },
	func(e *api.Era) { e.Std = math.MinInt },
	func(e *api.Era) { e.Kind = 0 },
	func(e *api.Era) { e.Kind = 4 },
	func(e *api.Era) { e.Kind = api.EraNone },
	func(e *api.Era) { e.Kind = api.EraSave },
	func(e *api.Era) { e.Save = 1 },
	func(e *api.Era) { e.Kind, e.Rule, e.Save = api.EraNone, "", 1 },
	func(e *api.Era) { e.Kind, e.Rule, e.Save = api.EraSave, "", 86400 },
	func(e *api.Era) { e.Kind, e.Rule, e.Save = api.EraSave, "", math.MinInt },
	func(e *api.Era) { e.Rule = "" },
	func(e *api.Era) { e.Rule = "1:00" },
	func(e *api.Era) { e.Format = "" },
	func(e *api.Era) { e.Format = "%" },
	func(e *api.Era) { e.Year = 0 },
	func(e *api.Era) { e.Year = 10000 },
	func(e *api.Era) { e.Month = 0 },
	func(e *api.Era) { e.Month = 13 },
	func(e *api.Era) { e.On = api.On{} },
	func(e *api.Era) { e.On.Day = 31 },
	func(e *api.Era) { e.Month, e.On = 2, api.On{Kind: api.OnDay, Day: 30} },
	func(e *api.Era) { e.Year, e.Month, e.On = 1981, 2, api.On{Kind: api.OnDay, Day: 29} },
	func(e *api.Era) { e.At = api.At{} },
	func(e *api.Era) { e.At.Secs = api.MaxSecs + 1 },
	func(e *api.Era) { e.Until = false },
}

// rightToo are changes that leave it right.
var rightToo = []func(e *api.Era){
	func(e *api.Era) {},
	func(e *api.Era) { e.Std = 86399 },
	func(e *api.Era) { e.Std = -86399 },
	func(e *api.Era) { e.Kind, e.Rule = api.EraNone, "" },
	func(e *api.Era) { e.Kind, e.Rule = api.EraSave, "" },
	func(e *api.Era) { e.Kind, e.Rule, e.Save = api.EraSave, "", -86399 },
	func(e *api.Era) { e.Year, e.Month, e.On = 1980, 2, api.On{Kind: api.OnDay, Day: 29} },
	func(e *api.Era) { e.Year = 1 },
	func(e *api.Era) { e.Year = 9999 },
	func(e *api.Era) { e.At.Secs = -api.MaxSecs },
}

func TestCheck(t *testing.T) {
	for k, change := range wrong {
		e := until
		change(&e)
		if f := Check(api.Zone{Name: "Z", Eras: []api.Era{e, last}}); f != api.ErrZone {
			t.Error(k, f)
		}
		if s, f := Text(e); s != "" || f != api.ErrZone {
			t.Error(k, s, f)
		}
	}
	for k, change := range rightToo {
		e := until
		change(&e)
		if f := Check(api.Zone{Name: "Z", Eras: []api.Era{e, e, last}}); f != api.OK {
			t.Error(k, f)
		}
	}
	open := last
	open.Month = 1
	for k, z := range []api.Zone{{}, {Name: "Z"}, {Eras: []api.Era{last}}, {Name: "1", Eras: []api.Era{last}}, {Name: "Z", Eras: []api.Era{until}}, {Name: "Z", Eras: []api.Era{last, last}}, {Name: "Z", Eras: []api.Era{last, until}}, {Name: "Z", Eras: []api.Era{open}}, {Name: "Z", Eras: many(api.MaxEras + 1)}, {Name: "Z", Eras: many(api.MaxEras)[:api.MaxEras-1]}} {
		if f := Check(z); f != api.ErrZone {
			t.Error(k, f)
		}
	}
	for k, z := range []api.Zone{{Name: "Z", Eras: []api.Era{last}}, {Name: "Z", Eras: many(api.MaxEras)}} {
		if f := Check(z); f != api.OK {
			t.Error(k, f)
		}
	}
}

func many(n int) []api.Era {
	var l []api.Era
	for range n - 1 {
		l = append(l, until)
	}
	return append(l, last)
}

func TestEra(t *testing.T) {
	rules := api.Era{Std: 3600, Kind: api.EraRule, Rule: "EU", Format: "CE%sT"}
	ended := func(month int, on api.On, at api.At) api.Era {
		e := rules
		e.Until, e.Year, e.Month, e.On, e.At = true, 1980, month, on, at
		return e
	}
	first, midnight := api.On{Kind: api.OnDay, Day: 1}, api.At{Kind: api.AtWall}
	for s, want := range map[string]api.Era{
		"1:00 EU CE%sT":                        rules,
		"1:00 EU CE%sT 1980":                   ended(1, first, midnight),
		"1 EU CE%sT 01980 apr":                 ended(4, first, midnight),
		"1:00 EU CE%sT 1980 Apr Sun>=1":        ended(4, until.On, midnight),
		"1:00 EU CE%sT 1980 April Sun>=1 2s":   until,
		"1:00 EU CE%sT 1980 Feb 29 -0:01u":     ended(2, api.On{Kind: api.OnDay, Day: 29}, api.At{Secs: -60, Kind: api.AtUtc}),
		"-1 - X":                               last,
		"- - X":                                {Kind: api.EraNone, Format: "X"},
		"-0:00:01 0 X":                         {Std: -1, Kind: api.EraSave, Format: "X"},
		"0 1:00 A/B":                           {Kind: api.EraSave, Save: 3600, Format: "A/B"},
		"0 -1:00 %z":                           {Kind: api.EraSave, Save: -3600, Format: "%z"},
		"0 -0 %z":                              {Kind: api.EraSave, Format: "%z"},
		"0 _1:00x %z":                          {},
		"0 C-Eur %z":                           {Kind: api.EraRule, Rule: "C-Eur", Format: "%z"},
		"23:59:59 23:59:59 +":                  {Std: 86399, Kind: api.EraSave, Save: 86399, Format: "+"},
		"1:00 \"EU\" CE%sT \"1980\" \"apr\" 1": ended(4, first, midnight),
	} {
		l, _ := fields.Split(s)
		e, f := Era(l)
		if want == (api.Era{}) {
			if f != api.ErrZone || e != want {
				t.Error(s, e, f)
			}
			continue
		}
		if e != want || f != api.OK {
			t.Error(s, e, f)
		}
	}
}

func TestEraTellsTheFirstFault(t *testing.T) {
	for s, want := range map[string]api.Errno{
		"":                                     api.ErrField,
		"x x":                                  api.ErrField,
		"1:00 EU CE%sT 1980 Apr Sun>=1 2s x":   api.ErrField,
		"x 1 % x x x x":                        api.ErrNum,
		"97 EU CE%sT":                          api.ErrNum,
		"1 EU % x x x x":                       api.ErrNum,
		"1 EU CE%sT -1":                        api.ErrNum,
		"1 EU CE%sT max":                       api.ErrNum,
		"1 EU % 1980 x x x":                    api.ErrWord,
		"1 EU % 1980 Apr x x":                  api.ErrOn,
		"1 EU % 1980 Apr 1 x":                  api.ErrAt,
		"1 EU % 1980 Apr 1 1":                  api.ErrZone,
		"24 EU CE%sT":                          api.ErrZone,
		"1 24:00 CE%sT":                        api.ErrZone,
		"1 1:60 CE%sT":                         api.ErrZone,
		"1 97 CE%sT":                           api.ErrZone,
		"1 -x CE%sT":                           api.ErrZone,
		"1 \"\" CE%sT":                         api.ErrZone,
		"1 EU \"\"":                            api.ErrZone,
		"1 EU CE%sT 0":                         api.ErrZone,
		"1 EU CE%sT 10000":                     api.ErrZone,
		"1 EU CE%sT 1981 Feb 29":               api.ErrZone,
		"1 EU CE%sT 1981 Apr 31":               api.ErrZone,
		"1 EU CE%sT 9999 Dec Sat>=31 96:00":    api.OK,
		"1 EU CE%sT 1 Jan Sat<=1 -96:00":       api.OK,
		"1 EU CE%sT 999999999999999999":        api.ErrZone,
		"1 EU CE%sT 1980 Apr Sun>=1 96:00:01s": api.ErrAt,
	} {
		l, _ := fields.Split(s)
		if e, f := Era(l); f != want || f != api.OK && e != (api.Era{}) {
			t.Error(s, e, f)
		}
	}
}

func TestWhatIsWrittenIsRead(t *testing.T) {
	for want, e := range map[string]api.Era{"1 EU CE%sT 1980 Apr Sun>=1 2s": until, "-1 - X": last, "0 0 X": {Kind: api.EraSave, Format: "X"}} {
		if s, f := Text(e); s != want || f != api.OK {
			t.Error(e, s, f)
		}
	}
	r := rand.New(rand.NewSource(1))
	for range 20000 {
		e := api.Era{Std: r.Intn(2*api.Day-1) - api.Day + 1, Kind: 1 + r.Intn(3), Format: []string{"A", "%z", "C%sT", "A/B"}[r.Intn(4)]}
		if e.Kind == api.EraSave {
			e.Save = r.Intn(2*api.Day-1) - api.Day + 1
		}
		if e.Kind == api.EraRule {
			e.Rule = []string{"a", "_1", "R/x-+"}[r.Intn(3)]
		}
		if r.Intn(2) == 0 {
			e.Until, e.Year, e.Month = true, 1+r.Intn(9999), 1+r.Intn(12)
			e.On = []api.On{{Kind: api.OnDay, Day: 1 + r.Intn(28)}, {Kind: api.OnLast, Week: r.Intn(7)}, {Kind: api.OnAfter, Week: r.Intn(7), Day: 1 + r.Intn(28)}, {Kind: api.OnBefore, Week: r.Intn(7), Day: 1 + r.Intn(28)}}[r.Intn(4)]
			e.At = api.At{Secs: r.Intn(2*api.MaxSecs+1) - api.MaxSecs, Kind: 1 + r.Intn(3)}
		}
		s, f := Text(e)
		l, _ := fields.Split(s)
		if back, g := Era(l); f != api.OK || g != api.OK || back != e {
			t.Fatal(e, s, f, back, g)
		}
	}
}
