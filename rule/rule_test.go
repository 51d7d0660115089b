package rule

import (
	"math"
	"math/rand"
	"strings"
	"testing"

	"solstice/api"
	"solstice/civil"
	"solstice/fields"
)

const line = "Rule EU 1981 max - Mar lastSun 1:00u 1:00 S"

var eu = api.Rule{Name: "EU", From: 1981, To: api.MaxYear, Month: 3, On: api.On{Kind: api.OnLast}, At: api.At{Secs: 3600, Kind: api.AtUtc}, Save: 3600, Letter: "S"}

func TestName(t *testing.T) {
	long := strings.Repeat("a", api.MaxName)
	for s, want := range map[string]bool{"": false, "a": true, "Z": true, "_": true, "/": true, "-": false, "+": false, "0": false, "9a": false, "a9": true, "a-": true, "a+b": true, "Europe/Berlin": true, "Etc/GMT+1": true, "-a": false, "+a": false, "a b": false, "a.b": false, "a:b": false, "é": false, "a\x00": false, "a\"": false, "a#": false, "_9": true, "/1-2": true, long: true, long + "a": false} {
		if Name(s) != want {
			t.Errorf("%q", s)
		}
	}
}

func TestLetter(t *testing.T) {
	for s, want := range map[string]bool{"": true, "S": true, "-": false, "--": true, "+": true, "+-": true, "a-": true, "-a": true, "0": true, "123456": true, "1234567": false, "a b": false, "é": false, "_": false, "/": false, "%": false, "a\x00": false} {
		if Letter(s) != want {
			t.Errorf("%q", s)
		}
	}
}

func TestCheck(t *testing.T) {
	if e := Check(eu); e != api.OK {
		t.Error(e)
	}
	for k, change := range []func(r *api.Rule){
		func(r *api.Rule) { r.Name = "" },
		func(r *api.Rule) { r.Name = "1" },
		func(r *api.Rule) { r.From = 0 },
		func(r *api.Rule) { r.From = math.MinInt },
		func(r *api.Rule) { r.From, r.To = 10000, 10000 },
		func(r *api.Rule) { r.To = 10000 },
		func(r *api.Rule) { r.To = 1980 },
		func(r *api.Rule) { r.To = math.MaxInt },
		func(r *api.Rule) { r.Month = 0 },
		func(r *api.Rule) { r.Month = 13 },
		func(r *api.Rule) { r.Month = math.MinInt },
		func(r *api.Rule) { r.On = api.On{} },
		func(r *api.Rule) { r.On = api.On{Kind: api.OnLast, Day: 1} },
		func(r *api.Rule) { r.At = api.At{} },
		func(r *api.Rule) { r.At.Secs = api.MaxSecs + 1 },
		func(r *api.Rule) { r.Save = 86400 },
		func(r *api.Rule) { r.Save = -86400 },
		func(r *api.Rule) { r.Save = math.MinInt },
		func(r *api.Rule) { r.Letter = "-" },
		func(r *api.Rule) { r.Letter = "1234567" },
	} {
		r := eu
		change(&r)
		if e := Check(r); e != api.ErrRule {
			t.Error(k, e)
		}
		if s, e := Text(r); s != "" || e != api.ErrRule {
			t.Error(k, s, e)
		}
	}
	for k, change := range []func(r *api.Rule){
		func(r *api.Rule) { r.From = 1 },
		func(r *api.Rule) { r.From = 9999 },
		func(r *api.Rule) { r.Save = 86399 },
		func(r *api.Rule) { r.Save = -86399 },
		func(r *api.Rule) { r.At.Secs = -api.MaxSecs },
		func(r *api.Rule) { r.Letter = "" },
	} {
		r := eu
		change(&r)
		if e := Check(r); e != api.OK {
			t.Error(k, e)
		}
	}
}

func TestDaysThatAMonthMayHave(t *testing.T) {
	for month := 1; month <= 12; month++ {
		for day := 1; day <= 31; day++ {
			for kind := api.OnDay; kind <= api.OnBefore; kind++ {
				for to := 2023; to <= 2024; to++ {
					r := eu
					r.From, r.To, r.Month, r.On = 2023, to, month, api.On{Kind: kind, Day: day}
					most := civil.Len(2000, month)
					if month == 2 && kind == api.OnDay && to > r.From {
						most = 28
					}
					want := api.OK
					if day > most || kind == api.OnLast {
						want = api.ErrRule
					}
					if e := Check(r); e != want {
						t.Error(month, day, kind, to, e)
					}
				}
			}
		}
	}
}

func TestParse(t *testing.T) {
	for s, change := range map[string]func(r *api.Rule){
		line: func(r *api.Rule) {},
		"r EU 1981 maximum - march LASTsunday 1u 1 S":   func(r *api.Rule) {},
		"RULE EU 1981 9999 - Mar lastSun 1:00z 1:00d S": func(r *api.Rule) {},
		"Rule EU 01981 ma - Mar lastSun 1:00g 1:00s S":  func(r *api.Rule) {},
		"Rule EU min only - Mar lastSun 1:00u 1:00 S":   func(r *api.Rule) { r.From, r.To = 1, 1 },
		"Rule EU mi mi - Mar lastSun 1:00u 1:00 S":      func(r *api.Rule) { r.From, r.To = 1, 1 },
		"Rule EU max o - Mar lastSun 1:00u 1:00 S":      func(r *api.Rule) { r.From = 9999 },
		"Rule EU max max - Mar lastSun 1:00u 1:00 S":    func(r *api.Rule) { r.From = 9999 },
		"Rule EU 1981 1990 - Mar 29 -1:00 - -": func(r *api.Rule) {
			r.To, r.On, r.At, r.Save, r.Letter = 1990, api.On{Kind: api.OnDay, Day: 29}, api.At{Secs: -3600, Kind: api.AtWall}, 0, ""
		},
		"Rule EU 1981 max - Mar lastSun 1:00u -s \"\"":      func(r *api.Rule) { r.Save, r.Letter = 0, "" },
		"Rule EU 1981 max - Mar lastSun 1:00u -0:30 \"-+\"": func(r *api.Rule) { r.Save, r.Letter = -1800, "-+" },
	} {
		l, _ := fields.Split(s)
		want := eu
		change(&want)
		if r, e := Parse(l); r != want || e != api.OK {
			t.Error(s, r, e)
		}
	}
}

func TestParseTellsTheFirstFault(t *testing.T) {
	good := strings.Fields(line)
	faults := []struct {
		place int
		text  string
		want  api.Errno
	}{{0, "Zone", api.ErrWord}, {0, "Rules", api.ErrWord}, {4, "x", api.ErrRule}, {4, "", api.ErrRule}, {2, "only", api.ErrNum}, {2, "m", api.ErrNum}, {2, "-1", api.ErrNum}, {3, "x", api.ErrNum}, {3, "", api.ErrNum}, {5, "Ma", api.ErrWord}, {6, "lastSu", api.ErrOn}, {7, "x", api.ErrAt}, {8, "x", api.ErrNum}, {8, "1:00S", api.ErrNum}, {8, "s", api.ErrNum}, {8, "1:00sd", api.ErrNum}, {1, "1", api.ErrRule}, {2, "0", api.ErrRule}, {2, "10000", api.ErrRule}, {3, "1980", api.ErrRule}, {8, "24:00", api.ErrRule}, {9, "1234567", api.ErrRule}}
	rank := map[int]int{0: 0, 4: 1, 2: 2, 3: 3, 5: 4, 6: 5, 7: 6, 8: 7, 1: 8, 9: 8}
	for _, a := range faults {
		for _, b := range faults {
			if a.place == b.place && a.text != b.text {
				continue
			}
			l := append([]string{}, good...)
			l[a.place], l[b.place] = a.text, b.text
			want := a.want
			later := a.want == api.ErrRule && a.place != 4
			if other := b.want == api.ErrRule && b.place != 4; later && !other || later == other && rank[b.place] < rank[a.place] {
				want = b.want
			}
			if r, e := Parse(l); r != (api.Rule{}) || e != want {
				t.Error(l, r, e, want)
			}
		}
	}
	for n := range 12 {
		l := make([]string, n)
		want := api.ErrField
		if n == 10 {
			want = api.ErrWord
		}
		if _, e := Parse(l); e != want {
			t.Error(n, e)
		}
	}
}

func some(r *rand.Rand) api.Rule {
	from := 1 + r.Intn(9999)
	on := []api.On{{Kind: api.OnDay, Day: 1 + r.Intn(28)}, {Kind: api.OnLast, Week: r.Intn(7)}, {Kind: api.OnAfter, Week: r.Intn(7), Day: 1 + r.Intn(28)}, {Kind: api.OnBefore, Week: r.Intn(7), Day: 1 + r.Intn(28)}}
	return api.Rule{
		Name: []string{"a", "_", "A/b-1", "EU"}[r.Intn(4)], From: from, To: []int{from, 9999, from + r.Intn(10000-from)}[r.Intn(3)],
		Month: 1 + r.Intn(12), On: on[r.Intn(4)], At: api.At{Secs: r.Intn(2*api.MaxSecs+1) - api.MaxSecs, Kind: 1 + r.Intn(3)},
		Save: r.Intn(2*api.Day-1) - api.Day + 1, Letter: []string{"", "S", "--", "+1-a"}[r.Intn(4)],
	}
}

func TestWhatIsWrittenIsRead(t *testing.T) {
	r := rand.New(rand.NewSource(1))
	for range 20000 {
		x := some(r)
		s, e := Text(x)
		l, f := fields.Split(s)
		if back, g := Parse(l); e != api.OK || f != api.OK || g != api.OK || back != x {
			t.Fatal(x, s, e, f, back, g)
		}
	}
}

func TestText(t *testing.T) {
	for want, change := range map[string]func(r *api.Rule){
		"Rule EU 1981 max - Mar lastSun 1u 1 S":  func(r *api.Rule) {},
		"Rule EU 1981 only - Mar lastSun 1u 1 S": func(r *api.Rule) { r.To = 1981 },
		"Rule EU 9999 only - Mar lastSun 1u 1 S": func(r *api.Rule) { r.From = 9999 },
		"Rule EU 7 1990 - Dec Sat<=9 1:30s -0:20 -": func(r *api.Rule) {
			r.From, r.To, r.Month, r.On, r.At, r.Save, r.Letter = 7, 1990, 12, api.On{Kind: api.OnBefore, Week: 6, Day: 9}, api.At{Secs: 5400, Kind: api.AtStd}, -1200, ""
		},
		"Rule EU 1981 max - Sep Mon>=8 -0:00:01 0 +": func(r *api.Rule) {
			r.Month, r.On, r.At, r.Save, r.Letter = 9, api.On{Kind: api.OnAfter, Week: 1, Day: 8}, api.At{Secs: -1, Kind: api.AtWall}, 0, "+"
		},
	} {
		r := eu
		change(&r)
		if s, e := Text(r); s != want || e != api.OK {
			t.Error(s, e)
		}
	}
}
