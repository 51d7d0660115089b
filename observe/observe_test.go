package observe

import (
	"math"
	"slices"
	"strings"
	"testing"
	"time"

	"solstice/api"
	"solstice/recur"
)

func plain() api.Recur {
	return api.Recur{Freq: api.Yearly, Interval: 1, Wkst: 1, Month: []int{3}, Days: []api.ByDay{{Num: -1}}}
}

func right() api.Vtz {
	return api.Vtz{Id: "Europe/Berlin", Obs: []api.Observance{
		{Start: 0, From: 3600, To: 3600, Name: "CET"},
		{Dst: true, Start: 7200, From: 3600, To: 7200, Name: "CEST", Has: true, Rule: plain(), Dates: []int{5, 4}},
	}}
}

func TestWhatIsWrong(t *testing.T) {
	before := int(time.Date(1, 1, 1, 0, 0, 0, 0, time.UTC).Unix()) - 1
	behind := int(time.Date(10000, 1, 1, 0, 0, 0, 0, time.UTC).Unix())
	rule := func(change func(r *api.Recur)) func(v *api.Vtz) {
		return func(v *api.Vtz) { change(&v.Obs[1].Rule) }
	}
	for k, change := range []func(v *api.Vtz){
		func(v *api.Vtz) { v.Id = "" },
		func(v *api.Vtz) { v.Id = strings.Repeat("x", 201) },
		func(v *api.Vtz) { v.Id = "a\nb" },
		func(v *api.Vtz) { v.Id = "\nab" },
		func(v *api.Vtz) { v.Id = "a\x00b" },
		func(v *api.Vtz) { v.Id = "a\x7f" },
		func(v *api.Vtz) { v.Obs = nil },
		func(v *api.Vtz) { v.Obs = slices.Repeat(v.Obs[:1], 2001) },
		func(v *api.Vtz) { v.Obs[0].Start = before },
		func(v *api.Vtz) { v.Obs[0].Start = behind },
		func(v *api.Vtz) { v.Obs[0].Start = math.MinInt },
		func(v *api.Vtz) { v.Obs[0].From = 86400 },
		func(v *api.Vtz) { v.Obs[0].From = math.MinInt },
		func(v *api.Vtz) { v.Obs[1].To = -86400 },
		func(v *api.Vtz) { v.Obs[0].Name = "" },
		func(v *api.Vtz) { v.Obs[0].Name = "a b" },
		func(v *api.Vtz) { v.Obs[0].Name = strings.Repeat("x", 41) },
		func(v *api.Vtz) { v.Obs[0].Dates = make([]int, 2001) },
		func(v *api.Vtz) { v.Obs[0].Dates = []int{0, before} },
		func(v *api.Vtz) { v.Obs[0].Dates = []int{behind} },
		func(v *api.Vtz) { v.Obs[0].Rule.Wkst = 1 },
		func(v *api.Vtz) { v.Obs[0].Rule.Month = []int{1} },
		func(v *api.Vtz) { v.Obs[0].Rule.Second = []int{1} },
		func(v *api.Vtz) { v.Obs[0].Rule = plain() },
		func(v *api.Vtz) { v.Obs[0].Has = true },
		func(v *api.Vtz) { v.Obs[1].Has = false },
		rule(func(r *api.Recur) { r.Freq = api.Monthly }),
		rule(func(r *api.Recur) { r.Interval = 2 }),
		rule(func(r *api.Recur) { r.Count = 1 }),
		rule(func(r *api.Recur) { r.Until = true }),
		rule(func(r *api.Recur) { r.Until, r.UntilAt, r.Utc = true, behind, true }),
		rule(func(r *api.Recur) { r.Second = []int{0} }),
		rule(func(r *api.Recur) { r.Minute = []int{0} }),
		rule(func(r *api.Recur) { r.Hour = []int{0} }),
		rule(func(r *api.Recur) { r.YearDay = []int{1} }),
		rule(func(r *api.Recur) { r.WeekNo, r.Days = []int{1}, []api.ByDay{{}} }),
		rule(func(r *api.Recur) { r.SetPos = []int{1} }),
		rule(func(r *api.Recur) { r.Month = nil }),
		rule(func(r *api.Recur) { r.Month = []int{3, 4} }),
		rule(func(r *api.Recur) { r.Month = []int{13} }),
		rule(func(r *api.Recur) { r.Days = nil }),
		rule(func(r *api.Recur) { r.Days = []api.ByDay{{Num: 1}, {Num: 2}} }),
		rule(func(r *api.Recur) { r.MonthDay = []int{1, 2, 3, 4, 5, 6, 7, 8} }),
		rule(func(r *api.Recur) { r.Wkst = 7 }),
	} {
		v := right()
		change(&v)
		if e := Check(v); e != api.ErrZone {
			t.Error(k, e)
		}
	}
}

func TestWhatIsRight(t *testing.T) {
	rule := func(change func(r *api.Recur)) func(v *api.Vtz) {
		return func(v *api.Vtz) { change(&v.Obs[1].Rule) }
	}
	first := int(time.Date(1, 1, 1, 0, 0, 0, 0, time.UTC).Unix())
	last := int(time.Date(9999, 12, 31, 23, 59, 59, 0, time.UTC).Unix())
	for k, change := range []func(v *api.Vtz){
		func(v *api.Vtz) {},
		func(v *api.Vtz) { v.Id, v.Obs = "Z", v.Obs[:1] },
		func(v *api.Vtz) { v.Obs[0].Start, v.Obs[0].Dates = last, []int{first, last} },
		func(v *api.Vtz) { v.Obs[0].Start = first },
		func(v *api.Vtz) { v.Obs[0].Name = strings.Repeat("x", 40) },
		func(v *api.Vtz) { v.Id = strings.Repeat("é", 100) },
		func(v *api.Vtz) { v.Id = "a\t;,\\" },
		func(v *api.Vtz) { v.Obs[0].From, v.Obs[0].To = 86399, -86399 },
		func(v *api.Vtz) { v.Obs[0].Dates = make([]int, 2000) },
		func(v *api.Vtz) { v.Obs[0].Rule = api.Recur{Second: []int{}, Days: []api.ByDay{}, SetPos: []int{}} },
		rule(func(r *api.Recur) { r.Until, r.Utc = true, true }),
		rule(func(r *api.Recur) { r.Days, r.MonthDay = nil, []int{-1} }),
		rule(func(r *api.Recur) { r.MonthDay = []int{1, 2, 3, 4, 5, 6, 7} }),
		rule(func(r *api.Recur) { r.Wkst = 0 }),
	} {
		v := right()
		change(&v)
		if e := Check(v); e != api.OK {
			t.Error(k, e)
		}
	}
	v := right()
	for len(v.Obs) < 2000 {
		v.Obs = append(v.Obs, v.Obs[0])
	}
	if e := Check(v); e != api.OK {
		t.Error(e)
	}
	if _, e := recur.Text(plain()); e != api.OK {
		t.Error(e)
	}
}
