package recur

import (
	"math"
	"math/rand"
	"reflect"
	"slices"
	"strconv"
	"strings"
	"testing"
	"time"

	"solstice/api"
)

func yearly() api.Recur { return api.Recur{Freq: api.Yearly, Interval: 1, Wkst: 1} }

// with is a rule of a frequency, changed.
func with(freq int, change func(r *api.Recur)) api.Recur {
	r := api.Recur{Freq: freq, Interval: 1, Wkst: 1}
	change(&r)
	return r
}

var noon = int(time.Date(2024, 2, 29, 12, 0, 0, 0, time.UTC).Unix())

func upTo(n int) []int {
	var l []int
	for i := 1; i <= n; i++ {
		l = append(l, i)
	}
	return l
}

func TestText(t *testing.T) {
	for want, r := range map[string]api.Recur{
		"FREQ=YEARLY;BYMONTH=3;BYDAY=-1SU": with(api.Yearly, func(r *api.Recur) { r.Month, r.Days = []int{3}, []api.ByDay{{Num: -1}} }),
		"FREQ=SECONDLY":                    with(api.Secondly, func(r *api.Recur) {}),
		"FREQ=MINUTELY;INTERVAL=2":         with(api.Minutely, func(r *api.Recur) { r.Interval = 2 }),
		"FREQ=HOURLY;COUNT=1":              with(api.Hourly, func(r *api.Recur) { r.Count = 1 }),
		"FREQ=DAILY;UNTIL=20240229T120000": with(api.Daily, func(r *api.Recur) { r.Until, r.UntilAt = true, noon }),
		"FREQ=WEEKLY;UNTIL=20240229T120000Z;BYDAY=MO,TU,WE,TH,FR,SA,SU;WKST=SU": with(api.Weekly, func(r *api.Recur) {
			r.Until, r.UntilAt, r.Utc, r.Wkst = true, noon, true, 0
			r.Days = []api.ByDay{{Week: 1}, {Week: 2}, {Week: 3}, {Week: 4}, {Week: 5}, {Week: 6}, {Week: 0}}
		}),
		"FREQ=MONTHLY;INTERVAL=1000;COUNT=100000;BYMONTH=12,1;BYMONTHDAY=31,-31,-1;BYDAY=2MO,-53TU,53SA,SA;BYHOUR=0,23;BYMINUTE=59,0;BYSECOND=0,59;BYSETPOS=-366,366;WKST=SA": with(api.Monthly, func(r *api.Recur) {
			r.Interval, r.Count, r.Wkst = 1000, 100000, 6
			r.Month, r.MonthDay, r.Days = []int{12, 1}, []int{31, -31, -1}, []api.ByDay{{Num: 2, Week: 1}, {Num: -53, Week: 2}, {Num: 53, Week: 6}, {Week: 6}}
			r.Hour, r.Minute, r.Second, r.SetPos = []int{0, 23}, []int{59, 0}, []int{0, 59}, []int{-366, 366}
		}),
		"FREQ=YEARLY;BYWEEKNO=1,-53;BYYEARDAY=366,-366;BYDAY=MO": with(api.Yearly, func(r *api.Recur) {
			r.WeekNo, r.YearDay, r.Days = []int{1, -53}, []int{366, -366}, []api.ByDay{{Week: 1}}
		}),
	} {
		if s, e := Text(r); s != want || e != api.OK || Check(r) != api.OK {
			t.Errorf("%s: %s %d", want, s, e)
		}
		if back, e := Parse(want); !reflect.DeepEqual(back, r) || e != api.OK {
			t.Errorf("%s: %v %d", want, back, e)
		}
	}
}

func TestParseIsLoose(t *testing.T) {
	march := with(api.Yearly, func(r *api.Recur) { r.Month, r.Days = []int{3}, []api.ByDay{{Num: -1}} })
	for s, want := range map[string]api.Recur{
		"byday=-1su;BYMONTH=03;freq=Yearly":                         march,
		"BYDAY=-01SU;INTERVAL=1;BYMONTH=000003;WKST=mo;FREQ=YEARLY": march,
		"FREQ=YEARLY;BYMONTH=3;BYDAY=-000001Su":                     march,
		"FREQ=YEARLY;BYMONTHDAY=+1,2,-03;INTERVAL=000010":           with(api.Yearly, func(r *api.Recur) { r.MonthDay, r.Interval = []int{1, 2, -3}, 10 }),
		"FREQ=YEARLY;BYDAY=+2MO,SA;COUNT=01":                        with(api.Yearly, func(r *api.Recur) { r.Days, r.Count = []api.ByDay{{Num: 2, Week: 1}, {Week: 6}}, 1 }),
	} {
		if got, e := Parse(s); !reflect.DeepEqual(got, want) || e != api.OK {
			t.Errorf("%s: %v %d", s, got, e)
		}
	}
}

func TestParseRefuses(t *testing.T) {
	const f = "FREQ=YEARLY;"
	for _, s := range []string{"", ";", "FREQ", "FREQ=", "FREQ=YEARL", "FREQ=YEARLYS", f, ";FREQ=YEARLY", "BYMONTH=3", "FREQ=YEARLY;FREQ=YEARLY", f + "freq=daily", f + "X=1", f + "BYMONTH", f + "BYMONTH=", f + "BYMONTH=3,", f + "BYMONTH=,3", f + "BYMONTH=+3", f + "BYMONTH=-3", f + "BYMONTH=0", f + "BYMONTH=13", f + "BYMONTH=3,3", f + "BYMONTH=0000003", f + "BYMONTH=3;BYMONTH=4", f + "BYMONTH= 3", f + "INTERVAL=0", f + "INTERVAL=+1", f + "INTERVAL=1001", f + "INTERVAL=", f + "INTERVAL=1;INTERVAL=1", f + "COUNT=0", f + "COUNT=-1", f + "COUNT=+1", f + "COUNT=100001", f + "COUNT=0100000", f + "COUNT=1;UNTIL=20240229T120000", f + "UNTIL=20240229", f + "UNTIL=20240229T120000z", f + "UNTIL=20240229t120000", f + "UNTIL=20230229T120000", f + "UNTIL=00000101T000000", f + "UNTIL=", f + "BYDAY=", f + "BYDAY=S", f + "BYDAY=XX", f + "BYDAY=0SU", f + "BYDAY=+0SU", f + "BYDAY=-00SU", f + "BYDAY=54SU", f + "BYDAY=-54SU", f + "BYDAY=SU,SU", f + "BYDAY=1SU,+01SU", f + "BYDAY=SU1", f + "BYDAY=--1SU", f + "BYDAY=+-1SU", f + "BYDAY=0000001SU", f + "BYDAY= SU", f + "BYDAY=\u017fU", f + "BYHOUR=24", f + "BYHOUR=-1", f + "BYHOUR=+1", f + "BYMINUTE=60", f + "BYMINUTE=+1", f + "BYSECOND=60", f + "BYSECOND=+1", f + "BY\u017fECOND=1", f + "BYMONTHDAY=0", f + "BYMONTHDAY=32", f + "BYMONTHDAY=-32", f + "BYYEARDAY=0", f + "BYYEARDAY=367", f + "BYYEARDAY=-367", f + "BYWEEKNO=0", f + "BYWEEKNO=54", f + "BYWEEKNO=-54", f + "BYWEEKNO=1;BYDAY=1SU", f + "BYSETPOS=1", f + "BYMONTH=1;BYSETPOS=0", f + "BYMONTH=1;BYSETPOS=367", f + "WKST=", f + "WKST=1MO", f + "WKST=M", f + "WKST=MO;WKST=MO", f + "INTERVAL=1=1", "FREQ=WEEKLY;BYMONTHDAY=1", "FREQ=WEEKLY;BYDAY=1MO", "FREQ=DAILY;BYYEARDAY=1", "FREQ=MONTHLY;BYWEEKNO=1", "RRULE:FREQ=YEARLY", " FREQ=YEARLY", "FREQ=YEARLY ", "FREQ=YEARLY;\x00=1", "WEE\u212aLY=1", "FREQ=WEE\u212aLY"} {
		if r, e := Parse(s); !reflect.DeepEqual(r, api.Recur{}) || e != api.ErrRecur {
			t.Errorf("%q: %v %d", s, r, e)
		}
	}
}

func TestCheckRefuses(t *testing.T) {
	for k, change := range []func(r *api.Recur){
		func(r *api.Recur) { r.Freq = 0 },
		func(r *api.Recur) { r.Freq = 8 },
		func(r *api.Recur) { r.Freq = math.MinInt },
		func(r *api.Recur) { r.Interval = 0 },
		func(r *api.Recur) { r.Interval = 1001 },
		func(r *api.Recur) { r.Count = -1 },
		func(r *api.Recur) { r.Count = 100001 },
		func(r *api.Recur) { r.Count, r.Until, r.UntilAt = 1, true, noon },
		func(r *api.Recur) { r.UntilAt = 1 },
		func(r *api.Recur) { r.Utc = true },
		func(r *api.Recur) { r.Until, r.UntilAt = true, math.MinInt },
		func(r *api.Recur) { r.Until, r.UntilAt = true, math.MaxInt },
		func(r *api.Recur) {
			r.Until, r.UntilAt = true, int(time.Date(0, 12, 31, 23, 59, 59, 0, time.UTC).Unix())
		},
		func(r *api.Recur) {
			r.Until, r.UntilAt = true, int(time.Date(10000, 1, 1, 0, 0, 0, 0, time.UTC).Unix())
		},
		func(r *api.Recur) { r.Wkst = -1 },
		func(r *api.Recur) { r.Wkst = 7 },
		func(r *api.Recur) { r.Second = []int{60} },
		func(r *api.Recur) { r.Second = []int{-1} },
		func(r *api.Recur) { r.Minute = []int{1, 2, 1} },
		func(r *api.Recur) { r.Minute = []int{60} },
		func(r *api.Recur) { r.Hour = []int{24} },
		func(r *api.Recur) { r.Hour = []int{math.MinInt} },
		func(r *api.Recur) { r.Month = []int{0} },
		func(r *api.Recur) { r.Month = []int{13} },
		func(r *api.Recur) { r.Month = make([]int, 1000000) },
		func(r *api.Recur) { r.MonthDay = []int{0} },
		func(r *api.Recur) { r.MonthDay = []int{32} },
		func(r *api.Recur) { r.MonthDay = []int{-32} },
		func(r *api.Recur) { r.MonthDay = []int{math.MaxInt} },
		func(r *api.Recur) { r.YearDay = []int{0} },
		func(r *api.Recur) { r.YearDay = []int{367} },
		func(r *api.Recur) { r.YearDay = []int{-1, -1} },
		func(r *api.Recur) { r.WeekNo = []int{54} },
		func(r *api.Recur) { r.WeekNo = []int{-54} },
		func(r *api.Recur) { r.SetPos = []int{1} },
		func(r *api.Recur) { r.Month, r.SetPos = []int{1}, []int{0} },
		func(r *api.Recur) { r.Month, r.SetPos = []int{1}, []int{367} },
		func(r *api.Recur) { r.Days = []api.ByDay{{Week: 7}} },
		func(r *api.Recur) { r.Days = []api.ByDay{{Week: -1}} },
		func(r *api.Recur) { r.Days = []api.ByDay{{Num: 54}} },
		func(r *api.Recur) { r.Days = []api.ByDay{{Num: math.MinInt}} },
		func(r *api.Recur) { r.Days = []api.ByDay{{Num: 1}, {Num: 2}, {Num: 1}} },
		func(r *api.Recur) { r.Days, r.WeekNo = []api.ByDay{{Num: 1}}, []int{1} },
	} {
		r := yearly()
		change(&r)
		if e := Check(r); e != api.ErrRecur {
			t.Error(k, e)
		}
		if s, e := Text(r); s != "" || e != api.ErrRecur {
			t.Error(k, s, e)
		}
	}
}

func TestWhatGoesWithAFrequency(t *testing.T) {
	number := func(r *api.Recur) { r.Days = []api.ByDay{{Week: 1}, {Num: -1}} }
	for name, c := range map[string]struct {
		change func(r *api.Recur)
		bad    []int
	}{
		"nothing":  {func(r *api.Recur) {}, nil},
		"day":      {func(r *api.Recur) { r.Days = []api.ByDay{{Week: 1}} }, nil},
		"num":      {number, []int{api.Secondly, api.Minutely, api.Hourly, api.Daily, api.Weekly}},
		"monthday": {func(r *api.Recur) { r.MonthDay = []int{1} }, []int{api.Weekly}},
		"yearday":  {func(r *api.Recur) { r.YearDay = []int{1} }, []int{api.Daily, api.Weekly, api.Monthly}},
		"weekno":   {func(r *api.Recur) { r.WeekNo = []int{1} }, []int{api.Secondly, api.Minutely, api.Hourly, api.Daily, api.Weekly, api.Monthly}},
		"setpos":   {func(r *api.Recur) { r.SetPos, r.Second = []int{1}, []int{0} }, nil},
		"full": {func(r *api.Recur) {
			r.Month, r.SetPos = upTo(12), append(upTo(366), -366)
			r.Hour, r.Minute = append(upTo(23), 0), append(upTo(59), 0)
		}, nil},
	} {
		for freq := api.Secondly; freq <= api.Yearly; freq++ {
			want := api.OK
			if slices.Contains(c.bad, freq) {
				want = api.ErrRecur
			}
			if e := Check(with(freq, c.change)); e != want {
				t.Error(name, freq, e)
			}
		}
	}
}

func TestTheYearsOfAnEnd(t *testing.T) {
	for _, x := range []int{int(time.Date(1, 1, 1, 0, 0, 0, 0, time.UTC).Unix()), int(time.Date(9999, 12, 31, 23, 59, 59, 0, time.UTC).Unix())} {
		if e := Check(with(api.Daily, func(r *api.Recur) { r.Until, r.UntilAt = true, x })); e != api.OK {
			t.Error(x, e)
		}
	}
}

func TestPlacesGoWithAnyOtherList(t *testing.T) {
	for k, change := range []func(r *api.Recur){
		func(r *api.Recur) { r.Second = []int{0} },
		func(r *api.Recur) { r.Minute = []int{0} },
		func(r *api.Recur) { r.Hour = []int{0} },
		func(r *api.Recur) { r.Days = []api.ByDay{{}} },
		func(r *api.Recur) { r.MonthDay = []int{1} },
		func(r *api.Recur) { r.YearDay = []int{1} },
		func(r *api.Recur) { r.WeekNo = []int{1} },
		func(r *api.Recur) { r.Month = []int{1} },
		func(r *api.Recur) { r.Month, r.Hour, r.MonthDay = []int{1}, []int{0}, []int{1} },
	} {
		r := with(api.Yearly, change)
		r.SetPos = []int{1}
		if e := Check(r); e != api.OK {
			t.Error(k, e)
		}
	}
}

// some is a rule that is right, mostly.
func some(r *rand.Rand) api.Recur {
	x := api.Recur{Freq: 1 + r.Intn(7), Interval: 1 + r.Intn(3), Wkst: r.Intn(7)}
	list := func(least, most int) []int {
		var l []int
		for r.Intn(3) == 0 {
			if n := least + r.Intn(most-least+1); n != 0 || least == 0 {
				if !slices.Contains(l, n) {
					l = append(l, n)
				}
			}
		}
		return l
	}
	x.Second, x.Minute, x.Hour, x.Month = list(0, 59), list(0, 59), list(0, 23), list(1, 12)
	x.MonthDay, x.YearDay, x.WeekNo, x.SetPos = list(-31, 31), list(-366, 366), list(-53, 53), list(-366, 366)
	for r.Intn(3) == 0 {
		d := api.ByDay{Num: r.Intn(3) - 1, Week: r.Intn(7)}
		if !slices.Contains(x.Days, d) {
			x.Days = append(x.Days, d)
		}
	}
	switch r.Intn(3) {
	case 0:
		x.Count = 1 + r.Intn(100)
	case 1:
		x.Until, x.UntilAt, x.Utc = true, r.Intn(1<<31)-1<<30, r.Intn(2) == 0
	}
	return x
}

func TestWhatIsWrittenIsRead(t *testing.T) {
	r := rand.New(rand.NewSource(1))
	count := 0
	for range 20000 {
		x := some(r)
		if Check(x) != api.OK {
			continue
		}
		count++
		s, e := Text(x)
		if back, f := Parse(s); !reflect.DeepEqual(back, x) || e != api.OK || f != api.OK {
			t.Fatal(x, s, e, back, f)
		}
		// The parts in any order, in small letters.
		parts := strings.Split(strings.ToLower(s), ";")
		r.Shuffle(len(parts), func(i, k int) { parts[i], parts[k] = parts[k], parts[i] })
		for i, p := range parts {
			if strings.HasPrefix(p, "until") {
				parts[i] = strings.ToUpper(p)
			}
		}
		if back, f := Parse(strings.Join(parts, ";")); !reflect.DeepEqual(back, x) || f != api.OK {
			t.Fatal(x, parts, back, f)
		}
	}
	if count < 1000 {
		t.Fatal("too few rules are right: " + strconv.Itoa(count))
	}
}
