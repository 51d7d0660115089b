package onform

import (
	"math"
	"strings"
	"testing"

	"solstice/api"
	"solstice/week"
)

func TestParse(t *testing.T) {
	for s, want := range map[string]api.On{
		"1":              {Kind: api.OnDay, Day: 1},
		"01":             {Kind: api.OnDay, Day: 1},
		"31":             {Kind: api.OnDay, Day: 31},
		"lastsunday":     {Kind: api.OnLast},
		"LASTSUN":        {Kind: api.OnLast},
		"lAsTsAt":        {Kind: api.OnLast, Week: 6},
		"lastMond":       {Kind: api.OnLast, Week: 1},
		"Sun>=8":         {Kind: api.OnAfter, Day: 8},
		"sun>=08":        {Kind: api.OnAfter, Day: 8},
		"Saturday>=31":   {Kind: api.OnAfter, Week: 6, Day: 31},
		"FRI<=1":         {Kind: api.OnBefore, Week: 5, Day: 1},
		"Wednesday<=25":  {Kind: api.OnBefore, Week: 3, Day: 25},
		"thu<=31":        {Kind: api.OnBefore, Week: 4, Day: 31},
		"LastWEDNESDAY":  {Kind: api.OnLast, Week: 3},
		"tues>=1":        {Kind: api.OnAfter, Week: 2, Day: 1},
		"lastthursda":    {Kind: api.OnLast, Week: 4},
		"mOnDaY<=9":      {Kind: api.OnBefore, Week: 1, Day: 9},
		"WEDN<=10":       {Kind: api.OnBefore, Week: 3, Day: 10},
		"saturda>=22":    {Kind: api.OnAfter, Week: 6, Day: 22},
		"lastSATURDAY":   {Kind: api.OnLast, Week: 6},
		"friday<=29":     {Kind: api.OnBefore, Week: 5, Day: 29},
		"sunday>=1":      {Kind: api.OnAfter, Day: 1},
		"LASTfri":        {Kind: api.OnLast, Week: 5},
		"lasttuesday":    {Kind: api.OnLast, Week: 2},
		"THURSDAY>=30":   {Kind: api.OnAfter, Week: 4, Day: 30},
		"Monday>=" + "7": {Kind: api.OnAfter, Week: 1, Day: 7},
	} {
		if on, e := Parse(s); on != want || e != api.OK {
			t.Error(s, on, e)
		}
	}
	for _, s := range []string{"", "0", "00", "32", "99", "001", "-1", "+1", "1 ", " 1", "last", "last ", "lastSu", "last Sun", "lastSun ", "lastSun>=8", "last8", "Sun", "Su>=8", "Sun>=", "Sun>=0", "Sun>=32", "Sun>=008", "Sun>8", "Sun=>8", "Sun==8", "Sun=8", "Sun<8", "Sun>= 8", "Sun >=8", ">=8", "<=8", "Sun>=8>=8", "Sun>=<=8", "Sun<=>=8", "Sun>=-8", "Sun>=8s", "8>=Sun", "Sunx>=8", "la\u017ftSun", "la\u017fsun", "1\x00", "l", "lasu", "lastlastSun", "\x8c\x81\x93\x94Sun", "LAST", "\xccastSun", strings.Repeat("1", 100)} {
		if on, e := Parse(s); on != (api.On{}) || e != api.ErrOn {
			t.Errorf("%q: %v %d", s, on, e)
		}
	}
}

func TestWhatIsWrittenIsRead(t *testing.T) {
	for kind := -1; kind <= 5; kind++ {
		for w := -1; w <= 7; w++ {
			for day := -1; day <= 32; day++ {
				on := api.On{Kind: kind, Week: w, Day: day}
				s, e := Text(on)
				if f := week.Check(on); e != f || e != api.OK && s != "" {
					t.Error(on, s, e)
				}
				if e != api.OK {
					continue
				}
				if back, f := Parse(s); back != on || f != api.OK {
					t.Error(on, s, back, f)
				}
			}
		}
	}
	if s, e := Text(api.On{Kind: api.OnDay, Day: math.MaxInt}); s != "" || e != api.ErrOn {
		t.Error(s, e)
	}
}

func TestText(t *testing.T) {
	for want, on := range map[string]api.On{"lastSun": {Kind: api.OnLast}, "lastSat": {Kind: api.OnLast, Week: 6}, "Sun>=8": {Kind: api.OnAfter, Day: 8}, "Wed<=25": {Kind: api.OnBefore, Week: 3, Day: 25}, "7": {Kind: api.OnDay, Day: 7}, "31": {Kind: api.OnDay, Day: 31}} {
		if s, e := Text(on); s != want || e != api.OK {
			t.Error(on, s, e)
		}
	}
}
