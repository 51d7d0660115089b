package atform

import (
	"math"
	"testing"

	"solstice/api"
)

func TestParse(t *testing.T) {
	letters := map[string]int{"": api.AtWall, "w": api.AtWall, "W": api.AtWall, "s": api.AtStd, "S": api.AtStd, "u": api.AtUtc, "U": api.AtUtc, "g": api.AtUtc, "G": api.AtUtc, "z": api.AtUtc, "Z": api.AtUtc}
	for s, secs := range map[string]int{"-": 0, "0": 0, "1:00": 3600, "-1:30": -5400, "96": 345600, "-96": -345600, "2:03:04": 7384, "24:00": 86400} {
		for letter, kind := range letters {
			if a, e := Parse(s + letter); a != (api.At{Secs: secs, Kind: kind}) || e != api.OK {
				t.Error(s, letter, a, e)
			}
		}
	}
	for _, s := range []string{"", "u", "s", "w", "1:00x", "1:00us", "1:00uu", "1:00 u", "u1:00", "96:00:01", "97u", "-97", "1:60", "1:00d", "--u", "1:00\x00", "1:00\u017f", "+1"} {
		if a, e := Parse(s); a != (api.At{}) || e != api.ErrAt {
			t.Errorf("%q: %v %d", s, a, e)
		}
	}
}

func TestCheckAndText(t *testing.T) {
	for a, want := range map[api.At]string{{Secs: 3600, Kind: api.AtUtc}: "1u", {Secs: 0, Kind: api.AtWall}: "0", {Secs: -5400, Kind: api.AtStd}: "-1:30s", {Secs: 345600, Kind: api.AtWall}: "96", {Secs: -345600, Kind: api.AtUtc}: "-96u"} {
		s, e := Text(a)
		if s != want || e != api.OK || Check(a) != api.OK {
			t.Error(a, s, e, Check(a))
		}
	}
	for _, a := range []api.At{{}, {Secs: 1}, {Secs: 1, Kind: 4}, {Secs: 1, Kind: -1}, {Secs: 345601, Kind: 1}, {Secs: -345601, Kind: 2}, {Secs: math.MaxInt, Kind: 3}, {Secs: math.MinInt, Kind: 3}, {Kind: math.MaxInt}} {
		s, e := Text(a)
		if s != "" || e != api.ErrAt || Check(a) != api.ErrAt {
			t.Error(a, s, e, Check(a))
		}
	}
}

func TestWhatIsWrittenIsRead(t *testing.T) {
	for kind := api.AtWall; kind <= api.AtUtc; kind++ {
		for secs := -api.MaxSecs; secs <= api.MaxSecs; secs += 7 {
			a := api.At{Secs: secs, Kind: kind}
			s, e := Text(a)
			if back, f := Parse(s); back != a || e != api.OK || f != api.OK {
				t.Fatal(a, s, e, back, f)
			}
		}
	}
}

func TestUtc(t *testing.T) {
	const m, s = api.MaxNum, api.MaxSecs
	for _, c := range []struct {
		local, kind, std, save int
		want                   int
		ok                     bool
	}{
		{100000, api.AtWall, 3600, 1800, 94600, true},
		{100000, api.AtStd, 3600, 1800, 96400, true},
		{100000, api.AtUtc, 3600, 1800, 100000, true},
		{-100000, api.AtWall, -3600, -1800, -94600, true},
		{m, api.AtWall, -s, -s, m + 2*s, true},
		{-m, api.AtWall, s, s, -m - 2*s, true},
		{m, api.AtStd, -s, s, m + s, true},
		{m + 1, api.AtUtc, 0, 0, 0, false},
		{-m - 1, api.AtUtc, 0, 0, 0, false},
		{0, api.AtUtc, s + 1, 0, 0, false},
		{0, api.AtUtc, -s - 1, 0, 0, false},
		{0, api.AtUtc, 0, s + 1, 0, false},
		{0, api.AtStd, 0, -s - 1, 0, false},
		{0, 0, 0, 0, 0, false},
		{0, 4, 0, 0, 0, false},
		{0, math.MinInt, 0, 0, 0, false},
		{math.MinInt, 1, math.MinInt, math.MinInt, 0, false},
		{math.MaxInt, 1, math.MaxInt, math.MaxInt, 0, false},
	} {
		if n, ok := Utc(c.local, c.kind, c.std, c.save); n != c.want || ok != c.ok {
			t.Error(c, n, ok)
		}
	}
}
