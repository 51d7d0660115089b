package value

import (
	"math"
	"math/rand"
	"slices"
	"strings"
	"testing"
	"time"

	"solstice/api"
)

func at(y, m, d, hour, minute, second int) int {
	return int(time.Date(y, time.Month(m), d, hour, minute, second, 0, time.UTC).Unix())
}

func TestTimeThereAndBack(t *testing.T) {
	for want, n := range map[string]int{"19700101T000000": 0, "19691231T235959": -1, "00010101T000000": at(1, 1, 1, 0, 0, 0), "99991231T235959": at(9999, 12, 31, 23, 59, 59), "20240229T010203": at(2024, 2, 29, 1, 2, 3), "07890123T040506": at(789, 1, 23, 4, 5, 6)} {
		for _, utc := range []bool{false, true} {
			text := want
			if utc {
				text += "Z"
			}
			if s, e := Time(n, utc); s != text || e != api.OK {
				t.Error(n, s, e)
			}
			if back, is, e := ParseTime(text); back != n || is != utc || e != api.OK {
				t.Error(text, back, is, e)
			}
		}
	}
	for _, n := range []int{at(1, 1, 1, 0, 0, 0) - 1, at(10000, 1, 1, 0, 0, 0), math.MinInt, math.MaxInt, api.MaxNum} {
		if s, e := Time(n, true); s != "" || e != api.ErrYear {
			t.Error(n, s, e)
		}
	}
	r := rand.New(rand.NewSource(1))
	for range 100000 {
		n := at(1, 1, 1, 0, 0, 0) + r.Intn(at(9999, 12, 31, 23, 59, 59)-at(1, 1, 1, 0, 0, 0)+1)
		s, e := Time(n, false)
		if back, utc, f := ParseTime(s); back != n || utc || e != api.OK || f != api.OK || s != time.Unix(int64(n), 0).UTC().Format("20060102T150405") {
			t.Fatal(n, s, back, e, f)
		}
	}
}

func TestParseTimeRefuses(t *testing.T) {
	for _, s := range []string{"", "Z", "T", "20240101", "20240101T", "20240101T00000", "20240101T0000000", "20240101T000000z", "20240101T000000ZZ", "20240101t000000", "20240101 000000", "20240101T240000", "20240101T006000", "20240101T000060", "20230229T000000", "19000229T000000", "20240431T000000", "20240001T000000", "20241301T000000", "20240100T000000", "20240132T000000", "00000101T000000", "-0010101T000000", "+0240101T000000", "2024 101T000000", "2024010aT000000", "20240101T00000a", "20240101T-10000", "２0240101T000000", " 20240101T000000", "20240101T000000 ", "20240101T000000,", "2024-01-01T00:00:00", strings.Repeat("1", 100)} {
		if n, utc, e := ParseTime(s); n != 0 || utc || e != api.ErrValue {
			t.Errorf("%q: %d %v %d", s, n, utc, e)
		}
		if l, utc, e := Times(s); len(l) != 0 || utc || e != api.ErrValue {
			t.Errorf("%q: %d %v %d", s, l, utc, e)
		}
	}
}

func TestOffsetThereAndBack(t *testing.T) {
	for want, n := range map[string]int{"+0000": 0, "+0100": 3600, "-0100": -3600, "+0530": 19800, "+000001": 1, "-000001": -1, "-0001": -60, "+235959": 86399, "-235959": -86399, "+005328": 3208} {
		if s, e := Offset(n); s != want || e != api.OK {
			t.Error(n, s, e)
		}
	}
	for n := -86399; n < 86400; n++ {
		s, e := Offset(n)
		if back, f := ParseOffset(s); back != n || e != api.OK || f != api.OK {
			t.Fatal(n, s, e, back, f)
		}
	}
	for _, n := range []int{86400, -86400, math.MaxInt, math.MinInt} {
		if s, e := Offset(n); s != "" || e != api.ErrValue {
			t.Error(n, s, e)
		}
	}
	for s, want := range map[string]int{"+000000": 0, "+010000": 3600, "-010000": -3600, "-000100": -60} {
		if n, e := ParseOffset(s); n != want || e != api.OK {
			t.Error(s, n, e)
		}
	}
	for _, s := range []string{"", "+", "-", "0000", "-0000", "-000000", "+2400", "-2400", "+0060", "+000060", "+00", "+000", "+00000", "+0000000", "+-100", "++100", "--0100", "+ 100", "+01:00", "+0a00", "+00000a", "Z", "+0100 ", " +0100", "−0100"} {
		if n, e := ParseOffset(s); n != 0 || e != api.ErrValue {
			t.Errorf("%q: %d %d", s, n, e)
		}
	}
}

func TestTimes(t *testing.T) {
	const a, b = "19700101T000000", "19700101T000001"
	for s, want := range map[string][]int{a: {0}, b + "," + a + "," + a: {1, 0, 0}} {
		if l, utc, e := Times(s); !slices.Equal(l, want) || utc || e != api.OK {
			t.Error(s, l, utc, e)
		}
	}
	if l, utc, e := Times(a + "Z," + b + "Z"); !slices.Equal(l, []int{0, 1}) || !utc || e != api.OK {
		t.Error(l, utc, e)
	}
	for _, s := range []string{a + ",", "," + a, a + ",," + b, a + ", " + b, a + "," + b + "Z", a + "Z," + b, a + ";" + b} {
		if l, utc, e := Times(s); len(l) != 0 || utc || e != api.ErrValue {
			t.Error(s, l, utc, e)
		}
	}
}
