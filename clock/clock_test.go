package clock

import (
	"math"
	"math/big"
	"math/rand"
	"strings"
	"testing"

	"solstice/api"
)

func TestParse(t *testing.T) {
	for s, want := range map[string]int{"-": 0, "0": 0, "-0": 0, "00": 0, "000": 0, "1": 3600, "01": 3600, "001": 3600, "1:30": 5400, "-1:30": -5400, "0:00:01": 1, "-0:00:01": -1, "2:03:04": 7384, "24": 86400, "96": 345600, "96:00": 345600, "-96:00:00": -345600, "95:59:59": 345599, "0:59": 3540, "0:59:59": 3599} {
		if n, e := Parse(s); n != want || e != api.OK {
			t.Error(s, n, e)
		}
	}
	for _, s := range []string{"", "--", "--1", "+1", "-+1", "1-", "0001", "0000", "1:", "1:0", "1:000", "1:60", "1:00:", "1:00:0", "1:00:60", "1:00:000", "1:00:00:00", ":30", "-:30", "1::00", " 1", "1 ", "a", "1a", "1:a0", "1:-1", "96:00:01", "97", "-96:00:01", "999", "1.5", "1:3O", "１", "1:00s", "100:00", strings.Repeat("1", 1000)} {
		if n, e := Parse(s); n != 0 || e != api.ErrNum {
			t.Error(s, n, e)
		}
	}
}

func TestText(t *testing.T) {
	for n, want := range map[int]string{0: "0", 1: "0:00:01", -1: "-0:00:01", 60: "0:01", 3600: "1", 36000: "10", 5400: "1:30", -5400: "-1:30", 7384: "2:03:04", 345600: "96", -345600: "-96", 3601: "1:00:01", 86400: "24"} {
		if s, e := Text(n); s != want || e != api.OK {
			t.Error(n, s, e)
		}
	}
	for _, n := range []int{345601, -345601, math.MaxInt, math.MinInt} {
		if s, e := Text(n); s != "" || e != api.ErrNum {
			t.Error(n, s, e)
		}
	}
}

func TestWhatIsWrittenIsRead(t *testing.T) {
	for n := -api.MaxSecs; n <= api.MaxSecs; n++ {
		s, e := Text(n)
		if back, f := Parse(s); back != n || e != api.OK || f != api.OK {
			t.Fatal(n, s, e, back, f)
		}
	}
}

func TestSplitAndJoin(t *testing.T) {
	for _, n := range []int{0, 1, -1, 86399, 86400, -86400, -86401, api.MaxNum, -api.MaxNum, math.MaxInt, math.MinInt} {
		day, secs := Split(n)
		if secs < 0 || secs >= api.Day || exact(day, secs).Cmp(big.NewInt(int64(n))) != 0 {
			t.Error(n, day, secs)
		}
		back, ok := Join(day, secs)
		if want := n >= -api.MaxNum && n <= api.MaxNum; ok != want || ok && back != n || !ok && back != 0 {
			t.Error(n, back, ok)
		}
	}
}

func exact(day, secs int) *big.Int {
	b := new(big.Int).Mul(big.NewInt(int64(day)), big.NewInt(api.Day))
	return b.Add(b, big.NewInt(int64(secs)))
}

func TestJoinIsExactOrRefused(t *testing.T) {
	const most = api.MaxNum / api.Day
	days := []int{0, 1, -1, most, -most, most + 1, -most - 1, most + 2, -most - 2, 2 * most, -2 * most, 3 * most, -3 * most, 1 << 60, -1 << 60, 1<<60 + 1, math.MaxInt, math.MinInt}
	seconds := []int{0, 1, -1, 86399, 86400, api.MaxNum % api.Day, api.MaxNum%api.Day + 1, -(api.MaxNum % api.Day), -(api.MaxNum % api.Day) - 1, api.MaxNum, -api.MaxNum, math.MaxInt, math.MinInt}
	r := rand.New(rand.NewSource(1))
	for range 300 {
		days = append(days, int(r.Uint64())>>uint(r.Intn(63)))
		seconds = append(seconds, int(r.Uint64())>>uint(r.Intn(63)))
	}
	for _, day := range days {
		for _, secs := range seconds {
			want := exact(day, secs)
			is := want.CmpAbs(big.NewInt(api.MaxNum)) <= 0
			n, ok := Join(day, secs)
			if ok != is || !ok && n != 0 || ok && want.Cmp(big.NewInt(int64(n))) != 0 {
				t.Error(day, secs, n, ok, want)
			}
		}
	}
}
