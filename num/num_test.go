package num

import (
	"math"
	"math/big"
	"math/rand"
	"strconv"
	"strings"
	"testing"

	"solstice/api"
)

var edges = []int{0, 1, -1, 2, -2, 7, -7, 86400, 1 << 31, -1 << 31, 1<<31 + 1, api.MaxNum, -api.MaxNum, api.MaxNum - 1, 1 - api.MaxNum, api.MaxNum + 1, -api.MaxNum - 1, math.MaxInt, math.MinInt}

func some() []int {
	r := rand.New(rand.NewSource(1))
	l := append([]int{}, edges...)
	for range 200 {
		n := int(r.Uint64())
		l = append(l, n>>uint(r.Intn(63)))
	}
	return l
}

func inside(b *big.Int) bool {
	return b.CmpAbs(big.NewInt(api.MaxNum)) <= 0
}

func TestAddAndMulAreExactOrRefused(t *testing.T) {
	for _, a := range some() {
		for _, b := range some() {
			x, y := big.NewInt(int64(a)), big.NewInt(int64(b))
			right := inside(x) && inside(y)
			check(t, "add", a, b, new(big.Int).Add(x, y), right, Add)
			check(t, "mul", a, b, new(big.Int).Mul(x, y), right, Mul)
		}
	}
}

func check(t *testing.T, what string, a, b int, want *big.Int, right bool, f func(a, b int) (int, bool)) {
	t.Helper()
	right = right && inside(want)
	n, ok := f(a, b)
	if ok != right || !ok && n != 0 || ok && big.NewInt(int64(n)).Cmp(want) != 0 {
		t.Errorf("%s %d %d: %d %v", what, a, b, n, ok)
	}
}

func TestDivRoundsDown(t *testing.T) {
	for _, a := range some() {
		for _, b := range some() {
			q, r, ok := Div(a, b)
			right := b >= 1 && b <= api.MaxNum && a >= -api.MaxNum && a <= api.MaxNum
			if ok != right {
				t.Errorf("%d by %d: %v", a, b, ok)
			}
			if !ok && (q != 0 || r != 0) {
				t.Errorf("%d by %d: %d %d beside a false", a, b, q, r)
			}
			if ok && (q*b+r != a || r < 0 || r >= b) {
				t.Errorf("%d by %d: %d %d", a, b, q, r)
			}
		}
	}
	if q, r, ok := Div(-1, 7); q != -1 || r != 6 || !ok {
		t.Error(q, r, ok)
	}
}

func TestParse(t *testing.T) {
	for s, want := range map[string]int{"0": 0, "00": 0, "7": 7, "007": 7, "999999999999999999": 999999999999999999, "000000000000000000": 0} {
		if n, ok := Parse(s); n != want || !ok {
			t.Error(s, n, ok)
		}
	}
	for _, s := range []string{"", "0000000000000000000", "-0", "-1", "+1", "1.0", "1e3", "0x1", "1_0", " 1", "1 ", "a", "٣", "1\x00", "/", ":", strings.Repeat("1", 1000)} {
		if n, ok := Parse(s); n != 0 || ok {
			t.Error(s, n, ok)
		}
	}
}

func TestText(t *testing.T) {
	for _, n := range some() {
		for _, d := range []int{math.MinInt, -1, 0, 1, 2, 5, 19, 20, 21, math.MaxInt} {
			want := ""
			if n >= 0 {
				want = strconv.Itoa(n)
				for d <= 20 && len(want) < d {
					want = "0" + want
				}
			}
			if s := Text(n, d); s != want {
				t.Errorf("%d %d: %q", n, d, s)
			}
		}
	}
}
