package format

import (
	"math"
	"strings"
	"testing"

	"solstice/api"
)

func TestName(t *testing.T) {
	long := strings.Repeat("a", api.MaxName)
	for _, c := range []struct {
		format, letter string
		off, save      int
		want           string
	}{
		{"CE%sT", "S", 7200, 3600, "CEST"},
		{"CE%sT", "", 3600, 0, "CET"},
		{"%s", "-x", 0, 0, "-x"},
		{"%z", "", 5400, 0, "+0130"},
		{"%z", "S", -1, 0, "-000001"},
		{"U%zT", "", 0, 0, "U+00T"},
		{"GMT/BST", "", 0, 0, "GMT"},
		{"GMT/BST", "S", 3600, 3600, "BST"},
		{"GMT/BST", "S", 3600, -3600, "BST"},
		{"GMT/BST", "S", 3600, math.MinInt, "BST"},
		{"A/", "", 0, 0, "A"},
		{"/B", "", 0, 1, "B"},
		{"MSK", "S", 172799, 1, "MSK"},
		{"+03", "", -172799, 0, "+03"},
		{long, "", 0, 0, long},
		{long[6:] + "%s", "123456", 0, 0, long[6:] + "123456"},
		{long[7:] + "%z", "", -1, 0, long[7:] + "-000001"},
	} {
		if s, e := Name(c.format, c.letter, c.off, c.save); s != c.want || e != api.OK {
			t.Error(c, s, e)
		}
	}
}

func TestNameRefuses(t *testing.T) {
	long := strings.Repeat("a", api.MaxName)
	for _, c := range []struct {
		format, letter string
		off, save      int
	}{
		{"", "", 0, 0},
		{"%", "", 0, 0},
		{"A/B/C", "", 0, 0},
		{"A%s/B", "", 0, 0},
		{"A b", "", 0, 0},
		{long + "a", "", 0, 0},
		{"A", "-", 0, 0},
		{"A", "1234567", 0, 0},
		{"A", " ", 0, 0},
		{"A", "", 172800, 0},
		{"A", "", -172800, 0},
		{"A", "", math.MaxInt, 0},
		{"A", "", math.MinInt, 0},
		{"%s", "", 0, 0},
		{"A/", "", 0, 1},
		{"/B", "", 0, 0},
		{"/", "", 0, 0},
		{long[5:] + "%s", "123456", 0, 0},
		{long[6:] + "%z", "", -1, 0},
	} {
		if s, e := Name(c.format, c.letter, c.off, c.save); s != "" || e != api.ErrFormat {
			t.Error(c, s, e)
		}
	}
}

func TestShort(t *testing.T) {
	for off, want := range map[int]string{0: "+00", 3600: "+01", -3600: "-01", 5400: "+0130", -5400: "-0130", 1: "+000001", -1: "-000001", 60: "+0001", 3601: "+010001", 86400: "+24", 172799: "+475959", -172799: "-475959", 36000: "+10"} {
		if s, e := Short(off); s != want || e != api.OK {
			t.Error(off, s, e)
		}
	}
	for _, off := range []int{172800, -172800, math.MaxInt, math.MinInt} {
		if s, e := Short(off); s != "" || e != api.ErrNum {
			t.Error(off, s, e)
		}
	}
}

func TestRight(t *testing.T) {
	long := strings.Repeat("a", api.MaxName)
	for s, want := range map[string]bool{"": false, "a": true, "Z9+-": true, "-": true, "0": true, "a/b": false, "a%": false, "a_b": false, "a b": false, "é": false, "a\x00": false, long: true, long + "a": false} {
		if Right(s) != want {
			t.Errorf("%q", s)
		}
	}
}

func TestAFormatWithoutMarksIsTheName(t *testing.T) {
	for _, format := range []string{"A", "LMT", "+01", "-", "x-9+Y"} {
		for _, save := range []int{-1, 0, 1} {
			if s, e := Name(format, "S", 3600, save); s != format || e != api.OK {
				t.Error(format, s, e)
			}
		}
	}
}
