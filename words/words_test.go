package words

import (
	"math"
	"strings"
	"sync"
	"testing"

	"solstice/api"
)

var all = map[int][]string{
	1: {"Rule", "Zone", "Link"},
	2: {"January", "February", "March", "April", "May", "June", "July", "August", "September", "October", "November", "December"},
	3: {"Sunday", "Monday", "Tuesday", "Wednesday", "Thursday", "Friday", "Saturday"},
	4: {"minimum", "maximum", "only"},
}

var calls = map[int]func(string) (int, api.Errno){1: Line, 2: Month, 3: Weekday, 4: Year}

var least = map[int]int{1: 1, 2: 3, 3: 3, 4: 1}

func first(kind int) int {
	if kind == 3 {
		return 0
	}
	return 1
}

func TestBeginningsAreWords(t *testing.T) {
	for kind, words := range all {
		for i, word := range words {
			for size := 0; size <= len(word); size++ {
				s := word[:size]
				same := 0
				for _, other := range words {
					if strings.HasPrefix(strings.ToLower(other), strings.ToLower(s)) {
						same++
					}
				}
				want, e := first(kind)+i, api.OK
				if size < least[kind] || same != 1 {
					want, e = 0, api.ErrWord
				}
				for _, form := range []string{s, strings.ToUpper(s), strings.ToLower(s), strings.Title(strings.ToLower(s))} {
					if n, f := calls[kind](form); n != want || f != e {
						t.Errorf("%d %q: %d %d", kind, form, n, f)
					}
				}
			}
		}
	}
}

func TestExamples(t *testing.T) {
	if n, e := Month("sEp"); n != 9 || e != api.OK {
		t.Error(n, e)
	}
	if n, e := Year("ma"); n != 2 || e != api.OK {
		t.Error(n, e)
	}
	if n, e := Year("m"); n != 0 || e != api.ErrWord {
		t.Error(n, e)
	}
	if n, e := Weekday("SUN"); n != 0 || e != api.OK {
		t.Error(n, e)
	}
}

func TestNoWords(t *testing.T) {
	for _, s := range []string{"", " ", "x", "Rules", "Zonee", "rule ", " rule", "Ja", "Ju", "ma\x00", "Su", "Sundays", "Janx", "Mayy", "onl\u0131", "lin\u212a", "\u017funday", "\u017fep", "mınimum", "-", "R\x00", "o\xff", strings.Repeat("r", 1000)} {
		for kind, call := range calls {
			if n, e := call(s); n != 0 || e != api.ErrWord {
				t.Errorf("%d %q: %d %d", kind, s, n, e)
			}
		}
	}
	// A word of one kind is none of another.
	for kind, words := range all {
		for other, call := range calls {
			for _, word := range words {
				if n, e := call(word); other != kind && (n != 0 || e != api.ErrWord) {
					t.Errorf("%d %q: %d %d", other, word, n, e)
				}
			}
		}
	}
}

func TestName(t *testing.T) {
	for kind := -1; kind <= 6; kind++ {
		for i := -2; i <= 14; i++ {
			want, e := "", api.ErrArg
			if k := i - first(kind); k >= 0 && k < len(all[kind]) {
				want, e = all[kind][k], api.OK
			}
			if s, f := Name(kind, i); s != want || f != e {
				t.Errorf("%d %d: %q %d", kind, i, s, f)
			}
		}
	}
	for _, n := range []int{math.MinInt, math.MaxInt} {
		for _, k := range []int{math.MinInt, 1, 3, math.MaxInt} {
			if s, e := Name(k, n); s != "" || e != api.ErrArg {
				t.Error(k, n, s, e)
			}
			if s, e := Name(n, k); s != "" || e != api.ErrArg {
				t.Error(n, k, s, e)
			}
		}
	}
}

func TestCallsBesideOneAnother(t *testing.T) {
	var g sync.WaitGroup
	for range 8 {
		g.Add(1)
		go func() {
			defer g.Done()
			for i := range 1000 {
				if n, e := Month(all[2][i%12]); n != i%12+1 || e != api.OK {
					t.Error(i, n, e)
				}
			}
		}()
	}
	g.Wait()
}
