package tree

import (
	"math"
	"math/rand"
	"reflect"
	"slices"
	"strconv"
	"strings"
	"testing"

	"solstice/api"
)

func comp(name string, own int, lines ...api.Line) api.Comp {
	return api.Comp{Name: name, Lines: lines, Own: own}
}

func value(name, s string) api.Line { return api.Line{Name: name, Value: s} }

// text joins lines, each ended.
func text(l ...string) string { return strings.Join(l, "\r\n") + "\r\n" }

func TestTextAndParse(t *testing.T) {
	param := api.Line{Name: "P", Params: []api.Param{{Name: "Q", Values: []string{"a", "b:c"}}}, Value: "v"}
	for want, l := range map[string][]api.Comp{
		text("BEGIN:A", "END:A"):                             {comp("A", 0)},
		text("BEGIN:a-1", "X:y", `P;Q=a,"b:c":v`, "END:a-1"): {comp("a-1", 0, value("X", "y"), param)},
		text("BEGIN:A", "X:", "BEGIN:B", "BEGIN:C", "Y:", "END:C", "END:B", "BEGIN:D", "END:D", "END:A"): {comp("A", 3, value("X", "")), comp("B", 1), comp("C", 0, value("Y", "")), comp("D", 0)},
		text("BEGIN:A", "BEGIN:A", "END:A", "END:A"):                                                     {comp("A", 1), comp("A", 0)},
		text("BEGIN:A", "X:"+strings.Repeat("x", 73), " xx", "END:A"):                                    {comp("A", 0, value("X", strings.Repeat("x", 75)))},
	} {
		if s, e := Text(l); s != want || e != api.OK || Check(l) != api.OK {
			t.Errorf("%q: %q %d", want, s, e)
		}
		if got, e := Parse(want); !reflect.DeepEqual(got, l) || e != api.OK {
			t.Errorf("%q: %v %d", want, got, e)
		}
	}
	for s, want := range map[string][]api.Comp{
		"begin:A\nBeGiN:b\nx:1\neNd:B\nY:2\nbegin:C\nend:c\nZ:3\nend:a": {comp("A", 2, value("Y", "2"), value("Z", "3")), comp("b", 0, value("x", "1")), comp("C", 0)},
		"BEGIN:A\r\n\tB\r\nEND\r\n :AB":                                 {comp("AB", 0)},
	} {
		if got, e := Parse(s); !reflect.DeepEqual(got, want) || e != api.OK {
			t.Errorf("%q: %v %d", s, got, e)
		}
	}
}

// deep is components in one another.
func deep(n int) []api.Comp {
	var l []api.Comp
	for i := range n {
		l = append(l, comp("A", n-1-i))
	}
	return l
}

func TestCheckRefuses(t *testing.T) {
	long := strings.Repeat("N", api.MaxName)
	for k, l := range [][]api.Comp{
		nil,
		{},
		{comp("A", 1)},
		{comp("A", -1)},
		{comp("A", math.MaxInt)},
		{comp("A", math.MinInt)},
		{comp("A", 0), comp("B", 0)},
		{comp("A", 2), comp("B", 2), comp("C", 0)},
		{comp("A", 2), comp("B", -1), comp("C", 0)},
		{comp("A", 2), comp("B", math.MaxInt), comp("C", 0)},
		{comp("A", 4), comp("B", 1), comp("C", 1), comp("D", 0), comp("E", 0)},
		{comp("A", 1), comp("B", 1)},
		{comp("", 0)},
		{comp("A_", 0)},
		{comp("é", 0)},
		{comp(long+"N", 0)},
		{comp("A", 1), comp("", 0)},
		{comp("A", 0, value("", ""))},
		{comp("A", 0, value("X", "\n"))},
		{comp("A", 0, value("BEGIN", "A"))},
		{comp("A", 0, value("eNd", "A"))},
		{comp("A", 1), comp("B", 0, value("X", ""), value("begin", ""))},
		deep(api.MaxDepth + 1),
	} {
		if e := Check(l); e != api.ErrTree {
			t.Error(k, e)
		}
		if s, e := Text(l); s != "" || e != api.ErrTree {
			t.Error(k, s, e)
		}
	}
	for k, l := range [][]api.Comp{{comp(long, 0)}, deep(api.MaxDepth), append(append([]api.Comp{comp("A", 16)}, deep(7)...), deep(9)[2:]...)} {
		if k == 2 {
			l[0].Own = len(l) - 1
		}
		if e := Check(l); e != api.OK {
			t.Error(k, e)
		}
	}
}

func TestParseRefuses(t *testing.T) {
	nest := func(n int) string {
		return strings.Repeat("BEGIN:A\n", n) + strings.Repeat("END:A\n", n)
	}
	for s, want := range map[string]api.Errno{
		"":                                    api.ErrTree,
		"\n":                                  api.ErrLine,
		strings.Repeat(" ", 10*api.MaxText+1): api.ErrLen,
		"BEGIN:A\r":                           api.ErrLine,
		"BEGIN:A\nEND:B\nx":                   api.ErrLine,
		"BEGIN:A\n\nEND:A":                    api.ErrLine,
		"BEGIN:A":                             api.ErrTree,
		"END:A":                               api.ErrTree,
		"X:y":                                 api.ErrTree,
		"X:y\nBEGIN:A\nEND:A":                 api.ErrTree,
		"BEGIN:A\nEND:A\nX:y":                 api.ErrTree,
		"BEGIN:A\nEND:A\nBEGIN:B\nEND:B":      api.ErrTree,
		"BEGIN:A\nEND:A\nEND:A":               api.ErrTree,
		"BEGIN:A\nEND:B":                      api.ErrTree,
		"BEGIN:A\nBEGIN:B\nEND:A\nEND:B":      api.ErrTree,
		"BEGIN:A\nBEGIN:B\nEND:B":             api.ErrTree,
		"BEGIN;X=y:A\nEND:A":                  api.ErrTree,
		"BEGIN:A\nEND;X=y:A":                  api.ErrTree,
		"BEGIN:\nEND:":                        api.ErrTree,
		"BEGIN:A B\nEND:A B":                  api.ErrTree,
		"BEGIN:k\nEND:\u212a":                 api.ErrTree,
		"BEGIN:A \nEND:A ":                    api.ErrTree,
		nest(api.MaxDepth):                    api.OK,
		nest(api.MaxDepth + 1):                api.ErrTree,
		nest(30000):                           api.ErrTree,
		strings.Repeat("BEGIN:A\n", 60000):    api.ErrTree,
	} {
		if l, e := Parse(s); e != want || e != api.OK && len(l) != 0 {
			t.Errorf("%.60q: %v %d", s, l, e)
		}
	}
}

func TestTextIsNotTooLong(t *testing.T) {
	long := strings.Repeat("x", api.MaxText-2)
	if s, e := Text([]api.Comp{comp("A", 0, value("X", long))}); e != api.OK || len(s) < api.MaxText {
		t.Error(len(s), e)
	}
	if s, e := Text([]api.Comp{comp("A", 0, value("X", long+"x"))}); e != api.ErrLen || s != "" {
		t.Error(len(s), e)
	}
	// Lines of 72 bytes and an end.
	var l []api.Line
	for range (10*api.MaxText - len(text("BEGIN:A", "END:A"))) / 74 {
		l = append(l, value("X", strings.Repeat("x", 70)))
	}
	s, e := Text([]api.Comp{comp("A", 0, l...)})
	room := 10*api.MaxText - len(s)
	if e != api.OK || room < 0 || room >= 74 {
		t.Fatal(room, e)
	}
	name := "A" + strings.Repeat("A", room/2)
	if s, e := Text([]api.Comp{comp(name, 0, l...)}); e != api.OK || len(s) != 10*api.MaxText-room%2 {
		t.Error(len(s), e)
	}
	if s, e := Text([]api.Comp{comp(name+"A", 0, l...)}); e != api.ErrLen || s != "" {
		t.Error(len(s), e)
	}
}

func TestKids(t *testing.T) {
	l := []api.Comp{comp("A", 5), comp("B", 2), comp("C", 1), comp("D", 0), comp("E", 0), comp("F", 0)}
	for at, want := range map[int][]int{0: {1, 4, 5}, 1: {2}, 2: {3}, 3: nil, 5: nil, 6: nil, -1: nil, math.MinInt: nil, math.MaxInt: nil} {
		if got := Kids(l, at); !slices.Equal(got, want) {
			t.Error(at, got)
		}
	}
	for k, l := range [][]api.Comp{
		nil,
		{comp("A", 1)},
		{comp("A", -1), comp("B", 0)},
		{comp("A", math.MaxInt), comp("B", 0)},
		{comp("A", 2), comp("B", 2), comp("C", 0)},
		{comp("A", 2), comp("B", 0), comp("C", 1), comp("D", 0)},
		{comp("A", 2), comp("B", 0), comp("C", -1)},
		{comp("A", 2), comp("B", math.MaxInt), comp("C", 0)},
		{comp("A", 2), comp("B", math.MinInt), comp("C", 0)},
	} {
		if got := Kids(l, 0); len(got) != 0 {
			t.Error(k, got)
		}
	}
	if got := Kids([]api.Comp{comp("A", 1), comp("B", 2)}, 1); len(got) != 0 {
		t.Error(got)
	}
	// What is of one of its own is not looked at, names and lines are not either; it may be no right tree.
	if got := Kids([]api.Comp{comp("", 3), comp("", 1), comp("", -7), comp("", 0), comp("", 99)}, 0); !slices.Equal(got, []int{1, 3}) {
		t.Error(got)
	}
}

// grow adds a component with its own to a list.
func grow(r *rand.Rand, l []api.Comp, depth int) []api.Comp {
	at := len(l)
	c := comp("N"+strconv.Itoa(r.Intn(3)), 0)
	for range r.Intn(3) {
		c.Lines = append(c.Lines, value("X", strings.Repeat("é", r.Intn(90))))
	}
	l = append(l, c)
	for depth < api.MaxDepth && r.Intn(3) > 0 {
		l = grow(r, l, depth+1)
	}
	l[at].Own = len(l) - 1 - at
	return l
}

func TestWhatIsWrittenIsRead(t *testing.T) {
	r := rand.New(rand.NewSource(1))
	for range 300 {
		l := grow(r, nil, 1)
		s, e := Text(l)
		if back, f := Parse(s); !reflect.DeepEqual(back, l) || e != api.OK || f != api.OK {
			t.Fatal(l, e, f)
		}
	}
}
