package whole

import (
	"fmt"
	"maps"
	"math"
	"math/rand"
	"reflect"
	"slices"
	"testing"

	"solstice/api"
	"solstice/atform"
	"solstice/civil"
	"solstice/clock"
	"solstice/encode"
	"solstice/escape"
	"solstice/event"
	"solstice/fields"
	"solstice/filter"
	"solstice/fold"
	"solstice/format"
	"solstice/gen"
	"solstice/line"
	"solstice/num"
	"solstice/onform"
	"solstice/onset"
	"solstice/recur"
	"solstice/rrule"
	"solstice/rule"
	"solstice/source"
	"solstice/tree"
	"solstice/turns"
	"solstice/value"
	"solstice/vtz"
	"solstice/week"
	"solstice/words"
	"solstice/zic"
	"solstice/zone"
)

// every is all calls of all layers.
var every = map[string]any{
	"num.Add": num.Add, "num.Mul": num.Mul, "num.Div": num.Div, "num.Parse": num.Parse, "num.Text": num.Text,
	"civil.Long": civil.Long, "civil.Len": civil.Len, "civil.Number": civil.Number, "civil.Date": civil.Date, "civil.Weekday": civil.Weekday, "civil.YearDay": civil.YearDay,
	"week.Check": week.Check, "week.Resolve": week.Resolve, "week.Nth": week.Nth, "week.No": week.No, "week.Weeks": week.Weeks,
	"clock.Parse": clock.Parse, "clock.Text": clock.Text, "clock.Split": clock.Split, "clock.Join": clock.Join,
	"fields.Split": fields.Split, "fields.Lines": fields.Lines, "fields.Join": fields.Join,
	"words.Line": words.Line, "words.Month": words.Month, "words.Weekday": words.Weekday, "words.Year": words.Year, "words.Name": words.Name,
	"onform.Parse": onform.Parse, "onform.Text": onform.Text,
	"atform.Check": atform.Check, "atform.Parse": atform.Parse, "atform.Text": atform.Text, "atform.Utc": atform.Utc,
	"rule.Name": rule.Name, "rule.Letter": rule.Letter, "rule.Check": rule.Check, "rule.Parse": rule.Parse, "rule.Text": rule.Text,
	"zone.Format": zone.Format, "zone.Check": zone.Check, "zone.Era": zone.Era, "zone.Text": zone.Text,
	"source.Check": source.Check, "source.Parse": source.Parse, "source.Text": source.Text, "source.Find": source.Find,
	"format.Name": format.Name, "format.Short": format.Short, "format.Right": format.Right,
	"onset.Of": onset.Of, "onset.Letter": onset.Letter,
	"turns.Of": turns.Of, "turns.Needs": turns.Needs, "turns.Last": turns.Last,
	"zic.At": zic.At, "zic.Local": zic.Local, "zic.Among": zic.Among,
	"fold.Line": fold.Line, "fold.Unfold": fold.Unfold,
	"escape.Put": escape.Put, "escape.Get": escape.Get, "escape.List": escape.List, "escape.Unlist": escape.Unlist,
	"line.Check": line.Check, "line.Text": line.Text, "line.Parse": line.Parse, "line.Param": line.Param,
	"tree.Check": tree.Check, "tree.Text": tree.Text, "tree.Parse": tree.Parse, "tree.Kids": tree.Kids,
	"value.Time": value.Time, "value.ParseTime": value.ParseTime, "value.Offset": value.Offset, "value.ParseOffset": value.ParseOffset, "value.Times": value.Times,
	"recur.Check": recur.Check, "recur.Text": recur.Text, "recur.Parse": recur.Parse,
	"filter.Period": filter.Period, "filter.Lets": filter.Lets, "filter.Span": filter.Span,
	"rrule.Times": rrule.Times, "rrule.Of": rrule.Of, "rrule.Last": rrule.Last,
	"encode.On": encode.On, "encode.Move": encode.Move,
	"gen.Steady": gen.Steady, "gen.Zone": gen.Zone, "gen.Tree": gen.Tree, "gen.Text": gen.Text,
	"vtz.Check": vtz.Check, "vtz.Read": vtz.Read, "vtz.Parse": vtz.Parse, "vtz.Onset": vtz.Onset, "vtz.At": vtz.At,
	"event.Check": event.Check, "event.Expand": event.Expand, "event.Utc": event.Utc,
	"Compile": Compile, "Offset": Offset, "Zic": Zic, "Expand": Expand, "Calendar": Calendar,
}

// besideToo is which result is told beside an error or a false, too.
var besideToo = map[string]int{"source.Parse": 1, "rrule.Last": 2, "vtz.Onset": 2}

// A maker makes arguments: good ones, and such as are near to them or far from them.
type maker struct {
	*rand.Rand
	odds int  // one bit of so many is changed
	sane bool // numbers are small, or times of these years
}

var numbers = []int{0, 0, 0, 1, 1, 2, 3, 4, 5, 6, 7, 8, 12, 13, 28, 29, 31, 53, 60, 365, 1990, 2000, 2024, 3600, -3600, 7200, 86399, 86400, -86400, 172800, 345600, 345601, 9990, 9999, 10000, -1, -2, -7, 1 << 40, 946684800, 1782864000, -62135596800, 253402300799, 253402300800, api.MaxNum, -api.MaxNum, api.MaxNum / 2, api.MaxNum + 1, math.MaxInt, math.MinInt, api.MaxFuel}

var good []any

var texts = []string{"", "", "Berlin", "Berlin", "Berlin", "Oslo", text, text, text, "-", "A", "Z", "Berlin", "Oslo", "UTC", "R", "EU", "S", "rule", "mar", "sun", "max", "lastSun", "Sun>=8", "31", "1:00", "-1:30u", "CE%sT", "A/B", "%z", "+0100", "-0000", "19700101T000000", "20240229T120000Z", "a,b", `a\,b`, "a b\"c", "\x00", "\n", "\r\n x", "é€\x80", "X;Y=z:v", "BEGIN:A", "BEGIN:A\nEND:A", "FREQ=YEARLY;BYMONTH=3;BYDAY=-1SU", "FREQ=DAILY;COUNT=3", "Rule R 1990 max - Mar 1 0 1 S", "1:00 R A%s 1990", text}

func (m maker) make(t reflect.Type) reflect.Value {
	v := reflect.New(t).Elem()
	if m.Intn(3) > 0 {
		var l []any
		for _, x := range good {
			if reflect.TypeOf(x) == t {
				l = append(l, x)
			}
		}
		if len(l) > 0 {
			v.Set(reflect.ValueOf(l[m.Intn(len(l))]))
			return m.copy(v)
		}
	}
	switch t.Kind() {
	case reflect.Int:
		if m.sane {
			v.SetInt(int64([]int{0, 1, 1, 2, 3, 5, 3600, 9990, 946684800, 1782864000}[m.Intn(10)]))
			break
		}
		v.SetInt(int64(numbers[m.Intn(len(numbers))]))
		if m.Intn(4) == 0 {
			v.SetInt(int64(m.Uint64()) >> uint(m.Intn(64)))
		}
	case reflect.Bool:
		v.SetBool(m.Intn(2) == 0)
	case reflect.String:
		v.SetString(texts[m.Intn(len(texts))])
		if m.sane && m.Intn(2) == 0 {
			v.SetString([]string{"Berlin", text}[m.Intn(2)])
		}
	case reflect.Slice:
		v.Set(reflect.MakeSlice(t, 0, 9))
		for range []int{0, 1, 1, 2, 3, 10}[m.Intn(6)] {
			v.Set(reflect.Append(v, m.make(t.Elem())))
		}
	case reflect.Struct:
		for i := range t.NumField() {
			v.Field(i).Set(m.make(t.Field(i).Type))
		}
	}
	return v
}

// copy copies a value wholly, its lists with some spare room, and now and then changes a bit of it.
func (m maker) copy(v reflect.Value) reflect.Value {
	out := reflect.New(v.Type()).Elem()
	out.Set(v)
	switch v.Kind() {
	case reflect.Slice:
		spare := reflect.MakeSlice(v.Type(), v.Len()+3, v.Len()+3)
		for i := range v.Len() + 3 {
			if i < v.Len() {
				spare.Index(i).Set(m.copy(v.Index(i)))
			}
		}
		out.Set(spare.Slice3(0, v.Len(), v.Len()+3))
	case reflect.Struct:
		for i := range v.NumField() {
			out.Field(i).Set(m.copy(v.Field(i)))
		}
	default:
		if m.odds > 0 && m.Intn(m.odds) == 0 {
			return m.make(v.Type())
		}
	}
	return out
}

// whole shows a value with all of its lists' spare room.
func whole(v reflect.Value) string {
	switch v.Kind() {
	case reflect.Slice:
		s := fmt.Sprint(v.Len(), "[")
		for i, full := 0, v.Slice3(0, v.Cap(), v.Cap()); i < v.Cap(); i++ {
			s += whole(full.Index(i)) + " "
		}
		return s + "]"
	case reflect.Struct:
		s := "{"
		for i := range v.NumField() {
			s += whole(v.Field(i)) + " "
		}
		return s + "}"
	}
	return fmt.Sprintf("%#v", v.Interface())
}

// spoil writes over all lists of a value, and their spare room.
func spoil(v reflect.Value) {
	switch v.Kind() {
	case reflect.Slice:
		full := v.Slice3(0, v.Cap(), v.Cap())
		for i := range v.Cap() {
			spoil(full.Index(i))
			full.Index(i).Set(reflect.Zero(v.Type().Elem()))
		}
	case reflect.Struct:
		for i := range v.NumField() {
			spoil(v.Field(i))
		}
	}
}

func prepare() {
	s, _, _ := source.Parse(text)
	v, _ := gen.Zone(s, "Berlin")
	l, _ := gen.Tree(v)
	written, _ := Compile(text, "Berlin")
	r, _ := recur.Parse("FREQ=WEEKLY;BYDAY=SU,MO;COUNT=7")
	plain, _ := recur.Parse("FREQ=MONTHLY;BYMONTHDAY=1,-1;BYSETPOS=1")
	first, turned, _ := turns.Of(s, "Berlin", 2000)
	good = []any{s, v, l, l[1], r, plain, first, turned, s.Rules, s.Rules[4], s.Zones[0], s.Zones[0].Eras[1], s.Zones[0].Eras[2], s.Rules[4].On, s.Rules[4].At, v.Obs[1], v.Obs[len(v.Obs)-1], api.Event{Start: 946684800, Has: true, Rule: r, Dates: []int{5}, Not: []int{6}}, l[1].Lines[0], api.Date{Year: 2024, Month: 2, Day: 29}, []string{"Oslo", "UTC"}, []string{"1:00", "EU", "CE%sT"}, []string{"1:00", "EU", "CE%sT", "1980"}, []string{"Rule", "EU", "1981", "max", "-", "Mar", "lastSun", "1:00u", "1:00", "S"}, api.Line{Name: "A", Params: []api.Param{{Name: "B", Values: []string{"c", "d"}}}}}
	texts = append(texts, written)
}

// No call panics, changes what it is given, keeps anything, or shares memory; beside an error or a false all else is zero.
func TestEveryCallAtAllArguments(t *testing.T) {
	prepare()
	// Each call has arguments of its own that are the same in each run.
	for i, name := range slices.Sorted(maps.Keys(every)) {
		m := maker{Rand: rand.New(rand.NewSource(int64(i)))}
		call := reflect.ValueOf(every[name])
		right := 0
		for range 400 {
			var args []reflect.Value
			said := ""
			m.sane = m.Intn(2) == 0
			m.odds = []int{0, 0, 200, 40}[m.Intn(4)]
			for i := range call.Type().NumIn() {
				a := m.make(call.Type().In(i))
				args = append(args, a)
				said += whole(a) + "\n"
			}
			out := call.Call(args)
			after := ""
			for _, a := range args {
				after += whole(a) + "\n"
			}
			if after != said {
				t.Fatal(name, "changes its arguments", said, after)
			}
			if fails(out) {
				beside(t, name, said, out)
			} else {
				right++
			}
			again := call.Call(args)
			told := show(again)
			if show(out) != told {
				t.Fatal(name, "tells something else the second time", said)
			}
			for _, o := range out {
				spoil(o)
			}
			after = ""
			for _, a := range args {
				after += whole(a) + "\n"
			}
			if after != said || show(again) != told {
				t.Fatal(name, "shares memory", said)
			}
		}
		if right == 0 {
			t.Error(name, "is never right")
		}
	}
}

// show writes results without their spare room.
func show(out []reflect.Value) string {
	s := ""
	for _, o := range out {
		s += fmt.Sprintf("%#v ", o.Interface())
	}
	return s
}

// fails tells whether an error or a false is told. (A bool that stands beside an error is a result; one alone is an answer.)
func fails(out []reflect.Value) bool {
	for i := len(out) - 1; i >= 0; i-- {
		if e, ok := out[i].Interface().(api.Errno); ok {
			return e != api.OK
		}
	}
	for _, o := range out {
		if len(out) > 1 && o.Kind() == reflect.Bool {
			return !o.Bool()
		}
	}
	return false
}

// beside looks at what stands beside an error or a false.
func beside(t *testing.T, name, said string, out []reflect.Value) {
	t.Helper()
	for i, o := range out {
		_, isError := o.Interface().(api.Errno)
		empty := o.Kind() == reflect.Slice && o.Len() == 0
		if too, ok := besideToo[name]; !isError && !o.IsZero() && !empty && !(ok && too == i) {
			t.Fatal(name, "tells something beside its error", i, o.Interface(), said)
		}
	}
}
