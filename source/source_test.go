package source

import (
	"math/rand"
	"reflect"
	"strconv"
	"strings"
	"testing"

	"solstice/api"
)

const europe = `# Rules of the European Union
Rule EU 1977 1980 - Apr Sun>=1 1:00u 1:00 S
Rule	EU	1981	max	-	Mar	lastSun	1:00u	1:00	S	# for ever
r EU 1996 max - Oct lastSun 1:00u 0 -

Z Europe/Berlin 0:53:28 - LMT 1893 Apr # ahead of all

  # between
 1:00 EU CE%sT 1980
1:00	EU	CE%sT
Link Europe/Berlin Europe/Oslo
Link Europe/Oslo "Arctic/Longyearbyen"
Zone Etc/UTC 0 - UTC
`

func europeIs() api.Source {
	sunday := api.On{Kind: api.OnLast}
	at := api.At{Secs: 3600, Kind: api.AtUtc}
	return api.Source{
		Rules: []api.Rule{
			{Name: "EU", From: 1977, To: 1980, Month: 4, On: api.On{Kind: api.OnAfter, Day: 1}, At: at, Save: 3600, Letter: "S"},
			{Name: "EU", From: 1981, To: 9999, Month: 3, On: sunday, At: at, Save: 3600, Letter: "S"},
			{Name: "EU", From: 1996, To: 9999, Month: 10, On: sunday, At: at},
		},
		Zones: []api.Zone{
			{Name: "Europe/Berlin", Eras: []api.Era{
				{Std: 3208, Kind: api.EraNone, Format: "LMT", Until: true, Year: 1893, Month: 4, On: api.On{Kind: api.OnDay, Day: 1}, At: api.At{Kind: api.AtWall}},
				{Std: 3600, Kind: api.EraRule, Rule: "EU", Format: "CE%sT", Until: true, Year: 1980, Month: 1, On: api.On{Kind: api.OnDay, Day: 1}, At: api.At{Kind: api.AtWall}},
				{Std: 3600, Kind: api.EraRule, Rule: "EU", Format: "CE%sT"},
			}},
			{Name: "Etc/UTC", Eras: []api.Era{{Kind: api.EraNone, Format: "UTC"}}},
		},
		Links: []api.Link{{To: "Europe/Berlin", Name: "Europe/Oslo"}, {To: "Europe/Oslo", Name: "Arctic/Longyearbyen"}},
	}
}

// same tells whether two sources are; nil and an empty list are the same.
func same(a, b api.Source) bool {
	return len(a.Rules)+len(b.Rules) == 0 && len(a.Zones)+len(b.Zones) == 0 && len(a.Links)+len(b.Links) == 0 || reflect.DeepEqual(a, b)
}

func TestParse(t *testing.T) {
	s, line, e := Parse(europe)
	if !reflect.DeepEqual(s, europeIs()) || line != 0 || e != api.OK {
		t.Error(s, line, e)
	}
	for _, text := range []string{"", "\n", "# a comment alone", " \t\r\n#\n\n"} {
		if s, line, e := Parse(text); !same(s, api.Source{}) || line != 0 || e != api.OK {
			t.Error(text, s, line, e)
		}
	}
}

func TestParseTellsTheLineOfAFault(t *testing.T) {
	const rule = "Rule R 1 max - Jan 1 0 0 -\n"
	for text, want := range map[string]struct {
		line int
		e    api.Errno
	}{
		strings.Repeat("\n", api.MaxText+1):       {0, api.ErrLen},
		strings.Repeat("\n", api.MaxText):         {0, api.OK},
		"\n" + strings.Repeat("#", api.MaxLine+1): {2, api.ErrLen},
		"#\n\nRule \"\n":                          {3, api.ErrField},
		"\x00":                                    {1, api.ErrField},
		"x y\n":                                   {1, api.ErrWord},
		"\"\"":                                    {1, api.ErrWord},
		"Rules\n":                                 {1, api.ErrWord},
		rule + "Rule R 1 max - Jan 1 0 0\n":       {2, api.ErrField},
		rule + "Rule R 1 max - Jan 32 0 0 -\n":    {2, api.ErrOn},
		"Zone Z 0 -":                              {1, api.ErrField},
		"Zone 1 0 - X":                            {1, api.ErrZone},
		"Zone 1 0 -":                              {1, api.ErrField},
		"Zone Z 0 - X 1 1 1 1 1":                  {1, api.ErrField},
		"Zone Z 97 - X":                           {1, api.ErrNum},
		"Zone Z 24 - X":                           {1, api.ErrZone},
		"Zone Z 0 - X 1980\n#\n\nLink Z Y":        {4, api.ErrNum},
		"Zone Z 0 - X 1980\nZone Y 0 - X":         {2, api.ErrNum},
		"Zone Z 0 - X 1980\n0 -":                  {2, api.ErrField},
		"Zone Z 0 - X 1980\n#\n\n":                {1, api.ErrZone},
		"Zone Z 0 - X 1980\n#\n\n0 - X 1981\n\n":  {4, api.ErrZone},
		"Zone Z 0 - X 1980\n0 - X\n0 - X":         {3, api.ErrWord},
		"Link Z":                                  {1, api.ErrField},
		"Link Z Y X":                              {1, api.ErrField},
		"Link Z 1":                                {1, api.ErrLink},
		"Link 1 Z":                                {1, api.ErrLink},
		"Link Z Y":                                {0, api.ErrNone},
		"Zone Z 0 R X":                            {0, api.ErrNone},
		"Zone Z 0 - X\nZone Z 0 - X":              {0, api.ErrTwice},
		strings.Repeat(rule, api.MaxRules+1):      {0, api.ErrLen},
		strings.Repeat(rule, api.MaxRules):        {0, api.OK},
		"Zone Z " + strings.Repeat("0 - X 1980\n", api.MaxEras) + "0 - X":   {0, api.ErrZone},
		"Zone Z " + strings.Repeat("0 - X 1980\n", api.MaxEras-1) + "0 - X": {0, api.OK},
		"Zone Z 0 - X 1980\n\"": {2, api.ErrField},
	} {
		s, line, e := Parse(text)
		if line != want.line || e != want.e || e != api.OK && !reflect.DeepEqual(s, api.Source{}) {
			t.Errorf("%.60q: %d %d", text, line, e)
		}
	}
}

func TestCheck(t *testing.T) {
	bad := func(change func(s *api.Source)) api.Source {
		s := europeIs()
		change(&s)
		return s
	}
	wrongRule := func(s *api.Source) { s.Rules[1].Month = 0 }
	wrongZone := func(s *api.Source) { s.Zones[0].Eras = nil }
	wrongLink := func(s *api.Source) { s.Links[1].To = "" }
	twice := func(s *api.Source) { s.Links[1].Name = "Etc/UTC" }
	noRule := func(s *api.Source) { s.Zones[0].Eras[1].Rule = "FR" }
	for k, c := range []struct {
		s    api.Source
		want api.Errno
	}{
		{api.Source{}, api.OK},
		{europeIs(), api.OK},
		{bad(wrongRule), api.ErrRule},
		{bad(wrongZone), api.ErrZone},
		{bad(wrongLink), api.ErrLink},
		{bad(func(s *api.Source) { s.Links[0].Name = "9" }), api.ErrLink},
		{bad(twice), api.ErrTwice},
		{bad(func(s *api.Source) { s.Zones[1].Name = "Europe/Berlin" }), api.ErrTwice},
		{bad(func(s *api.Source) { s.Links[1].Name = "Europe/Oslo" }), api.ErrTwice},
		{bad(noRule), api.ErrNone},
		{bad(func(s *api.Source) { s.Rules = nil }), api.ErrNone},
		{bad(func(s *api.Source) { s.Links[0].To = "Europe/Paris" }), api.ErrNone},
		{bad(func(s *api.Source) { s.Links[0].To = "Arctic/Longyearbyen" }), api.ErrNone},
		{bad(func(s *api.Source) { s.Links[0].To = "Europe/Oslo" }), api.ErrNone},
		{bad(func(s *api.Source) { wrongRule(s); noRule(s); wrongZone(s); wrongLink(s); twice(s) }), api.ErrRule},
		{bad(func(s *api.Source) { wrongZone(s); wrongLink(s); twice(s) }), api.ErrZone},
		{bad(func(s *api.Source) { wrongLink(s); s.Zones[1].Name = "Europe/Berlin"; noRule(s) }), api.ErrLink},
		{bad(func(s *api.Source) { twice(s); noRule(s) }), api.ErrTwice},
		{bad(func(s *api.Source) { s.Rules = make([]api.Rule, api.MaxRules+1) }), api.ErrLen},
		{bad(func(s *api.Source) { s.Zones = make([]api.Zone, api.MaxZones+1) }), api.ErrLen},
		{bad(func(s *api.Source) { s.Links = make([]api.Link, api.MaxZones+1) }), api.ErrLen},
		{bad(func(s *api.Source) { s.Links = make([]api.Link, api.MaxZones) }), api.ErrLink},
		{bad(func(s *api.Source) { s.Zones = make([]api.Zone, api.MaxZones) }), api.ErrZone},
		{bad(func(s *api.Source) { s.Rules = make([]api.Rule, api.MaxRules) }), api.ErrRule},
	} {
		if e := Check(c.s); e != c.want {
			t.Error(k, e)
		}
		if text, e := Text(c.s); e != c.want || e != api.OK && text != "" {
			t.Error(k, text, e)
		}
		if z, e := Find(c.s, "Etc/UTC"); c.want != api.OK && (e != c.want || !reflect.DeepEqual(z, api.Zone{})) {
			t.Error(k, z, e)
		}
	}
}

// chain is a zone and links, the first one leading to the next.
func chain(n int) api.Source {
	s := api.Source{Zones: []api.Zone{{Name: "L" + strconv.Itoa(n), Eras: []api.Era{{Kind: api.EraNone, Format: "X"}}}}}
	for i := range n {
		s.Links = append(s.Links, api.Link{To: "L" + strconv.Itoa(i+1), Name: "L" + strconv.Itoa(i)})
	}
	return s
}

func TestFind(t *testing.T) {
	s := europeIs()
	for name, want := range map[string]string{"Europe/Berlin": "Europe/Berlin", "Europe/Oslo": "Europe/Berlin", "Arctic/Longyearbyen": "Europe/Berlin", "Etc/UTC": "Etc/UTC"} {
		if z, e := Find(s, name); z.Name != want || e != api.OK || len(z.Eras) == 0 {
			t.Error(name, z, e)
		}
	}
	for _, name := range []string{"", "EU", "europe/berlin", "Europe/Berlin "} {
		if z, e := Find(s, name); !reflect.DeepEqual(z, api.Zone{}) || e != api.ErrNone {
			t.Error(name, z, e)
		}
	}
	if z, e := Find(chain(api.MaxZones), "L0"); z.Name != "L60" || e != api.OK {
		t.Error(z, e)
	}
	z, _ := Find(s, "Europe/Berlin")
	z.Eras[0].Std = 1
	if !reflect.DeepEqual(s, europeIs()) {
		t.Error("what is found shares the source's memory")
	}
}

func TestText(t *testing.T) {
	want := `Rule EU 1977 1980 - Apr Sun>=1 1u 1 S
Rule EU 1981 max - Mar lastSun 1u 1 S
Rule EU 1996 max - Oct lastSun 1u 0 -
Zone Europe/Berlin 0:53:28 - LMT 1893 Apr 1 0
1 EU CE%sT 1980 Jan 1 0
1 EU CE%sT
Zone Etc/UTC 0 - UTC
Link Europe/Berlin Europe/Oslo
Link Europe/Oslo Arctic/Longyearbyen
`
	if text, e := Text(europeIs()); text != want || e != api.OK {
		t.Error(text, e)
	}
}

// great is a source of so many eras that go on, its first zones' names longer by more.
func great(eras, more int) api.Source {
	era := europeIs().Zones[0].Eras[1]
	era.Format = strings.Repeat("F", api.MaxName)
	last := api.Era{Kind: api.EraNone, Format: "X"}
	s := api.Source{Rules: europeIs().Rules}
	for len(s.Zones) == 0 || eras > 0 {
		longer := min(more, api.MaxName-3)
		z := api.Zone{Name: "Z" + strconv.Itoa(10+len(s.Zones)) + strings.Repeat("N", longer)}
		for eras > 0 && len(z.Eras) < api.MaxEras-1 {
			z.Eras = append(z.Eras, era)
			eras--
		}
		z.Eras = append(z.Eras, last)
		s.Zones = append(s.Zones, z)
		more -= longer
	}
	return s
}

func TestTextIsNotTooLong(t *testing.T) {
	const eras = 1000
	text, e := Text(great(eras, 0))
	room := api.MaxText - len(text)
	if e != api.OK || room < 0 || room > 1000 {
		t.Fatal("the test's source has to be near the greatest length", room, e)
	}
	if text, e := Text(great(eras, room)); len(text) != api.MaxText || e != api.OK {
		t.Error(len(text), e)
	}
	if text, e := Text(great(eras, room+1)); text != "" || e != api.ErrLen {
		t.Error(len(text), e)
	}
}

func TestWhatIsWrittenIsRead(t *testing.T) {
	r := rand.New(rand.NewSource(1))
	for k := range 300 {
		s := some(r)
		text, e := Text(s)
		if e != api.OK {
			t.Fatal(k, e, s)
		}
		back, line, e := Parse(text)
		if !same(back, s) || line != 0 || e != api.OK {
			t.Fatal(k, line, e, text)
		}
	}
}

func some(r *rand.Rand) api.Source {
	var s api.Source
	for i := range r.Intn(8) {
		s.Rules = append(s.Rules, api.Rule{Name: "R" + strconv.Itoa(i/2), From: 1 + r.Intn(5000), To: 5000 + r.Intn(5000), Month: 1 + r.Intn(12), On: api.On{Kind: api.OnBefore, Week: r.Intn(7), Day: 1 + r.Intn(28)}, At: api.At{Secs: r.Intn(86400), Kind: 1 + r.Intn(3)}, Save: r.Intn(7200), Letter: []string{"", "D"}[r.Intn(2)]})
	}
	for i := range r.Intn(6) {
		z := api.Zone{Name: "Z/" + strconv.Itoa(i)}
		for k := range 1 + r.Intn(4) {
			e := api.Era{Std: r.Intn(86400), Kind: api.EraNone, Format: "A%sB", Until: true, Year: 1800 + k, Month: 1 + r.Intn(12), On: api.On{Kind: api.OnLast, Week: r.Intn(7)}, At: api.At{Secs: r.Intn(86400), Kind: 1 + r.Intn(3)}}
			if len(s.Rules) > 0 {
				e.Kind, e.Rule = api.EraRule, s.Rules[r.Intn(len(s.Rules))].Name
			}
			z.Eras = append(z.Eras, e)
		}
		z.Eras = append(z.Eras, api.Era{Std: -r.Intn(86400), Kind: api.EraSave, Save: r.Intn(86400), Format: "%z"})
		s.Zones = append(s.Zones, z)
		s.Links = append(s.Links, api.Link{To: z.Name, Name: "L" + strconv.Itoa(i)})
	}
	return s
}
