// Package observe stands beside the layers: whether a VTIMEZONE is right, as the layer that writes one and the layer that reads one both ask.
package observe

import (
	"strings"

	"solstice/api"
	"solstice/civil"
	"solstice/clock"
	"solstice/escape"
	"solstice/format"
	"solstice/recur"
)

const (
	maxId       = 200
	maxObs      = 2000
	maxDates    = 2000
	maxMonthDay = 7
)

// Check tells whether a VTIMEZONE is right.
func Check(v api.Vtz) api.Errno {
	if len(v.Id) < 1 || len(v.Id) > maxId || strings.IndexByte(v.Id, '\n') >= 0 || len(v.Obs) < 1 || len(v.Obs) > maxObs {
		return api.ErrZone
	}
	if _, e := escape.Put(v.Id); e != api.OK {
		return api.ErrZone
	}
	for _, o := range v.Obs {
		if !IsRight(o) {
			return api.ErrZone
		}
	}
	return api.OK
}

// IsRight tells whether an observance is right.
func IsRight(o api.Observance) bool {
	if !isOfYears(o.Start) || !belowDay(o.From) || !belowDay(o.To) || !format.Right(o.Name) || len(o.Dates) > maxDates {
		return false
	}
	for _, t := range o.Dates {
		if !isOfYears(t) {
			return false
		}
	}
	if !o.Has {
		return IsNothing(o.Rule)
	}
	return recur.Check(o.Rule) == api.OK && isPlain(o.Rule)
}

// isPlain tells whether a right rule is one of those that zones have.
func isPlain(r api.Recur) bool {
	return r.Freq == api.Yearly && r.Interval == 1 && r.Count == 0 && r.Utc == r.Until &&
		len(r.Second) == 0 && len(r.Minute) == 0 && len(r.Hour) == 0 &&
		len(r.YearDay) == 0 && len(r.WeekNo) == 0 && len(r.SetPos) == 0 &&
		len(r.Month) == 1 && len(r.Days) <= 1 && len(r.MonthDay) <= maxMonthDay &&
		len(r.Days)+len(r.MonthDay) > 0
}

// IsNothing tells whether a rule is all zero values, as it has to be where there is none.
func IsNothing(r api.Recur) bool {
	return r.Freq == 0 && r.Interval == 0 && r.Count == 0 && !r.Until && r.UntilAt == 0 && !r.Utc && r.Wkst == 0 &&
		len(r.Second) == 0 && len(r.Minute) == 0 && len(r.Hour) == 0 && len(r.Days) == 0 && len(r.MonthDay) == 0 &&
		len(r.YearDay) == 0 && len(r.WeekNo) == 0 && len(r.Month) == 0 && len(r.SetPos) == 0
}

// isOfYears tells whether a time's year is from 1 to 9999.
func isOfYears(t int) bool {
	day, _ := clock.Split(t)
	d, e := civil.Date(day)
	return e == api.OK && d.Year >= api.MinYear && d.Year <= api.MaxYear
}

// belowDay tells whether an offset is below a day either way.
func belowDay(off int) bool { return off > -api.Day && off < api.Day }
