package zone_test

import (
	"math"
	"math/rand/v2"
	"slices"
	"testing"
	"time"
	_ "time/tzdata"

	"kilowatt/api"
	"kilowatt/civil"
	"kilowatt/zone"
)

const (
	hour = 3600
	day  = 24 * hour
)

func source() *rand.Rand { return rand.New(rand.NewPCG(71, 72)) }

func change(month, weekday, n, minute int) zone.Change {
	return zone.Change{Month: month, Weekday: weekday, N: n, Minute: minute}
}

// europe is the chapter's example.
func europe() zone.Zone {
	return zone.Zone{Offset: hour, Rules: []zone.Rule{
		{First: 1996, Last: 9999, On: change(3, 7, -1, 120), Off: change(10, 7, -1, 120), Extra: hour},
	}}
}

// south has daylight saving time around the new year, from the first year to the last one.
func south() zone.Zone {
	return zone.Zone{Offset: 10 * hour, Rules: []zone.Rule{
		{First: 1970, Last: 9999, On: change(10, 7, 1, 120), Off: change(4, 7, 1, 120), Extra: hour},
	}}
}

// anyZone has valid rules, with years that overlap, and many changes near the new year.
func anyZone(r *rand.Rand) zone.Zone {
	z := zone.Zone{Offset: r.IntN(2*50400+1) - 50400}
	for range r.IntN(zone.MaxRules + 1) {
		first := 1970 + r.IntN(60)
		z.Rules = append(z.Rules, zone.Rule{First: first, Last: first + r.IntN(20), On: anyChange(r), Off: anyChange(r), Extra: 1 + r.IntN(7200)})
	}
	return z
}

func anyChange(r *rand.Rand) zone.Change {
	months := []int{1, 1, 2, 3, 6, 10, 11, 12, 12}
	places := []int{1, 2, 3, 4, -1}
	return change(months[r.IntN(len(months))], 1+r.IntN(7), places[r.IntN(len(places))], r.IntN(1440))
}

// clock is a local time as the tests' own arithmetic tells it.
type clock struct {
	local  int64
	summer bool
}

// weekdayOf is the n-th weekday of a month, found by going from day to day.
func weekdayOf(year, month, weekday, n int) time.Time {
	var found []time.Time
	for d := time.Date(year, time.Month(month), 1, 0, 0, 0, 0, time.UTC); int(d.Month()) == month; d = d.AddDate(0, 0, 1) {
		if (int(d.Weekday())+6)%7+1 == weekday {
			found = append(found, d)
		}
	}
	if n == -1 {
		return found[len(found)-1]
	}
	return found[n-1]
}

func textOf(year int, c zone.Change) string {
	d := weekdayOf(year, c.Month, c.Weekday, c.N)
	return d.Add(time.Duration(c.Minute) * time.Minute).Format("2006-01-02T15:04:05")
}

// read is the local time of t by the words of the chapter, on texts of the library's calendar.
func read(z zone.Zone, t int64) clock {
	standard := time.Unix(t+int64(z.Offset), 0).UTC()
	now := standard.Format("2006-01-02T15:04:05")
	for _, r := range z.Rules {
		if standard.Year() < r.First || standard.Year() > r.Last {
			continue
		}
		on, off := textOf(standard.Year(), r.On), textOf(standard.Year(), r.Off)
		var in bool
		switch {
		case on < off:
			in = now >= on && now < off
		case off < on:
			in = now < off || now >= on
		}
		if in {
			return clock{standard.Unix() + int64(r.Extra), true}
		}
		break
	}
	return clock{standard.Unix(), false}
}

func at(t *testing.T, text string) int64 {
	t.Helper()
	n, e := civil.Instant(moment(t, text))
	if e != api.OK {
		t.Fatal(text, e)
	}
	return n
}

func moment(t *testing.T, text string) civil.Moment {
	t.Helper()
	m, e := civil.ParseAt(text)
	if e != api.OK {
		t.Fatal(text, e)
	}
	return m
}

func momentAt(t *testing.T, n int64) civil.Moment {
	t.Helper()
	m, e := civil.At(n)
	if e != api.OK {
		t.Fatal(n, e)
	}
	return m
}

// holds checks Offset, Local and Day of n against a local time.
func holds(t *testing.T, z zone.Zone, n int64, want clock) {
	t.Helper()
	m, summer, e := zone.Local(z, n)
	if e != api.OK || m != momentAt(t, want.local) || summer != want.summer {
		t.Fatalf("Local(%+v, %d) = %v %v %v, not %+v", z, n, m, summer, e, want)
	}
	ahead, e := zone.Offset(z, n)
	if e != api.OK || int64(ahead) != want.local-n {
		t.Fatalf("Offset(%+v, %d) = %d %v, not %+v", z, n, ahead, e, want)
	}
	d, minute, e := zone.Day(z, n)
	if e != api.OK || int64(d) != want.local/day || int64(minute) != want.local%day/60 {
		t.Fatalf("Day(%+v, %d) = %d %d %v, not %+v", z, n, d, minute, e, want)
	}
}

// refuses checks that Offset, Local and Day answer that error, and nothing beside it.
func refuses(t *testing.T, z zone.Zone, n int64, want api.Errno) {
	t.Helper()
	if m, summer, e := zone.Local(z, n); m != (civil.Moment{}) || summer || e != want {
		t.Errorf("Local(%+v, %d) = %v %v %v", z, n, m, summer, e)
	}
	if ahead, e := zone.Offset(z, n); ahead != 0 || e != want {
		t.Errorf("Offset(%+v, %d) = %d %v", z, n, ahead, e)
	}
	if d, minute, e := zone.Day(z, n); d != 0 || minute != 0 || e != want {
		t.Errorf("Day(%+v, %d) = %d %d %v", z, n, d, minute, e)
	}
}

// times checks the instants of a local time.
func times(t *testing.T, z zone.Zone, m civil.Moment, want ...int64) {
	t.Helper()
	got, e := zone.Instants(z, m)
	if e != api.OK || !slices.Equal(got, want) {
		t.Fatalf("Instants(%+v, %v) = %v %v, not %v", z, m, got, e, want)
	}
}

// faults are zones with one thing beyond what it may be.
func faults() []zone.Zone {
	beyond := []int{math.MinInt, math.MinInt32, -1 << 32, 1 << 32, 1<<32 + 1, math.MaxInt32, math.MaxInt}
	var list []zone.Zone
	for _, n := range append([]int{-50401, 50401, -100000}, beyond...) {
		list = append(list, zone.Zone{Offset: n})
	}
	spoil := func(set func(r *zone.Rule, n int), numbers ...int) {
		for _, n := range append(numbers, beyond...) {
			z := europe()
			z.Rules = append(z.Rules, europe().Rules[0], europe().Rules[0])
			set(&z.Rules[len(list)%len(z.Rules)], n)
			list = append(list, z)
		}
	}
	spoil(func(r *zone.Rule, n int) { r.First = n }, 0, -1, 1969, 10000)
	spoil(func(r *zone.Rule, n int) { r.Last = n }, 0, -1, 1969, 1995, 10000)
	spoil(func(r *zone.Rule, n int) { r.First, r.Last = n, n }, 0, -1, 1969, 10000)
	spoil(func(r *zone.Rule, n int) { r.Extra = n }, 0, -1, -3600, 7201)
	spoil(func(r *zone.Rule, n int) { r.On.Month = n }, 0, -1, 13)
	spoil(func(r *zone.Rule, n int) { r.Off.Month = n }, 0, -1, 13)
	spoil(func(r *zone.Rule, n int) { r.On.Weekday = n }, 0, -1, 8)
	spoil(func(r *zone.Rule, n int) { r.Off.Weekday = n }, 0, -1, 8)
	spoil(func(r *zone.Rule, n int) { r.On.N = n }, 0, -2, 5)
	spoil(func(r *zone.Rule, n int) { r.Off.N = n }, 0, -2, 5)
	spoil(func(r *zone.Rule, n int) { r.On.Minute = n }, -1, 1440)
	spoil(func(r *zone.Rule, n int) { r.Off.Minute = n }, -1, 1440)
	many := zone.Zone{}
	for range zone.MaxRules + 1 {
		many.Rules = append(many.Rules, europe().Rules[0])
	}
	return append(list, many, zone.Zone{Rules: []zone.Rule{{}}})
}

// P7.1: the edges of what a zone may be.
func TestCheckValid(t *testing.T) {
	if zone.MaxRules != 20 {
		t.Error(zone.MaxRules)
	}
	rows := []zone.Zone{{}, {Offset: 50400}, {Offset: -50400}, {Offset: 1}, {Rules: []zone.Rule{}}, europe(), south()}
	for _, extra := range []int{1, 2, 1800, 7199, 7200} {
		for _, years := range [][2]int{{1970, 1970}, {1970, 9999}, {9999, 9999}, {2000, 2001}} {
			for _, on := range []zone.Change{change(1, 1, 1, 0), change(12, 7, 4, 1439), change(6, 3, -1, 720), change(2, 5, 2, 1), change(2, 5, 3, 1)} {
				off := change(13-on.Month, 8-on.Weekday, on.N, 1439-on.Minute)
				rows = append(rows, zone.Zone{Rules: []zone.Rule{{First: years[0], Last: years[1], On: on, Off: off, Extra: extra}}})
			}
		}
	}
	full := zone.Zone{}
	for range zone.MaxRules {
		full.Rules = append(full.Rules, europe().Rules[0])
	}
	for _, z := range append(rows, full) {
		if e := zone.Check(z); e != api.OK {
			t.Errorf("Check(%+v) = %v", z, e)
		}
	}
}

// P7.1: one thing beyond its range, and every function says so first.
func TestCheckFaults(t *testing.T) {
	for _, z := range faults() {
		if e := zone.Check(z); e != api.ErrZone {
			t.Errorf("Check(%+v) = %v", z, e)
		}
		for _, year := range []int{2026, 1996, 9999, 0, math.MaxInt} {
			if r, is := zone.Of(z, year); is || r != (zone.Rule{}) {
				t.Errorf("Of(%+v, %d) = %v %v", z, year, r, is)
			}
			if on, off, is := zone.Edges(z, year); is || on != 0 || off != 0 {
				t.Errorf("Edges(%+v, %d) = %d %d %v", z, year, on, off, is)
			}
		}
		for _, n := range []int64{0, 1794744000, -1, api.MaxTime, math.MinInt64, math.MaxInt64} {
			refuses(t, z, n, api.ErrZone)
		}
		for _, m := range []civil.Moment{moment(t, "2026-10-25T02:30:00"), {}} {
			if l, e := zone.Instants(z, m); len(l) != 0 || e != api.ErrZone {
				t.Errorf("Instants(%+v, %v) = %v %v", z, m, l, e)
			}
		}
	}
}

// P7.1: the first rule that includes the year; none outside of all years.
func TestOf(t *testing.T) {
	z := zone.Zone{}
	for i, years := range [][2]int{{1980, 1989}, {1985, 1999}, {1970, 1970}, {2010, 2010}, {2005, 2020}, {9998, 9999}} {
		z.Rules = append(z.Rules, zone.Rule{First: years[0], Last: years[1], On: change(3, 7, -1, 120), Off: change(10, 7, -1, 120), Extra: i + 1})
	}
	rows := []struct{ year, extra int }{
		{1969, 0}, {1970, 3}, {1971, 0}, {1979, 0}, {1980, 1}, {1985, 1}, {1989, 1}, {1990, 2}, {1999, 2}, {2000, 0}, {2004, 0},
		{2005, 5}, {2009, 5}, {2010, 4}, {2011, 5}, {2020, 5}, {2021, 0}, {9997, 0}, {9998, 6}, {9999, 6}, {10000, 0},
		{0, 0}, {-1, 0}, {math.MinInt, 0}, {math.MaxInt, 0}, {1<<32 + 1980, 0},
	}
	for _, row := range rows {
		r, is := zone.Of(z, row.year)
		want := zone.Rule{}
		if row.extra > 0 {
			want = z.Rules[row.extra-1]
		}
		if is != (row.extra > 0) || r != want {
			t.Errorf("Of(%d) = %+v %v", row.year, r, is)
		}
		if _, _, is := zone.Edges(z, row.year); is != (row.extra > 0) {
			t.Errorf("Edges(%d): %v", row.year, is)
		}
	}
	if r, is := zone.Of(zone.Zone{}, 2026); is || r != (zone.Rule{}) {
		t.Error(r, is)
	}
}

// P7.1: the instants of a year's changes, those of rules whose changes are equal too.
func TestEdges(t *testing.T) {
	rows := []struct {
		z       zone.Zone
		year    int
		on, off string
	}{
		{europe(), 2026, "2026-03-29T01:00:00", "2026-10-25T01:00:00"},
		{europe(), 1996, "1996-03-31T01:00:00", "1996-10-27T01:00:00"},
		{europe(), 9999, "9999-03-28T01:00:00", "9999-10-31T01:00:00"},
		{south(), 2026, "2026-10-03T16:00:00", "2026-04-04T16:00:00"},
		{zone.Zone{Offset: -50400, Rules: []zone.Rule{{First: 2024, Last: 2024, On: change(2, 4, 4, 1439), Off: change(2, 4, -1, 0), Extra: 1}}}, 2024, "2024-02-23T13:59:00", "2024-02-29T14:00:00"},
		{zone.Zone{Rules: []zone.Rule{{First: 2023, Last: 2024, On: change(2, 4, 4, 61), Off: change(2, 4, -1, 61), Extra: 1}}}, 2023, "2023-02-23T01:01:00", "2023-02-23T01:01:00"},
	}
	for _, r := range rows {
		on, off, is := zone.Edges(r.z, r.year)
		if !is || on != at(t, r.on) || off != at(t, r.off) {
			t.Errorf("Edges(%+v, %d) = %d %d %v", r.z, r.year, on, off, is)
		}
	}
	// A change of the first day is ahead of 1970 where the local time is ahead; one of the last day is past 9999 where it is behind.
	z := zone.Zone{Offset: 50400, Rules: []zone.Rule{{First: 1970, Last: 9999, On: change(1, 4, 1, 0), Off: change(12, 5, -1, 1439), Extra: 1}}}
	if on, off, is := zone.Edges(z, 1970); !is || on != -50400 || off != at(t, "1970-12-25T09:59:00") {
		t.Error(on, off, is)
	}
	z.Offset = -50400
	if on, off, is := zone.Edges(z, 9999); !is || on != at(t, "9999-01-07T14:00:00") || off != api.MaxTime-60+50400 {
		t.Error(on, off, is)
	}
	for _, year := range []int{1995, 10000, 1969, 0, math.MinInt, math.MaxInt} {
		if on, off, is := zone.Edges(europe(), year); is || on != 0 || off != 0 {
			t.Error(year, on, off, is)
		}
	}
}

// P7.1: Edges against a calendar that goes from day to day.
func TestEdgesOfAll(t *testing.T) {
	r := source()
	for range 150 {
		z := anyZone(r)
		for year := 1969; year <= 2052; year++ {
			rule, is := zone.Of(z, year)
			on, off, has := zone.Edges(z, year)
			if has != is {
				t.Fatal(z, year, is, has)
			}
			if is && (time.Unix(on+int64(z.Offset), 0).UTC().Format("2006-01-02T15:04:05") != textOf(year, rule.On) ||
				time.Unix(off+int64(z.Offset), 0).UTC().Format("2006-01-02T15:04:05") != textOf(year, rule.Off)) {
				t.Fatal(z, year, on, off)
			}
		}
	}
}

// The chapter's examples.
func TestExamples(t *testing.T) {
	z := europe()
	holds(t, z, at(t, "2026-03-29T00:59:59"), clock{at(t, "2026-03-29T01:59:59"), false})
	holds(t, z, at(t, "2026-03-29T01:00:00"), clock{at(t, "2026-03-29T03:00:00"), true})
	times(t, z, moment(t, "2026-03-29T02:30:00"))
	times(t, z, moment(t, "2026-10-25T02:30:00"), at(t, "2026-10-25T00:30:00"), at(t, "2026-10-25T01:30:00"))
	for text, want := range map[string]int{"2026-07-01T00:00:00": 7200, "2026-01-01T00:00:00": 3600} {
		if got, e := zone.Offset(z, at(t, text)); got != want || e != api.OK {
			t.Error(text, got, e)
		}
	}
}

// P7.2: from On, inclusive, until Off, exclusive; and the other way round where Off is first.
func TestChanges(t *testing.T) {
	rows := []struct {
		z      zone.Zone
		from   string
		local  string
		summer bool
	}{
		{europe(), "2026-10-25T00:59:59", "2026-10-25T02:59:59", true},
		{europe(), "2026-10-25T01:00:00", "2026-10-25T02:00:00", false},
		{europe(), "1995-07-01T00:00:00", "1995-07-01T01:00:00", false},
		{europe(), "1996-07-01T00:00:00", "1996-07-01T02:00:00", true},
		{south(), "2026-01-01T00:00:00", "2026-01-01T11:00:00", true},
		{south(), "2026-04-04T15:59:59", "2026-04-05T02:59:59", true},
		{south(), "2026-04-04T16:00:00", "2026-04-05T02:00:00", false},
		{south(), "2026-10-03T15:59:59", "2026-10-04T01:59:59", false},
		{south(), "2026-10-03T16:00:00", "2026-10-04T03:00:00", true},
		// The rule is that of the year of the standard time, whatever the instant's and the local time's are.
		{zone.Zone{Offset: hour, Rules: []zone.Rule{{First: 2026, Last: 2026, On: change(10, 7, 1, 0), Off: change(4, 7, 1, 0), Extra: hour}}}, "2025-12-31T22:59:59", "2025-12-31T23:59:59", false},
		{zone.Zone{Offset: hour, Rules: []zone.Rule{{First: 2026, Last: 2026, On: change(10, 7, 1, 0), Off: change(4, 7, 1, 0), Extra: hour}}}, "2025-12-31T23:00:00", "2026-01-01T01:00:00", true},
		{zone.Zone{Offset: hour, Rules: []zone.Rule{{First: 2026, Last: 2026, On: change(10, 7, 1, 0), Off: change(4, 7, 1, 0), Extra: hour}}}, "2026-12-31T22:59:59", "2027-01-01T00:59:59", true},
		{zone.Zone{Offset: hour, Rules: []zone.Rule{{First: 2026, Last: 2026, On: change(10, 7, 1, 0), Off: change(4, 7, 1, 0), Extra: hour}}}, "2026-12-31T23:00:00", "2027-01-01T00:00:00", false},
		// The least extra.
		{zone.Zone{Rules: []zone.Rule{{First: 2026, Last: 2026, On: change(3, 7, -1, 120), Off: change(10, 7, -1, 120), Extra: 1}}}, "2026-07-01T00:00:00", "2026-07-01T00:00:01", true},
		// The first rule of a year, not a later one.
		{zone.Zone{Rules: []zone.Rule{
			{First: 2020, Last: 2030, On: change(3, 7, -1, 120), Off: change(10, 7, -1, 120), Extra: 1200},
			{First: 2026, Last: 2026, On: change(1, 1, 1, 0), Off: change(12, 1, 1, 0), Extra: hour},
		}}, "2026-06-01T00:00:00", "2026-06-01T00:20:00", true},
		{zone.Zone{Rules: []zone.Rule{
			{First: 2020, Last: 2030, On: change(3, 7, -1, 120), Off: change(10, 7, -1, 120), Extra: 1200},
			{First: 2026, Last: 2026, On: change(1, 1, 1, 0), Off: change(12, 1, 1, 0), Extra: hour},
		}}, "2026-02-01T00:00:00", "2026-02-01T00:00:00", false},
	}
	for _, r := range rows {
		local := at(t, r.local)
		holds(t, r.z, at(t, r.from), clock{local, r.summer})
	}
}

// P7.2: changes that are equal have no daylight saving time, those that are so in one year only in that year.
func TestEqualChanges(t *testing.T) {
	always := zone.Zone{Rules: []zone.Rule{{First: 2023, Last: 2025, On: change(2, 4, 4, 61), Off: change(2, 4, 4, 61), Extra: hour}}}
	once := zone.Zone{Rules: []zone.Rule{{First: 2023, Last: 2025, On: change(2, 4, 4, 61), Off: change(2, 4, -1, 61), Extra: hour}}}
	for n := at(t, "2022-12-31T00:00:00"); n < at(t, "2026-01-02T00:00:00"); n += 977 {
		holds(t, always, n, clock{n, false})
		want := clock{n, false}
		// Only in 2024 is the last Thursday of February a fifth one.
		if at(t, "2024-02-22T01:01:00") <= n && n < at(t, "2024-02-29T01:01:00") {
			want = clock{n + hour, true}
		}
		holds(t, once, n, want)
	}
	for _, text := range []string{"2024-02-22T01:01:00", "2024-02-29T01:00:59", "2024-02-28T00:00:00"} {
		n := at(t, text)
		holds(t, once, n, clock{n + hour, true})
	}
	for _, text := range []string{"2024-02-22T01:00:59", "2024-02-29T01:01:00", "2023-02-23T01:01:00", "2025-02-27T01:01:00"} {
		n := at(t, text)
		holds(t, once, n, clock{n, false})
	}
}

// P7.2: the standard time and the local time are moments, or there is none of either.
func TestEnds(t *testing.T) {
	plain := func(offset int) zone.Zone { return zone.Zone{Offset: offset} }
	const end = int64(api.MaxTime)
	for _, offset := range []int{0, 1, -1, hour, -hour, 50400, -50400} {
		z, ahead := plain(offset), int64(offset)
		for _, n := range []int64{-ahead, -ahead + 1, end - ahead - 1, end - ahead - 2, 86400 * 365} {
			holds(t, z, n, clock{n + ahead, false})
		}
		for _, n := range []int64{-ahead - 1, -ahead - 2, end - ahead, end - ahead + 1, -1 << 40, 1 << 40, math.MinInt64, math.MinInt64 + 1, math.MinInt64 + 50400, math.MaxInt64, math.MaxInt64 - 1, math.MaxInt64 - 50400} {
			refuses(t, z, n, api.ErrTime)
			refuses(t, zone.Zone{Offset: offset, Rules: south().Rules}, n, api.ErrTime)
		}
	}
	z := south()
	first, last := int64(-10*hour), end-11*hour-1
	holds(t, z, first, clock{hour, true})
	refuses(t, z, first-1, api.ErrTime)
	holds(t, z, last, clock{end - 1, true})
	for n := last + 1; n <= end-10*hour; n += 59 {
		refuses(t, z, n, api.ErrTime)
	}
	refuses(t, z, last+1, api.ErrTime)
	refuses(t, z, end-10*hour-1, api.ErrTime)
}

// P7.2: the local day and its minute begin with the local day; seconds do not count.
func TestDay(t *testing.T) {
	rows := []struct {
		from, date string
		minute     int
	}{
		{"1999-01-01T13:59:59", "1999-01-01", 1439}, {"1999-01-01T14:00:00", "1999-01-02", 0}, {"1999-01-01T14:00:59", "1999-01-02", 0}, {"1999-01-01T14:01:00", "1999-01-02", 1},
		{"2026-01-01T12:59:59", "2026-01-01", 1439}, {"2026-01-01T13:00:00", "2026-01-02", 0},
		{"2026-04-04T15:59:59", "2026-04-05", 179}, {"2026-04-04T16:00:00", "2026-04-05", 120}, {"2026-10-03T15:59:59", "2026-10-04", 119}, {"2026-10-03T16:00:00", "2026-10-04", 180},
	}
	z := south()
	z.Rules[0].First = 2000
	for _, r := range rows {
		d, minute, e := zone.Day(z, at(t, r.from))
		date, _ := civil.Of(d)
		text, _ := civil.Text(date)
		if e != api.OK || text != r.date || minute != r.minute {
			t.Errorf("Day(%s) = %s %d %v", r.from, text, minute, e)
		}
	}
}

// P7.2, P7.3, P7.5: zones as countries have them, by the library's own tables.
func TestCountries(t *testing.T) {
	rows := []struct {
		name        string
		first, last int
		z           zone.Zone
	}{
		{"Europe/Berlin", 1996, 2025, europe()},
		{"America/New_York", 2007, 2025, zone.Zone{Offset: -5 * hour, Rules: []zone.Rule{{First: 2007, Last: 9999, On: change(3, 7, 2, 120), Off: change(11, 7, 1, 60), Extra: hour}}}},
		{"Australia/Sydney", 2008, 2025, zone.Zone{Offset: 10 * hour, Rules: []zone.Rule{{First: 2008, Last: 9999, On: change(10, 7, 1, 120), Off: change(4, 7, 1, 120), Extra: hour}}}},
		{"Australia/Lord_Howe", 2009, 2025, zone.Zone{Offset: 10*hour + 1800, Rules: []zone.Rule{{First: 2008, Last: 9999, On: change(10, 7, 1, 120), Off: change(4, 7, 1, 90), Extra: 1800}}}},
		{"Asia/Kolkata", 1970, 2025, zone.Zone{Offset: 5*hour + 1800}},
		{"Europe/Athens", 1996, 2025, zone.Zone{Offset: 2 * hour, Rules: []zone.Rule{{First: 1996, Last: 2025, On: change(3, 7, -1, 180), Off: change(10, 7, -1, 180), Extra: hour}}}},
	}
	r := source()
	for _, row := range rows {
		place, err := time.LoadLocation(row.name)
		if err != nil {
			t.Fatal(err)
		}
		begin, end := time.Date(row.first, 1, 1, 0, 0, 0, 0, place).Unix(), time.Date(row.last+1, 1, 1, 0, 0, 0, 0, place).Unix()
		like := func(n int64) {
			if n < begin || n >= end {
				return
			}
			u := time.Unix(n, 0).In(place)
			m, summer, e := zone.Local(row.z, n)
			if e != api.OK || m != momentAt(t, time.Date(u.Year(), u.Month(), u.Day(), u.Hour(), u.Minute(), u.Second(), 0, time.UTC).Unix()) || summer != u.IsDST() {
				t.Fatalf("%s: Local(%d) = %v %v %v, not %v", row.name, n, m, summer, e, u)
			}
			if l, e := zone.Instants(row.z, m); e != api.OK || !slices.Contains(l, n) {
				t.Fatalf("%s: Instants(%v) = %v %v, without %d", row.name, m, l, e, n)
			}
		}
		for range 20000 {
			like(begin + r.Int64N(end-begin))
		}
		for year := row.first; year <= row.last; year++ {
			on, off, _ := zone.Edges(row.z, year)
			for _, edge := range []int64{on, off} {
				for _, by := range []int64{-7200, -3601, -1, 0, 1, 3599, 3600, 7200} {
					like(edge + by)
				}
			}
		}
	}
}

// P7.2: any zone, by the words of the chapter on another calendar.
func TestLocalOfAll(t *testing.T) {
	r := source()
	for range 250 {
		z := anyZone(r)
		ask := func(n int64) {
			if n+int64(z.Offset) >= 0 {
				holds(t, z, n, read(z, n))
			}
		}
		for range 40 {
			ask(r.Int64N(82*366*day) - int64(z.Offset))
		}
		for range 12 {
			year := 1970 + r.IntN(82)
			ask(time.Date(year, 1, 1, 0, 0, 0, 0, time.UTC).Unix() - int64(z.Offset) + int64(r.IntN(3)-1))
			if on, off, is := zone.Edges(z, year); is {
				for by := int64(-1); by <= 1; by++ {
					ask(on + by)
					ask(off + by)
				}
			}
		}
	}
}

// P7.3: a moment that is none.
func TestInstantsFaults(t *testing.T) {
	good := moment(t, "2024-02-29T23:59:59")
	spoil := func(set func(m *civil.Moment)) {
		m := good
		set(&m)
		for _, z := range []zone.Zone{{}, europe(), south()} {
			if l, e := zone.Instants(z, m); len(l) != 0 || e != api.ErrTime {
				t.Errorf("Instants(%+v) = %v %v", m, l, e)
			}
		}
	}
	spoil(func(m *civil.Moment) { *m = civil.Moment{} })
	for _, n := range []int{-1, 60, math.MinInt, math.MaxInt, 1 << 32} {
		spoil(func(m *civil.Moment) { m.Year = n })
		spoil(func(m *civil.Moment) { m.Month = n })
		spoil(func(m *civil.Moment) { m.Day = n })
		spoil(func(m *civil.Moment) { m.Hour = n })
		spoil(func(m *civil.Moment) { m.Minute = n })
		spoil(func(m *civil.Moment) { m.Second = n })
	}
	spoil(func(m *civil.Moment) { m.Year = 1969 })
	spoil(func(m *civil.Moment) { m.Year = 10000 })
	spoil(func(m *civil.Moment) { m.Year = 2023 })
	spoil(func(m *civil.Moment) { m.Month = 0 })
	spoil(func(m *civil.Moment) { m.Month = 13 })
	spoil(func(m *civil.Moment) { m.Day = 0 })
	spoil(func(m *civil.Moment) { m.Day = 30 })
	spoil(func(m *civil.Moment) { m.Hour = 24 })
	times(t, zone.Zone{}, good, at(t, "2024-02-29T23:59:59"))
}

// P7.3: the first and the last moments that there are.
func TestInstantsEnds(t *testing.T) {
	first, last := moment(t, "1970-01-01T00:00:00"), moment(t, "9999-12-31T23:59:59")
	for _, offset := range []int{0, 1, -1, 50400, -50400} {
		times(t, zone.Zone{Offset: offset}, first, int64(-offset))
		times(t, zone.Zone{Offset: offset}, last, api.MaxTime-1-int64(offset))
	}
	// In daylight saving time at the beginning, so that the first hour never occurs.
	z := south()
	times(t, z, first)
	times(t, z, moment(t, "1970-01-01T00:59:59"))
	times(t, z, moment(t, "1970-01-01T01:00:00"), -10*hour)
	times(t, z, last, api.MaxTime-1-11*hour)
	// An extra that leads ahead of 1970 hides none that does not.
	z.Rules = append(z.Rules, zone.Rule{First: 1980, Last: 1980, On: change(1, 1, 1, 0), Off: change(2, 1, 1, 0), Extra: 7200})
	times(t, z, moment(t, "1970-01-01T01:00:00"), -10*hour)
	slices.Reverse(z.Rules)
	times(t, z, moment(t, "1970-01-01T01:00:00"), -10*hour)
	times(t, z, moment(t, "1970-01-01T00:30:00"))
}

// P7.3: three times, where one rule ends with a year and that of the next one soon after.
func TestThrice(t *testing.T) {
	// 2026-01-01 is a Thursday.
	z := zone.Zone{Rules: []zone.Rule{
		{First: 2025, Last: 2025, On: change(10, 7, 1, 0), Off: change(4, 7, 1, 0), Extra: 7200},
		{First: 2026, Last: 2026, On: change(10, 7, 1, 0), Off: change(1, 4, 1, 45), Extra: 1800},
	}}
	times(t, z, moment(t, "2026-01-01T01:00:00"), at(t, "2025-12-31T23:00:00"), at(t, "2026-01-01T00:30:00"), at(t, "2026-01-01T01:00:00"))
	slices.Reverse(z.Rules)
	times(t, z, moment(t, "2026-01-01T01:00:00"), at(t, "2025-12-31T23:00:00"), at(t, "2026-01-01T00:30:00"), at(t, "2026-01-01T01:00:00"))
	times(t, z, moment(t, "2026-01-01T00:15:00"), at(t, "2025-12-31T22:15:00"))
	times(t, z, moment(t, "2026-01-01T00:45:00"), at(t, "2025-12-31T22:45:00"), at(t, "2026-01-01T00:15:00"), at(t, "2026-01-01T00:45:00"))
}

// around checks every second's instants, for local times of more than two hours about an instant, by the local times of all seconds near them.
func around(t *testing.T, z zone.Zone, middle int64) {
	t.Helper()
	from := map[int64][]int64{}
	for n := middle - 6*hour; n <= middle+6*hour; n++ {
		if standard := n + int64(z.Offset); standard >= 0 && standard < api.MaxTime {
			if m, _, e := zone.Local(z, n); e == api.OK {
				local, _ := civil.Instant(m)
				from[local] = append(from[local], n)
			}
		}
	}
	for local := middle + int64(z.Offset) - 7300; local <= middle+int64(z.Offset)+7300; local += 7 {
		if local >= 0 && local < api.MaxTime {
			times(t, z, momentAt(t, local), from[local]...)
		}
	}
}

// P7.3, P7.5: every instant is among those of its local time, and no other one.
func TestInstantsOfAll(t *testing.T) {
	around(t, south(), -10*hour)
	around(t, south(), api.MaxTime-11*hour)
	around(t, europe(), api.MaxTime)
	r := source()
	for i := range 60 {
		z := anyZone(r)
		year := 1970 + r.IntN(60)
		on, off, is := zone.Edges(z, year)
		middle := time.Date(year, 1, 1, 0, 0, 0, 0, time.UTC).Unix() - int64(z.Offset)
		if is && i%3 == 1 {
			middle = on
		} else if is && i%3 == 2 {
			middle = off
		}
		around(t, z, middle)
	}
}

// P7.5: Extra seconds never occur when it begins, and as many occur twice when it ends.
func TestLostAndTwice(t *testing.T) {
	for _, extra := range []int{1, 59, 1800, 3600, 7200} {
		for _, z := range []zone.Zone{europe(), south()} {
			z.Rules[0].Extra = extra
			on, off, _ := zone.Edges(z, 2026)
			many := func(middle int64) (lost, once, twice int) {
				local := middle + int64(z.Offset)
				for n := local - 8000; n < local+8000; n++ {
					l, e := zone.Instants(z, momentAt(t, n))
					switch {
					case e != api.OK || len(l) > 2 || len(l) == 2 && l[1]-l[0] != int64(extra):
						t.Fatal(n, l, e)
					case len(l) == 0:
						lost++
					case len(l) == 1:
						once++
					default:
						twice++
					}
				}
				return lost, once, twice
			}
			if lost, _, twice := many(on); lost != extra || twice != 0 {
				t.Error(extra, lost, twice)
			}
			if lost, _, twice := many(off); lost != 0 || twice != extra {
				t.Error(extra, lost, twice)
			}
		}
	}
}

// P7.5: without rules a local time has its one instant.
func TestWithoutRules(t *testing.T) {
	r := source()
	for range 2000 {
		z := zone.Zone{Offset: r.IntN(2*50400+1) - 50400}
		local := r.Int64N(api.MaxTime)
		times(t, z, momentAt(t, local), local-int64(z.Offset))
		holds(t, z, local-int64(z.Offset), clock{local, false})
	}
}

// P7.4: a zone is as it was, and a list is nobody else's.
func TestArguments(t *testing.T) {
	z := europe()
	z.Rules = append(make([]zone.Rule, 0, 8), zone.Rule{First: 1980, Last: 1980, On: change(3, 7, -1, 120), Off: change(10, 7, -1, 120), Extra: 7200}, z.Rules[0])
	before := slices.Clone(z.Rules[:cap(z.Rules)])
	m := moment(t, "2026-10-25T02:30:00")
	first, _ := zone.Instants(z, m)
	want := slices.Clone(first)
	first[0], first[1] = 5, 6
	_ = append(first[:0], 7, 8)
	second, e := zone.Instants(z, m)
	if e != api.OK || !slices.Equal(second, want) {
		t.Error(second, e)
	}
	zone.Check(z)
	zone.Of(z, 2026)
	zone.Edges(z, 2026)
	zone.Offset(z, 0)
	zone.Local(z, 0)
	zone.Day(z, 0)
	if !slices.Equal(z.Rules[:cap(z.Rules)], before) {
		t.Error(z.Rules)
	}
}
