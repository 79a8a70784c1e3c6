package days_test

import (
	"math"
	"math/rand/v2"
	"slices"
	"testing"
	"time"

	"kilowatt/api"
	"kilowatt/civil"
	"kilowatt/days"
)

// beyond are numbers that no field may have, and that fields of fewer bits would take for others.
var beyond = []int{math.MinInt, math.MinInt + 1, math.MinInt32, -1 << 32, 1 << 32, 1<<32 + 1, 1<<32 + 4, math.MaxInt32, math.MaxInt - 1, math.MaxInt}

func source() *rand.Rand { return rand.New(rand.NewPCG(81, 82)) }

func fixed(month, day int) days.Holiday {
	return days.Holiday{Kind: days.Fixed, Month: month, Day: day}
}

func once(year, month, day int) days.Holiday {
	return days.Holiday{Kind: days.Once, Year: year, Month: month, Day: day}
}

func weekly(month, weekday, n int) days.Holiday {
	return days.Holiday{Kind: days.Weekly, Month: month, Weekday: weekday, N: n}
}

func paschal(n int) days.Holiday {
	return days.Holiday{Kind: days.Paschal, N: n}
}

func season(number, month, day int) days.Season {
	return days.Season{Number: number, Month: month, Day: day}
}

func with(list ...days.Holiday) days.Calendar { return days.Calendar{Holidays: list} }

func seasons(list ...days.Season) days.Calendar { return days.Calendar{Seasons: list} }

// example is the chapter's.
func example() days.Calendar {
	return days.Calendar{
		Holidays: []days.Holiday{fixed(1, 1), paschal(1), weekly(5, 1, -1)},
		Seasons:  []days.Season{season(1, 4, 1), season(2, 10, 1)},
	}
}

func at(t *testing.T, text string) int {
	t.Helper()
	u, err := time.Parse("2006-01-02", text)
	if err != nil {
		t.Fatal(err)
	}
	return number(u)
}

func number(u time.Time) int { return int(u.Unix() / 86400) }

func date(day int) time.Time { return time.Unix(int64(day)*86400, 0).UTC() }

// knuth is Easter Sunday by another rule, that of golden numbers and epacts.
func knuth(year int) time.Time {
	golden, century := year%19+1, year/100+1
	x, z := 3*century/4-12, (8*century+5)/25-5
	epact := (11*golden + 20 + z - x) % 30
	if epact == 24 || epact == 25 && golden > 11 {
		epact++
	}
	n := 44 - epact
	if n < 21 {
		n += 30
	}
	n += 7 - (5*year/4-x-10+n)%7
	return time.Date(year, time.March, n, 0, 0, 0, 0, time.UTC)
}

// holds says by the words of the chapter whether h is on a day of the library's calendar.
func holds(h days.Holiday, u time.Time) bool {
	switch h.Kind {
	case days.Fixed:
		return int(u.Month()) == h.Month && u.Day() == h.Day
	case days.Once:
		return u.Year() == h.Year && int(u.Month()) == h.Month && u.Day() == h.Day
	case days.Weekly:
		if int(u.Month()) != h.Month || int(u.Weekday()) != h.Weekday%7 {
			return false
		}
		if h.N == -1 {
			return u.AddDate(0, 0, 7).Month() != u.Month()
		}
		return (u.Day()+6)/7 == h.N
	}
	sunday := u.AddDate(0, 0, -h.N)
	return sunday.Year() >= 1970 && sunday.Year() <= 9999 && sunday.Equal(knuth(sunday.Year()))
}

// kindBy is the kind of a day by the words of the chapter.
func kindBy(c days.Calendar, day int) int {
	u := date(day)
	for _, h := range c.Holidays {
		if holds(h, u) {
			return 4
		}
	}
	switch u.Weekday() {
	case time.Sunday:
		return 3
	case time.Saturday:
		return 2
	}
	return 1
}

// seasonBy goes back to the beginning of the year, and then from its end.
func seasonBy(c days.Calendar, day int) int {
	u := date(day)
	begun := func(from time.Time) int {
		for v := from; v.Year() == u.Year(); v = v.AddDate(0, 0, -1) {
			for _, s := range c.Seasons {
				if int(v.Month()) == s.Month && v.Day() == s.Day {
					return s.Number
				}
			}
		}
		return 0
	}
	if n := begun(u); n != 0 {
		return n
	}
	return begun(time.Date(u.Year(), 12, 31, 0, 0, 0, 0, time.UTC))
}

func anyHoliday(r *rand.Rand) days.Holiday {
	switch r.IntN(4) {
	case 0:
		u := date(at2000 + r.IntN(366))
		return fixed(int(u.Month()), u.Day())
	case 1:
		u := date(at2000 + r.IntN(4000))
		return once(u.Year(), int(u.Month()), u.Day())
	case 2:
		places := []int{1, 2, 3, 4, 5, -1}
		return weekly(1+r.IntN(12), 1+r.IntN(7), places[r.IntN(len(places))])
	}
	return paschal(r.IntN(301) - 100)
}

const at2000 = 10957 // 2000-01-01

func anyCalendar(r *rand.Rand) days.Calendar {
	var c days.Calendar
	for range r.IntN(1 + r.IntN(days.MaxHolidays+1)) {
		c.Holidays = append(c.Holidays, anyHoliday(r))
	}
	taken := map[int]bool{}
	for range r.IntN(days.MaxSeasons + 1) {
		u := date(365 + r.IntN(365)) // of 1971
		if !taken[u.YearDay()] {
			taken[u.YearDay()] = true
			c.Seasons = append(c.Seasons, season(1+r.IntN(99), int(u.Month()), u.Day()))
		}
	}
	return c
}

// wants holds Is, Kind and SeasonOf of a day against the words of the chapter.
func wants(t *testing.T, c days.Calendar, day int) {
	t.Helper()
	kind, number := kindBy(c, day), seasonBy(c, day)
	if is, e := days.Is(c, day); e != api.OK || is != (kind == 4) {
		t.Fatalf("Is(%+v, %v) = %v %v; the kind is %d", c, date(day), is, e, kind)
	}
	if k, e := days.Kind(c, day); e != api.OK || k != kind {
		t.Fatalf("Kind(%+v, %v) = %d %v, not %d", c, date(day), k, e, kind)
	}
	if n, e := days.SeasonOf(c, day); e != api.OK || n != number {
		t.Fatalf("SeasonOf(%+v, %v) = %d %v, not %d", c, date(day), n, e, number)
	}
}

// refuses checks that all functions of a calendar and a day, and of a year, answer an error, and nothing beside it.
func refuses(t *testing.T, c days.Calendar, day, year int, want api.Errno) {
	t.Helper()
	if is, e := days.Is(c, day); is || e != want {
		t.Errorf("Is(%+v, %d) = %v %v", c, day, is, e)
	}
	if k, e := days.Kind(c, day); k != 0 || e != want {
		t.Errorf("Kind(%+v, %d) = %d %v", c, day, k, e)
	}
	if n, e := days.SeasonOf(c, day); n != 0 || e != want {
		t.Errorf("SeasonOf(%+v, %d) = %d %v", c, day, n, e)
	}
	for kind := range 6 {
		if n, is := days.Next(c, day, kind); is || n != 0 {
			t.Errorf("Next(%+v, %d, %d) = %d %v", c, day, kind, n, is)
		}
	}
	if l, e := days.List(c, year); len(l) != 0 || e != want {
		t.Errorf("List(%+v, %d) = %v %v", c, year, l, e)
	}
}

// next checks Next; a day below 0 is none.
func next(t *testing.T, c days.Calendar, day, kind, want int) {
	t.Helper()
	n, is := days.Next(c, day, kind)
	if is != (want >= 0) || n != max(want, 0) {
		t.Fatalf("Next(%+v, %v, %d) = %v %v, not %v", c, date(day), kind, date(n), is, date(want))
	}
}

// The chapter's numbers.
func TestConstants(t *testing.T) {
	got := []int{days.Workday, days.Saturday, days.Sunday, days.Feast, days.Fixed, days.Once, days.Weekly, days.Paschal, days.MaxHolidays, days.MaxSeasons}
	if !slices.Equal(got, []int{1, 2, 3, 4, 1, 2, 3, 4, 100, 12}) {
		t.Error(got)
	}
}

// The chapter's examples.
func TestExamples(t *testing.T) {
	if d, e := days.Easter(2026); e != api.OK || d != (civil.Date{Year: 2026, Month: 4, Day: 5}) {
		t.Error(d, e)
	}
	for text, want := range map[string]int{"2026-04-06": 4, "2026-05-25": 4, "2026-04-04": 2, "2026-04-07": 1, "2026-04-05": 3, "2026-01-01": 4, "2026-05-18": 1} {
		if k, e := days.Kind(example(), at(t, text)); e != api.OK || k != want {
			t.Error(text, k, e)
		}
	}
	for text, want := range map[string]int{"2026-03-31": 2, "2026-04-01": 1, "2026-10-01": 2, "2026-09-30": 1, "2026-01-01": 2, "2026-12-31": 2} {
		if n, e := days.SeasonOf(example(), at(t, text)); e != api.OK || n != want {
			t.Error(text, n, e)
		}
	}
}

func valid(t *testing.T, c days.Calendar) {
	t.Helper()
	if e := days.Check(c); e != api.OK {
		t.Errorf("Check(%+v) = %v", c, e)
	}
}

// faulty checks that every function answers ErrDays, ahead of a day and a year that there is and of others.
func faulty(t *testing.T, c days.Calendar) {
	t.Helper()
	if e := days.Check(c); e != api.ErrDays {
		t.Errorf("Check(%+v) = %v", c, e)
	}
	refuses(t, c, 20548, 2026, api.ErrDays)
	refuses(t, c, -1, 1969, api.ErrDays)
	refuses(t, c, math.MaxInt, math.MinInt, api.ErrDays)
}

// P8.1: the edges of what holidays and seasons may be.
func TestCheckValid(t *testing.T) {
	rows := []days.Calendar{
		{}, {Holidays: []days.Holiday{}, Seasons: []days.Season{}}, example(),
		with(fixed(1, 1), fixed(12, 31), fixed(2, 28), fixed(2, 29), fixed(4, 30), fixed(1, 31)),
		with(once(1970, 1, 1), once(9999, 12, 31), once(2000, 2, 29), once(2026, 2, 28)),
		with(weekly(1, 1, 1), weekly(12, 7, 5), weekly(2, 4, 5), weekly(6, 3, -1)),
		with(paschal(-100), paschal(200), paschal(0), paschal(-1), paschal(1)),
		with(fixed(1, 1), fixed(1, 1), once(2026, 1, 1), once(2026, 1, 1)),
		seasons(season(1, 1, 1)), seasons(season(99, 12, 31)), seasons(season(50, 2, 28)),
		seasons(season(1, 3, 1), season(1, 3, 2), season(1, 4, 1), season(1, 4, 2)),
		// Days of the year that a number of fewer digits would take for the same.
		seasons(season(1, 1, 11), season(2, 11, 1), season(3, 1, 1), season(4, 11, 11), season(5, 2, 1), season(6, 1, 2), season(7, 1, 31), season(8, 3, 1), season(9, 2, 28)),
		// The same season twice a year.
		seasons(season(7, 4, 1), season(7, 10, 1)),
	}
	for _, c := range rows {
		valid(t, c)
	}
	full := days.Calendar{}
	for i := range days.MaxHolidays {
		full.Holidays = append(full.Holidays, paschal(i))
		valid(t, full)
	}
	for i := range days.MaxSeasons {
		full.Seasons = append(full.Seasons, season(99-i, i+1, 1))
		valid(t, full)
	}
}

// P8.1: one holiday, or one season, too many.
func TestCheckTooMany(t *testing.T) {
	many := days.Calendar{}
	for range days.MaxHolidays + 1 {
		many.Holidays = append(many.Holidays, fixed(1, 1))
	}
	faulty(t, many)
	many = days.Calendar{}
	for i := range days.MaxSeasons + 1 {
		many.Seasons = append(many.Seasons, season(1, 1, i+1))
	}
	faulty(t, many)
}

// P8.1: fields beyond their ranges, and fields that the kind does not have.
func TestCheckHolidays(t *testing.T) {
	list := []days.Holiday{
		{}, {Month: 1, Day: 1}, {Kind: 5}, {Kind: 5, Month: 1, Day: 1}, {Kind: -1, N: 1}, {Kind: 0, N: 1},
		fixed(0, 0), fixed(0, 1), fixed(1, 0), fixed(13, 1), fixed(-1, 1), fixed(1, -1), fixed(1, 32), fixed(2, 30), fixed(4, 31), fixed(12, 32),
		once(0, 0, 0), once(0, 1, 1), once(1969, 12, 31), once(10000, 1, 1), once(2026, 2, 29), once(2100, 2, 29), once(2026, 13, 1), once(2026, 0, 1), once(2026, 1, 0), once(2026, 4, 31), once(-2026, 1, 1),
		weekly(0, 0, 0), weekly(0, 1, 1), weekly(13, 1, 1), weekly(1, 0, 1), weekly(1, 8, 1), weekly(1, 1, 0), weekly(1, 1, 6), weekly(1, 1, -2), weekly(-1, 1, 1), weekly(1, -1, 1),
		paschal(-101), paschal(201),
	}
	for _, n := range beyond {
		list = append(list, days.Holiday{Kind: n, Month: 1, Day: 1}, fixed(n, 1), fixed(1, n), once(n, 1, 1), once(2026, n, 1), once(2026, 1, n),
			weekly(n, 1, 1), weekly(1, n, 1), weekly(1, 1, n), paschal(n))
	}
	for _, n := range append([]int{1, -1, 2, 5, 2026}, beyond...) {
		for _, spoil := range []func(h *days.Holiday){
			func(h *days.Holiday) { h.Year = n },
			func(h *days.Holiday) { h.Month = n },
			func(h *days.Holiday) { h.Day = n },
			func(h *days.Holiday) { h.Weekday = n },
			func(h *days.Holiday) { h.N = n },
		} {
			for _, h := range []days.Holiday{fixed(1, 1), once(2026, 1, 1), weekly(1, 1, 1), paschal(1), paschal(0)} {
				spoil(&h)
				if !may(h) {
					list = append(list, h)
				}
			}
		}
	}
	for i, h := range list {
		faulty(t, with(h))
		// Among others, at any place.
		c := example()
		c.Holidays = slices.Insert(c.Holidays, i%4, h)
		faulty(t, c)
	}
	if len(list) < 300 {
		t.Error(len(list))
	}
}

// may says by the chapter's table what a holiday of small numbers may be.
func may(h days.Holiday) bool {
	small := func(n, most int) bool { return n >= 1 && n <= most }
	switch h.Kind {
	case days.Fixed:
		return h.Year == 0 && small(h.Month, 12) && small(h.Day, 28) && h.Weekday == 0 && h.N == 0
	case days.Once:
		return h.Year >= 1970 && h.Year <= 9999 && small(h.Month, 12) && small(h.Day, 28) && h.Weekday == 0 && h.N == 0
	case days.Weekly:
		return h.Year == 0 && small(h.Month, 12) && h.Day == 0 && small(h.Weekday, 7) && (small(h.N, 5) || h.N == -1)
	}
	return h.Year == 0 && h.Month == 0 && h.Day == 0 && h.Weekday == 0 && h.N >= -100 && h.N <= 200
}

// P8.1: seasons beyond their ranges, and two on the same day of the year.
func TestCheckSeasons(t *testing.T) {
	list := []days.Season{
		{}, season(0, 1, 1), season(100, 1, 1), season(-1, 1, 1), season(1, 0, 1), season(1, 13, 1), season(1, -1, 1), season(1, 1, 0), season(1, 1, 32), season(1, 1, -1),
		season(1, 2, 29), season(1, 2, 30), season(1, 4, 31), season(1, 12, 32),
	}
	for _, n := range beyond {
		list = append(list, season(n, 1, 1), season(1, n, 1), season(1, 1, n))
	}
	for i, s := range list {
		faulty(t, seasons(s))
		c := example()
		c.Seasons = slices.Insert(c.Seasons, i%3, s)
		faulty(t, c)
	}
	faulty(t, seasons(season(1, 4, 1), season(2, 4, 1)))
	faulty(t, seasons(season(1, 4, 1), season(1, 4, 1)))
	faulty(t, seasons(season(1, 4, 1), season(2, 10, 1), season(3, 12, 31), season(4, 4, 1)))
}

// P8.1: every holiday of the chapter's fields is one or not as the library's calendar has it.
func TestCheckAllDates(t *testing.T) {
	for month := -1; month <= 14; month++ {
		for day := -1; day <= 33; day++ {
			has := func(year int) bool {
				u := time.Date(year, time.Month(month), day, 0, 0, 0, 0, time.UTC)
				return u.Year() == year && int(u.Month()) == month && u.Day() == day
			}
			checks := []struct {
				c  days.Calendar
				is bool
			}{
				{with(fixed(month, day)), has(2024)},
				{with(once(2024, month, day)), has(2024)},
				{with(once(2023, month, day)), has(2023)},
				{seasons(season(1, month, day)), has(2023)},
			}
			for _, x := range checks {
				if (days.Check(x.c) == api.OK) != x.is {
					t.Errorf("Check(%+v) = %v", x.c, days.Check(x.c))
				}
			}
		}
	}
}

// P8.1: published dates, the earliest and the latest ones, and the years at which the full moon's table has exceptions.
func TestEasterRows(t *testing.T) {
	for _, x := range [][3]int{
		{1970, 3, 29}, {1981, 4, 19}, {2049, 4, 18}, {2000, 4, 23}, {2008, 3, 23}, {2011, 4, 24}, {2016, 3, 27}, {2019, 4, 21}, {2024, 3, 31}, {2025, 4, 20}, {2026, 4, 5},
		{2027, 3, 28}, {2038, 4, 25}, {2076, 4, 19}, {2100, 3, 28}, {2106, 4, 18}, {2190, 4, 25}, {2285, 3, 22}, {2299, 4, 16}, {9999, 3, 28},
	} {
		if d, e := days.Easter(x[0]); e != api.OK || d != (civil.Date{Year: x[0], Month: x[1], Day: x[2]}) {
			t.Error(x, d, e)
		}
	}
}

// P8.1 and P8.5: every year, against another rule; a Sunday from 22 March to 25 April, both of which occur.
func TestEasterOfAll(t *testing.T) {
	seen := map[string]int{}
	for year := 1970; year <= 9999; year++ {
		d, e := days.Easter(year)
		u := knuth(year)
		if e != api.OK || d != (civil.Date{Year: year, Month: int(u.Month()), Day: u.Day()}) {
			t.Fatal(year, d, e, u)
		}
		day, e := civil.Day(d)
		text := u.Format("01-02")
		if e != api.OK || civil.Weekday(day) != 7 || text < "03-22" || text > "04-25" {
			t.Fatal(year, d, e, text)
		}
		seen[text]++
	}
	if len(seen) != 35 {
		t.Error(len(seen), seen)
	}
}

// P8.1: years that there are not.
func TestEasterBeyond(t *testing.T) {
	for _, year := range append([]int{1969, 1968, 10000, 10001, 0, -1, -1970, 1, 70, 1<<32 + 2026}, beyond...) {
		if d, e := days.Easter(year); d != (civil.Date{}) || e != api.ErrTime {
			t.Error(year, d, e)
		}
	}
}

// P8.2 and P8.3: days and years on both sides of those there are.
func TestBeyond(t *testing.T) {
	for _, c := range []days.Calendar{{}, example()} {
		for _, day := range append([]int{-1, -2, -7, -365, civil.MaxDay + 1, civil.MaxDay + 2, civil.MaxDay + 7, 1<<32 + 20548}, beyond...) {
			refuses(t, c, day, 1969, api.ErrTime)
		}
		for _, year := range append([]int{1969, 10000, 0, -1, 1<<32 + 2026}, beyond...) {
			refuses(t, c, -1, year, api.ErrTime)
		}
		wants(t, c, 0)
		wants(t, c, civil.MaxDay)
	}
}

// P8.2: each kind of holiday, at the edges of the days that it is on.
func TestIsRows(t *testing.T) {
	rows := []struct {
		h    days.Holiday
		text string
		is   bool
	}{
		{fixed(2, 29), "2024-02-29", true}, {fixed(2, 29), "2023-02-28", false}, {fixed(2, 29), "2023-03-01", false}, {fixed(2, 29), "2100-03-01", false}, {fixed(2, 29), "2000-02-29", true},
		{fixed(1, 1), "1970-01-01", true}, {fixed(12, 31), "9999-12-31", true}, {fixed(12, 31), "1999-12-30", false}, {fixed(5, 1), "2026-01-05", false},
		{once(2025, 7, 7), "2025-07-07", true}, {once(2025, 7, 7), "2026-07-07", false}, {once(2025, 7, 7), "2024-07-07", false}, {once(1970, 1, 1), "1970-01-01", true}, {once(9999, 12, 31), "9999-12-31", true},
		{weekly(11, 4, 4), "2025-11-27", true}, {weekly(11, 4, 4), "2025-11-20", false}, {weekly(5, 1, -1), "2026-05-25", true}, {weekly(5, 1, -1), "2026-05-18", false},
		{weekly(2, 4, 5), "2024-02-29", true}, {weekly(2, 4, 5), "2025-02-27", false}, {weekly(2, 4, -1), "2024-02-29", true}, {weekly(2, 4, -1), "2024-02-22", false}, {weekly(2, 4, 4), "2024-02-22", true},
		{weekly(1, 4, 1), "1970-01-01", true}, {weekly(12, 5, 5), "9999-12-31", true}, {weekly(12, 5, -1), "9999-12-31", true}, {weekly(12, 5, 4), "9999-12-31", false},
		{paschal(0), "2026-04-05", true}, {paschal(-2), "2026-04-03", true}, {paschal(49), "2026-05-24", true}, {paschal(200), "2026-10-22", true}, {paschal(-100), "2025-12-26", true},
		{paschal(-100), "2026-12-18", true}, {paschal(-100), "2026-12-26", false}, {paschal(-88), "1970-01-01", false}, {paschal(-87), "1970-01-01", true}, {paschal(200), "9999-10-14", true},
		// The year is that of Easter Sunday, whatever the holiday's is.
		{paschal(0), "1970-03-29", true}, {paschal(0), "1970-04-06", false}, {paschal(-100), "1970-12-31", false}, {paschal(-100), "1971-01-01", true}, {paschal(200), "1970-10-15", true}, {paschal(-100), "9999-12-31", false},
	}
	for _, r := range rows {
		day := at(t, r.text)
		if is, e := days.Is(with(r.h), day); is != r.is || e != api.OK {
			t.Errorf("Is(%+v, %s) = %v %v", r.h, r.text, is, e)
		}
		wants(t, with(r.h), day)
		// Whatever its place among others is.
		wants(t, with(fixed(3, 3), r.h, once(2001, 1, 2)), day)
	}
}

// P8.2: a holiday is a Feast on any weekday.
func TestFeastOnAnyWeekday(t *testing.T) {
	c := with(fixed(12, 25))
	plain := map[int]int{}
	for year := 2020; year <= 2031; year++ {
		day := number(time.Date(year, 12, 25, 0, 0, 0, 0, time.UTC))
		if k, e := days.Kind(c, day); k != 4 || e != api.OK {
			t.Error(year, k, e)
		}
		k, e := days.Kind(days.Calendar{}, day)
		if e != api.OK {
			t.Error(year, e)
		}
		plain[k]++
	}
	if len(plain) != 3 || plain[4] != 0 {
		t.Error(plain)
	}
}

// P8.2: the season that began last, over the ends of the year, whatever their order in the calendar is.
func TestSeasonRows(t *testing.T) {
	rows := []struct {
		list []days.Season
		text string
		want int
	}{
		{nil, "2026-01-01", 0}, {nil, "2026-12-31", 0},
		{[]days.Season{season(9, 7, 1)}, "2026-06-30", 9}, {[]days.Season{season(9, 7, 1)}, "2026-07-01", 9}, {[]days.Season{season(9, 7, 1)}, "1970-01-01", 9},
		{[]days.Season{season(1, 1, 1), season(2, 12, 31)}, "2026-12-30", 1}, {[]days.Season{season(1, 1, 1), season(2, 12, 31)}, "2026-12-31", 2}, {[]days.Season{season(1, 1, 1), season(2, 12, 31)}, "2027-01-01", 1},
		{[]days.Season{season(5, 1, 2), season(2, 12, 31)}, "2027-01-01", 2}, {[]days.Season{season(2, 12, 31), season(5, 1, 2)}, "2027-01-01", 2}, {[]days.Season{season(5, 1, 2), season(2, 12, 31)}, "2027-01-02", 5},
		{[]days.Season{season(3, 2, 28), season(4, 3, 1)}, "2024-02-29", 3}, {[]days.Season{season(3, 2, 28), season(4, 3, 1)}, "2024-03-01", 4}, {[]days.Season{season(3, 2, 28), season(4, 3, 1)}, "2023-02-27", 4},
		// The number doesn't decide, nor does the day alone.
		{[]days.Season{season(99, 3, 31), season(1, 4, 1)}, "2026-04-02", 1}, {[]days.Season{season(1, 4, 1), season(99, 3, 31)}, "2026-04-30", 1}, {[]days.Season{season(1, 4, 20), season(99, 5, 10)}, "2026-05-09", 1},
		{[]days.Season{season(1, 4, 20), season(99, 5, 10)}, "2026-05-15", 99}, {[]days.Season{season(1, 1, 31), season(2, 2, 1)}, "2026-02-01", 2}, {[]days.Season{season(1, 1, 31), season(2, 2, 1)}, "2026-01-31", 1},
	}
	for _, r := range rows {
		if n, e := days.SeasonOf(seasons(r.list...), at(t, r.text)); n != r.want || e != api.OK {
			t.Errorf("SeasonOf(%+v, %s) = %d %v, not %d", r.list, r.text, n, e, r.want)
		}
		wants(t, seasons(r.list...), at(t, r.text))
	}
}

// P8.2 and P8.5: every day of many years of calendars of all sorts has the one kind and the season of the chapter's words.
func TestAnyCalendar(t *testing.T) {
	r := source()
	for range 40 {
		c := anyCalendar(r)
		valid(t, c)
		for day := at2000; day < at2000+3*366; day++ {
			wants(t, c, day)
		}
		for range 300 {
			wants(t, c, r.IntN(civil.MaxDay+1))
		}
		for n := range 500 {
			wants(t, c, n)
			wants(t, c, civil.MaxDay-n)
		}
	}
}

// listed holds List of a year against the kinds of its days.
func listed(t *testing.T, c days.Calendar, year int) []int {
	t.Helper()
	var want []int
	for u := time.Date(year, 1, 1, 0, 0, 0, 0, time.UTC); u.Year() == year; u = u.AddDate(0, 0, 1) {
		if kindBy(c, number(u)) == 4 {
			want = append(want, number(u))
		}
	}
	got, e := days.List(c, year)
	if e != api.OK || !slices.Equal(got, want) {
		t.Fatalf("List(%+v, %d) = %v %v, not %v", c, year, got, e, want)
	}
	return got
}

// P8.3: the holidays of a year, ascending, one that several holidays are on once.
func TestListRows(t *testing.T) {
	if l := listed(t, days.Calendar{}, 2026); len(l) != 0 {
		t.Error(l)
	}
	c := example()
	want := []int{at(t, "2026-01-01"), at(t, "2026-04-06"), at(t, "2026-05-25")}
	if l := listed(t, c, 2026); !slices.Equal(l, want) {
		t.Error(l)
	}
	c.Holidays = append(c.Holidays, once(2026, 5, 25), weekly(5, 1, 4), paschal(50), fixed(5, 25), fixed(1, 1), once(2025, 1, 1))
	if l := listed(t, c, 2026); !slices.Equal(l, want) {
		t.Error(l)
	}
	// Far ahead of Easter Sunday: twice in one year, and not at all in another.
	many := map[int]int{}
	for year := 1970; year <= 2100; year++ {
		many[len(listed(t, with(paschal(-100)), year))]++
	}
	if many[0] == 0 || many[1] == 0 || many[2] == 0 || len(many) != 3 {
		t.Error(many)
	}
	for _, year := range []int{1970, 1971, 9998, 9999} {
		listed(t, with(paschal(-100), paschal(200), paschal(-88), paschal(-87), weekly(12, 5, 5), weekly(1, 4, 1), fixed(1, 1), fixed(12, 31)), year)
	}
}

// P8.3: a hundred holidays, all of them on one day, or each on its own.
func TestListFull(t *testing.T) {
	var same, own days.Calendar
	for i := range days.MaxHolidays {
		same.Holidays = append(same.Holidays, fixed(6, 1))
		own.Holidays = append(own.Holidays, paschal(99-i))
	}
	if l := listed(t, same, 2026); len(l) != 1 {
		t.Error(l)
	}
	if l := listed(t, own, 2026); len(l) != 100 {
		t.Error(l)
	}
}

// P8.3: years of calendars of all sorts.
func TestListOfAny(t *testing.T) {
	r := source()
	for range 60 {
		c := anyCalendar(r)
		for _, year := range []int{1970, 1971, 2000, 2004, 2005, 9999, 1970 + r.IntN(8030)} {
			listed(t, c, year)
		}
	}
}

// P8.3: the first day of a kind, from the day itself on.
func TestNextRows(t *testing.T) {
	c := example()
	rows := []struct {
		from string
		kind int
		want string
	}{
		{"2026-04-06", 4, "2026-04-06"}, {"2026-04-07", 4, "2026-05-25"}, {"2026-05-26", 4, "2027-01-01"}, {"2026-04-03", 1, "2026-04-03"}, {"2026-04-04", 1, "2026-04-07"}, {"2026-04-04", 2, "2026-04-04"},
		{"2026-04-04", 3, "2026-04-05"}, {"2026-04-06", 3, "2026-04-12"}, {"2026-12-31", 1, "2026-12-31"}, {"2026-12-31", 4, "2027-01-01"}, {"1970-01-01", 4, "1970-01-01"}, {"1970-01-01", 1, "1970-01-02"},
		{"9999-12-31", 1, "9999-12-31"}, {"9999-12-20", 3, "9999-12-26"},
	}
	for _, r := range rows {
		next(t, c, at(t, r.from), r.kind, at(t, r.want))
	}
	// Nothing of it is left ahead of the last day's end.
	next(t, c, at(t, "9999-12-31"), 4, -1)
	next(t, c, at(t, "9999-06-01"), 4, -1)
	next(t, c, civil.MaxDay-6, 2, civil.MaxDay-6)
	next(t, c, civil.MaxDay-5, 2, -1)
	next(t, c, civil.MaxDay-5, 3, civil.MaxDay-5)
	next(t, c, civil.MaxDay-4, 3, -1)
}

// P8.3: kinds that there are not.
func TestNextNoKind(t *testing.T) {
	for _, kind := range append([]int{0, -1, 5, 6, 1<<32 + 1}, beyond...) {
		for _, day := range []int{0, 20548, civil.MaxDay} {
			next(t, example(), day, kind, -1)
		}
	}
	next(t, days.Calendar{}, 20548, days.Feast, -1)
}

// P8.3: the day 3700 days after, and no later one.
func TestNextFar(t *testing.T) {
	for _, text := range []string{"2026-05-05", "1990-05-05", "2019-11-15", "2000-01-01", "2000-12-31", "1970-01-01"} {
		from := at(t, text)
		for ahead := range 3720 {
			u := date(from + ahead)
			want := from + ahead
			if ahead > 3700 {
				want = -1
			}
			if ahead > 3690 || ahead%97 == 0 {
				next(t, with(once(u.Year(), int(u.Month()), u.Day())), from, days.Feast, want)
			}
		}
		before := date(from + 3699)
		if before.Year() > 1970 {
			next(t, with(once(before.Year(), int(before.Month()), before.Day())), from+3700, days.Feast, -1)
		}
	}
	// Up to the last day, though that is less than 3700 days after.
	next(t, with(once(9999, 12, 31)), civil.MaxDay-3700, days.Feast, civil.MaxDay)
	next(t, with(once(9999, 12, 31)), civil.MaxDay-3701, days.Feast, -1)
	next(t, with(once(9999, 12, 31)), civil.MaxDay-100, days.Feast, civil.MaxDay)
	next(t, with(once(9999, 12, 31)), civil.MaxDay, days.Feast, civil.MaxDay)
}

// P8.3: from each of many days on, of calendars of all sorts.
func TestNextOfAny(t *testing.T) {
	r := source()
	for range 60 {
		c := anyCalendar(r)
		if len(c.Holidays) > 3 {
			c.Holidays = c.Holidays[:r.IntN(4)]
		}
		for _, from := range []int{r.IntN(civil.MaxDay + 1), at2000 + r.IntN(4000), r.IntN(400), civil.MaxDay - r.IntN(4000)} {
			for kind := 1; kind <= 4; kind++ {
				want := -1
				for day := from; day <= min(from+3700, civil.MaxDay) && want < 0; day++ {
					if kindBy(c, day) == kind {
						want = day
					}
				}
				next(t, c, from, kind, want)
			}
		}
	}
}

// P8.4: arguments stay as they are, beyond their lengths too, and answers are new memory.
func TestArgumentsAreOnlyRead(t *testing.T) {
	r := source()
	for range 20 {
		c := anyCalendar(r)
		c.Holidays = append(c.Holidays, paschal(3), paschal(1), paschal(2))
		holidays := append(slices.Clone(c.Holidays), fixed(7, 7))
		begins := append(slices.Clone(c.Seasons), season(77, 7, 7))
		c.Holidays, c.Seasons = slices.Clone(holidays), slices.Clone(begins)
		c.Holidays, c.Seasons = c.Holidays[:len(holidays)-1], c.Seasons[:len(begins)-1]
		for range 2 {
			days.Check(c)
			days.Is(c, at2000)
			days.Kind(c, at2000)
			days.SeasonOf(c, at2000)
			days.Next(c, at2000, days.Feast)
			l, e := days.List(c, 2000)
			if e != api.OK {
				continue
			}
			again, _ := days.List(c, 2000)
			want := slices.Clone(l)
			l = l[:cap(l)]
			for i := range l {
				l[i] = -7
			}
			if !slices.Equal(again, want) {
				t.Fatal(again, want)
			}
			if third, _ := days.List(c, 2000); !slices.Equal(third, want) {
				t.Fatal(third, want)
			}
		}
		if !slices.Equal(c.Holidays[:len(holidays)], holidays) || !slices.Equal(c.Seasons[:len(begins)], begins) {
			t.Fatalf("%+v", c)
		}
	}
}

// P8.4: what is asked does not hang on what was asked of other calendars before.
func TestNothingIsKept(t *testing.T) {
	c := with(fixed(3, 3))
	day := at(t, "2026-03-03")
	wants(t, c, day)
	c.Holidays[0] = fixed(3, 4)
	wants(t, c, day)
	wants(t, c, day+1)
	listed(t, c, 2026)
	next(t, c, day, days.Feast, day+1)
	wants(t, days.Calendar{}, day+1)
}

// P8.5: Fixed, Weekly (but a fifth one) and Paschal from -80 on are at most once a year.
func TestAtMostOnceAYear(t *testing.T) {
	var list []days.Holiday
	for n := -80; n <= 200; n++ {
		list = append(list, paschal(n))
	}
	for month := 1; month <= 12; month++ {
		list = append(list, fixed(month, 1), fixed(month, 29))
		for _, n := range []int{1, 4, -1} {
			list = append(list, weekly(month, month%7+1, n))
		}
	}
	for _, h := range list {
		for _, year := range []int{1970, 1971, 2000, 2008, 2011, 2038, 2160, 2285, 9999} {
			l, e := days.List(with(h), year)
			leaps := h == fixed(2, 29) && len(l) == 0
			if e != api.OK || len(l) != 1 && !leaps {
				t.Errorf("List(%+v, %d) = %v %v", h, year, l, e)
			}
		}
	}
}
