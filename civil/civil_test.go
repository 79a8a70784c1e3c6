package civil_test

import (
	"math"
	"math/rand/v2"
	"strings"
	"testing"
	"time"

	"kilowatt/api"
	"kilowatt/civil"
)

const (
	dateLayout   = "2006-01-02"
	momentLayout = "2006-01-02T15:04:05"
)

func source() *rand.Rand { return rand.New(rand.NewPCG(11, 12)) }

func date(year, month, day int) civil.Date { return civil.Date{Year: year, Month: month, Day: day} }

func moment(year, month, day, hour, minute, second int) civil.Moment {
	return civil.Moment{Date: date(year, month, day), Hour: hour, Minute: minute, Second: second}
}

// library is the moment of an instant by a package that has nothing in common with the program.
func library(t int64) civil.Moment {
	u := time.Unix(t, 0).UTC()
	return moment(u.Year(), int(u.Month()), u.Day(), u.Hour(), u.Minute(), u.Second())
}

// beyond are numbers that no field, day or place may be.
var beyond = []int{math.MinInt, math.MinInt + 1, -1 << 32, math.MinInt32, -10000, 10000000, math.MaxInt32, 1 << 32, 1<<32 + 1, 1<<32 + 12, math.MaxInt - 1, math.MaxInt}

func isLeap(year int) bool {
	if year%400 == 0 {
		return true
	}
	if year%100 == 0 {
		return false
	}
	return year%4 == 0
}

// P6.1: divisible by 4 and not by 100, or by 400; for any integer.
func TestLeap(t *testing.T) {
	rows := []struct {
		year int
		want bool
	}{
		{1970, false}, {1972, true}, {1900, false}, {2000, true}, {2023, false}, {2024, true}, {2025, false}, {2026, false},
		{2100, false}, {2200, false}, {2300, false}, {2400, true}, {9996, true}, {9999, false}, {10000, true}, {10100, false},
		{0, true}, {1, false}, {4, true}, {100, false}, {400, true}, {-1, false}, {-2, false}, {-4, true}, {-100, false}, {-200, false}, {-400, true}, {-404, true},
		{math.MaxInt, false}, {math.MaxInt - 3, true}, {math.MaxInt - 7, false}, {math.MinInt, true}, {math.MinInt + 1, false},
	}
	for _, r := range rows {
		if got := civil.Leap(r.year); got != r.want {
			t.Errorf("Leap(%d) = %v", r.year, got)
		}
	}
	for year := -12000; year <= 12000; year++ {
		if got := civil.Leap(year); got != isLeap(year) || got != (time.Date(year, 12, 31, 0, 0, 0, 0, time.UTC).YearDay() == 366) {
			t.Errorf("Leap(%d) = %v", year, got)
		}
	}
}

// P6.1: the chapter's lengths of months, in all years, those that no date has included.
func TestDays(t *testing.T) {
	lengths := strings.Fields("31 28 31 30 31 30 31 31 30 31 30 31")
	years := append([]int{0, 1, -1, -4, -100, -400}, beyond...)
	for year := 1890; year <= 2410; year++ {
		years = append(years, year)
	}
	for _, year := range years {
		for month := 1; month <= 12; month++ {
			want := int(lengths[month-1][0]-'0')*10 + int(lengths[month-1][1]-'0')
			if month == 2 && isLeap(year) {
				want = 29
			}
			if got := civil.Days(year, month); got != want {
				t.Errorf("Days(%d, %d) = %d; want %d", year, month, got, want)
			}
		}
		for _, month := range append([]int{-12, -2, -1, 0, 13, 14, 24, 256 + 2}, beyond...) {
			if got := civil.Days(year, month); got != 0 {
				t.Errorf("Days(%d, %d) = %d; want 0", year, month, got)
			}
		}
	}
}

// refuseDate holds that nothing takes d, nor a moment of it.
func refuseDate(t *testing.T, d civil.Date) {
	t.Helper()
	if e := civil.Check(d); e != api.ErrTime {
		t.Errorf("Check(%v) = %v", d, e)
	}
	if day, e := civil.Day(d); e != api.ErrTime || day != 0 {
		t.Errorf("Day(%v) = %d, %v", d, day, e)
	}
	if s, e := civil.Text(d); e != api.ErrTime || s != "" {
		t.Errorf("Text(%v) = %q, %v", d, s, e)
	}
	refuseMoment(t, civil.Moment{Date: d})
	refuseMoment(t, civil.Moment{Date: d, Hour: 12, Minute: 30, Second: 59})
}

func refuseMoment(t *testing.T, m civil.Moment) {
	t.Helper()
	if n, e := civil.Instant(m); e != api.ErrTime || n != 0 {
		t.Errorf("Instant(%v) = %d, %v", m, n, e)
	}
	if s, e := civil.TextAt(m); e != api.ErrTime || s != "" {
		t.Errorf("TextAt(%v) = %q, %v", m, s, e)
	}
}

func refuseDay(t *testing.T, day int) {
	t.Helper()
	if d, e := civil.Of(day); e != api.ErrTime || d != (civil.Date{}) {
		t.Errorf("Of(%d) = %v, %v", day, d, e)
	}
	if w := civil.Weekday(day); w != 0 {
		t.Errorf("Weekday(%d) = %d", day, w)
	}
}

// P6.1 and P6.3: which dates are valid, in the first and the last years, about 2000 and 2100, and on both sides of the years.
func TestCheck(t *testing.T) {
	for _, year := range []int{1968, 1969, 1970, 1971, 1972, 1999, 2000, 2001, 2024, 2026, 2100, 2400, 9996, 9998, 9999, 10000, 10004} {
		for month := -1; month <= 14; month++ {
			for day := -1; day <= 33; day++ {
				d := date(year, month, day)
				u := time.Date(year, time.Month(month), day, 0, 0, 0, 0, time.UTC)
				if year < 1970 || year > 9999 || u.Year() != year || int(u.Month()) != month || u.Day() != day {
					refuseDate(t, d)
					continue
				}
				if e := civil.Check(d); e != api.OK {
					t.Errorf("Check(%v) = %v", d, e)
				}
			}
		}
	}
}

// P6.1 and P6.3: one field that no date may have, whatever the others are.
func TestDatesBeyond(t *testing.T) {
	refuseDate(t, civil.Date{})
	for _, n := range append([]int{-1, 0, 32, 100, 1969, -1970, -2024}, beyond...) {
		refuseDate(t, date(n, 2, 28))
		refuseDate(t, date(2024, n, 28))
		refuseDate(t, date(2024, 2, n))
		refuseDate(t, date(n, n, n))
	}
}

// P6.1 and P6.5: every day there is, its date and its weekday, held against the library's calendar.
func TestEveryDay(t *testing.T) {
	if civil.MaxYear != 9999 || civil.MaxDay != 2932896 || (civil.MaxDay+1)*86400 != api.MaxTime {
		t.Fatal("limits")
	}
	u := time.Unix(0, 0).UTC()
	for day := range civil.MaxDay + 1 {
		year, month, of := u.Date()
		want := date(year, int(month), of)
		if d, e := civil.Of(day); e != api.OK || d != want {
			t.Fatalf("Of(%d) = %v, %v; want %v", day, d, e, want)
		}
		if n, e := civil.Day(want); e != api.OK || n != day {
			t.Fatalf("Day(%v) = %d, %v; want %d", want, n, e, day)
		}
		if w := civil.Weekday(day); w != (int(u.Weekday())+6)%7+1 {
			t.Fatalf("Weekday(%d) = %d; want %v", day, w, u.Weekday())
		}
		u = u.Add(24 * time.Hour)
	}
	if u.Year() != 10000 {
		t.Error("the last day is not the last one of its year")
	}
}

// P6.1: the chapter's examples and the ends.
func TestDayRows(t *testing.T) {
	rows := []struct {
		d            civil.Date
		day, weekday int
	}{
		{date(1970, 1, 1), 0, 4},
		{date(1970, 1, 4), 3, 7},
		{date(1970, 1, 5), 4, 1},
		{date(1970, 12, 31), 364, 4},
		{date(1972, 2, 29), 789, 2},
		{date(2000, 2, 29), 11016, 2},
		{date(2000, 3, 1), 11017, 3},
		{date(2026, 3, 29), 20541, 7},
		{date(9999, 12, 31), 2932896, 5},
	}
	for _, r := range rows {
		if day, e := civil.Day(r.d); e != api.OK || day != r.day {
			t.Errorf("Day(%v) = %d, %v; want %d", r.d, day, e, r.day)
		}
		if d, e := civil.Of(r.day); e != api.OK || d != r.d {
			t.Errorf("Of(%d) = %v, %v; want %v", r.day, d, e, r.d)
		}
		if w := civil.Weekday(r.day); w != r.weekday {
			t.Errorf("Weekday(%d) = %d; want %d", r.day, w, r.weekday)
		}
	}
	refuseDate(t, date(2001, 2, 29))
	refuseDate(t, date(1969, 12, 31))
	refuseDate(t, date(10000, 1, 1))
}

// P6.1: days on both sides of those there are.
func TestDaysBeyond(t *testing.T) {
	for _, day := range append([]int{-366, -365, -7, -3, -2, -1, civil.MaxDay + 1, civil.MaxDay + 2, civil.MaxDay + 366}, beyond...) {
		refuseDay(t, day)
	}
}

// P6.5: the date of the next day is the next date, and the weekday is the next one, after seven days the same.
func TestNextDay(t *testing.T) {
	d := date(1970, 1, 1)
	for day := range civil.MaxDay + 1 {
		if got, e := civil.Of(day); e != api.OK || got != d {
			t.Fatalf("Of(%d) = %v, %v; want %v", day, got, e, d)
		}
		d.Day++
		if d.Day > civil.Days(d.Year, d.Month) {
			d.Month, d.Day = d.Month+1, 1
		}
		if d.Month > 12 {
			d.Year, d.Month = d.Year+1, 1
		}
		w := civil.Weekday(day)
		if day+7 <= civil.MaxDay && civil.Weekday(day+7) != w {
			t.Fatalf("Weekday(%d) = %d; seven days later %d", day, w, civil.Weekday(day+7))
		}
		if day < civil.MaxDay && civil.Weekday(day+1) != w%7+1 {
			t.Fatalf("Weekday(%d) = %d; a day later %d", day, w, civil.Weekday(day+1))
		}
	}
	if d != date(10000, 1, 1) {
		t.Errorf("behind the last day: %v", d)
	}
}

// wantInstant holds an instant, its moment and its text against each other, in both directions.
func wantInstant(t *testing.T, n int64, m civil.Moment) {
	t.Helper()
	if got, e := civil.Instant(m); e != api.OK || got != n {
		t.Fatalf("Instant(%v) = %d, %v; want %d", m, got, e, n)
	}
	if got, e := civil.At(n); e != api.OK || got != m {
		t.Fatalf("At(%d) = %v, %v; want %v", n, got, e, m)
	}
	text := time.Unix(n, 0).UTC().Format(momentLayout)
	wantTextAt(t, m, text)
	wantText(t, m.Date, text[:len(dateLayout)])
}

func wantText(t *testing.T, d civil.Date, text string) {
	t.Helper()
	if s, e := civil.Text(d); e != api.OK || s != text {
		t.Fatalf("Text(%v) = %q, %v; want %q", d, s, e, text)
	}
	if got, e := civil.Parse(text); e != api.OK || got != d {
		t.Fatalf("Parse(%q) = %v, %v; want %v", text, got, e, d)
	}
}

func wantTextAt(t *testing.T, m civil.Moment, text string) {
	t.Helper()
	if s, e := civil.TextAt(m); e != api.OK || s != text {
		t.Fatalf("TextAt(%v) = %q, %v; want %q", m, s, e, text)
	}
	if got, e := civil.ParseAt(text); e != api.OK || got != m {
		t.Fatalf("ParseAt(%q) = %v, %v; want %v", text, got, e, m)
	}
}

// P6.2 and P6.3: the chapter's examples, the ends, and the edges of seconds, minutes, hours, days, months and years.
func TestInstantRows(t *testing.T) {
	rows := []struct {
		n    int64
		m    civil.Moment
		text string
	}{
		{0, moment(1970, 1, 1, 0, 0, 0), "1970-01-01T00:00:00"},
		{1, moment(1970, 1, 1, 0, 0, 1), "1970-01-01T00:00:01"},
		{59, moment(1970, 1, 1, 0, 0, 59), "1970-01-01T00:00:59"},
		{60, moment(1970, 1, 1, 0, 1, 0), "1970-01-01T00:01:00"},
		{3599, moment(1970, 1, 1, 0, 59, 59), "1970-01-01T00:59:59"},
		{3600, moment(1970, 1, 1, 1, 0, 0), "1970-01-01T01:00:00"},
		{86399, moment(1970, 1, 1, 23, 59, 59), "1970-01-01T23:59:59"},
		{86400, moment(1970, 1, 2, 0, 0, 0), "1970-01-02T00:00:00"},
		{951868799, moment(2000, 2, 29, 23, 59, 59), "2000-02-29T23:59:59"},
		{951868800, moment(2000, 3, 1, 0, 0, 0), "2000-03-01T00:00:00"},
		{1794744000, moment(2026, 11, 15, 12, 0, 0), "2026-11-15T12:00:00"},
		{1<<31 - 1, moment(2038, 1, 19, 3, 14, 7), "2038-01-19T03:14:07"},
		{1 << 31, moment(2038, 1, 19, 3, 14, 8), "2038-01-19T03:14:08"},
		{1 << 32, moment(2106, 2, 7, 6, 28, 16), "2106-02-07T06:28:16"},
		{api.MaxTime - 1, moment(9999, 12, 31, 23, 59, 59), "9999-12-31T23:59:59"},
	}
	for _, r := range rows {
		wantInstant(t, r.n, r.m)
		wantTextAt(t, r.m, r.text)
		wantText(t, r.m.Date, r.text[:len(dateLayout)])
	}
}

// P6.2, P6.3 and P6.5: instants, moments and texts undo each other, at the ends of days and on many other instants.
func TestInstantsByTheLibrary(t *testing.T) {
	for day := int64(0); day <= civil.MaxDay; day += 41 {
		n := day * 86400
		wantInstant(t, n, library(n))
		wantInstant(t, n+86399, library(n+86399))
	}
	for n := range int64(86400) {
		wantInstant(t, 1774742400+n, library(1774742400+n))
	}
	r := source()
	for range 100000 {
		n := r.Int64N(api.MaxTime)
		wantInstant(t, n, library(n))
	}
}

// P6.2: instants on both sides of those there are.
func TestInstantsBeyond(t *testing.T) {
	for _, n := range []int64{-1, -2, -86399, -86400, -86401, math.MinInt32, math.MinInt64, math.MinInt64 + 1, api.MaxTime, api.MaxTime + 1, api.MaxTime + 86400, 1 << 40, 1<<32*86400 + 5, math.MaxInt64 - 1, math.MaxInt64} {
		if m, e := civil.At(n); e != api.ErrTime || m != (civil.Moment{}) {
			t.Errorf("At(%d) = %v, %v", n, m, e)
		}
	}
}

// P6.2 and P6.3: one field that no moment may have; its neighbours inside are fine.
func TestMomentsBeyond(t *testing.T) {
	refuseMoment(t, civil.Moment{})
	refuseMoment(t, moment(2000, 1, 1, 24, 0, 0))
	refuseMoment(t, moment(2000, 1, 1, 23, 59, 60))
	for _, n := range append([]int{-60, -24, -2, -1, 60, 61, 100, 256, 3600}, beyond...) {
		refuseMoment(t, moment(2026, 11, 15, n, 0, 0))
		refuseMoment(t, moment(2026, 11, 15, 0, n, 0))
		refuseMoment(t, moment(2026, 11, 15, 0, 0, n))
		refuseMoment(t, moment(2026, 11, 15, n, n, n))
	}
	for n := range 60 {
		m := moment(2026, 11, 15, n, 59-n, n)
		if n > 23 {
			refuseMoment(t, m)
			m.Hour = 23
		}
		if _, e := civil.Instant(m); e != api.OK {
			t.Errorf("Instant(%v): %v", m, e)
		}
	}
}

func refuseParse(t *testing.T, s string) {
	t.Helper()
	if d, e := civil.Parse(s); e != api.ErrTime || d != (civil.Date{}) {
		t.Errorf("Parse(%q) = %v, %v", s, d, e)
	}
}

func refuseParseAt(t *testing.T, s string) {
	t.Helper()
	if m, e := civil.ParseAt(s); e != api.ErrTime || m != (civil.Moment{}) {
		t.Errorf("ParseAt(%q) = %v, %v", s, m, e)
	}
}

// P6.3: texts that are nearly those of a date or a moment.
func TestParseRefuses(t *testing.T) {
	dates := []string{
		"", "-", "2", "2026", "2026-11", "2026-11-", "2026-11-1", "026-11-15", "02026-11-15", "2026-011-15", "2026-1-15", "2026-11-015", "20261115", "2026-1115",
		"1969-12-31", "0000-00-00", "0000-01-01", "0001-01-01", "2026-00-15", "2026-13-15", "2026-11-00", "2026-11-31", "2026-02-29", "2100-02-29", "2024-02-30", "2026-99-99", "10000-01-01", "9999-12-32", "1e10-01-01",
		" 2026-11-15", "2026-11-15 ", "2026-11-15\n", "\ufeff2026-11-15", "2026-11-15\x00", "2026 11 15", "2026/11/15", "2026.11.15", "2026:11:15", "2026-11:15", "2026T11-15", "2026–11–15", "15-11-2026",
		"+026-11-15", "-026-11-15", " 026-11-15", "2026-+1-15", "2026--1-15", "2026- 1-15", "2026-1 -15", "2026-11-+5", "2026-11--5", "2026-11- 5", "2026-11-5 ", "0x7ea-11-15", "2_26-11-15", "20a6-11-15", "2026-1b-15", "2026-11-1c",
		"２０２６-11-15", "٢٠٢٦-11-15", "20٢-11-15", "2026-1١-15", "20٢-1١-5", "20é-11-15", "2026é11-15", "2026-11é15", "2026-11-é", "\xff\xff\xff\xff-11-15", "2026\xff11-15", "2026-11-1\x80", "2026\u043011-15",
	}
	times := []string{
		"", "0", "00", "00:00", "00:00:0", "00:00:", "0:00:00", "000:00:00", "00:000:00", "00:00:000", "000000", "24:00:00", "25:00:00", "99:00:00", "00:60:00", "00:99:00", "00:00:60", "00:00:61", "00:00:99",
		"00:00:00 ", "00:00:00Z", "00:00:00.0", "00:00:00+00:00", "00-00-00", "00.00.00", "00 00 00", "00:00-00", "+0:00:00", "-1:00:00", "00:-1:00", "00:00:-1", "00: 0:00", "0a:00:00", "00:0b:00", "00:00:0c",
		"٠:00:00", "00:٠:00", "00:00:٠", "００:00:00", "00:00:0\x80", "00\xff00:00",
	}
	for _, s := range dates {
		refuseParse(t, s)
		refuseParse(t, s+"T12:00:00")
		refuseParseAt(t, s)
		refuseParseAt(t, s+"T12:00:00")
	}
	for _, s := range times {
		refuseParseAt(t, "2026-11-15T"+s)
		refuseParse(t, "2026-11-15T"+s)
		refuseParseAt(t, s)
	}
	refuseParse(t, "2026-11-15T12:00:00")
	for _, s := range []string{"2026-11-15", "2026-11-15T", "2026-11-15 12:00:00", "2026-11-15t12:00:00", "2026-11-15-12:00:00", "2026-11-15T12:00:00T12:00:00", "2026-11-1512:00:00", "2026-11-15TT12:00:00", "2026-11-150", "T12:00:00", "12:00:00", "12:00:00T2026-11-15"} {
		refuseParseAt(t, s)
	}
}

// taken says whether s is the text of something by the library, in that layout, digit by digit.
func taken(s, layout string) (civil.Moment, bool) {
	u, err := time.Parse(layout, s)
	if err != nil || u.Format(layout) != s || u.Year() < 1970 || u.Year() > 9999 {
		return civil.Moment{}, false
	}
	return library(u.Unix()), true
}

// checkParsing holds what Parse and ParseAt say of s against the library.
func checkParsing(t *testing.T, s string) {
	t.Helper()
	if want, ok := taken(s, dateLayout); !ok {
		refuseParse(t, s)
	} else if d, e := civil.Parse(s); e != api.OK || d != want.Date {
		t.Errorf("Parse(%q) = %v, %v; want %v", s, d, e, want)
	}
	if want, ok := taken(s, momentLayout); !ok {
		refuseParseAt(t, s)
	} else if m, e := civil.ParseAt(s); e != api.OK || m != want {
		t.Errorf("ParseAt(%q) = %v, %v; want %v", s, m, e, want)
	}
}

// P6.3: texts with one byte replaced by each other byte, left out, or put in.
func TestParseOneByteChanged(t *testing.T) {
	for _, s := range []string{"2026-11-15", "1970-01-01", "2024-02-29", "9999-12-31", "1970-01-01T00:00:00", "2024-02-29T23:59:59", "2026-11-15T12:30:45", "9999-12-31T23:59:59"} {
		checkParsing(t, s)
		for i := range s {
			checkParsing(t, s[:i])
			checkParsing(t, s[i:])
			checkParsing(t, s[:i]+s[i+1:])
			for c := range 256 {
				checkParsing(t, s[:i]+string([]byte{byte(c)})+s[i+1:])
				checkParsing(t, s[:i]+string([]byte{byte(c)})+s[i:])
			}
			for _, r := range "é٠０–\ufffd\U0001d7ce" {
				checkParsing(t, s[:i]+string(r)+s[i+1:])
				if width := len(string(r)); i+width <= len(s) { // as long as before, in bytes
					checkParsing(t, s[:i]+string(r)+s[i+width:])
				}
			}
		}
	}
}

// P6.3: the text of every month and day from 00 to 99, in a leap year and another one, and of every time of day of two digits each.
func TestParseAllDigits(t *testing.T) {
	pairs := make([]string, 0, 100)
	for i := range 100 {
		pairs = append(pairs, string([]byte{byte('0' + i/10), byte('0' + i%10)}))
	}
	for _, a := range pairs {
		checkParsing(t, "20"+a+"-02-29")
		checkParsing(t, a+"00-02-29")
		checkParsing(t, a+"70-01-01")
		for _, b := range pairs {
			checkParsing(t, "2024-"+a+"-"+b)
			checkParsing(t, "2026-"+a+"-"+b)
			checkParsing(t, "2026-11-15T"+a+":"+b+":00")
			checkParsing(t, "2026-11-15T"+a+":00:"+b)
			checkParsing(t, "2026-11-15T00:"+a+":"+b)
		}
	}
}

// places are the days of a month that are such weekdays, by going through all of them.
func places(year, month, weekday int) []civil.Date {
	var found []civil.Date
	for u := time.Date(year, time.Month(month), 1, 0, 0, 0, 0, time.UTC); int(u.Month()) == month; u = u.AddDate(0, 0, 1) {
		if int(u.Weekday()) == weekday%7 {
			found = append(found, date(year, month, u.Day()))
		}
	}
	return found
}

func wantNth(t *testing.T, year, month, weekday, n int, want civil.Date) {
	t.Helper()
	if d, e := civil.Nth(year, month, weekday, n); e != api.OK || d != want {
		t.Errorf("Nth(%d, %d, %d, %d) = %v, %v; want %v", year, month, weekday, n, d, e, want)
	}
}

func refuseNth(t *testing.T, year, month, weekday, n int) {
	t.Helper()
	if d, e := civil.Nth(year, month, weekday, n); e != api.ErrTime || d != (civil.Date{}) {
		t.Errorf("Nth(%d, %d, %d, %d) = %v, %v", year, month, weekday, n, d, e)
	}
}

// P6.4: the chapter's examples and some others.
func TestNthRows(t *testing.T) {
	wantNth(t, 2026, 3, 7, -1, date(2026, 3, 29))
	wantNth(t, 2026, 10, 7, -1, date(2026, 10, 25))
	wantNth(t, 2026, 2, 7, 1, date(2026, 2, 1))
	wantNth(t, 2026, 2, 7, 4, date(2026, 2, 22))
	wantNth(t, 2026, 2, 7, -1, date(2026, 2, 22))
	wantNth(t, 2024, 2, 4, 5, date(2024, 2, 29))
	wantNth(t, 2024, 2, 4, -1, date(2024, 2, 29))
	wantNth(t, 1970, 1, 4, 1, date(1970, 1, 1))
	wantNth(t, 9999, 12, 5, -1, date(9999, 12, 31))
	wantNth(t, 9999, 12, 5, 5, date(9999, 12, 31))
	refuseNth(t, 2026, 2, 1, 5)
	refuseNth(t, 2024, 2, 5, 5)
	refuseNth(t, 9999, 12, 6, 5)
}

// P6.4: all weekdays of all months of many years, with a fifth one or without.
func TestNthByGoingThrough(t *testing.T) {
	for year := 1970; year <= 9999; year++ {
		if 2110 < year && year < 9990 && year%100 != 0 {
			continue
		}
		for month := 1; month <= 12; month++ {
			for weekday := 1; weekday <= 7; weekday++ {
				all := places(year, month, weekday)
				for i, d := range all {
					wantNth(t, year, month, weekday, i+1, d)
				}
				wantNth(t, year, month, weekday, -1, all[len(all)-1])
				for _, n := range []int{-5, -4, -3, -2, 0, len(all) + 1, 6, 7} {
					refuseNth(t, year, month, weekday, n)
				}
			}
		}
	}
}

// P6.4: years, months, weekdays and places that there are not.
func TestNthRefuses(t *testing.T) {
	for _, n := range []int{1, 2, 3, 4, 5, -1} {
		refuseNth(t, 1969, 12, 3, n)
		refuseNth(t, 10000, 1, 6, n)
		refuseNth(t, 0, 1, 1, n)
		refuseNth(t, -2026, 3, 7, n)
		for _, other := range append([]int{-7, -1, 0, 13, 14, 256 + 3}, beyond...) {
			refuseNth(t, 2026, other, 7, n)
			refuseNth(t, 2026, 3, other, n)
			refuseNth(t, other, 3, 7, n)
		}
		refuseNth(t, 2026, 3, 8, n)
	}
	for _, n := range beyond {
		refuseNth(t, 2026, 3, 7, n)
	}
	for n := -300; n <= 300; n++ {
		if n != -1 && (n < 1 || n > 5) {
			refuseNth(t, 2026, 3, 7, n)
		}
	}
}
