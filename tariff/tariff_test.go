package tariff_test

import (
	"math"
	"math/big"
	"math/rand/v2"
	"reflect"
	"slices"
	"testing"
	"time"
	_ "time/tzdata"

	"kilowatt/api"
	"kilowatt/bands"
	"kilowatt/days"
	"kilowatt/rates"
	"kilowatt/tariff"
	"kilowatt/zone"
)

const (
	hour      = 3600
	day       = 24 * hour
	week      = 7 * day
	year10000 = 253402300800
	amount    = 4611686018427387904 // the greatest
	price     = 1073741824          // the greatest
	units     = 1000000
	meters    = 64
	allBands  = 8
)

// beyond are numbers that are no meter and no band, nor any energy, price or remainder below 0.
var beyond = []int64{math.MinInt64, math.MinInt64 + 1, math.MinInt32, -1 << 32, -units, -2, -1}

func source() *rand.Rand { return rand.New(rand.NewPCG(111, 112)) }

func instant(text string) int64 {
	t, err := time.Parse("2006-01-02 15:04:05", text)
	if err != nil {
		panic(err)
	}
	return t.Unix()
}

// prices are a version of eight prices; band 0 has base, and each other one a bit more.
func prices(from, base int64) rates.Version {
	v := rates.Version{From: from}
	for b := range int64(allBands) {
		v.Prices = append(v.Prices, base+b)
	}
	return v
}

// example is the chapter's.
func example() tariff.Tariff {
	return tariff.Tariff{
		Zone: zone.Zone{Offset: hour},
		Bands: bands.Table{
			Plans: [][]bands.Switch{{{}, {Minute: 360, Band: 1}}, {{}}},
			Rules: []bands.Rule{{Kind: days.Sunday, Plan: 1}},
		},
		Rates: []rates.Version{{Prices: []int64{100, 250, 0, 0, 0, 0, 0, 0}}},
	}
}

// berlin has the time of Central Europe, two seasons, holidays, a plan for each season and kind, and two versions of prices; its bands tell the plan and the part of the day.
func berlin() tariff.Tariff {
	x := tariff.Tariff{
		Zone: zone.Zone{Offset: hour, Rules: []zone.Rule{{
			First: 1996, Last: 9999, Extra: hour,
			On:  zone.Change{Month: 3, Weekday: 7, N: -1, Minute: 120},
			Off: zone.Change{Month: 10, Weekday: 7, N: -1, Minute: 120},
		}}},
		Days: days.Calendar{
			Holidays: []days.Holiday{{Kind: days.Fixed, Month: 1, Day: 1}, {Kind: days.Paschal, N: 1}, {Kind: days.Once, Year: 2026, Month: 7, Day: 8}, {Kind: days.Weekly, Month: 5, Weekday: 1, N: -1}},
			Seasons:  []days.Season{{Number: 7, Month: 4, Day: 1}, {Number: 99, Month: 10, Day: 1}},
		},
		Rates: []rates.Version{prices(instant("2000-01-01 00:00:00"), 100), prices(instant("2026-07-01 00:00:00"), 200)},
	}
	for season := range 2 {
		for kind := 1; kind <= 4; kind++ {
			x.Bands.Rules = append(x.Bands.Rules, bands.Rule{Season: []int{7, 99}[season], Kind: kind, Plan: len(x.Bands.Plans)})
			b := season*4 + kind - 1
			x.Bands.Plans = append(x.Bands.Plans, []bands.Switch{{Band: b}, {Minute: 150, Band: 7 - b}, {Minute: 1439, Band: (b + 3) % 8}})
		}
	}
	return x
}

// told is what an instant has.
type told struct {
	season, kind, minute, band int
	price                      int64
}

// read is what an instant has by the words of the chapter in berlin, on the library's calendar.
func read(place *time.Location, t int64) told {
	local := time.Unix(t, 0).In(place)
	month, minute := int(local.Month()), local.Hour()*60+local.Minute()
	x := told{season: 99, kind: 1, minute: minute, price: 100}
	if month >= 4 && month < 10 {
		x.season = 7
	}
	switch date := local.Format("01-02"); {
	case date == "01-01", local.Format("2006-01-02") == "2026-07-08", month == 5 && local.Weekday() == time.Monday && local.Day() > 24, isPaschal(local):
		x.kind = 4
	case local.Weekday() == time.Sunday:
		x.kind = 3
	case local.Weekday() == time.Saturday:
		x.kind = 2
	}
	b := x.kind - 1
	if x.season == 99 {
		b += 4
	}
	switch {
	case minute < 150:
		x.band = b
	case minute < 1439:
		x.band = 7 - b
	default:
		x.band = (b + 3) % 8
	}
	if t >= instant("2026-07-01 00:00:00") {
		x.price = 200
	}
	x.price += int64(x.band)
	return x
}

// isPaschal reports whether a date is an Easter Monday, of the years that the tests look at.
func isPaschal(local time.Time) bool {
	return slices.Contains([]string{
		"2022-04-18", "2023-04-10", "2024-04-01", "2025-04-21", "2026-04-06", "2027-03-29", "2028-04-17", "2029-04-02", "2030-04-22",
	}, local.Format("2006-01-02"))
}

// holds checks Local and At of an instant.
func holds(t *testing.T, x tariff.Tariff, at int64, want told) {
	t.Helper()
	season, kind, minute, e := tariff.Local(x, at)
	if season != want.season || kind != want.kind || minute != want.minute || e != api.OK {
		t.Fatalf("Local(%d) = %d %d %d %v, not %+v", at, season, kind, minute, e, want)
	}
	b, p, e := tariff.At(x, at)
	if b != want.band || p != want.price || e != api.OK {
		t.Fatalf("At(%d) = %d %d %v, not %+v", at, b, p, e, want)
	}
}

// noAt checks that At has that error, and nothing beside it.
func noAt(t *testing.T, x tariff.Tariff, at int64, want api.Errno) {
	t.Helper()
	if b, p, e := tariff.At(x, at); b != 0 || p != 0 || e != want {
		t.Errorf("At(%+v, %d) = %d %d %v, not %v", x, at, b, p, e, want)
	}
}

// noLocal checks that Local and At have that error, and nothing beside it.
func noLocal(t *testing.T, x tariff.Tariff, at int64, want api.Errno) {
	t.Helper()
	if season, kind, minute, e := tariff.Local(x, at); season != 0 || kind != 0 || minute != 0 || e != want {
		t.Errorf("Local(%+v, %d) = %d %d %d %v, not %v", x, at, season, kind, minute, e, want)
	}
	noAt(t, x, at, want)
}

// faulty checks that every function with a tariff has that error.
func faulty(t *testing.T, x tariff.Tariff, want api.Errno) {
	t.Helper()
	if e := tariff.Check(x); e != want {
		t.Errorf("Check(%+v) = %v, not %v", x, e, want)
	}
	// An instant without a local time, and one ahead of all prices, are told later.
	for _, at := range []int64{0, 18000, 1794744000, -1, math.MinInt64, math.MaxInt64, year10000} {
		noLocal(t, x, at, want)
	}
}

// The chapter's examples.
func TestExamples(t *testing.T) {
	x := example()
	holds(t, x, 0, told{0, days.Workday, 60, 0, 100})
	holds(t, x, 18000, told{0, days.Workday, 360, 1, 250})
	holds(t, x, 17999, told{0, days.Workday, 359, 0, 100})
	holds(t, x, 3*day+18000, told{0, days.Sunday, 360, 0, 100})
	var p tariff.Purse
	pays(t, &p, 0, 1, 3999, 250, 0)
	pays(t, &p, 0, 1, 1, 250, 1)
	if p.Rest(0, 1) != 0 {
		t.Error(p.Rest(0, 1))
	}
	if c, rest, e := tariff.Cost([][2]int64{{3999, 250}, {1, 250}, {10, 100}}); c != 1 || rest != 1000 || e != api.OK {
		t.Error(c, rest, e)
	}
}

// P11.1: the edges of what a tariff may be.
func TestCheckValid(t *testing.T) {
	rows := []tariff.Tariff{
		example(), berlin(),
		// The least that there is.
		{Bands: bands.Table{Plans: [][]bands.Switch{{{}}}}, Rates: []rates.Version{{Prices: make([]int64, 8)}}},
	}
	full := berlin()
	full.Zone.Offset = -50400
	full.Rates = nil
	for from := range int64(200) {
		v := prices(from, price-7)
		full.Rates = append(full.Rates, v)
	}
	for len(full.Zone.Rules) < 20 {
		full.Zone.Rules = append(full.Zone.Rules, full.Zone.Rules[0])
	}
	for len(full.Days.Holidays) < 100 {
		full.Days.Holidays = append(full.Days.Holidays, full.Days.Holidays[0])
	}
	for len(full.Bands.Rules) < 100 {
		full.Bands.Rules = append(full.Bands.Rules, full.Bands.Rules[0])
	}
	for _, x := range append(rows, full) {
		if e := tariff.Check(x); e != api.OK {
			t.Errorf("Check(%+v) = %v", x, e)
		}
	}
}

// spoiled are tariffs of which one part is not valid, with the error of that part.
func spoiled() []struct {
	spoil func(x *tariff.Tariff)
	want  api.Errno
} {
	return []struct {
		spoil func(x *tariff.Tariff)
		want  api.Errno
	}{
		{func(x *tariff.Tariff) { x.Zone.Offset = 50401 }, api.ErrZone},
		{func(x *tariff.Tariff) { x.Zone.Rules = []zone.Rule{{}} }, api.ErrZone},
		{func(x *tariff.Tariff) { x.Days.Holidays = []days.Holiday{{}} }, api.ErrDays},
		{func(x *tariff.Tariff) { x.Days.Seasons = []days.Season{{Number: 100, Month: 1, Day: 1}} }, api.ErrDays},
		{func(x *tariff.Tariff) { x.Bands = bands.Table{} }, api.ErrBands},
		{func(x *tariff.Tariff) { x.Bands.Plans = [][]bands.Switch{{{}, {Minute: 1440}}} }, api.ErrBands},
		{func(x *tariff.Tariff) { x.Bands.Rules = []bands.Rule{{Plan: len(x.Bands.Plans)}} }, api.ErrBands},
		{func(x *tariff.Tariff) { x.Rates = []rates.Version{prices(-1, 0)} }, api.ErrRates},
		{func(x *tariff.Tariff) { x.Rates = []rates.Version{prices(5, 0), prices(5, 0)} }, api.ErrRates},
		{func(x *tariff.Tariff) { x.Rates = []rates.Version{prices(5, price-6)} }, api.ErrRates},
		{func(x *tariff.Tariff) { x.Rates = []rates.Version{{}} }, api.ErrRates},
		{func(x *tariff.Tariff) { x.Rates = []rates.Version{prices(5, 0), {From: 6, Prices: make([]int64, 7)}} }, api.ErrRates},
		{func(x *tariff.Tariff) { x.Rates = []rates.Version{{Prices: make([]int64, 17)}} }, api.ErrRates},
		{func(x *tariff.Tariff) { x.Rates = nil }, api.ErrTariff},
		{func(x *tariff.Tariff) { x.Rates = []rates.Version{} }, api.ErrTariff},
	}
}

// P11.1: one part that is not valid; and the first one of two.
func TestCheckFaults(t *testing.T) {
	for i, a := range spoiled() {
		x := berlin()
		a.spoil(&x)
		faulty(t, x, a.want)
		// Parts that come later in the list are told later; those of the prices are one part.
		for _, b := range spoiled()[i+1:] {
			if b.want == a.want || b.want == api.ErrTariff && a.want == api.ErrRates {
				continue
			}
			x := berlin()
			b.spoil(&x)
			a.spoil(&x)
			faulty(t, x, a.want)
		}
	}
	faulty(t, tariff.Tariff{}, api.ErrBands)
}

// P11.1: every number of prices, of one version and of several, that is a table's and no tariff's.
func TestCheckPrices(t *testing.T) {
	for n := 1; n <= 16; n++ {
		for _, versions := range []int64{1, 2, 200} {
			x := berlin()
			x.Rates = nil
			for from := range versions {
				x.Rates = append(x.Rates, rates.Version{From: from, Prices: make([]int64, n)})
			}
			if n == 8 {
				if e := tariff.Check(x); e != api.OK {
					t.Error(n, versions, e)
				}
				continue
			}
			faulty(t, x, api.ErrTariff)
		}
	}
}

// P11.1: the season, kind, minute, band and price of the local time, about the ends of days, seasons, minutes and of daylight saving time, and anywhere.
func TestAtBerlin(t *testing.T) {
	place, err := time.LoadLocation("Europe/Berlin")
	if err != nil {
		t.Fatal(err)
	}
	x := berlin()
	for _, text := range []string{
		"2025-12-31 23:00:00", "2026-01-01 23:00:00", "2026-03-29 01:00:00", "2026-03-29 00:30:00", "2026-03-31 22:00:00", "2026-04-04 22:00:00", "2026-04-05 22:00:00", "2026-04-06 22:00:00",
		"2026-05-24 22:00:00", "2026-05-25 22:00:00", "2026-07-01 00:00:00", "2026-06-30 22:00:00", "2026-07-07 22:00:00", "2026-07-08 22:00:00", "2026-09-30 22:00:00", "2026-10-25 00:00:00",
		"2026-10-25 00:30:00", "2026-10-25 01:00:00", "2026-10-25 01:30:00", "2027-03-28 22:00:00", "2027-03-29 22:00:00", "2028-02-29 01:30:00", "2026-11-20 22:59:00", "2026-11-20 23:00:00",
	} {
		for off := int64(-61); off <= 61; off++ {
			at := instant(text) + off
			holds(t, x, at, read(place, at))
		}
	}
	r := source()
	first, last := instant("2022-01-01 00:00:00"), instant("2030-12-31 00:00:00")
	for range 3000 {
		at := first + r.Int64N(last-first)
		holds(t, x, at, read(place, at))
	}
}

// P11.1: the plan of a day is by its local date, and its prices by the instant.
func TestAtOffsets(t *testing.T) {
	for _, offset := range []int{-50400, -3600, -1, 0, 1, 3600, 50400} {
		x := example()
		x.Zone.Offset = offset
		x.Rates = []rates.Version{prices(0, 100), prices(10*day, 200)}
		for _, at := range []int64{3*day - 1, 3 * day, 3*day + 6*hour - 1, 3*day + 6*hour, 4*day - 1, 4 * day, 4*day + 6*hour, 10*day - 1, 10 * day, 10*day + 6*hour - 1, 10*day + 6*hour} {
			local := at // of which the instant is ahead by the offset
			now := local - int64(offset)
			want := told{kind: 1, minute: int(local%day) / 60, price: 100}
			switch local / day % 7 {
			case 2:
				want.kind = 2
			case 3:
				want.kind = 3
			}
			if want.minute >= 360 && want.kind != 3 {
				want.band = 1
			}
			if now >= 10*day {
				want.price = 200
			}
			want.price += int64(want.band)
			holds(t, x, now, want)
		}
	}
}

// P11.1: instants without a local time are ErrTime, those without a price only ErrTariff.
func TestAtEdges(t *testing.T) {
	x := berlin()
	x.Zone = zone.Zone{Offset: hour}
	x.Rates = []rates.Version{prices(0, 1)}
	for _, at := range []int64{math.MinInt64, -hour - 1, year10000 - hour, year10000, math.MaxInt64} {
		noLocal(t, x, at, api.ErrTime)
	}
	// The first local minute is that of a holiday in winter, the last one that of a Friday.
	holds(t, x, 0, told{99, days.Feast, 60, 7, 8})
	holds(t, x, year10000-hour-1, told{99, days.Workday, 1439, 7, 8})
	if season, kind, minute, e := tariff.Local(x, -hour); season != 99 || kind != days.Feast || minute != 0 || e != api.OK {
		t.Error(season, kind, minute, e)
	}
	for _, at := range []int64{-hour, -1} {
		noAt(t, x, at, api.ErrTariff)
	}
	x.Zone.Offset = -hour
	for _, at := range []int64{math.MinInt64, 0, hour - 1, year10000 + hour, math.MaxInt64} {
		noLocal(t, x, at, api.ErrTime)
	}
	// Behind the last instant of the calendar there is local time still, and a version of prices.
	holds(t, x, year10000+hour-1, told{99, days.Workday, 1439, 7, 8})
	x = berlin()
	from := x.Rates[0].From
	for _, at := range []int64{0, from - 1} {
		noAt(t, x, at, api.ErrTariff)
		if _, _, _, e := tariff.Local(x, at); e != api.OK {
			t.Error(at, e)
		}
	}
	if _, p, e := tariff.At(x, from); p < 100 || e != api.OK {
		t.Error(p, e)
	}
}

// P11.1: a local time at which an hour occurs twice or never.
func TestAtChanges(t *testing.T) {
	x := berlin()
	x.Bands = bands.Table{Plans: [][]bands.Switch{{{Band: 1}, {Minute: 120, Band: 2}, {Minute: 150, Band: 3}, {Minute: 180, Band: 4}}}}
	for _, row := range []struct {
		text         string
		minute, band int
	}{
		{"2026-03-29 00:59:59", 119, 1}, {"2026-03-29 01:00:00", 180, 4},
		{"2026-10-24 23:59:59", 119, 1}, {"2026-10-25 00:00:00", 120, 2}, {"2026-10-25 00:30:00", 150, 3}, {"2026-10-25 00:59:59", 179, 3},
		{"2026-10-25 01:00:00", 120, 2}, {"2026-10-25 01:30:00", 150, 3}, {"2026-10-25 02:00:00", 180, 4},
	} {
		at := instant(row.text)
		_, _, minute, e := tariff.Local(x, at)
		b, _, f := tariff.At(x, at)
		if minute != row.minute || b != row.band || e != api.OK || f != api.OK {
			t.Error(row, minute, b, e, f)
		}
	}
}

// P11.1: without a rule that holds, a day has the first plan.
func TestAtFirstPlan(t *testing.T) {
	x := berlin()
	x.Bands.Plans = [][]bands.Switch{{{Band: 3}}, {{Band: 4}}, {{Band: 5}}}
	x.Bands.Rules = []bands.Rule{{Season: 99, Kind: days.Sunday, Plan: 2}, {Season: 7, Plan: 1}, {Kind: days.Sunday, Plan: 0}}
	for text, want := range map[string]int{
		"2026-01-10 12:00:00": 3, "2026-01-11 12:00:00": 5, "2026-06-10 12:00:00": 4, "2026-06-14 12:00:00": 4,
	} {
		if b, p, e := tariff.At(x, instant(text)); b != want || p != int64(100+want) || e != api.OK {
			t.Error(text, b, p, e)
		}
	}
}

// anyTariff is a valid one, with few days that are alike.
func anyTariff(r *rand.Rand) tariff.Tariff {
	x := berlin()
	x.Zone.Offset = r.IntN(100801) - 50400
	x.Days.Seasons = x.Days.Seasons[:r.IntN(3)]
	x.Bands = bands.Table{}
	for range 1 + r.IntN(50) {
		var l []bands.Switch
		for minute := 0; minute < 1440 && len(l) < 48; minute += 1 + r.IntN(500) {
			l = append(l, bands.Switch{Minute: minute, Band: r.IntN(8)})
		}
		x.Bands.Plans = append(x.Bands.Plans, l)
	}
	for range r.IntN(10) {
		x.Bands.Rules = append(x.Bands.Rules, bands.Rule{Season: []int{0, 7, 99}[r.IntN(3)], Kind: r.IntN(5), Plan: r.IntN(len(x.Bands.Plans))})
	}
	x.Rates = nil
	from := r.Int64N(1 << 31)
	for range 1 + r.IntN(20) {
		x.Rates = append(x.Rates, prices(from, r.Int64N(price-7)))
		from += 1 + r.Int64N(1<<25)
	}
	return x
}

// P11.1: the band and the price of any tariff, from the answers of the layers below.
func TestAnyTariff(t *testing.T) {
	r := source()
	for range 300 {
		x := anyTariff(r)
		if e := tariff.Check(x); e != api.OK {
			t.Fatal(x, e)
		}
		for range 20 {
			at := r.Int64N(1 << 32)
			local, minute, _ := zone.Day(x.Zone, at)
			kind, _ := days.Kind(x.Days, local)
			season, _ := days.SeasonOf(x.Days, local)
			plan, _ := bands.Plan(x.Bands, season, kind)
			b, _ := bands.Band(x.Bands.Plans[plan], minute)
			p, is := rates.Price(x.Rates, at, b)
			if is {
				holds(t, x, at, told{season, kind, minute, b, p})
			} else {
				noAt(t, x, at, api.ErrTariff)
			}
		}
	}
}

// P11.5: a week later a day of the same season and kind has the same band in the same minute.
func TestWeekLater(t *testing.T) {
	r := source()
	same := 0
	for range 200 {
		x := anyTariff(r)
		for range 20 {
			at := x.Rates[0].From + r.Int64N(1<<30)
			season, kind, minute, _ := tariff.Local(x, at)
			nextSeason, nextKind, nextMinute, _ := tariff.Local(x, at+week)
			if season != nextSeason || kind != nextKind || minute != nextMinute {
				continue
			}
			same++
			a, _, e := tariff.At(x, at)
			b, _, f := tariff.At(x, at+week)
			if a != b || e != api.OK || f != api.OK {
				t.Fatal(x, at, a, b, e, f)
			}
		}
	}
	if same < 2000 {
		t.Error(same)
	}
}

// copied is a tariff with the same parts, in memory of its own.
func copied(x tariff.Tariff) tariff.Tariff {
	x.Zone.Rules = slices.Clone(x.Zone.Rules)
	x.Days.Holidays = slices.Clone(x.Days.Holidays)
	x.Days.Seasons = slices.Clone(x.Days.Seasons)
	x.Bands.Plans = slices.Clone(x.Bands.Plans)
	for i, l := range x.Bands.Plans {
		x.Bands.Plans[i] = slices.Clone(l)
	}
	x.Bands.Rules = slices.Clone(x.Bands.Rules)
	x.Rates = slices.Clone(x.Rates)
	for i, v := range x.Rates {
		x.Rates[i].Prices = slices.Clone(v.Prices)
	}
	return x
}

// P11.4: neither a tariff nor pairs are changed, valid or not.
func TestOnlyRead(t *testing.T) {
	rows := []tariff.Tariff{example(), berlin()}
	for _, a := range spoiled() {
		x := berlin()
		a.spoil(&x)
		rows = append(rows, x)
	}
	for _, x := range rows {
		c := copied(x)
		tariff.Check(x)
		for _, at := range []int64{0, 18000, 1794744000, math.MaxInt64} {
			tariff.Local(x, at)
			tariff.At(x, at)
		}
		if !reflect.DeepEqual(x, c) {
			t.Errorf("%+v, not %+v", x, c)
		}
	}
	l := [][2]int64{{5, 7}, {amount, 1}, {-1, 3}, {0, 0}}
	c := slices.Clone(l)
	tariff.Cost(l)
	tariff.Cost(l[:2])
	if !slices.Equal(l, c) {
		t.Error(l)
	}
}

// pays checks what a purse that is paid answers.
func pays(t *testing.T, p *tariff.Purse, meter, band int, energy, price, want int64) {
	t.Helper()
	if c, e := p.Pay(meter, band, energy, price); c != want || e != api.OK {
		t.Fatalf("Pay(%d, %d, %d, %d) = %d %v, not %d", meter, band, energy, price, c, e, want)
	}
}

// refuses checks that a purse that is paid has that error, and no remainder of another value than before.
func refuses(t *testing.T, p *tariff.Purse, meter, band int, energy, price int64, want api.Errno) {
	t.Helper()
	before := rests(p)
	if c, e := p.Pay(meter, band, energy, price); c != 0 || e != want {
		t.Errorf("Pay(%d, %d, %d, %d) = %d %v, not %v", meter, band, energy, price, c, e, want)
	}
	if rests(p) != before {
		t.Errorf("Pay(%d, %d, %d, %d) changed a remainder", meter, band, energy, price)
	}
}

// rests are all remainders of a purse.
func rests(p *tariff.Purse) [meters][allBands]int64 {
	var l [meters][allBands]int64
	for m := range l {
		for b := range l[m] {
			l[m][b] = p.Rest(m, b)
		}
	}
	return l
}

// filled is a purse with another remainder in each place.
func filled(t *testing.T) *tariff.Purse {
	t.Helper()
	var p tariff.Purse
	for m := range meters {
		for b := range allBands {
			if e := p.Back(m, b, int64(1000*m+b+1)); e != api.OK {
				t.Fatal(m, b, e)
			}
		}
	}
	return &p
}

// costBy is the cost and the new remainder by the words of the chapter.
func costBy(energy, price, rest int64) (*big.Int, int64) {
	n := new(big.Int).Mul(big.NewInt(energy), big.NewInt(price))
	n.Add(n, big.NewInt(rest))
	q, next := n.DivMod(n, big.NewInt(units), new(big.Int))
	return q, next.Int64()
}

// P11.2: a new purse has no remainders; a nil one has errors, zeros and nil.
func TestNewAndNil(t *testing.T) {
	var p tariff.Purse
	if rests(&p) != [meters][allBands]int64{} || rests(new(tariff.Purse)) != [meters][allBands]int64{} {
		t.Error(rests(&p))
	}
	var none *tariff.Purse
	for _, n := range []int{0, 5, -1, 64, math.MinInt} {
		if c, e := none.Pay(n, n, int64(n), int64(n)); c != 0 || e != api.ErrNil {
			t.Error(n, c, e)
		}
		if e := none.Back(n, n, int64(n)); e != api.ErrNil {
			t.Error(n, e)
		}
		if rest := none.Rest(n, n); rest != 0 {
			t.Error(n, rest)
		}
	}
	if none.Copy() != nil {
		t.Error(none.Copy())
	}
}

// P11.2: each meter and band has a remainder of its own.
func TestPlaces(t *testing.T) {
	p := filled(t)
	for m := range meters {
		for b := range allBands {
			want := int64(1000*m + b + 1)
			if p.Rest(m, b) != want {
				t.Fatal(m, b, p.Rest(m, b))
			}
			before := rests(p)
			before[m][b] = want + 7
			pays(t, p, m, b, 1, 7, 0)
			if rests(p) != before {
				t.Fatal(m, b)
			}
		}
	}
}

// P11.2: a meter, a band, an energy, a price or a remainder beyond its range.
func TestPurseArguments(t *testing.T) {
	p := filled(t)
	places := [][2]int{{64, 0}, {0, 8}, {64, 8}, {65, 7}, {63, 9}, {1 << 32, 0}, {0, 1 << 32}, {math.MaxInt, 1}, {1, math.MaxInt}, {0, 256}, {256, 0}}
	for _, n := range beyond {
		places = append(places, [2]int{int(n), 0}, [2]int{0, int(n)}, [2]int{int(n), int(n)}, [2]int{int(n), 8}, [2]int{1, int(n)})
	}
	for _, place := range places {
		refuses(t, p, place[0], place[1], 1, 1, api.ErrArg)
		refuses(t, p, place[0], place[1], amount, price, api.ErrArg)
		noBack(t, p, place[0], place[1], 0)
		noBack(t, p, place[0], place[1], 5)
		if rest := p.Rest(place[0], place[1]); rest != 0 {
			t.Error(place, rest)
		}
	}
	for _, n := range append([]int64{amount + 1, math.MaxInt64 - 1, math.MaxInt64}, beyond...) {
		refuses(t, p, 3, 4, n, 1, api.ErrArg)
		refuses(t, p, 3, 4, n, 0, api.ErrArg)
		refuses(t, p, 3, 4, n, price, api.ErrArg)
	}
	for _, n := range append([]int64{price + 1, 1 << 32, amount, math.MaxInt64}, beyond...) {
		refuses(t, p, 3, 4, 1, n, api.ErrArg)
		refuses(t, p, 3, 4, 0, n, api.ErrArg)
		refuses(t, p, 3, 4, amount, n, api.ErrArg)
	}
	for _, n := range append([]int64{units, units + 1, 1 << 32, amount, math.MaxInt64}, beyond...) {
		noBack(t, p, 3, 4, n)
	}
	for _, n := range []int64{0, 1, units - 1, 500000} {
		for _, place := range [][2]int{{0, 0}, {63, 7}, {0, 7}, {63, 0}} {
			if e := p.Back(place[0], place[1], n); e != api.OK || p.Rest(place[0], place[1]) != n {
				t.Error(place, n, e, p.Rest(place[0], place[1]))
			}
		}
	}
}

func noBack(t *testing.T, p *tariff.Purse, meter, band int, rest int64) {
	t.Helper()
	before := rests(p)
	if e := p.Back(meter, band, rest); e != api.ErrArg || rests(p) != before {
		t.Errorf("Back(%d, %d, %d) = %v", meter, band, rest, e)
	}
}

// P11.2: the edges of energies, prices and remainders, with costs up to MaxAmount and above.
func TestPayEdges(t *testing.T) {
	energies := []int64{0, 1, 2, units - 1, units, units + 1, 1 << 32, amount/price*units - 1, amount / price * units, amount/price*units + 1, 1 << 52, amount - 1, amount}
	list := []int64{0, 1, 2, 999, units - 1, units, units + 1, 1 << 20, price - 1, price}
	most := big.NewInt(amount)
	over, rests := 0, []int64{0, 1, units - 1}
	for _, energy := range energies {
		for _, each := range list {
			for _, rest := range rests {
				var p tariff.Purse
				p.Back(9, 3, rest)
				cost, next := costBy(energy, each, rest)
				if cost.Cmp(most) > 0 {
					over++
					refuses(t, &p, 9, 3, energy, each, api.ErrOver)
					continue
				}
				pays(t, &p, 9, 3, energy, each, cost.Int64())
				if p.Rest(9, 3) != next {
					t.Errorf("Pay(%d, %d) on %d leaves %d, not %d", energy, each, rest, p.Rest(9, 3), next)
				}
			}
		}
	}
	if over == 0 {
		t.Error("no cost was too great")
	}
}

// P11.2: a cost of MaxAmount just fits, and one more does not.
func TestPayMost(t *testing.T) {
	var p tariff.Purse
	pays(t, &p, 0, 0, amount, units, amount)
	p.Back(0, 0, units-1)
	pays(t, &p, 0, 0, amount, units, amount)
	if p.Rest(0, 0) != units-1 {
		t.Error(p.Rest(0, 0))
	}
	// Of this energy the remainder alone decides: 2^32 units at 2^30 are 2^62, and what is carried over is one more.
	energy := int64(units) << 32
	p.Back(0, 0, units-1)
	pays(t, &p, 0, 0, energy, price, amount)
	refuses(t, &p, 0, 0, energy+1, price, api.ErrOver)
	energy = amount / 3 * 2
	cost, next := costBy(energy, 3*units/2, units-1)
	if cost.Cmp(big.NewInt(amount)) > 0 || next != units-1 {
		t.Fatal(cost, next)
	}
	pays(t, &p, 0, 0, energy, 3*units/2, cost.Int64())
	refuses(t, &p, 0, 0, amount, units+1, api.ErrOver)
	refuses(t, &p, 0, 0, amount, price, api.ErrOver)
}

// anyEnergy is a valid one of any size.
func anyEnergy(r *rand.Rand) int64 {
	return r.Int64N(amount>>r.IntN(62) + 1)
}

func anyPrice(r *rand.Rand) int64 {
	return r.Int64N(price>>r.IntN(30) + 1)
}

// P11.2: purses that are paid, and set back, in any order.
func TestAnyPayments(t *testing.T) {
	r := source()
	for range 30 {
		var p tariff.Purse
		var want [meters][allBands]int64
		for range 300 {
			m, b := r.IntN(meters), r.IntN(allBands)
			if r.IntN(5) == 0 {
				m, b = 1, 2
			}
			if r.IntN(10) == 0 {
				want[m][b] = r.Int64N(units)
				if e := p.Back(m, b, want[m][b]); e != api.OK {
					t.Fatal(e)
				}
				continue
			}
			energy, each := anyEnergy(r), anyPrice(r)
			cost, next := costBy(energy, each, want[m][b])
			if cost.Cmp(big.NewInt(amount)) > 0 {
				refuses(t, &p, m, b, energy, each, api.ErrOver)
				continue
			}
			pays(t, &p, m, b, energy, each, cost.Int64())
			want[m][b] = next
		}
		if rests(&p) != want {
			t.Fatal(rests(&p), want)
		}
	}
}

// P11.2: a copy is equal, and neither changes the other.
func TestCopy(t *testing.T) {
	p := filled(t)
	before := rests(p)
	c := p.Copy()
	if c == p || rests(c) != before {
		t.Fatal(c == p, rests(c))
	}
	for m := range meters {
		c.Back(m, m%8, 0)
		pays(t, c, m, (m+1)%8, 1, 5, 0)
	}
	if rests(p) != before {
		t.Error("the copy changed the purse")
	}
	now := rests(c)
	for m := range meters {
		p.Back(m, m%8, 77)
		pays(t, p, m, (m+1)%8, 1, 9, 0)
	}
	if rests(c) != now {
		t.Error("the purse changed the copy")
	}
	if new(tariff.Purse).Copy() == nil {
		t.Error("no copy of a new purse")
	}
}

// costs checks what Cost answers.
func costs(t *testing.T, l [][2]int64, cost, rest int64, e api.Errno) {
	t.Helper()
	if c, n, f := tariff.Cost(l); c != cost || n != rest || f != e {
		t.Fatalf("Cost(%v) = %d %d %v, not %d %d %v", l, c, n, f, cost, rest, e)
	}
}

// P11.3: totals, the first error of a payment, and a total that is too great.
func TestCost(t *testing.T) {
	costs(t, nil, 0, 0, api.OK)
	costs(t, [][2]int64{}, 0, 0, api.OK)
	costs(t, [][2]int64{{0, 0}, {0, price}, {amount, 0}}, 0, 0, api.OK)
	costs(t, [][2]int64{{1, 999999}}, 0, 999999, api.OK)
	costs(t, [][2]int64{{1, 999999}, {1, 1}}, 1, 0, api.OK)
	costs(t, [][2]int64{{amount, units}}, amount, 0, api.OK)
	half := int64(amount / 2)
	costs(t, [][2]int64{{half, units}, {half, units}}, amount, 0, api.OK)
	costs(t, [][2]int64{{half, units}, {half, units}, {1, 999999}}, amount, 999999, api.OK)
	// A total above MaxAmount, by one and by much.
	costs(t, [][2]int64{{half, units}, {half, units}, {1, units}}, 0, 0, api.ErrOver)
	costs(t, [][2]int64{{amount, units}, {1, 999999}, {1, 1}}, 0, 0, api.ErrOver)
	for n := 2; n < 20; n++ {
		costs(t, slices.Repeat([][2]int64{{amount, units}}, n), 0, 0, api.ErrOver)
		costs(t, slices.Repeat([][2]int64{{amount, units}, {amount - 1, units}}, n), 0, 0, api.ErrOver)
	}
	// The errors of a payment: the first one, whatever the total is.
	costs(t, [][2]int64{{-1, 1}}, 0, 0, api.ErrArg)
	costs(t, [][2]int64{{1, -1}}, 0, 0, api.ErrArg)
	costs(t, [][2]int64{{1, price + 1}}, 0, 0, api.ErrArg)
	costs(t, [][2]int64{{amount + 1, 1}}, 0, 0, api.ErrArg)
	costs(t, [][2]int64{{5, 5}, {amount, price}}, 0, 0, api.ErrOver)
	costs(t, [][2]int64{{5, 5}, {amount, price}, {-1, 1}}, 0, 0, api.ErrOver)
	costs(t, [][2]int64{{5, 5}, {-1, 1}, {amount, price}}, 0, 0, api.ErrArg)
	costs(t, [][2]int64{{amount, units}, {amount, units}, {-1, 1}}, 0, 0, api.ErrArg)
	costs(t, [][2]int64{{amount, units}, {amount, units}, {amount, units}, {amount, units}, {1, 1}, {1, price + 1}}, 0, 0, api.ErrArg)
}

// P11.3: lists of any pairs, among them such as are no energy and no price.
func TestAnyCost(t *testing.T) {
	r := source()
	seen := map[api.Errno]int{}
	for range 5000 {
		var l [][2]int64
		for range r.IntN(12) {
			pair := [2]int64{anyEnergy(r), anyPrice(r)}
			switch r.IntN(40) {
			case 0:
				pair[r.IntN(2)] = -1
			case 1:
				pair[1] = price + 1
			}
			l = append(l, pair)
		}
		cost, rest, e := costOf(l)
		seen[e]++
		costs(t, l, cost, rest, e)
	}
	if seen[api.OK] < 100 || seen[api.ErrArg] < 100 || seen[api.ErrOver] < 100 {
		t.Error(seen)
	}
}

// costOf is the cost of a list by the words of the chapter.
func costOf(l [][2]int64) (cost, rest int64, e api.Errno) {
	total, most := new(big.Int), big.NewInt(amount)
	for _, pair := range l {
		if pair[0] < 0 || pair[0] > amount || pair[1] < 0 || pair[1] > price {
			return 0, 0, api.ErrArg
		}
		c, next := costBy(pair[0], pair[1], rest)
		if c.Cmp(most) > 0 {
			return 0, 0, api.ErrOver
		}
		total.Add(total, c)
		rest = next
	}
	if total.Cmp(most) > 0 {
		return 0, 0, api.ErrOver
	}
	return total.Int64(), rest, api.OK
}

// P11.5: an energy costs the same however it is divided, and never less than nothing.
func TestDivided(t *testing.T) {
	r := source()
	for range 2000 {
		energy, each := anyEnergy(r), anyPrice(r)
		whole, rest, e := tariff.Cost([][2]int64{{energy, each}})
		if e != api.OK {
			continue
		}
		var l [][2]int64
		for left := energy; left > 0; {
			part := min(left, 1+anyEnergy(r))
			l = append(l, [2]int64{part, each})
			left -= part
			if len(l) == 50 {
				l = append(l, [2]int64{left, each})
				break
			}
		}
		costs(t, l, whole, rest, api.OK)
		var p tariff.Purse
		var sum int64
		for _, pair := range l {
			c, e := p.Pay(5, 6, pair[0], pair[1])
			if c < 0 || e != api.OK {
				t.Fatal(pair, c, e)
			}
			sum += c
		}
		if sum != whole || p.Rest(5, 6) != rest {
			t.Fatal(energy, each, l, sum, p.Rest(5, 6))
		}
	}
}
