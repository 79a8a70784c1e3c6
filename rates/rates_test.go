package rates_test

import (
	"fmt"
	"math"
	"math/rand/v2"
	"regexp"
	"slices"
	"strconv"
	"strings"
	"testing"

	"kilowatt/api"
	"kilowatt/rates"
)

const year10000 = 253402300800

// beyond are numbers that no field may have, and that fields of fewer bits would take for others.
var beyond = []int64{math.MinInt64, math.MinInt64 + 1, math.MinInt32, -1 << 32, -2, -1, 1<<62 + 5, math.MaxInt64 - 1, math.MaxInt64}

// instants are those that a table without versions about them may be asked for.
var instants = []int64{math.MinInt64, math.MinInt64 + 1, -1 << 40, -1, 0, 1, 50, 99, 100, 101, 150, 199, 200, 201, 1 << 33, year10000 - 1, year10000, year10000 + 1, math.MaxInt64 - 1, math.MaxInt64}

var shape = regexp.MustCompile(`\A(0|[1-9][0-9]*)( (0|[1-9][0-9]*))+\z`)

func source() *rand.Rand { return rand.New(rand.NewPCG(101, 102)) }

func version(from int64, prices ...int64) rates.Version {
	return rates.Version{From: from, Prices: prices}
}

func table(l ...rates.Version) []rates.Version { return l }

// example is the chapter's.
func example() []rates.Version { return table(version(100, 5, 7), version(200, 6, 8)) }

// steps is a table of that many versions of that many prices, the last of them as late as may be.
func steps(versions, prices int) []rates.Version {
	var l []rates.Version
	for i := range versions {
		v := rates.Version{From: int64(i)}
		for n := range prices {
			v.Prices = append(v.Prices, int64(i*100+n))
		}
		l = append(l, v)
	}
	if versions > 1 {
		l[versions-1].From = year10000 - 1
	}
	return l
}

// copied is a table with the same versions, in memory of its own.
func copied(l []rates.Version) []rates.Version {
	var c []rates.Version
	for _, v := range l {
		c = append(c, rates.Version{From: v.From, Prices: slices.Clone(v.Prices)})
	}
	return c
}

// equal compares tables as they are written out.
func equal(a, b []rates.Version) bool {
	return len(a) == len(b) && textBy(a) == textBy(b)
}

// isTable is what a valid table is by the words of the chapter.
func isTable(l []rates.Version) bool {
	if len(l) > 200 {
		return false
	}
	for i, v := range l {
		if v.From < 0 || v.From >= year10000 || i > 0 && v.From <= l[i-1].From {
			return false
		}
		if len(v.Prices) < 1 || len(v.Prices) > 16 || len(v.Prices) != len(l[0].Prices) {
			return false
		}
		for _, p := range v.Prices {
			if p < 0 || p > 1073741824 {
				return false
			}
		}
	}
	return true
}

// textBy writes a table by the words of the chapter.
func textBy(l []rates.Version) string {
	var b strings.Builder
	for _, v := range l {
		fmt.Fprint(&b, v.From)
		for _, p := range v.Prices {
			fmt.Fprintf(&b, " %d", p)
		}
		fmt.Fprint(&b, "\n")
	}
	return b.String()
}

// parseBy reads a text by the words of the chapter: the table, or the number of the line that is none of it.
func parseBy(s string) ([]rates.Version, int) {
	var l []rates.Version
	lines := strings.Split(s, "\n")
	for i, line := range lines {
		if i == len(lines)-1 && line == "" {
			break
		}
		v, is := versionBy(line)
		l = append(l, v)
		if !is || i == len(lines)-1 || !isTable(l) {
			return nil, i + 1
		}
	}
	return l, 0
}

func versionBy(line string) (rates.Version, bool) {
	if !shape.MatchString(line) {
		return rates.Version{}, false
	}
	var numbers []int64
	for _, piece := range strings.Fields(line) {
		n, err := strconv.ParseInt(piece, 10, 64)
		if err != nil {
			return rates.Version{}, false
		}
		numbers = append(numbers, n)
	}
	return version(numbers[0], numbers[1:]...), true
}

// anyTable is a valid table, which may be empty.
func anyTable(r *rand.Rand) []rates.Version {
	var froms []int64
	most := []int64{30, 300, year10000}[r.IntN(3)]
	for range r.IntN([]int{4, 20, 201}[r.IntN(3)]) {
		froms = append(froms, r.Int64N(most))
	}
	slices.Sort(froms)
	prices := 1 + r.IntN(16)
	var l []rates.Version
	for _, from := range slices.Compact(froms) {
		l = append(l, anyVersion(r, from, prices))
	}
	return l
}

func anyVersion(r *rand.Rand, from int64, prices int) rates.Version {
	v := rates.Version{From: from}
	for range prices {
		v.Prices = append(v.Prices, r.Int64N([]int64{3, 1073741825}[r.IntN(2)]))
	}
	return v
}

// about are the instants at, before and behind each version, and some far from all of them.
func about(l []rates.Version) []int64 {
	all := slices.Clone(instants)
	for _, v := range l {
		all = append(all, v.From-1, v.From, v.From+1)
	}
	return all
}

// wants holds At, Price and Next of a valid table at an instant against the words of the chapter.
func wants(t *testing.T, l []rates.Version, at int64) {
	t.Helper()
	last, next := -1, -1
	for i, v := range l {
		if v.From <= at {
			last = i
		} else if next < 0 {
			next = i
		}
	}
	if i, is := rates.At(l, at); i != max(last, 0) || is != (last >= 0) {
		t.Fatalf("At(%v, %d) = %d %v, not %d", l, at, i, is, last)
	}
	var then int64
	if next >= 0 {
		then = l[next].From
	}
	if n, is := rates.Next(l, at); n != then || is != (next >= 0) {
		t.Fatalf("Next(%v, %d) = %d %v, not %d", l, at, n, is, then)
	}
	for _, band := range []int{math.MinInt, -1 << 32, -1, 0, 1, 2, 3, 7, 14, 15, 16, 17, 1 << 32, math.MaxInt} {
		var price int64
		is := last >= 0 && band >= 0 && band < len(l[last].Prices)
		if is {
			price = l[last].Prices[band]
		}
		if p, has := rates.Price(l, at, band); p != price || has != is {
			t.Fatalf("Price(%v, %d, %d) = %d %v, not %d %v", l, at, band, p, has, price, is)
		}
	}
}

// wantsSpans holds Spans of a valid table against the words of the chapter.
func wantsSpans(t *testing.T, l []rates.Version, from, to int64) {
	t.Helper()
	var want []int64
	for _, v := range l {
		if from < v.From && v.From < to {
			want = append(want, v.From)
		}
	}
	if s := rates.Spans(l, from, to); !slices.Equal(s, want) {
		t.Fatalf("Spans(%v, %d, %d) = %v, not %v", l, from, to, s, want)
	}
}

// valid checks that every function takes l.
func valid(t *testing.T, l []rates.Version) {
	t.Helper()
	if !isTable(l) {
		t.Fatalf("%v is not valid by the test's own words", l)
	}
	if e := rates.Check(l); e != api.OK {
		t.Errorf("Check(%v) = %v", l, e)
	}
	if !rates.Same(l, copied(l)) {
		t.Errorf("Same(%v) with itself", l)
	}
	if s, e := rates.Text(l); s != textBy(l) || e != api.OK {
		t.Errorf("Text(%v) = %q %v", l, s, e)
	}
	if p, n, e := rates.Parse(textBy(l)); !equal(p, l) || n != 0 || e != api.OK {
		t.Errorf("Parse(%q) = %v %d %v", textBy(l), p, n, e)
	}
	for _, at := range about(l) {
		wants(t, l, at)
		wantsSpans(t, l, at, math.MaxInt64)
		wantsSpans(t, l, math.MinInt64, at)
	}
	for _, v := range l { // in its own place
		if m, e := rates.With(l, v); !equal(m, l) || e != api.OK {
			t.Errorf("With(%v, %v) = %v %v", l, v, m, e)
		}
	}
}

// faulty checks that every function refuses l, and answers nothing beside it.
func faulty(t *testing.T, l []rates.Version) {
	t.Helper()
	if isTable(l) {
		t.Fatalf("%v is valid by the test's own words", l)
	}
	if e := rates.Check(l); e != api.ErrRates {
		t.Errorf("Check(%v) = %v", l, e)
	}
	for _, at := range about(l) {
		if i, is := rates.At(l, at); i != 0 || is {
			t.Errorf("At(%v, %d) = %d %v", l, at, i, is)
		}
		if n, is := rates.Next(l, at); n != 0 || is {
			t.Errorf("Next(%v, %d) = %d %v", l, at, n, is)
		}
		for band := range 3 {
			if p, is := rates.Price(l, at, band); p != 0 || is {
				t.Errorf("Price(%v, %d, %d) = %d %v", l, at, band, p, is)
			}
		}
		if s := rates.Spans(l, at, math.MaxInt64); len(s) != 0 {
			t.Errorf("Spans(%v, %d) = %v", l, at, s)
		}
	}
	for _, v := range append(example(), version(150, 1, 2), version(150, 1), version(0, 1, 2)) {
		noWith(t, l, v)
	}
	if s, e := rates.Text(l); s != "" || e != api.ErrRates {
		t.Errorf("Text(%v) = %q %v", l, s, e)
	}
	first := 1
	for isTable(l[:first]) {
		first++
	}
	noText(t, textBy(l), first)
}

func noWith(t *testing.T, l []rates.Version, v rates.Version) {
	t.Helper()
	if m, e := rates.With(l, v); len(m) != 0 || e != api.ErrRates {
		t.Errorf("With(%v, %v) = %v %v", l, v, m, e)
	}
}

func noText(t *testing.T, s string, line int) {
	t.Helper()
	if l, n, e := rates.Parse(s); len(l) != 0 || n != line || e != api.ErrRates {
		t.Errorf("Parse(%.100q) = %v %d %v, not line %d", s, l, n, e, line)
	}
}

// The chapter's examples.
func TestExamples(t *testing.T) {
	l := example()
	for _, x := range []struct {
		at    int64
		band  int
		price int64
		is    bool
	}{{150, 1, 7, true}, {99, 0, 0, false}, {200, 0, 6, true}, {200, 2, 0, false}} {
		if p, is := rates.Price(l, x.at, x.band); p != x.price || is != x.is {
			t.Error(x, p, is)
		}
	}
	if s, e := rates.Text(l); s != "100 5 7\n200 6 8\n" || e != api.OK {
		t.Error(s, e)
	}
	noText(t, "100 5 7\n200 6\n", 2)
	if s := rates.Spans(l, 100, 300); !slices.Equal(s, []int64{200}) {
		t.Error(s)
	}
}

// The fifth example of the whole.
func TestExampleOfTheWhole(t *testing.T) {
	for at, want := range map[int64]int64{100: 7, 199: 7, 200: 8, 1 << 40: 8} {
		if p, is := rates.Price(example(), at, 1); p != want || !is {
			t.Error(at, p, is)
		}
	}
}

// P10.1: the limits of the chapter.
func TestLimits(t *testing.T) {
	if rates.MaxVersions != 200 || rates.MaxBands != 16 || rates.MaxPrice != 1073741824 {
		t.Error(rates.MaxVersions, rates.MaxBands, rates.MaxPrice)
	}
}

// P10.1 to P10.3: the edges of what a table may be.
func TestValid(t *testing.T) {
	rows := [][]rates.Version{
		nil, {}, example(),
		table(version(0, 0)), table(version(year10000-1, 0)), table(version(0, 1), version(year10000-1, 1)), table(version(year10000-2, 1), version(year10000-1, 1)),
		table(version(5, 1073741824)), table(version(5, 0, 1073741824, 0)), table(version(0, 1073741823)),
		// Versions that change no price.
		table(version(1, 4, 4), version(2, 4, 4), version(3, 4, 4)),
		// Instants that share their low bits.
		table(version(5, 1), version(1<<32+4, 2), version(1<<32+5, 3), version(1<<33, 4)),
	}
	for _, l := range rows {
		valid(t, l)
	}
	for versions := 1; versions <= 200; versions += 1 + versions/8 {
		valid(t, steps(versions, 1+versions%16))
	}
	for prices := 1; prices <= 16; prices++ {
		valid(t, steps(3, prices))
	}
	valid(t, steps(200, 16))
}

// P10.1 to P10.3: too many versions or prices, none, and instants and prices beyond their ranges or out of order.
func TestFaulty(t *testing.T) {
	rows := [][]rates.Version{
		steps(201, 1), steps(202, 16), steps(1000, 2), steps(1, 17), steps(2, 17), steps(200, 17), steps(1, 32), steps(1, 1000), steps(1, 0), steps(3, 0),
		table(version(-1, 1)), table(version(year10000, 1)), table(version(year10000+1, 1)), table(version(0, -1)), table(version(0, 1073741825)),
		table(version(5, 1), version(5, 1)), table(version(5, 1), version(5, 2)), table(version(5, 1), version(4, 1)), table(version(5, 1), version(0, 1)),
		table(version(5, 1), version(6, 1), version(6, 1)), table(version(5, 1), version(7, 1), version(6, 1)), table(version(5, 1), version(7, 1), version(5, 1)),
		table(version(5, 1), version(6, 1, 2)), table(version(5, 1, 2), version(6, 1)), table(version(5, 1, 2), version(6, 1, 2), version(7, 1)), table(version(5, 1), version(6)), table(version(5), version(6, 1)),
		table(version(-1, 1), version(5, 1)), table(version(5, 1), version(year10000, 1)), table(version(1<<32+5, 1), version(6, 1)),
	}
	for _, n := range beyond {
		rows = append(rows, table(version(n, 1)), table(version(5, n)), table(version(5, 1, n)), table(version(5, n, 1)), table(version(n, 1), version(100, 1)), table(version(100, 1), version(n, 1)))
	}
	for _, l := range rows {
		faulty(t, l)
	}
}

// P10.1: each place of a full table.
func TestFaultyAtEachPlace(t *testing.T) {
	refused := func(l []rates.Version) {
		t.Helper()
		if isTable(l) || rates.Check(l) != api.ErrRates {
			t.Errorf("Check(%v) = %v", l, rates.Check(l))
		}
	}
	l := steps(200, 16)
	for i := range l {
		v := l[i]
		for _, n := range append([]int64{year10000}, beyond...) {
			l[i].From = n
			refused(l)
		}
		if i > 0 {
			l[i].From = l[i-1].From
			refused(l)
		}
		l[i] = v
		for k, p := range v.Prices {
			for _, n := range append([]int64{1073741825}, beyond...) {
				v.Prices[k] = n
				refused(l)
			}
			v.Prices[k] = p
			l[i].Prices = v.Prices[:k]
			refused(l)
			l[i] = v
		}
	}
	valid(t, l)
}

// P10.1 to P10.3: tables of all sorts, at, before and behind each version.
func TestAnyTable(t *testing.T) {
	r := source()
	for range 100 {
		valid(t, anyTable(r))
	}
}

// P10.2: what is put in ahead of all, between two, behind all, and in the place of another.
func TestWithRows(t *testing.T) {
	l := table(version(10, 1, 1), version(20, 2, 2), version(30, 3, 3))
	rows := []struct {
		l    []rates.Version
		v    rates.Version
		want string
	}{
		{nil, version(7, 9, 9, 9), "7 9 9 9\n"}, {[]rates.Version{}, version(0, 0), "0 0\n"},
		{l, version(0, 9, 8), "0 9 8\n10 1 1\n20 2 2\n30 3 3\n"}, {l, version(9, 9, 8), "9 9 8\n10 1 1\n20 2 2\n30 3 3\n"}, {l, version(10, 9, 8), "10 9 8\n20 2 2\n30 3 3\n"},
		{l, version(11, 9, 8), "10 1 1\n11 9 8\n20 2 2\n30 3 3\n"}, {l, version(19, 9, 8), "10 1 1\n19 9 8\n20 2 2\n30 3 3\n"}, {l, version(20, 9, 8), "10 1 1\n20 9 8\n30 3 3\n"},
		{l, version(21, 9, 8), "10 1 1\n20 2 2\n21 9 8\n30 3 3\n"}, {l, version(30, 9, 8), "10 1 1\n20 2 2\n30 9 8\n"}, {l, version(31, 9, 8), "10 1 1\n20 2 2\n30 3 3\n31 9 8\n"},
		{l, version(year10000-1, 0, 1073741824), "10 1 1\n20 2 2\n30 3 3\n253402300799 0 1073741824\n"},
		// The only version may be replaced by one with another number of prices.
		{l[:1], version(10, 4), "10 4\n"}, {l[:1], version(10, 4, 5, 6), "10 4 5 6\n"},
	}
	for _, x := range rows {
		if m, e := rates.With(x.l, x.v); textBy(m) != x.want || e != api.OK {
			t.Errorf("With(%v, %v) = %v %v", x.l, x.v, m, e)
		}
	}
}

// P10.2: versions that no table may have, or not this one, wherever they would come.
func TestWithFaulty(t *testing.T) {
	l := table(version(10, 1, 1), version(20, 2, 2), version(30, 3, 3))
	for _, from := range []int64{0, 9, 10, 11, 20, 25, 30, 31, year10000 - 1} {
		for _, v := range []rates.Version{version(from), version(from, 1), version(from, 1, 1, 1), version(from, 1, -1), version(from, 1073741825, 1), {From: from, Prices: make([]int64, 17)}} {
			noWith(t, l, v)
		}
	}
	for _, from := range append([]int64{year10000, year10000 + 1}, beyond...) {
		noWith(t, l, version(from, 1, 1))
		noWith(t, nil, version(from, 1))
	}
	noWith(t, nil, version(5))
	noWith(t, nil, version(5, 1073741825))
	noWith(t, nil, version(5, -1))
	noWith(t, nil, rates.Version{From: 5, Prices: make([]int64, 17)})
	noWith(t, l[:1], version(10))
	noWith(t, l[:1], version(11, 1))
	// Not even a version that would mend the table.
	noWith(t, table(version(10, 1), version(20, -1)), version(20, 1))
	noWith(t, table(version(-1, 1)), version(-1, 1))
	noWith(t, steps(201, 1), version(5, 1))
}

// P10.2: a full table takes no version more, but one in the place of another.
func TestWithFull(t *testing.T) {
	l := steps(200, 1)
	for _, from := range []int64{200, 1000, year10000 - 2} {
		noWith(t, l, version(from, 1))
	}
	for i, v := range l {
		want := copied(l)
		want[i].Prices = []int64{77}
		if m, e := rates.With(l, version(v.From, 77)); !equal(m, want) || e != api.OK {
			t.Fatal(i, m, e)
		}
	}
	if m, e := rates.With(l[1:], version(0, 1)); len(m) != 200 || e != api.OK {
		t.Error(len(m), e)
	}
}

// P10.2 and P10.5: tables of all sorts with a version more, which changes no price before its From, nor from the next From on.
func TestWithAny(t *testing.T) {
	r := source()
	seen := map[bool]int{}
	for range 1000 {
		l := anyTable(r)
		v := anyVersion(r, r.Int64N(40), 1+r.IntN(3))
		if len(l) > 0 {
			v = anyVersion(r, l[r.IntN(len(l))].From+r.Int64N(3)-1, max(1, len(l[0].Prices)+r.IntN(20)/19))
		}
		want := slices.DeleteFunc(copied(l), func(one rates.Version) bool { return one.From == v.From })
		want = append(want, v)
		slices.SortFunc(want, func(a, b rates.Version) int { return int(min(1, max(-1, a.From-b.From))) })
		m, e := rates.With(l, v)
		seen[isTable(want)]++
		if !isTable(want) {
			noWith(t, l, v)
			continue
		}
		if !equal(m, want) || e != api.OK {
			t.Fatalf("With(%v, %v) = %v %v, not %v", l, v, m, e, want)
		}
		changesLittle(t, l, m, v)
	}
	if seen[true] < 500 || seen[false] < 25 {
		t.Error(seen)
	}
}

// changesLittle checks that v changed the prices of l only from its From on, and before the next From.
func changesLittle(t *testing.T, l, m []rates.Version, v rates.Version) {
	t.Helper()
	next, more := rates.Next(l, v.From)
	for _, at := range about(m) {
		for band := range 16 {
			p, is := rates.Price(l, at, band)
			q, has := rates.Price(m, at, band)
			if at >= v.From && (!more || at < next) {
				has = has == (band < len(v.Prices))
				if !has || band < len(v.Prices) && q != v.Prices[band] {
					t.Fatal(l, v, at, band, q)
				}
			} else if p != q || is != has {
				t.Fatal(l, v, at, band, p, q)
			}
		}
	}
}

// P10.2: instants above one and below another one, also where none is between them.
func TestSpansRows(t *testing.T) {
	l := table(version(0, 1), version(10, 2), version(15, 3), version(20, 4))
	rows := []struct {
		from, to int64
		want     []int64
	}{
		{0, 20, []int64{10, 15}}, {-1, 20, []int64{0, 10, 15}}, {-1, 21, []int64{0, 10, 15, 20}}, {0, 21, []int64{10, 15, 20}}, {9, 11, []int64{10}}, {9, 10, nil}, {10, 11, nil}, {10, 15, nil}, {10, 16, []int64{15}}, {9, 15, []int64{10}},
		{20, 10, nil}, {20, 0, nil}, {15, 15, nil}, {14, 14, nil}, {16, 14, nil}, {20, math.MaxInt64, nil}, {19, math.MaxInt64, []int64{20}}, {math.MinInt64, 0, nil}, {math.MinInt64, 1, []int64{0}},
		{math.MinInt64, math.MaxInt64, []int64{0, 10, 15, 20}}, {math.MaxInt64, math.MinInt64, nil}, {-1, -1, nil},
	}
	for _, x := range rows {
		if s := rates.Spans(l, x.from, x.to); !slices.Equal(s, x.want) {
			t.Errorf("Spans(%d, %d) = %v, not %v", x.from, x.to, s, x.want)
		}
	}
	if s := rates.Spans(nil, -5, 1000); len(s) != 0 {
		t.Error(s)
	}
	// Another version begins, whatever its prices are.
	if s := rates.Spans(table(version(1, 4), version(2, 4)), 1, 3); !slices.Equal(s, []int64{2}) {
		t.Error(s)
	}
}

// P10.2 and P10.5: spans of tables of all sorts; between two of them no price changes.
func TestSpansAny(t *testing.T) {
	r := source()
	for range 500 {
		l := anyTable(r)
		all := about(l)
		for range 20 {
			wantsSpans(t, l, all[r.IntN(len(all))], all[r.IntN(len(all))])
		}
		spans := append(rates.Spans(l, math.MinInt64, math.MaxInt64), math.MaxInt64)
		for i, begin := range spans[:len(spans)-1] {
			end := spans[i+1]
			for _, at := range []int64{begin, begin + 1, begin + (end-begin)/2, end - 1} {
				first, _ := rates.Price(l, begin, 0)
				if p, is := rates.Price(l, at, 0); at < end && (p != first || !is) {
					t.Fatal(l, begin, at, p, first)
				}
			}
		}
	}
}

// P10.3: texts that are almost those of tables, and their first wrong lines.
func TestParseRows(t *testing.T) {
	rows := []struct {
		s    string
		line int
	}{
		{"\n", 1}, {" ", 1}, {" \n", 1}, {"\n\n", 1}, {"x", 1}, {"0", 1}, {"0\n", 1}, {"0 \n", 1}, {" 0\n", 1}, {"0 1", 1}, {"0 1 ", 1}, {"0 1 \n", 1}, {" 0 1\n", 1}, {"0  1\n", 1}, {"0 1  2\n", 1}, {"\n0 1\n", 1},
		{"0\t1\n", 1}, {"0,1\n", 1}, {"0:1\n", 1}, {"0 1\r\n", 1}, {"0 1\r", 1}, {"0 1\x00", 1}, {"0 1\x00\n", 1}, {"\ufeff0 1\n", 1}, {"0\u00a01\n", 1}, {"0 1\v\n", 1}, {"0 1\u2028", 1},
		{"00 1\n", 1}, {"01 1\n", 1}, {"0 01\n", 1}, {"0 00\n", 1}, {"0 1 02\n", 1}, {"+0 1\n", 1}, {"0 +1\n", 1}, {"-0 1\n", 1}, {"0 -0\n", 1}, {"-1 1\n", 1}, {"0 -1\n", 1},
		{"0x1 1\n", 1}, {"0 0x1\n", 1}, {"1e1 1\n", 1}, {"0 1.0\n", 1}, {"1_0 1\n", 1}, {"0 1_0\n", 1}, {"0 a\n", 1}, {"a 0\n", 1}, {"0 \u0661\n", 1}, {"\uff10 1\n", 1}, {"0b1 1\n", 1}, {"0 1 x\n", 1},
		{"253402300800 1\n", 1}, {"0 1073741825\n", 1}, {"0 1 1073741825\n", 1}, {"18446744073709551616 1\n", 1}, {"0 18446744073709551617\n", 1}, {"0 4294967297\n", 1}, {"9223372036854775807 1\n", 1}, {"9223372036854775808 1\n", 1}, {"0 9223372036854775808\n", 1}, {"-9223372036854775808 1\n", 1},
		{"0 1 1 1 1 1 1 1 1 1 1 1 1 1 1 1 1 1\n", 1}, {"0 1 1 1 1 1 1 1 1 1 1 1 1 1 1 1 1 x\n", 1}, {"0 1 1 1 1 1 1 1 1 1 1 1 1 1 1 1 1 \n", 1},
		// The lines before are a table.
		{"0 1\n0 1\n", 2}, {"5 1\n4 1\n", 2}, {"0 1\n9 1 1\n", 2}, {"0 1 1\n9 1\n", 2}, {"0 1\n\n", 2}, {"0 1\n\n9 1\n", 2}, {"0 1\n9 1", 2}, {"0 1\n9", 2}, {"0 1\n9\n", 2}, {"0 1\n ", 2}, {"0 1\nx", 2}, {"0 1\n9 x\n", 2}, {"0 1\n\r\n", 2}, {"0 1\n 9 1\n", 2}, {"0 1\n253402300800 1\n", 2}, {"0 1\n9 1073741825\n", 2},
		{"0 1\n5 1\n5 1\n", 3}, {"0 1\n5 1\n4 1\n", 3}, {"0 1\n5 1\n6 1 1\n", 3}, {"0 1\n5 1\n6 1", 3}, {"0 1\n5 1\n\n", 3}, {"0 1\n5 1\nx\n7 1\n", 3},
		// The first of several wrong lines.
		{"x\ny\n", 1}, {"x\n5 1", 1}, {"0 1\nx\ny", 2}, {"0 1\n0 1\n0 1\n", 2}, {"5 1\n4 1\nx\n", 2}, {"0 1 1\n5 1\n6 1 1", 2},
	}
	for _, x := range rows {
		if _, line := parseBy(x.s); line != x.line {
			t.Fatalf("%q has the wrong line %d by the test's own words", x.s, line)
		}
		noText(t, x.s, x.line)
	}
	if l, n, e := rates.Parse(""); len(l) != 0 || n != 0 || e != api.OK {
		t.Error(l, n, e)
	}
}

// P10.3: long texts, and what comes behind a full table.
func TestParseLong(t *testing.T) {
	full := textBy(steps(200, 16))
	if l, n, e := rates.Parse(full); !equal(l, steps(200, 16)) || n != 0 || e != api.OK {
		t.Error(n, e)
	}
	for _, more := range []string{"253402300800 1\n", "x", "\n", " ", full} {
		noText(t, full+more, 201)
	}
	noText(t, textBy(steps(201, 1)), 201)
	noText(t, textBy(steps(199, 1))+"1000 1", 200)
	noText(t, full[:len(full)-1], 200)
	noText(t, strings.Repeat("\n", 1<<16), 1)
	noText(t, strings.Repeat("0 1\n", 1<<16), 2)
	noText(t, strings.Repeat("0 ", 1<<16), 1)
	noText(t, strings.Repeat("0 ", 1<<16)+"0\n", 1)
	noText(t, strings.Repeat("9", 1<<16)+" 1\n", 1)
	noText(t, "0 "+strings.Repeat("0", 1<<16)+"\n", 1)
	noText(t, "0 1\n1 "+strings.Repeat("1", 1<<16)+"\n", 2)
	noText(t, strings.Repeat(" ", 1<<16)+"\n", 1)
}

// spoiled is s with one byte changed, put in, or taken out.
func spoiled(r *rand.Rand, s string) string {
	const letters = "0123456789   \n\n+-x\r"
	i, c := r.IntN(len(s)), string(letters[r.IntN(len(letters))])
	switch r.IntN(3) {
	case 0:
		return s[:i] + c + s[i+1:]
	case 1:
		return s[:i] + c + s[i:]
	}
	return s[:i] + s[i+1:]
}

// P10.3 and P10.5: texts of tables of all sorts, changed in a byte or two.
func TestParseAny(t *testing.T) {
	r := source()
	seen := map[bool]int{}
	for range 20000 {
		l := anyTable(r)
		s := textBy(l[:min(5, len(l))])
		for range r.IntN(3) {
			if s != "" {
				s = spoiled(r, s)
			}
		}
		want, line := parseBy(s)
		p, n, e := rates.Parse(s)
		if !equal(p, want) || n != line || (e == api.OK) != (line == 0) || e != api.OK && e != api.ErrRates {
			t.Fatalf("Parse(%q) = %v %d %v, not %v %d", s, p, n, e, want, line)
		}
		if back, no := rates.Text(p); e == api.OK && (back != s || no != api.OK) {
			t.Fatalf("Text(Parse(%q)) = %q %v", s, back, no)
		}
		seen[line == 0]++
	}
	if seen[true] < 1000 || seen[false] < 1000 {
		t.Error(seen)
	}
}

// P10.3: tables that differ in one place, and tables that are not valid.
func TestSame(t *testing.T) {
	l := table(version(10, 1, 1), version(20, 2, 2), version(30, 3, 3))
	others := [][]rates.Version{
		nil, l[:1], l[:2], l[1:], append(copied(l), version(40, 4, 4)), table(version(10, 1, 1), version(20, 2, 2), version(31, 3, 3)), table(version(11, 1, 1), version(20, 2, 2), version(30, 3, 3)),
		table(version(10, 1, 1), version(20, 2, 2), version(30, 3, 4)), table(version(10, 1, 1), version(20, 3, 2), version(30, 3, 3)), table(version(10, 1, 1), version(20, 2), version(30, 3, 3)), table(version(10, 1, 1), version(20, 2, 2, 2), version(30, 3, 3)),
		table(version(10, 1, 1), version(30, 3, 3), version(20, 2, 2)), table(version(30, 3, 3), version(20, 2, 2), version(10, 1, 1)), table(version(10+1<<32, 1, 1), version(20, 2, 2), version(30, 3, 3)), table(version(10, 1, 1), version(20, 2, 2), version(30, 3, 3+1<<32)),
		table(version(10), version(20), version(30)), table(version(10, 1, 1), version(10, 1, 1), version(10, 1, 1)),
	}
	for _, other := range others {
		if rates.Same(l, other) || rates.Same(other, l) {
			t.Errorf("Same(%v, %v)", l, other)
		}
		if !rates.Same(other, copied(other)) {
			t.Errorf("not Same(%v) with itself", other)
		}
	}
	if !rates.Same(l, copied(l)) || !rates.Same(nil, []rates.Version{}) || !rates.Same(table(version(5)), table(version(5, []int64{}...))) {
		t.Error("the same versions are not the same")
	}
}

// P10.4: arguments stay as they are, beyond their lengths too.
func TestArgumentsAreOnlyRead(t *testing.T) {
	r := source()
	spare := version(-5, -6)
	for range 200 {
		all := append(anyTable(r), spare)
		for i := range all {
			all[i].Prices = append(all[i].Prices, -7)
		}
		kept := copied(all)
		l := all[: len(all)-1 : len(all)]
		for i := range l {
			l[i].Prices = l[i].Prices[:len(l[i].Prices)-1]
		}
		v := anyVersion(r, r.Int64N(40), 1+r.IntN(3))
		if len(l) > 0 {
			v = anyVersion(r, l[r.IntN(len(l))].From+r.Int64N(3)-1, len(l[0].Prices))
		}
		prices := slices.Clone(v.Prices)
		for _, x := range [][]rates.Version{l, all} { // the second one is not valid
			rates.Check(x)
			rates.At(x, 15)
			rates.Price(x, 15, 0)
			rates.Next(x, 15)
			rates.With(x, v)
			rates.Spans(x, -1, 1<<40)
			rates.Text(x)
			rates.Same(x, all)
			rates.Same(all, x)
		}
		for i := range l {
			l[i].Prices = l[i].Prices[:len(l[i].Prices)+1]
		}
		if !equal(all, kept) || !slices.Equal(v.Prices, prices) {
			t.Fatal(all, kept, v, prices)
		}
	}
}

// P10.4: results share no memory with arguments, nor with each other, nor do the lists within one.
func TestResultsAreNew(t *testing.T) {
	spoil := func(l []rates.Version) {
		l = l[:cap(l)]
		for i := range l {
			all := l[i].Prices[:cap(l[i].Prices)]
			for k := range all {
				all[k] = -9
			}
			l[i] = rates.Version{From: -9}
		}
	}
	const s = "100 5 7\n200 6 8\n"
	l, v := example(), version(150, 1, 2)
	for _, v := range []rates.Version{v, version(200, 1, 2), version(50, 1, 2), version(250, 1, 2)} {
		first, _ := rates.With(l, v)
		second, _ := rates.With(l, v)
		want := textBy(second)
		spoil(first)
		if textBy(l) != s || !slices.Equal(v.Prices, []int64{1, 2}) || textBy(second) != want {
			t.Fatal(l, v, second)
		}
	}
	parsed, _, _ := rates.Parse(s)
	again, _, _ := rates.Parse(s)
	spoil(parsed)
	if !equal(again, l) {
		t.Error(again)
	}
	spans := rates.Spans(l, 0, 300)
	spans[0] = -9
	if textBy(l) != s || !slices.Equal(rates.Spans(l, 0, 300), []int64{100, 200}) {
		t.Error(l)
	}
}

// P10.4: the prices of one version can grow without those of another.
func TestListsOfAResultAreApart(t *testing.T) {
	with, _ := rates.With(steps(5, 3), version(77, 1, 2, 3))
	parsed, _, _ := rates.Parse(textBy(steps(5, 3)))
	for _, l := range [][]rates.Version{with, parsed} {
		for i := range l {
			kept := copied(l)
			all := l[i].Prices[:cap(l[i].Prices)]
			for k := range all {
				all[k] = -9
			}
			kept[i].Prices = l[i].Prices
			if !equal(l, kept) {
				t.Fatal(i, l)
			}
		}
	}
}

// P10.1 and P10.4: what is asked does not hang on what was asked of other tables before.
func TestNothingIsKept(t *testing.T) {
	l := example()
	wants(t, l, 150)
	l[0] = version(160, 1, 2)
	wants(t, l, 150)
	l[0] = version(140, 3, 4)
	wants(t, l, 150)
	wants(t, example(), 150)
}
