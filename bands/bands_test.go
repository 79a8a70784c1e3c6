package bands_test

import (
	"fmt"
	"math"
	"math/big"
	"math/rand/v2"
	"regexp"
	"slices"
	"strings"
	"testing"

	"kilowatt/api"
	"kilowatt/bands"
)

// beyond are numbers that no field may have, and that fields of fewer bits would take for others.
var beyond = []int{math.MinInt, math.MinInt + 1, math.MinInt32, -1 << 32, 1 << 32, 1<<32 + 1, 1<<32 + 4, math.MaxInt32, math.MaxInt - 1, math.MaxInt}

var shape = regexp.MustCompile(`\A(0|[1-9][0-9]*):(0|[1-9][0-9]*)\z`)

func source() *rand.Rand { return rand.New(rand.NewPCG(91, 92)) }

// plan is that of minutes and bands, one after the other.
func plan(numbers ...int) []bands.Switch {
	var l []bands.Switch
	for i := 0; i+1 < len(numbers); i += 2 {
		l = append(l, bands.Switch{Minute: numbers[i], Band: numbers[i+1]})
	}
	return l
}

// steps is a plan of that many switches, the last of them as late as may be.
func steps(many int) []bands.Switch {
	var l []bands.Switch
	for i := range many {
		l = append(l, bands.Switch{Minute: i, Band: (i + 1) % 8})
	}
	if many > 1 {
		l[many-1].Minute = 1439
	}
	return l
}

// example is the chapter's.
func example() []bands.Switch { return plan(0, 1, 360, 2, 1320, 1) }

func table(plans int, rules ...bands.Rule) bands.Table {
	x := bands.Table{Rules: rules}
	for i := range plans {
		x.Plans = append(x.Plans, plan(0, i%8))
	}
	return x
}

func rule(season, kind, plan int) bands.Rule {
	return bands.Rule{Season: season, Kind: kind, Plan: plan}
}

// isPlan is what a valid plan is by the words of the chapter.
func isPlan(l []bands.Switch) bool {
	if len(l) < 1 || len(l) > 48 || l[0].Minute != 0 {
		return false
	}
	for i, s := range l {
		if s.Minute >= 1440 || s.Band < 0 || s.Band > 7 || i > 0 && s.Minute <= l[i-1].Minute {
			return false
		}
	}
	return true
}

// isTable is what a valid table is by the words of the chapter.
func isTable(x bands.Table) bool {
	if len(x.Plans) == 0 || len(x.Plans) > 50 || len(x.Rules) > 100 {
		return false
	}
	for _, l := range x.Plans {
		if !isPlan(l) {
			return false
		}
	}
	for _, r := range x.Rules {
		if r.Season < 0 || r.Season > 99 || r.Kind < 0 || r.Kind > 4 || r.Plan < 0 || r.Plan >= len(x.Plans) {
			return false
		}
	}
	return true
}

// day is the band of each minute of a valid plan, set from the first switch to the last.
func day(l []bands.Switch) [1440]int {
	var all [1440]int
	for _, s := range l {
		for minute := s.Minute; minute < 1440; minute++ {
			all[minute] = s.Band
		}
	}
	return all
}

// textBy writes a plan by the words of the chapter.
func textBy(l []bands.Switch) string {
	s := ""
	for i, x := range l {
		if i > 0 {
			s += " "
		}
		s += fmt.Sprintf("%d:%d", x.Minute, x.Band)
	}
	return s
}

// parseBy reads a text by the words of the chapter; nil if it is none of a valid plan.
func parseBy(s string) []bands.Switch {
	var l []bands.Switch
	for _, piece := range strings.Split(s, " ") {
		m := shape.FindStringSubmatch(piece)
		if m == nil {
			return nil
		}
		var n [2]int
		for i := range n {
			x, is := new(big.Int).SetString(m[i+1], 10)
			if !is || x.Cmp(big.NewInt(100000)) > 0 {
				return nil
			}
			n[i] = int(x.Int64())
		}
		l = append(l, bands.Switch{Minute: n[0], Band: n[1]})
	}
	if !isPlan(l) {
		return nil
	}
	return l
}

// anyPlan is a valid plan; that of few bands often switches to the band that it has.
func anyPlan(r *rand.Rand) []bands.Switch {
	minutes := []int{0}
	for range r.IntN(48) {
		minutes = append(minutes, r.IntN(1440))
	}
	slices.Sort(minutes)
	most := 1 + r.IntN(8)
	var l []bands.Switch
	for _, minute := range slices.Compact(minutes) {
		l = append(l, bands.Switch{Minute: minute, Band: r.IntN(most)})
	}
	return l
}

func anyTable(r *rand.Rand) bands.Table {
	x := table(1 + r.IntN(50))
	for range r.IntN(101) {
		x.Rules = append(x.Rules, rule(r.IntN(5)*r.IntN(26)%100, r.IntN(5), r.IntN(len(x.Plans))))
	}
	return x
}

// wants holds Band, Next and Share of a valid plan against its minutes.
func wants(t *testing.T, l []bands.Switch) {
	t.Helper()
	all := day(l)
	var share [8]int
	next, more := 0, false
	for minute := 1439; minute >= 0; minute-- {
		if minute < 1439 && all[minute+1] != all[minute] {
			next, more = minute+1, true
		}
		if b, is := bands.Band(l, minute); b != all[minute] || !is {
			t.Fatalf("Band(%v, %d) = %d %v, not %d", l, minute, b, is, all[minute])
		}
		if n, is := bands.Next(l, minute); n != next || is != more {
			t.Fatalf("Next(%v, %d) = %d %v, not %d %v", l, minute, n, is, next, more)
		}
		share[all[minute]]++
	}
	if s := bands.Share(l); s != share {
		t.Fatalf("Share(%v) = %v, not %v", l, s, share)
	}
}

// valid checks that every function takes l.
func valid(t *testing.T, l []bands.Switch) {
	t.Helper()
	if !isPlan(l) {
		t.Fatalf("%v is not valid by the test's own words", l)
	}
	if e := bands.CheckPlan(l); e != api.OK {
		t.Errorf("CheckPlan(%v) = %v", l, e)
	}
	if e := bands.Check(bands.Table{Plans: [][]bands.Switch{l}}); e != api.OK {
		t.Errorf("Check of %v = %v", l, e)
	}
	if !bands.Same(l, slices.Clone(l)) {
		t.Errorf("Same(%v) with itself", l)
	}
	if s, e := bands.Text(l); s != textBy(l) || e != api.OK {
		t.Errorf("Text(%v) = %q %v", l, s, e)
	}
	if p, e := bands.Parse(textBy(l)); !slices.Equal(p, l) || e != api.OK {
		t.Errorf("Parse(%q) = %v %v", textBy(l), p, e)
	}
	wants(t, l)
}

// faulty checks that every function refuses l, and answers nothing beside it.
func faulty(t *testing.T, l []bands.Switch) {
	t.Helper()
	if isPlan(l) {
		t.Fatalf("%v is valid by the test's own words", l)
	}
	if e := bands.CheckPlan(l); e != api.ErrBands {
		t.Errorf("CheckPlan(%v) = %v", l, e)
	}
	if bands.Same(l, l) || bands.Same(l, example()) || bands.Same(example(), l) {
		t.Errorf("Same(%v)", l)
	}
	for _, minute := range []int{0, 1, 359, 360, 1000, 1439, -1, 1440} {
		if b, is := bands.Band(l, minute); b != 0 || is {
			t.Errorf("Band(%v, %d) = %d %v", l, minute, b, is)
		}
		if n, is := bands.Next(l, minute); n != 0 || is {
			t.Errorf("Next(%v, %d) = %d %v", l, minute, n, is)
		}
	}
	if s := bands.Share(l); s != [8]int{} {
		t.Errorf("Share(%v) = %v", l, s)
	}
	if s, e := bands.Text(l); s != "" || e != api.ErrBands {
		t.Errorf("Text(%v) = %q %v", l, s, e)
	}
	noText(t, textBy(l))
	// At any place of a table.
	noTable(t, bands.Table{Plans: [][]bands.Switch{l}})
	noTable(t, bands.Table{Plans: [][]bands.Switch{l, example(), example()}})
	noTable(t, bands.Table{Plans: [][]bands.Switch{example(), example(), l}})
}

func noText(t *testing.T, s string) {
	t.Helper()
	if l, e := bands.Parse(s); len(l) != 0 || e != api.ErrBands {
		t.Errorf("Parse(%.100q) = %v %v", s, l, e)
	}
}

func validTable(t *testing.T, x bands.Table) {
	t.Helper()
	if !isTable(x) {
		t.Fatalf("%v is not valid by the test's own words", x)
	}
	if e := bands.Check(x); e != api.OK {
		t.Errorf("Check(%v) = %v", x, e)
	}
}

// noTable checks that Check and Plan refuse x.
func noTable(t *testing.T, x bands.Table) {
	t.Helper()
	if isTable(x) {
		t.Fatalf("%v is valid by the test's own words", x)
	}
	if e := bands.Check(x); e != api.ErrBands {
		t.Errorf("Check(%v) = %v", x, e)
	}
	for season := range 3 {
		for kind := 1; kind <= 4; kind++ {
			noDay(t, x, season, kind)
		}
	}
}

func noDay(t *testing.T, x bands.Table, season, kind int) {
	t.Helper()
	if n, is := bands.Plan(x, season, kind); n != 0 || is {
		t.Errorf("Plan(%v, %d, %d) = %d %v", x, season, kind, n, is)
	}
}

// has checks the plan of a day.
func has(t *testing.T, x bands.Table, season, kind, want int) {
	t.Helper()
	if n, is := bands.Plan(x, season, kind); n != want || !is {
		t.Fatalf("Plan(%v, %d, %d) = %d %v, not %d", x.Rules, season, kind, n, is, want)
	}
}

// The chapter's examples.
func TestExamples(t *testing.T) {
	l := example()
	for _, x := range []struct {
		minute, band int
		is           bool
	}{{359, 1, true}, {360, 2, true}, {1440, 0, false}} {
		if b, is := bands.Band(l, x.minute); b != x.band || is != x.is {
			t.Error(x, b, is)
		}
	}
	if n, is := bands.Next(l, 400); n != 1320 || !is {
		t.Error(n, is)
	}
	if n, is := bands.Next(l, 1320); n != 0 || is {
		t.Error(n, is)
	}
	if s := bands.Share(l); s != [8]int{0, 480, 960, 0, 0, 0, 0, 0} {
		t.Error(s)
	}
	if s, e := bands.Text(l); s != "0:1 360:2 1320:1" || e != api.OK {
		t.Error(s, e)
	}
	for _, s := range []string{"0:1 360:2 360:1", "1:0", "0:8", "0:01"} {
		noText(t, s)
	}
}

// P9.1: the edges of what a plan may be.
func TestCheckPlanValid(t *testing.T) {
	rows := [][]bands.Switch{
		plan(0, 0), plan(0, 7), example(), plan(0, 1, 1, 2), plan(0, 1, 1439, 2), plan(0, 0, 1438, 7, 1439, 0),
		// Switches that change nothing.
		plan(0, 3, 1, 3, 2, 3), plan(0, 0, 1439, 0),
	}
	for _, l := range rows {
		valid(t, l)
	}
	for many := 1; many <= 48; many++ {
		valid(t, steps(many))
	}
}

// P9.1: too many switches, none, and minutes and bands beyond their ranges or out of order.
func TestCheckPlanFaulty(t *testing.T) {
	rows := [][]bands.Switch{
		nil, {}, steps(49), steps(50), steps(500),
		plan(1, 0), plan(-1, 0), plan(1439, 0), plan(1440, 0), plan(1, 1, 2, 2), plan(-1, 0, 0, 0),
		plan(0, 8), plan(0, -1), plan(0, 9), plan(0, 0, 10, 8), plan(0, 0, 10, -1), plan(0, 8, 10, 0),
		plan(0, 0, 0, 0), plan(0, 0, 0, 1), plan(0, 1, 360, 2, 360, 1), plan(0, 1, 360, 2, 360, 2), plan(0, 1, 360, 2, 359, 1), plan(0, 1, 5, 1, 4, 1, 6, 1), plan(0, 1, 5, 1, 0, 1),
		plan(0, 1, 1440, 2), plan(0, 1, 1441, 2), plan(0, 1, 1439, 1, 1440, 2), plan(0, 1, -1, 2),
	}
	for _, n := range beyond {
		rows = append(rows, plan(n, 0), plan(0, n), plan(0, 0, n, 1), plan(0, 0, 5, n), plan(0, 0, 5, n, 6, 0), plan(0, 0, n, 1, 7, 0), plan(0, 0, 7, 1, n, 0))
	}
	for _, l := range rows {
		faulty(t, l)
	}
	// Each place of a full plan.
	for i := range 48 {
		for _, n := range append([]int{8, -1}, beyond...) {
			l := steps(48)
			l[i].Band = n
			faulty(t, l)
		}
		for _, n := range append([]int{1440, -1}, beyond...) {
			l := steps(48)
			l[i].Minute = n
			faulty(t, l)
		}
		if i > 0 {
			l := steps(48)
			l[i].Minute = l[i-1].Minute
			faulty(t, l)
		}
	}
}

// P9.1: the edges of what a table may be.
func TestCheckValid(t *testing.T) {
	full := table(50)
	for i := range 100 {
		full.Rules = append(full.Rules, rule(i, i%5, 49-i%50))
		validTable(t, full)
	}
	for n := 1; n <= 50; n++ {
		validTable(t, table(n))
		validTable(t, table(n, rule(0, 0, n-1), rule(99, 4, 0)))
	}
	for season := 0; season <= 99; season++ {
		for kind := 0; kind <= 4; kind++ {
			validTable(t, table(2, rule(season, kind, 1), rule(season, kind, 0)))
		}
	}
	validTable(t, bands.Table{Plans: [][]bands.Switch{steps(48), steps(1)}, Rules: []bands.Rule{}})
}

// P9.1: too many plans or rules, no plan, and rules beyond their ranges.
func TestCheckFaulty(t *testing.T) {
	noTable(t, bands.Table{})
	noTable(t, bands.Table{Plans: [][]bands.Switch{}, Rules: []bands.Rule{}})
	noTable(t, bands.Table{Rules: []bands.Rule{rule(0, 0, 0)}})
	noTable(t, table(51))
	noTable(t, table(500))
	noTable(t, table(1, make([]bands.Rule, 101)...))
	noTable(t, table(50, make([]bands.Rule, 500)...))
	wrong := []bands.Rule{rule(-1, 1, 1), rule(100, 1, 1), rule(1, -1, 1), rule(1, 5, 1), rule(1, 1, -1), rule(1, 1, 3), rule(1, 1, 50), rule(0, 0, 3)}
	for _, n := range beyond {
		wrong = append(wrong, rule(n, 1, 1), rule(1, n, 1), rule(1, 1, n))
	}
	for _, r := range wrong {
		// At any place, also where another rule comes first.
		noTable(t, table(3, r))
		noTable(t, table(3, r, rule(0, 0, 1)))
		noTable(t, table(3, rule(0, 0, 1), rule(1, 1, 2), r))
	}
	for n := 1; n <= 50; n++ {
		noTable(t, table(n, rule(0, 0, n)))
		noTable(t, table(n, rule(0, 0, -1)))
	}
}

// P9.1: plans that differ in what they do, in how they are written, or in both.
func TestSameRows(t *testing.T) {
	rows := []struct {
		a, b []bands.Switch
		is   bool
	}{
		{example(), example(), true},
		{plan(0, 1), plan(0, 1, 360, 1), true}, {plan(0, 0), plan(0, 0, 1439, 0), true}, {plan(0, 1, 5, 1, 9, 2), plan(0, 1, 9, 2, 10, 2, 1439, 2), true},
		{plan(0, 1, 5, 2, 6, 2, 7, 1), plan(0, 1, 5, 2, 7, 1), true},
		{plan(0, 1), plan(0, 2), false}, {plan(0, 1), plan(0, 1, 360, 2), false}, {plan(0, 1), plan(0, 1, 1439, 2), false}, {plan(0, 1, 1, 2), plan(0, 2), false},
		{plan(0, 1, 360, 2), plan(0, 1, 361, 2), false}, {plan(0, 1, 360, 2), plan(0, 1, 360, 3), false}, {plan(0, 1, 360, 2), plan(0, 2, 360, 1), false},
		{plan(0, 1, 5, 2, 6, 1), plan(0, 1), false}, {plan(0, 1, 720, 2), plan(0, 2, 720, 1), false},
	}
	for _, r := range rows {
		if bands.Same(r.a, r.b) != r.is || bands.Same(r.b, r.a) != r.is {
			t.Errorf("Same(%v, %v) is not %v", r.a, r.b, r.is)
		}
	}
	if bands.Same(nil, nil) || bands.Same(nil, []bands.Switch{}) || bands.Same(plan(0, 8), plan(0, 8)) {
		t.Error("plans that are not valid are not the same")
	}
}

// P9.1: plans of all sorts against their minutes: written in another way, and changed in one place.
func TestSameOfAny(t *testing.T) {
	r := source()
	seen := map[bool]int{}
	for range 20000 {
		a := anyPlan(r)
		b := slices.Clone(a)
		switch i := r.IntN(len(a)); r.IntN(4) {
		case 0: // a switch that may change nothing
			b = slices.Insert(b, i+1, bands.Switch{Minute: a[i].Minute + 1, Band: a[i].Band})
		case 1:
			b = slices.Delete(b, i, i+1)
		case 2:
			b[i].Band = r.IntN(8)
		case 3:
			b[i].Minute += r.IntN(3) - 1
		}
		is := isPlan(a) && isPlan(b) && day(a) == day(b)
		if bands.Same(a, b) != is || bands.Same(b, a) != is {
			t.Fatalf("Same(%v, %v) is not %v", a, b, is)
		}
		seen[is]++
	}
	if seen[true] < 1000 || seen[false] < 1000 {
		t.Error(seen)
	}
}

// P9.2: the first minute of another band, over switches that change nothing.
func TestNextOverSameBands(t *testing.T) {
	l := plan(0, 1, 100, 1, 200, 2, 300, 2, 400, 1, 500, 1)
	for _, x := range [][2]int{{0, 200}, {99, 200}, {100, 200}, {199, 200}, {200, 400}, {300, 400}, {399, 400}, {400, 0}, {500, 0}, {1439, 0}} {
		if n, is := bands.Next(l, x[0]); n != x[1] || is != (x[1] > 0) {
			t.Error(x, n, is)
		}
	}
	wants(t, l)
}

// P9.2: minutes that a day does not have.
func TestMinutesBeyond(t *testing.T) {
	for _, l := range [][]bands.Switch{example(), plan(0, 3), steps(48)} {
		for _, minute := range append([]int{-1, -2, -1440, 1440, 1441, 2880}, beyond...) {
			if b, is := bands.Band(l, minute); b != 0 || is {
				t.Error(l, minute, b, is)
			}
			if n, is := bands.Next(l, minute); n != 0 || is {
				t.Error(l, minute, n, is)
			}
		}
	}
}

// P9.2, P9.4 and P9.6: every minute of plans of all sorts; their shares are a day's, and they are parsed back.
func TestAnyPlan(t *testing.T) {
	r := source()
	for range 300 {
		l := anyPlan(r)
		valid(t, l)
		sum := 0
		for _, n := range bands.Share(l) {
			sum += n
		}
		if sum != 1440 {
			t.Fatal(l, sum)
		}
	}
}

// P9.6: up to its Next, and to the end of the day if there is none, each minute has the band of the first.
func TestBetweenNexts(t *testing.T) {
	r := source()
	for range 200 {
		l := anyPlan(r)
		minute := r.IntN(1440)
		for more := true; more; {
			var next int
			next, more = bands.Next(l, minute)
			end := next
			if !more {
				end = 1440
			}
			first, _ := bands.Band(l, minute)
			for m := minute; m < end; m++ {
				if b, is := bands.Band(l, m); b != first || !is {
					t.Fatal(l, m, b, first)
				}
			}
			if b, _ := bands.Band(l, next); more && b == first {
				t.Fatal(l, next, b)
			}
			minute = next
		}
	}
}

// P9.3: the first rule that holds, and the first plan without one.
func TestPlanRows(t *testing.T) {
	rows := []struct {
		rules              []bands.Rule
		season, kind, want int
	}{
		{nil, 0, 1, 0}, {nil, 99, 4, 0},
		{[]bands.Rule{rule(0, 0, 2)}, 0, 1, 2}, {[]bands.Rule{rule(0, 0, 2)}, 99, 4, 2},
		{[]bands.Rule{rule(5, 0, 2)}, 5, 3, 2}, {[]bands.Rule{rule(5, 0, 2)}, 4, 3, 0}, {[]bands.Rule{rule(5, 0, 2)}, 0, 3, 0}, {[]bands.Rule{rule(99, 4, 2)}, 99, 4, 2}, {[]bands.Rule{rule(99, 4, 2)}, 99, 3, 0},
		{[]bands.Rule{rule(0, 3, 1)}, 0, 3, 1}, {[]bands.Rule{rule(0, 3, 1)}, 7, 3, 1}, {[]bands.Rule{rule(0, 3, 1)}, 7, 2, 0},
		{[]bands.Rule{rule(1, 3, 2), rule(0, 3, 1)}, 1, 3, 2}, {[]bands.Rule{rule(0, 3, 1), rule(1, 3, 2)}, 1, 3, 1}, {[]bands.Rule{rule(1, 3, 2), rule(0, 3, 1)}, 2, 3, 1},
		// A rule of the first plan hides those behind it.
		{[]bands.Rule{rule(1, 0, 0), rule(0, 0, 2)}, 1, 1, 0}, {[]bands.Rule{rule(1, 0, 0), rule(0, 0, 2)}, 2, 1, 2}, {[]bands.Rule{rule(1, 1, 1), rule(1, 2, 2)}, 1, 2, 2},
		{[]bands.Rule{rule(3, 1, 1), rule(1, 3, 2)}, 1, 3, 2}, {[]bands.Rule{rule(3, 1, 1), rule(1, 3, 2)}, 3, 1, 1}, {[]bands.Rule{rule(3, 1, 1), rule(1, 3, 2)}, 1, 1, 0},
	}
	for _, r := range rows {
		has(t, table(3, r.rules...), r.season, r.kind, r.want)
	}
}

// P9.3: the last of a hundred rules, and the last of fifty plans.
func TestPlanFull(t *testing.T) {
	x := table(50, slices.Repeat([]bands.Rule{rule(98, 4, 7)}, 99)...)
	x.Rules = append(x.Rules, rule(99, 4, 49))
	has(t, x, 99, 4, 49)
	has(t, x, 98, 4, 7)
	has(t, x, 98, 3, 0)
}

// P9.3: tables of all sorts, each day of them.
func TestPlanOfAny(t *testing.T) {
	r := source()
	for range 100 {
		x := anyTable(r)
		validTable(t, x)
		for season := 0; season <= 99; season++ {
			for kind := 1; kind <= 4; kind++ {
				want := 0
				for i := len(x.Rules) - 1; i >= 0; i-- {
					one := x.Rules[i]
					if (one.Season == 0 || one.Season == season) && (one.Kind == 0 || one.Kind == kind) {
						want = one.Plan
					}
				}
				has(t, x, season, kind, want)
			}
		}
	}
}

// P9.3: seasons and kinds that days do not have, whatever the rules are.
func TestDaysBeyond(t *testing.T) {
	for _, x := range []bands.Table{table(3), table(3, rule(0, 0, 2)), table(3, rule(99, 4, 1), rule(1, 0, 2), rule(0, 1, 1))} {
		for _, n := range append([]int{-1, 100, 101}, beyond...) {
			noDay(t, x, n, 1)
			noDay(t, x, n, 4)
			noDay(t, x, n, n)
		}
		for _, n := range append([]int{-1, 0, 5, 6}, beyond...) {
			noDay(t, x, 0, n)
			noDay(t, x, 99, n)
		}
	}
}

// P9.4: texts that are almost those of plans.
func TestParseRows(t *testing.T) {
	rows := []string{
		"", " ", ":", "0", "0:", ":0", "0 0", "0;1", "0:1:2", "0::1", "0:1,360:2", "0:1\t360:2", "0:1\n360:2",
		" 0:1", "0:1 ", "0:1  360:2", "0:1 360:2 ", "\n0:1", "0:1\n", "0:1\x00", "\ufeff0:1", "0:1\u00a0360:2",
		"0 :1", "0: 1", "00:1", "0:00", "0:01", "0:1 0360:2", "0:1 360:02", "0:1 01:2", "000:000",
		"+0:1", "-0:1", "0:+1", "0:-0", "0:-1", "0:1 +360:2", "0:1 -360:2", "-1:0", "0x0:1", "0:0x1", "0:1e0", "0:1.0", "0:1 1_000:2", "0:1 3_60:2", "0:a", "a:0", "0:\u0661", "\uff10:1", "0b1:1",
		"1:0", "0:8", "0:10", "0:1 0:2", "0:1 1440:2", "0:1 1441:2", "0:1 10000:2", "0:1 360:2 360:1", "0:1 360:2 100:1", "0:1 360:8",
		"0:4294967297", "0:18446744073709551617", "0:18446744073709551616", "18446744073709551616:1", "4294967296:1", "0:1 4294967656:2", "0:1 18446744073709551976:2", "0:1 9223372036854775807:2", "0:1 9223372036854775808:2", "0:1 -9223372036854775808:2",
		"0:1 360:2 x", "0:1 x 360:2", "x 0:1", "0:1 360",
		textBy(steps(49)), textBy(steps(48)) + " 1440:1", textBy(steps(48)) + " ", textBy(steps(48)) + " x",
		"0:" + strings.Repeat("0", 1<<16), "0:" + strings.Repeat("9", 1<<16), strings.Repeat("0", 1<<16) + ":1", strings.Repeat(" ", 1<<16), strings.Repeat("0:1 ", 1<<16), strings.Repeat(":", 1<<16),
	}
	for _, s := range rows {
		if parseBy(s) != nil {
			t.Fatalf("%q is a text by the test's own words", s)
		}
		noText(t, s)
	}
}

// P9.4: every minute and band that a text may tell, and some that it may not.
func TestParseNumbers(t *testing.T) {
	for minute := range 1500 {
		for band := range 12 {
			s := fmt.Sprintf("0:%d %d:%d", band, minute, band)
			want := parseBy(s)
			l, e := bands.Parse(s)
			if !slices.Equal(l, want) || (e == api.OK) != (want != nil) || e != api.OK && e != api.ErrBands {
				t.Fatal(s, l, e)
			}
		}
	}
}

// spoiled is s with one byte changed, put in, or taken out.
func spoiled(r *rand.Rand, s string) string {
	const letters = "0123456789:: +-x\n"
	i, c := r.IntN(len(s)), string(letters[r.IntN(len(letters))])
	switch r.IntN(3) {
	case 0:
		return s[:i] + c + s[i+1:]
	case 1:
		return s[:i] + c + s[i:]
	}
	return s[:i] + s[i+1:]
}

// P9.4 and P9.6: texts of plans of all sorts, changed in a byte or two.
func TestParseOfAny(t *testing.T) {
	r := source()
	seen := map[bool]int{}
	for n := range 50000 {
		l := anyPlan(r)
		if n%2 == 0 {
			l = l[:min(2, len(l))]
		}
		s := textBy(l)
		for range 1 + r.IntN(2) {
			s = spoiled(r, s)
		}
		want := parseBy(s)
		l, e := bands.Parse(s)
		if !slices.Equal(l, want) || (e == api.OK) != (want != nil) || e != api.OK && e != api.ErrBands {
			t.Fatalf("Parse(%q) = %v %v, not %v", s, l, e, want)
		}
		if back, no := bands.Text(l); e == api.OK && (back != s || no != api.OK) {
			t.Fatalf("Text(Parse(%q)) = %q %v", s, back, no)
		}
		seen[want != nil]++
	}
	if seen[true] < 1000 || seen[false] < 1000 {
		t.Error(seen)
	}
}

// P9.5: arguments stay as they are, beyond their lengths too.
func TestArgumentsAreOnlyRead(t *testing.T) {
	r := source()
	spare := bands.Switch{Minute: -5, Band: -6}
	for range 100 {
		l := append(anyPlan(r), spare)
		kept := slices.Clone(l)
		x := anyTable(r)
		x.Plans[0] = l[: len(l)-1 : len(l)]
		x.Rules = append(x.Rules, rule(-7, -8, -9))
		rules := slices.Clone(x.Rules)
		x.Rules = x.Rules[:len(x.Rules)-1]
		plans := len(x.Plans)
		for _, l := range [][]bands.Switch{x.Plans[0], l} { // the second one is not valid
			bands.CheckPlan(l)
			bands.Band(l, 1000)
			bands.Next(l, 1000)
			bands.Share(l)
			bands.Text(l)
			bands.Same(l, x.Plans[plans-1])
			bands.Same(x.Plans[plans-1], l)
		}
		bands.Check(x)
		bands.Plan(x, 1, 1)
		if !slices.Equal(l, kept) || !slices.Equal(x.Rules[:len(rules)], rules) {
			t.Fatal(l, kept, x.Rules, rules)
		}
		for i, one := range x.Plans[1:] {
			if !slices.Equal(one, plan(0, (i+1)%8)) {
				t.Fatal(i, one)
			}
		}
	}
}

// P9.5: what is parsed is new memory each time.
func TestParsedIsNew(t *testing.T) {
	const s = "0:1 360:2 1320:1"
	first, _ := bands.Parse(s)
	second, _ := bands.Parse(s)
	first = first[:cap(first)]
	for i := range first {
		first[i] = bands.Switch{Minute: -7, Band: -7}
	}
	third, e := bands.Parse(s)
	if !slices.Equal(second, example()) || !slices.Equal(third, example()) || e != api.OK {
		t.Error(second, third, e)
	}
}

// P9.5: what is asked does not hang on what was asked of other plans before.
func TestNothingIsKept(t *testing.T) {
	l := plan(0, 1, 360, 2)
	wants(t, l)
	l[1] = bands.Switch{Minute: 100, Band: 5}
	wants(t, l)
	x := table(3, rule(0, 0, 1))
	has(t, x, 0, 1, 1)
	x.Rules[0].Plan = 2
	has(t, x, 0, 1, 2)
	wants(t, example())
}
