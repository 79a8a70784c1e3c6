package fixq_test

import (
	"math"
	"math/big"
	"math/rand/v2"
	"slices"
	"testing"

	"kilowatt/api"
	"kilowatt/fixq"
)

const (
	most  = math.MaxInt64
	least = math.MinInt64
	top   = math.MaxUint64
)

// signed holds the edges of int64, and those of products that just stay in or just leave its range.
var signed = []int64{
	least, least + 1, least + 2, least / 2, least/2 - 1, least/2 + 1, least / 3,
	-1 << 32, -1<<32 - 1, -3037000500, -3037000499, -1 << 31, -7, -6, -5, -4, -3, -2, -1,
	0, 1, 2, 3, 4, 5, 6, 7, 1 << 31, 3037000499, 3037000500, 1<<32 - 1, 1 << 32,
	most / 3, most/2 - 1, most / 2, most/2 + 1, most/2 + 2, most - 2, most - 1, most,
}

var unsigned = []uint64{
	0, 1, 2, 3, 5, 7, 1<<31 - 1, 1 << 31, 1<<32 - 1, 1 << 32, 1<<32 + 1,
	1<<63 - 1, 1 << 63, 1<<63 + 1, top / 3, top - 2, top - 1, top,
}

func source() *rand.Rand { return rand.New(rand.NewPCG(1, 2)) }

// anyWord gives words of all lengths, so that sums and products leave the range about as often as not.
func anyWord(r *rand.Rand) uint64 { return r.Uint64() >> r.IntN(64) }

func anySigned(r *rand.Rand) int64 {
	n := int64(anyWord(r))
	if r.IntN(2) == 0 {
		return -n
	}
	return n
}

func bigU(n uint64) *big.Int { return new(big.Int).SetUint64(n) }

// wantSigned says what a function must answer whose exact result is x.
func wantSigned(x *big.Int) (int64, api.Errno) {
	if !x.IsInt64() {
		return 0, api.ErrOver
	}
	return x.Int64(), api.OK
}

// signedPairs calls with all pairs of edges and with many other pairs.
func signedPairs(call func(a, b int64)) {
	for _, a := range signed {
		for _, b := range signed {
			call(a, b)
		}
	}
	r := source()
	for range 20000 {
		call(anySigned(r), anySigned(r))
	}
}

func checkSigned(t *testing.T, name string, a, b, got int64, e api.Errno, exact *big.Int) {
	t.Helper()
	if n, err := wantSigned(exact); got != n || e != err {
		t.Errorf("%s(%d, %d) = %d, %v; want %d, %v", name, a, b, got, e, n, err)
	}
}

// P1.1: sums, differences and products are exact, or ErrOver.
func TestAddSubMul(t *testing.T) {
	signedPairs(func(a, b int64) {
		x, y := big.NewInt(a), big.NewInt(b)
		n, e := fixq.Add(a, b)
		checkSigned(t, "Add", a, b, n, e, new(big.Int).Add(x, y))
		n, e = fixq.Sub(a, b)
		checkSigned(t, "Sub", a, b, n, e, new(big.Int).Sub(x, y))
		n, e = fixq.Mul(a, b)
		checkSigned(t, "Mul", a, b, n, e, new(big.Int).Mul(x, y))
	})
}

// P1.1: the edges by name, so that an error of the reference above cannot hide one.
func TestSignedEdges(t *testing.T) {
	rows := []struct {
		name string
		call func(a, b int64) (int64, api.Errno)
		a, b int64
		want int64
		e    api.Errno
	}{
		{"Add", fixq.Add, most, 1, 0, api.ErrOver},
		{"Add", fixq.Add, most, 0, most, api.OK},
		{"Add", fixq.Add, most, least, -1, api.OK},
		{"Add", fixq.Add, most, most, 0, api.ErrOver},
		{"Add", fixq.Add, least, -1, 0, api.ErrOver},
		{"Add", fixq.Add, least, least, 0, api.ErrOver},
		{"Add", fixq.Add, least + 1, -1, least, api.OK},
		{"Sub", fixq.Sub, -1, least, most, api.OK},
		{"Sub", fixq.Sub, 0, least, 0, api.ErrOver},
		{"Sub", fixq.Sub, 0, most, least + 1, api.OK},
		{"Sub", fixq.Sub, -2, most, 0, api.ErrOver},
		{"Sub", fixq.Sub, least, 1, 0, api.ErrOver},
		{"Sub", fixq.Sub, least, least, 0, api.OK},
		{"Sub", fixq.Sub, most, -1, 0, api.ErrOver},
		{"Mul", fixq.Mul, least, -1, 0, api.ErrOver},
		{"Mul", fixq.Mul, -1, least, 0, api.ErrOver},
		{"Mul", fixq.Mul, least, 1, least, api.OK},
		{"Mul", fixq.Mul, least, 0, 0, api.OK},
		{"Mul", fixq.Mul, 0, least, 0, api.OK},
		{"Mul", fixq.Mul, most, -1, least + 1, api.OK},
		{"Mul", fixq.Mul, 1 << 32, -1 << 31, least, api.OK},
		{"Mul", fixq.Mul, 1 << 32, 1 << 31, 0, api.ErrOver},
		{"Mul", fixq.Mul, 1 << 32, 1 << 32, 0, api.ErrOver},
		{"Mul", fixq.Mul, least, least, 0, api.ErrOver},
	}
	for _, r := range rows {
		if n, e := r.call(r.a, r.b); n != r.want || e != r.e {
			t.Errorf("%s(%d, %d) = %d, %v; want %d, %v", r.name, r.a, r.b, n, e, r.want, r.e)
		}
	}
}

// P1.1: intermediate sums may leave the range, the whole one may not.
func TestSum(t *testing.T) {
	rows := []struct {
		l    []int64
		want int64
		e    api.Errno
	}{
		{nil, 0, api.OK},
		{[]int64{}, 0, api.OK},
		{[]int64{-3}, -3, api.OK},
		{[]int64{most}, most, api.OK},
		{[]int64{least}, least, api.OK},
		{[]int64{1, 2, 3}, 6, api.OK},
		{[]int64{most, 5, -6}, most - 1, api.OK},
		{[]int64{least, -5, 6}, least + 1, api.OK},
		{[]int64{most, 1}, 0, api.ErrOver},
		{[]int64{least, -1}, 0, api.ErrOver},
		{[]int64{most, 1, -1}, most, api.OK},
		{[]int64{least, -1, 1}, least, api.OK},
		{[]int64{most, most, most, least, least, least}, -3, api.OK},
		{[]int64{least, least, least, most, most, most, 3}, 0, api.OK},
		{[]int64{most, most, 2}, 0, api.ErrOver},     // 2^64: its low word alone is 0
		{[]int64{least, least}, 0, api.ErrOver},      // -2^64: the same below 0
		{[]int64{least, least, 5}, 0, api.ErrOver},   // a low word that looks like 5
		{[]int64{most, most, most}, 0, api.ErrOver},  // a low word that looks like a positive number
		{[]int64{least, least, -1}, 0, api.ErrOver},  // a low word that looks like -1
		{[]int64{most, -1, most, 1}, 0, api.ErrOver}, // a low word that looks like -2
	}
	for _, r := range rows {
		if n, e := fixq.Sum(r.l); n != r.want || e != r.e {
			t.Errorf("Sum(%d) = %d, %v; want %d, %v", r.l, n, e, r.want, r.e)
		}
	}
}

// P1.1: a sum of many great numbers, which leaves the range often and far.
func TestSumLong(t *testing.T) {
	l := slices.Concat(slices.Repeat([]int64{most}, 5000), slices.Repeat([]int64{least}, 5000))
	if n, e := fixq.Sum(l); n != -5000 || e != api.OK {
		t.Error(n, e)
	}
	if n, e := fixq.Sum(l[:5001]); n != 0 || e != api.ErrOver {
		t.Error(n, e)
	}
	if n, e := fixq.Sum(l[4999:]); n != 0 || e != api.ErrOver {
		t.Error(n, e)
	}
}

// anyList draws great numbers and edges, so that sums of a few of them are near the range's ends.
func anyList(r *rand.Rand) []int64 {
	l := make([]int64, r.IntN(8))
	for i := range l {
		if l[i] = signed[r.IntN(len(signed))]; r.IntN(2) == 0 {
			l[i] = anySigned(r)
		}
	}
	return l
}

// P1.1 and P1.4: Sum is the exact sum, in whichever order the numbers stand.
func TestSumAnyOrder(t *testing.T) {
	r := source()
	for range 5000 {
		l := anyList(r)
		exact := new(big.Int)
		for _, n := range l {
			exact.Add(exact, big.NewInt(n))
		}
		want, err := wantSigned(exact)
		for range 4 {
			if n, e := fixq.Sum(l); n != want || e != err {
				t.Fatalf("Sum(%d) = %d, %v; want %d, %v", l, n, e, want, err)
			}
			r.Shuffle(len(l), func(i, j int) { l[i], l[j] = l[j], l[i] })
		}
	}
}

// P1.1: the quotient is rounded down, and its remainder has the divisor's sign.
func TestFloorRows(t *testing.T) {
	rows := []struct {
		a, b, q, rest int64
		e             api.Errno
	}{
		{-7, 2, -4, 1, api.OK},
		{7, -2, -4, -1, api.OK},
		{7, 2, 3, 1, api.OK},
		{-7, -2, 3, -1, api.OK},
		{6, -2, -3, 0, api.OK},
		{-6, 2, -3, 0, api.OK},
		{7, 0, 0, 0, api.ErrZero},
		{0, 0, 0, 0, api.ErrZero},
		{least, 0, 0, 0, api.ErrZero},
		{least, -1, 0, 0, api.ErrOver},
		{least + 1, -1, most, 0, api.OK},
		{most, -1, least + 1, 0, api.OK},
		{least, 1, least, 0, api.OK},
		{least, least, 1, 0, api.OK},
		{least, most, -2, most - 1, api.OK},
		{most, least, -1, -1, api.OK},
		{-1, most, -1, most - 1, api.OK},
		{1, least, -1, least + 1, api.OK},
		{-1, least, 0, -1, api.OK},
		{0, least, 0, 0, api.OK},
	}
	for _, r := range rows {
		if q, rest, e := fixq.Floor(r.a, r.b); q != r.q || rest != r.rest || e != r.e {
			t.Errorf("Floor(%d, %d) = %d, %d, %v; want %d, %d, %v", r.a, r.b, q, rest, e, r.q, r.rest, r.e)
		}
	}
}

// P1.1 and P1.4: quotient times divisor plus remainder is the dividend, and the remainder is between 0 and the divisor.
func TestFloorRebuilds(t *testing.T) {
	signedPairs(func(a, b int64) {
		q, rest, e := fixq.Floor(a, b)
		if b == 0 || a == least && b == -1 {
			want := api.ErrOver
			if b == 0 {
				want = api.ErrZero
			}
			if q != 0 || rest != 0 || e != want {
				t.Errorf("Floor(%d, %d) = %d, %d, %v", a, b, q, rest, e)
			}
			return
		}
		back := new(big.Int).Mul(big.NewInt(q), big.NewInt(b))
		back.Add(back, big.NewInt(rest))
		inside := 0 <= rest && rest < b || b < rest && rest <= 0
		if e != api.OK || !inside || back.Cmp(big.NewInt(a)) != 0 {
			t.Errorf("Floor(%d, %d) = %d, %d, %v", a, b, q, rest, e)
		}
	})
}

// P1.2: the difference of counters is taken modulo 2^32.
func TestWrap(t *testing.T) {
	const end = math.MaxUint32
	rows := []struct{ a, b, want uint32 }{
		{end, 4, 5}, {0, 0, 0}, {end, end, 0}, {0, end, end}, {end, 0, 1},
		{7, 9, 2}, {9, 7, end - 1}, {1 << 31, 0, 1 << 31}, {1, 1 << 31, 1<<31 - 1},
	}
	for _, r := range rows {
		if n := fixq.Wrap(r.a, r.b); n != r.want {
			t.Errorf("Wrap(%d, %d) = %d; want %d", r.a, r.b, n, r.want)
		}
	}
	r := source()
	for range 5000 {
		a, b := r.Uint32(), r.Uint32()
		want := ((int64(b)-int64(a))%(1<<32) + 1<<32) % (1 << 32)
		if n := fixq.Wrap(a, b); int64(n) != want {
			t.Errorf("Wrap(%d, %d) = %d; want %d", a, b, n, want)
		}
	}
}

// wantCarry says what Carry must answer.
func wantCarry(n, num, den, rest uint64) (uint64, uint64, api.Errno) {
	if den == 0 {
		return 0, 0, api.ErrZero
	}
	if rest >= den {
		return 0, 0, api.ErrArg
	}
	x := new(big.Int).Mul(bigU(n), bigU(num))
	q, next := x.Add(x, bigU(rest)).QuoRem(x, bigU(den), new(big.Int))
	if !q.IsUint64() {
		return 0, 0, api.ErrOver
	}
	return q.Uint64(), next.Uint64(), api.OK
}

func checkCarry(t *testing.T, n, num, den, rest uint64) {
	t.Helper()
	q, next, e := fixq.Carry(n, num, den, rest)
	if wq, wnext, we := wantCarry(n, num, den, rest); q != wq || next != wnext || e != we {
		t.Errorf("Carry(%d, %d, %d, %d) = %d, %d, %v; want %d, %d, %v", n, num, den, rest, q, next, e, wq, wnext, we)
	}
}

func checkScale(t *testing.T, n, num, den uint64) {
	t.Helper()
	q, rest, e := fixq.Scale(n, num, den)
	if wq, wrest, we := wantCarry(n, num, den, 0); q != wq || rest != wrest || e != we {
		t.Errorf("Scale(%d, %d, %d) = %d, %d, %v; want %d, %d, %v", n, num, den, q, rest, e, wq, wrest, we)
	}
}

// P1.2 and P1.4: quotients of products of two words, with remainders below, at and above the divisor.
func TestScaleAndCarry(t *testing.T) {
	for _, n := range unsigned {
		for _, num := range unsigned {
			for _, den := range unsigned {
				checkScale(t, n, num, den)
				for _, rest := range unsigned {
					checkCarry(t, n, num, den, rest)
				}
				for _, rest := range []uint64{den - 1, den, den + 1} {
					checkCarry(t, n, num, den, rest)
				}
			}
		}
	}
	r := source()
	for range 20000 {
		n, num, den := anyWord(r), anyWord(r), anyWord(r)
		checkScale(t, n, num, den)
		checkCarry(t, n, num, den, anyWord(r))
		checkCarry(t, n, num, den, anyWord(r)%max(den, 1))
	}
}

// P1.2: the edges by name.
func TestScaleAndCarryRows(t *testing.T) {
	rows := []struct {
		n, num, den, rest, q, next uint64
		e                          api.Errno
	}{
		{5, 1, 3, 0, 1, 2, api.OK},
		{5, 1, 3, 2, 2, 1, api.OK},
		{5, 1, 3, 3, 0, 0, api.ErrArg},
		{5, 1, 3, top, 0, 0, api.ErrArg},
		{5, 1, 0, 0, 0, 0, api.ErrZero},
		{top, top, 0, top, 0, 0, api.ErrZero},  // ahead of ErrArg and ErrOver
		{top, top, 1, 1, 0, 0, api.ErrArg},     // ahead of ErrOver
		{1 << 63, 2, 1, 0, 0, 0, api.ErrOver},  // 2^64
		{1 << 63, 2, 2, 0, 1 << 63, 0, api.OK}, // a product of two words, a quotient of one
		{top, 1, 1, 0, top, 0, api.OK},         // the greatest quotient
		{top, top, top, 0, top, 0, api.OK},     // it, of the greatest product
		{top, top, top, top - 1, top, top - 1, api.OK},
		{top, top, top - 1, 0, 0, 0, api.ErrOver},
		{top, 3, 3, 2, top, 2, api.OK},
		{top, 1, top, top - 1, 1, top - 1, api.OK},         // the remainder carries into the high word
		{145295143558111, 253921, 2, 0, top, 1, api.OK},    // 2^65 - 1
		{145295143558111, 253921, 2, 1, 0, 0, api.ErrOver}, // the remainder alone makes it too great
		{1 << 32, 1<<32 - 1, 1 << 32, 1<<32 - 1, 1<<32 - 1, 1<<32 - 1, api.OK},
		{0, top, 7, 6, 0, 6, api.OK},
		{0, 0, 1, 0, 0, 0, api.OK},
	}
	for _, r := range rows {
		if q, next, e := fixq.Carry(r.n, r.num, r.den, r.rest); q != r.q || next != r.next || e != r.e {
			t.Errorf("Carry(%d, %d, %d, %d) = %d, %d, %v; want %d, %d, %v", r.n, r.num, r.den, r.rest, q, next, e, r.q, r.next, r.e)
		}
	}
	if q, rest, e := fixq.Scale(1<<63, 6, 4); q != 13835058055282163712 || rest != 0 || e != api.OK {
		t.Error(q, rest, e)
	}
	if q, rest, e := fixq.Scale(1<<63, 2, 1); q != 0 || rest != 0 || e != api.ErrOver {
		t.Error(q, rest, e)
	}
	if q, rest, e := fixq.Scale(top, top, 0); q != 0 || rest != 0 || e != api.ErrZero {
		t.Error(q, rest, e)
	}
}

func checkCmp(t *testing.T, a, b, c, d uint64) {
	t.Helper()
	want := new(big.Int).Mul(bigU(a), bigU(b)).Cmp(new(big.Int).Mul(bigU(c), bigU(d)))
	if n := fixq.Cmp(a, b, c, d); n != want {
		t.Errorf("Cmp(%d, %d, %d, %d) = %d; want %d", a, b, c, d, n, want)
	}
}

// P1.2: products of two words are compared exactly: by their high words, and by their low ones where those are equal.
func TestCmp(t *testing.T) {
	rows := []struct {
		a, b, c, d uint64
		want       int
	}{
		{2, 3, 1, 6, 0},
		{2, 3, 1, 7, -1},
		{2, 3, 1, 5, 1},
		{0, top, top, 0, 0},
		{1 << 32, 1 << 32, top, 1, 1},        // high words 1 and 0, low words 0 and the greatest
		{top, 1, 1 << 32, 1 << 32, -1},       // and the other way round
		{1 << 32, 1<<32 + 1, 1 << 63, 2, 1},  // high words equal, low words not
		{1 << 63, 2, 1 << 32, 1<<32 + 1, -1}, // and the other way round
		{1 << 63, 2, 1 << 32, 1 << 32, 0},
		{top, top, top, top, 0},
		{top, top, top, top - 1, 1},
		{top, top - 1, top, top, -1},
	}
	for _, r := range rows {
		if n := fixq.Cmp(r.a, r.b, r.c, r.d); n != r.want {
			t.Errorf("Cmp(%d, %d, %d, %d) = %d; want %d", r.a, r.b, r.c, r.d, n, r.want)
		}
	}
	for _, a := range unsigned {
		for _, b := range unsigned {
			for _, c := range unsigned {
				for _, d := range unsigned {
					checkCmp(t, a, b, c, d)
				}
			}
		}
	}
	r := source()
	for range 20000 {
		checkCmp(t, anyWord(r), anyWord(r), anyWord(r), anyWord(r))
	}
}

// P1.3: a list is read, and nothing is written to it, nor beyond it in its memory.
func TestSumOnlyReads(t *testing.T) {
	for _, l := range [][]int64{{most, 5, -6, 9}, {most, most, 1, 9}, {least, least, -1, 9}} {
		before := slices.Clone(l)
		first, firstErr := fixq.Sum(l[:3])
		if !slices.Equal(l, before) {
			t.Errorf("Sum changed %d to %d", before, l)
		}
		if n, e := fixq.Sum(l[:3]); n != first || e != firstErr {
			t.Errorf("Sum(%d) = %d, %v; then %d, %v", before[:3], first, firstErr, n, e)
		}
	}
}

// carryAll gives the parts to Carry one after the other, each with the remainder of the one ahead.
func carryAll(t *testing.T, parts []uint64, num, den uint64) (sum, rest uint64) {
	t.Helper()
	for _, n := range parts {
		q, next, e := fixq.Carry(n, num, den, rest)
		if e != api.OK {
			t.Fatalf("Carry(%d, %d, %d, %d): %v", n, num, den, rest, e)
		}
		sum, rest = sum+q, next
	}
	return sum, rest
}

// split divides n into parts anyhow, parts of 0 among them.
func split(r *rand.Rand, n uint64) []uint64 {
	parts := []uint64{0}
	for range r.IntN(20) {
		part := uint64(0)
		if n > 0 {
			part = r.Uint64N(n)
		}
		parts = append(parts, part)
		n -= part
	}
	return append(parts, n)
}

// P1.4: however a sum is divided into parts, the quotients add up to the quotient of the sum, and the last remainder is its own.
func TestCarryOfParts(t *testing.T) {
	r := source()
	for range 5000 {
		n, num, den := anyWord(r), anyWord(r), max(anyWord(r), 1)
		q, rest, e := fixq.Scale(n, num, den)
		if e == api.ErrOver {
			continue
		}
		if sum, last := carryAll(t, split(r, n), num, den); sum != q || last != rest || e != api.OK {
			t.Fatalf("Scale(%d, %d, %d) = %d, %d, %v; in parts %d, %d", n, num, den, q, rest, e, sum, last)
		}
	}
	if sum, rest := carryAll(t, slices.Repeat([]uint64{1}, 1000), 1, 7); sum != 142 || rest != 6 {
		t.Error(sum, rest)
	}
}
