package crc_test

import (
	"bytes"
	"hash/crc32"
	"math/rand/v2"
	"slices"
	"testing"

	"kilowatt/api"
	"kilowatt/crc"
)

func source() *rand.Rand { return rand.New(rand.NewPCG(5, 6)) }

// sum16 is the CRC-16 by the chapter's words: a whole byte is combined, then there are eight shifts.
func sum16(b []byte) uint16 {
	sum := uint16(0xffff)
	for _, c := range b {
		sum ^= uint16(c)
		for range 8 {
			out := sum & 1
			sum >>= 1
			if out == 1 {
				sum ^= 0xa001
			}
		}
	}
	return sum
}

func sealed16(b []byte) []byte {
	sum := sum16(b)
	return append(slices.Clone(b), byte(sum&0xff), byte(sum>>8))
}

func sealed32(b []byte) []byte {
	sum := crc32.ChecksumIEEE(b)
	return append(slices.Clone(b), byte(sum>>24), byte(sum>>16&0xff), byte(sum>>8&0xff), byte(sum&0xff))
}

// form is one of the two sealed forms: the program's functions, and what the tests hold against them.
type form struct {
	name string
	size int
	seal func([]byte) []byte
	open func([]byte) ([]byte, api.Errno)
	want func([]byte) []byte
}

var forms = []form{
	{"16", 2, crc.Seal16, crc.Open16, sealed16},
	{"32", 4, crc.Seal32, crc.Open32, sealed32},
}

func anyBytes(r *rand.Rand, length int) []byte {
	b := make([]byte, length)
	for i := range b {
		b[i] = byte(r.Uint32())
	}
	return b
}

// someBytes are no bytes, each single byte, runs of equal bytes, and bytes of many lengths.
func someBytes(r *rand.Rand) [][]byte {
	all := [][]byte{nil, {}}
	for c := range 256 {
		all = append(all, []byte{byte(c)})
	}
	for length := range 70 {
		for _, c := range []byte{0, 1, 0x80, 0xff} {
			all = append(all, bytes.Repeat([]byte{c}, length))
		}
		all = append(all, anyBytes(r, length))
	}
	for _, length := range []int{255, 256, 257, 4096, 65537} {
		all = append(all, anyBytes(r, length))
	}
	return all
}

// P3.1: known sums, those of the chapter's examples among them.
func TestSumRows(t *testing.T) {
	rows := []struct {
		b   string
		s16 uint16
		s32 uint32
	}{
		{"", 0xffff, 0},
		{"123456789", 0x4b37, 0xcbf43926},
		{"\x01\x03\x00\x00\x00\x0a", 0xcdc5, 0xddebe1c8},
		{"\x00", 0x40bf, 0xd202ef8d},
		{"\xff", 0x00ff, 0xff000000},
		{"\xff\xff", 0x0000, 0xffff0000},
		{"\xff\xff\xff\xff", 0xb001, 0xffffffff},
		{"\x00\x00\x00\x00", 0x2400, 0x2144df1c},
		{"a", 0xa87e, 0xe8b7be43},
		{"abc", 0x5749, 0x352441c2},
		{"The quick brown fox jumps over the lazy dog", 0xa89c, 0x414fa339},
	}
	for _, r := range rows {
		if n := crc.Sum16([]byte(r.b)); n != r.s16 {
			t.Errorf("Sum16(%q) = %04x; want %04x", r.b, n, r.s16)
		}
		if n := crc.Sum32([]byte(r.b)); n != r.s32 {
			t.Errorf("Sum32(%q) = %08x; want %08x", r.b, n, r.s32)
		}
	}
	if crc.Sum16(nil) != 0xffff || crc.Sum32(nil) != 0 {
		t.Errorf("of nil: %04x, %08x", crc.Sum16(nil), crc.Sum32(nil))
	}
}

// P3.1: sums of bytes of many lengths, against the chapter's words and the library.
func TestSums(t *testing.T) {
	for _, b := range someBytes(source()) {
		if n, want := crc.Sum16(b), sum16(b); n != want {
			t.Errorf("Sum16(%x) = %04x; want %04x", b, n, want)
		}
		if n, want := crc.Sum32(b), crc32.ChecksumIEEE(b); n != want {
			t.Errorf("Sum32(%x) = %08x; want %08x", b, n, want)
		}
	}
}

// P3.1: every sum of 16 bits is that of two bytes, so More16 is known from each of them on.
func TestMore16FromEverySum(t *testing.T) {
	var seen [1 << 16]bool
	for i := range 1 << 16 {
		b := []byte{byte(i >> 8), byte(i)}
		sum := sum16(b)
		seen[sum] = true
		more := []byte{byte(i * 7), 0x80, byte(i >> 3)}
		if n, want := crc.More16(sum, more), sum16(append(b, more...)); n != want {
			t.Fatalf("More16(%04x, %x) = %04x; want %04x", sum, more, n, want)
		}
		if n := crc.More16(sum, nil); n != sum {
			t.Fatalf("More16(%04x) of no bytes = %04x", sum, n)
		}
	}
	if i := slices.Index(seen[:], false); i >= 0 {
		t.Fatalf("no two bytes have the sum %04x", i)
	}
}

// P3.1: More32 goes on from any sum, as the library does.
func TestMore32FromSums(t *testing.T) {
	r := source()
	sums := []uint32{0, 1, 0x7fffffff, 0x80000000, 0xfffffffe, 0xffffffff, 0xedb88320, 0x12477cdf}
	for range 5000 {
		sums = append(sums, r.Uint32())
	}
	for _, sum := range sums {
		more := anyBytes(r, r.IntN(12))
		if n, want := crc.More32(sum, more), crc32.Update(sum, crc32.IEEETable, more); n != want {
			t.Fatalf("More32(%08x, %x) = %08x; want %08x", sum, more, n, want)
		}
		if n := crc.More32(sum, nil); n != sum {
			t.Fatalf("More32(%08x) of no bytes = %08x", sum, n)
		}
	}
}

func checkParts(t *testing.T, b []byte, ends []int) {
	t.Helper()
	s16, s32, from := crc.Sum16(nil), crc.Sum32(nil), 0
	for _, end := range append(ends, len(b)) {
		s16, s32 = crc.More16(s16, b[from:end]), crc.More32(s32, b[from:end])
		from = end
	}
	if s16 != sum16(b) || s32 != crc32.ChecksumIEEE(b) {
		t.Fatalf("%x in parts that end at %d: %04x, %08x; want %04x, %08x", b, ends, s16, s32, sum16(b), crc32.ChecksumIEEE(b))
	}
}

// P3.4: however bytes are divided into parts, empty ones too, the sum is that of all.
func TestMoreOfParts(t *testing.T) {
	r := source()
	short := anyBytes(r, 9)
	for first := range len(short) + 1 {
		for second := first; second <= len(short); second++ {
			checkParts(t, short, []int{first, second})
		}
	}
	for range 500 {
		b := anyBytes(r, r.IntN(200))
		ends := make([]int, r.IntN(12))
		for i := range ends {
			ends[i] = r.IntN(len(b) + 1)
		}
		slices.Sort(ends)
		checkParts(t, b, ends)
	}
	b := anyBytes(r, 100)
	var each []int
	for i := range len(b) {
		each = append(each, i)
	}
	checkParts(t, b, each)
}

// P3.2: the order of a sum's bytes, written out.
func TestSealRows(t *testing.T) {
	rows := []struct{ b, s16, s32 string }{
		{"", "\xff\xff", "\x00\x00\x00\x00"},
		{"\x01\x03\x00\x00\x00\x0a", "\x01\x03\x00\x00\x00\x0a\xc5\xcd", "\x01\x03\x00\x00\x00\x0a\xdd\xeb\xe1\xc8"},
		{"123456789", "123456789\x37\x4b", "123456789\xcb\xf4\x39\x26"},
		{"\xff", "\xff\xff\x00", "\xff\xff\x00\x00\x00"},
	}
	for _, r := range rows {
		if s := crc.Seal16([]byte(r.b)); string(s) != r.s16 {
			t.Errorf("Seal16(%x) = %x; want %x", r.b, s, r.s16)
		}
		if s := crc.Seal32([]byte(r.b)); string(s) != r.s32 {
			t.Errorf("Seal32(%x) = %x; want %x", r.b, s, r.s32)
		}
	}
}

func wantOpen(t *testing.T, f form, b, want []byte) {
	t.Helper()
	if got, e := f.open(b); e != api.OK || !bytes.Equal(got, want) {
		t.Errorf("Open%s(%x) = %x, %v; want %x", f.name, b, got, e, want)
	}
}

func refuseOpen(t *testing.T, f form, b []byte) {
	t.Helper()
	if got, e := f.open(b); e != api.ErrSum || len(got) != 0 {
		t.Errorf("Open%s(%x) = %x, %v; want ErrSum", f.name, b, got, e)
	}
}

// P3.2 and P3.4: sealed bytes are the bytes and their sum, and opened they are the bytes.
func TestSealAndOpen(t *testing.T) {
	for _, f := range forms {
		for _, b := range someBytes(source()) {
			s := f.seal(b)
			if want := f.want(b); !bytes.Equal(s, want) {
				t.Errorf("Seal%s(%x) = %x; want %x", f.name, b, s, want)
			}
			wantOpen(t, f, s, b)
			wantOpen(t, f, f.seal(s), s)
		}
	}
}

// P3.2: what is shorter than a sum is no sealed form, not even of no bytes.
func TestOpenOfFewBytes(t *testing.T) {
	for _, f := range forms {
		refuseOpen(t, f, nil)
		for length := range f.size {
			for _, c := range []byte{0, 1, 0x80, 0xff} {
				refuseOpen(t, f, bytes.Repeat([]byte{c}, length))
			}
		}
		wantOpen(t, f, f.want(nil), nil)
	}
	wantOpen(t, forms[0], []byte{0xff, 0xff}, nil)
	wantOpen(t, forms[1], []byte{0, 0, 0, 0}, nil)
	refuseOpen(t, forms[0], []byte{0, 0})
	refuseOpen(t, forms[1], []byte{0xff, 0xff, 0xff, 0xff})
}

// P3.2: of all tails of two bytes one alone fits.
func TestOpen16OfAllTails(t *testing.T) {
	for _, inner := range [][]byte{nil, {0}, {0xff}, {0x12, 0x34}, {1, 3, 0, 0, 0, 10}} {
		opened := 0
		for tail := range 1 << 16 {
			b := append(slices.Clone(inner), byte(tail), byte(tail>>8))
			got, e := crc.Open16(b)
			switch {
			case e == api.OK && bytes.Equal(got, inner) && tail == int(sum16(inner)):
				opened++
			case e != api.ErrSum || len(got) != 0:
				t.Fatalf("Open16(%x) = %x, %v", b, got, e)
			}
		}
		if opened != 1 {
			t.Errorf("%d tails of %x fit", opened, inner)
		}
	}
}

// P3.2: a sum of the other size, in the other order, complemented, cut off, or with more behind it.
func TestOpenRefuses(t *testing.T) {
	for _, b := range [][]byte{[]byte("123456789"), {1, 3, 0, 0, 0, 10}, {0}, []byte("some bytes")} {
		refuseOpen(t, forms[0], sealed32(b))
		refuseOpen(t, forms[1], sealed16(b))
		for _, f := range forms {
			s := f.want(b)
			refuseOpen(t, f, s[:len(s)-1])
			refuseOpen(t, f, s[1:])
			refuseOpen(t, f, b)
			turned := slices.Clone(s)
			slices.Reverse(turned[len(b):])
			refuseOpen(t, f, turned)
			complemented := slices.Clone(s)
			for i := len(b); i < len(s); i++ {
				complemented[i] ^= 0xff
			}
			refuseOpen(t, f, complemented)
			for c := range 256 {
				if more := append(slices.Clone(s), byte(c)); !bytes.Equal(more, f.want(more[:len(more)-f.size])) {
					refuseOpen(t, f, more)
				}
			}
		}
	}
}

// P3.2: any bytes open exactly if they are sealed.
func TestOpenOfAnyBytes(t *testing.T) {
	r := source()
	for range 20000 {
		b := anyBytes(r, r.IntN(12))
		for _, f := range forms {
			if len(b) >= f.size && bytes.Equal(b, f.want(b[:len(b)-f.size])) {
				wantOpen(t, f, b, b[:len(b)-f.size])
			} else {
				refuseOpen(t, f, b)
			}
		}
	}
}

// P3.3: nothing is written to an argument, nor beyond it in its memory.
func TestArgumentsAreOnlyRead(t *testing.T) {
	for _, f := range forms {
		room := append(f.want([]byte("abc")), 1, 2, 3, 4, 5)
		before := slices.Clone(room)
		for length := range room {
			b := room[:length]
			crc.Sum16(b)
			crc.Sum32(b)
			crc.More16(7, b)
			crc.More32(7, b)
			_ = append(f.seal(b), 9)
			opened, _ := f.open(b)
			_ = append(opened, 9)
			if !bytes.Equal(room, before) {
				t.Fatalf("%s: %x became %x", f.name, before, room)
			}
		}
	}
}

// keepsNothing calls twice, spoils the first answer and all the memory behind it, and looks at the second one and at a third.
func keepsNothing(t *testing.T, name string, call func() []byte) {
	t.Helper()
	first, second := call(), call()
	want := slices.Clone(first)
	for i := range first[:cap(first)] {
		first[:cap(first)][i] ^= 0x55
	}
	if third := call(); !bytes.Equal(second, want) || !bytes.Equal(third, want) {
		t.Errorf("%s: answers share memory: %x and %x; want %x", name, second, third, want)
	}
}

// P3.3: every returned slice is newly allocated.
func TestAnswersAreNew(t *testing.T) {
	for _, f := range forms {
		for length := range 40 {
			plain := bytes.Repeat([]byte{0x61}, length)
			s := f.want(plain)
			before := slices.Clone(s)
			keepsNothing(t, "Seal"+f.name, func() []byte { return f.seal(plain) })
			keepsNothing(t, "Open"+f.name, func() []byte { b, _ := f.open(s); return b })
			if !bytes.Equal(s, before) || !bytes.Equal(plain, before[:length]) {
				t.Fatalf("%s: answers share memory with arguments: %x, %x", f.name, plain, s)
			}
			opened, _ := f.open(s)
			resealed := f.seal(plain)
			clear(s)
			clear(plain)
			if !bytes.Equal(opened, before[:length]) || !bytes.Equal(resealed, before) {
				t.Fatalf("%s: answers changed with arguments: %x, %x", f.name, opened, resealed)
			}
		}
	}
}

// flip turns the n-th bit over, in the chapter's order: the lowest bit of a byte first, and the bytes of a CRC-32 from the last one to the first one.
func (f form) flip(s []byte, n int) {
	i := n / 8
	if inner := len(s) - f.size; f.size == 4 && i >= inner {
		i = inner + len(s) - 1 - i
	}
	s[i] ^= 1 << (n % 8)
}

// burst turns over the bits from start on that pattern has, its lowest one first; all of them lie within the bytes.
func (f form) burst(s []byte, start int, pattern uint64) []byte {
	s = slices.Clone(s)
	for n := range 64 {
		if pattern>>n&1 == 1 {
			f.flip(s, start+n)
		}
	}
	return s
}

// P3.4: each pattern of up to 16 bits, anywhere in sealed bytes, is found.
func TestOpen16FindsEveryBurst(t *testing.T) {
	f := forms[0]
	for _, b := range [][]byte{nil, {0x5a}, {1, 3, 0}} {
		s := f.want(b)
		for start := range 8 * len(s) {
			width := min(16, 8*len(s)-start)
			for pattern := uint64(1); pattern < 1<<width; pattern += 2 {
				if got, e := crc.Open16(f.burst(s, start, pattern)); e != api.ErrSum || len(got) != 0 {
					t.Fatalf("%x with %x turned over from bit %d on: %x, %v", s, pattern, start, got, e)
				}
			}
		}
	}
}

// patterns are runs of bits, pairs of bits, runs with their ends alone, and others, of at most width bits.
func patterns(r *rand.Rand, width int) []uint64 {
	var all []uint64
	for n := range width {
		all = append(all, 1<<n, 1<<n|1, 2<<n-1, (2<<n-1)&0x5555555555555555, (2<<n-1)&0x3333333333333333)
	}
	for range 100 {
		all = append(all, 1+r.Uint64N(1<<width-1))
	}
	return all
}

// P3.4: patterns of up to 16, or 32, bits, anywhere in sealed bytes, are found.
func TestOpenFindsBursts(t *testing.T) {
	r := source()
	for _, f := range forms {
		for _, length := range []int{0, 1, 2, 5, 17} {
			s := f.want(anyBytes(r, length))
			for start := range 8 * len(s) {
				for _, pattern := range patterns(r, min(8*f.size, 8*len(s)-start)) {
					refuseOpen(t, f, f.burst(s, start, pattern))
				}
			}
		}
	}
}

// P3.2, beside P3.4: one bit more, and there is a pattern that makes other sealed bytes of sealed ones.
func TestOpenOfALongerBurst(t *testing.T) {
	r := source()
	for i, pattern := range []uint64{0xa001<<1 | 1, 0xedb88320<<1 | 1} {
		f := forms[i]
		s := f.want(anyBytes(r, 9))
		for start := range 8*len(s) - 8*f.size {
			b := f.burst(s, start, pattern)
			wantOpen(t, f, b, b[:len(b)-f.size])
		}
	}
}
