package regs_test

import (
	"bytes"
	"math"
	"math/rand/v2"
	"slices"
	"strings"
	"testing"

	"kilowatt/api"
	"kilowatt/regs"
)

const (
	most  = math.MaxInt64
	least = math.MinInt64
	top   = math.MaxUint64
)

// layouts say where the bytes A, B, .. of an integer stand in its registers, as the table of the chapter does.
var layouts = []struct {
	many, order int
	letters     string
}{
	{1, regs.Big, "AB"}, {1, regs.Swapped, "AB"}, {1, regs.Turned, "BA"}, {1, regs.Little, "BA"},
	{2, regs.Big, "ABCD"}, {2, regs.Swapped, "CDAB"}, {2, regs.Turned, "BADC"}, {2, regs.Little, "DCBA"},
	{4, regs.Big, "ABCDEFGH"}, {4, regs.Swapped, "GHEFCDAB"}, {4, regs.Turned, "BADCFEHG"}, {4, regs.Little, "HGFEDCBA"},
}

var orders = []int{regs.Big, regs.Swapped, regs.Turned, regs.Little}
var lengths = []int{1, 2, 4}

// noOrders and noLengths are numbers of neither; the great ones would come back into the range if they were cut to 32 or 8 bits.
var noOrders = []int{least, -1<<32 + 1, -256 + 1, -4, -3, -2, -1, 0, 5, 6, 7, 8, 256 + 1, 1<<32 + 1, most}
var noLengths = []int{least, -1<<32 + 1, -256 + 2, -4, -2, -1, 0, 3, 5, 6, 7, 8, 16, 256 + 2, 1<<32 + 4, most}

func source() *rand.Rand { return rand.New(rand.NewPCG(3, 4)) }

// greatest is the greatest integer of many registers.
func greatest(many int) uint64 { return top >> (64 - 16*many) }

// edges are integers of many registers: those at the ends, at the sign and at the borders of words and bytes.
func edges(many int) []uint64 {
	all := []uint64{0, 1, 0x7f, 0x80, 0xff, 0x100, 0x7fff, 0x8000, 0xfffe, 0xffff}
	for bits := 16; bits < 16*many; bits += 8 {
		all = append(all, 1<<bits-1, 1<<bits, 1<<bits+1)
	}
	half := uint64(1) << (16*many - 1)
	return append(all, half-1, half, half+1, greatest(many)-1, greatest(many))
}

// someOf are the edges and many other integers of many registers, of all lengths.
func someOf(r *rand.Rand, many int) []uint64 {
	all := edges(many)
	for range 2000 {
		all = append(all, r.Uint64()&greatest(many)>>r.IntN(16*many))
	}
	return all
}

// laid puts the bytes of v into registers as the letters say.
func laid(v uint64, letters string) []uint16 {
	l := make([]uint16, len(letters)/2)
	for i := range letters {
		significance := len(letters) - 1 - int(letters[i]-'A')
		b := byte(v >> (8 * significance))
		l[i/2] = l[i/2]<<8 | uint16(b)
	}
	return l
}

func wantWords(t *testing.T, v uint64, many, order int, want []uint16) {
	t.Helper()
	if l, e := regs.Words(v, many, order); e != api.OK || !slices.Equal(l, want) {
		t.Errorf("Words(%#x, %d, %d) = %04x, %v; want %04x", v, many, order, l, e, want)
	}
}

func wantValue(t *testing.T, l []uint16, order int, want uint64) {
	t.Helper()
	if v, e := regs.Value(l, order); e != api.OK || v != want {
		t.Errorf("Value(%04x, %d) = %#x, %v; want %#x", l, order, v, e, want)
	}
}

func refuseWords(t *testing.T, v uint64, many, order int) {
	t.Helper()
	if l, e := regs.Words(v, many, order); e != api.ErrRegs || len(l) != 0 {
		t.Errorf("Words(%#x, %d, %d) = %04x, %v; want ErrRegs", v, many, order, l, e)
	}
}

func refuseValue(t *testing.T, l []uint16, order int) {
	t.Helper()
	if v, e := regs.Value(l, order); e != api.ErrRegs || v != 0 {
		t.Errorf("Value(%04x, %d) = %#x, %v; want ErrRegs", l, order, v, e)
	}
}

// P2.1: the chapter's examples, and the same in one and in four registers, written out.
func TestWordsRows(t *testing.T) {
	rows := []struct {
		v           uint64
		many, order int
		want        []uint16
	}{
		{0x01020304, 2, 1, []uint16{0x0102, 0x0304}},
		{0x01020304, 2, 2, []uint16{0x0304, 0x0102}},
		{0x01020304, 2, 3, []uint16{0x0201, 0x0403}},
		{0x01020304, 2, 4, []uint16{0x0403, 0x0201}},
		{16909060, 2, regs.Little, []uint16{0x0403, 0x0201}},
		{0x0102, 1, 1, []uint16{0x0102}},
		{0x0102, 1, 2, []uint16{0x0102}},
		{0x0102, 1, 3, []uint16{0x0201}},
		{0x0102, 1, 4, []uint16{0x0201}},
		{0x0102030405060708, 4, 1, []uint16{0x0102, 0x0304, 0x0506, 0x0708}},
		{0x0102030405060708, 4, 2, []uint16{0x0708, 0x0506, 0x0304, 0x0102}},
		{0x0102030405060708, 4, 3, []uint16{0x0201, 0x0403, 0x0605, 0x0807}},
		{0x0102030405060708, 4, 4, []uint16{0x0807, 0x0605, 0x0403, 0x0201}},
		{0, 1, 1, []uint16{0}},
		{0, 2, 2, []uint16{0, 0}},
		{0, 4, 4, []uint16{0, 0, 0, 0}},
		{9, 4, 1, []uint16{0, 0, 0, 9}},
		{9, 4, 2, []uint16{9, 0, 0, 0}},
		{9, 4, 3, []uint16{0, 0, 0, 0x0900}},
		{9, 4, 4, []uint16{0x0900, 0, 0, 0}},
		{0xffff, 1, 1, []uint16{0xffff}},
		{0xffffffff, 2, 3, []uint16{0xffff, 0xffff}},
		{top, 4, 2, []uint16{0xffff, 0xffff, 0xffff, 0xffff}},
	}
	for _, r := range rows {
		wantWords(t, r.v, r.many, r.order, r.want)
		wantValue(t, r.want, r.order, r.v)
	}
}

// P2.1: the integer's bytes stand where the table of orders says, for all lengths and orders.
func TestWordsAndValueByLayout(t *testing.T) {
	r := source()
	for _, layout := range layouts {
		for _, v := range someOf(r, layout.many) {
			want := laid(v, layout.letters)
			wantWords(t, v, layout.many, layout.order, want)
			wantValue(t, want, layout.order, v)
		}
	}
}

// P2.1: the greatest integer of 1, 2 and 4 registers is one, and one more is none.
func TestWordsTooGreat(t *testing.T) {
	for _, order := range orders {
		wantWords(t, 1<<16-1, 1, order, []uint16{0xffff})
		wantWords(t, 1<<32-1, 2, order, []uint16{0xffff, 0xffff})
		wantWords(t, 1<<64-1, 4, order, []uint16{0xffff, 0xffff, 0xffff, 0xffff})
		for _, v := range []uint64{1 << 16, 1<<16 + 1, 1 << 17, 1 << 32, 1 << 63, top} {
			refuseWords(t, v, 1, order)
		}
		for _, v := range []uint64{1 << 32, 1<<32 + 1, 1 << 33, 1 << 48, 1 << 63, top} {
			refuseWords(t, v, 2, order)
		}
	}
}

// P2.1: other numbers of registers and other orders are refused, also negative ones.
func TestWordsAndValueRefuse(t *testing.T) {
	for _, v := range []uint64{0, 1, 0xffff, top} {
		for _, many := range noLengths {
			for _, order := range orders {
				refuseWords(t, v, many, order)
			}
		}
		for _, order := range noOrders {
			for _, many := range append(slices.Clone(lengths), noLengths...) {
				refuseWords(t, v, many, order)
			}
		}
	}
	for _, order := range orders {
		refuseValue(t, nil, order)
		for _, many := range []int{0, 3, 5, 6, 7, 8, 9, 16, 125, 256 + 1, 65536 + 2} {
			refuseValue(t, make([]uint16, many), order)
		}
	}
	for _, order := range noOrders {
		for many := range 6 {
			refuseValue(t, make([]uint16, many), order)
		}
	}
}

func wantSigned(t *testing.T, v uint64, many int, want int64) {
	t.Helper()
	if n, e := regs.Signed(v, many); e != api.OK || n != want {
		t.Errorf("Signed(%#x, %d) = %d, %v; want %d", v, many, n, e, want)
	}
}

func wantUnsigned(t *testing.T, v int64, many int, want uint64) {
	t.Helper()
	if n, e := regs.Unsigned(v, many); e != api.OK || n != want {
		t.Errorf("Unsigned(%d, %d) = %#x, %v; want %#x", v, many, n, e, want)
	}
}

func refuseSigned(t *testing.T, v uint64, many int) {
	t.Helper()
	if n, e := regs.Signed(v, many); e != api.ErrRegs || n != 0 {
		t.Errorf("Signed(%#x, %d) = %d, %v; want ErrRegs", v, many, n, e)
	}
}

func refuseUnsigned(t *testing.T, v int64, many int) {
	t.Helper()
	if n, e := regs.Unsigned(v, many); e != api.ErrRegs || n != 0 {
		t.Errorf("Unsigned(%d, %d) = %#x, %v; want ErrRegs", v, many, n, e)
	}
}

// P2.2: bits and their values at the edges of 16, 32 and 64 bits.
func TestSignRows(t *testing.T) {
	rows := []struct {
		bits  uint64
		many  int
		value int64
	}{
		{0, 1, 0}, {1, 1, 1}, {32767, 1, 32767}, {32768, 1, -32768}, {32769, 1, -32767}, {65534, 1, -2}, {65535, 1, -1},
		{0, 2, 0}, {1, 2, 1}, {32768, 2, 32768}, {65535, 2, 65535}, {65536, 2, 65536},
		{1<<31 - 1, 2, 1<<31 - 1}, {1 << 31, 2, -1 << 31}, {1<<31 + 1, 2, -1<<31 + 1}, {1<<32 - 2, 2, -2}, {4294967295, 2, -1},
		{0, 4, 0}, {1, 4, 1}, {1 << 31, 4, 1 << 31}, {1<<32 - 1, 4, 1<<32 - 1}, {1 << 32, 4, 1 << 32},
		{1<<63 - 1, 4, most}, {1 << 63, 4, least}, {1<<63 + 1, 4, least + 1}, {top - 1, 4, -2}, {top, 4, -1},
	}
	for _, r := range rows {
		wantSigned(t, r.bits, r.many, r.value)
		wantUnsigned(t, r.value, r.many, r.bits)
	}
}

// P2.2: what needs more bits, or another number of registers, is refused.
func TestSignRefuses(t *testing.T) {
	for _, v := range []uint64{1 << 16, 1<<16 + 1, 1 << 32, 1 << 63, top} {
		refuseSigned(t, v, 1)
	}
	for _, v := range []uint64{1 << 32, 1<<32 + 1, 1 << 48, 1 << 63, top} {
		refuseSigned(t, v, 2)
	}
	for _, v := range []int64{least, -1 << 32, -1 << 31, -65537, -65536, -65535, -32769, 32768, 65535, 65536, 1 << 31, 1 << 32, most} {
		refuseUnsigned(t, v, 1)
	}
	for _, v := range []int64{least, -1<<32 - 1, -1 << 32, -1<<32 + 1, -1<<31 - 1, 1 << 31, 1<<32 - 1, 1 << 32, most} {
		refuseUnsigned(t, v, 2)
	}
	for _, many := range noLengths {
		for _, v := range []int64{least, -1, 0, 1, most} {
			refuseSigned(t, uint64(v), many)
			refuseUnsigned(t, v, many)
		}
	}
}

// twos is the two's complement value of v by its definition: the top bit counts below 0.
func twos(v uint64, many int) int64 {
	half := uint64(1) << (16*many - 1)
	if v < half {
		return int64(v)
	}
	return int64(v-half) - int64(half-1) - 1
}

// P2.2 and P2.5: Signed and Unsigned undo each other, on edges and on many other bits.
func TestSignedAndUnsignedAreInverse(t *testing.T) {
	r := source()
	for _, many := range lengths {
		for _, v := range someOf(r, many) {
			wantSigned(t, v, many, twos(v, many))
			wantUnsigned(t, twos(v, many), many, v)
		}
	}
	for _, many := range []int{1, 2} {
		half := int64(1) << (16*many - 1)
		for range 5000 {
			v := r.Int64N(4*half) - 2*half
			if -half <= v && v < half {
				wantUnsigned(t, v, many, uint64(v)&greatest(many))
			} else {
				refuseUnsigned(t, v, many)
			}
		}
	}
}

func wantText(t *testing.T, s string, many int, want []uint16) {
	t.Helper()
	if l, e := regs.Text(s, many); e != api.OK || !slices.Equal(l, want) {
		t.Errorf("Text(%q, %d) = %04x, %v; want %04x", s, many, l, e, want)
	}
}

func refuseText(t *testing.T, s string, many int) {
	t.Helper()
	if l, e := regs.Text(s, many); e != api.ErrRegs || len(l) != 0 {
		t.Errorf("Text(%q, %d) = %04x, %v; want ErrRegs", s, many, l, e)
	}
}

// P2.3: the bytes of a text, two per register, the first one in the upper half, followed by zeros.
func TestText(t *testing.T) {
	wantText(t, "abc", 2, []uint16{0x6162, 0x6300})
	wantText(t, "abcd", 2, []uint16{0x6162, 0x6364})
	wantText(t, "abc", 4, []uint16{0x6162, 0x6300, 0, 0})
	wantText(t, "a", 1, []uint16{0x6100})
	wantText(t, "ab", 1, []uint16{0x6162})
	wantText(t, "", 0, nil)
	wantText(t, "", 1, []uint16{0})
	wantText(t, "", 125, make([]uint16, 125))
	wantText(t, "\xff\x80\x01", 2, []uint16{0xff80, 0x0100}) // bytes that are no characters
	wantText(t, "é", 1, []uint16{0xc3a9})                    // its bytes count, not its characters
	wantText(t, strings.Repeat("z", 250), 125, slices.Repeat([]uint16{0x7a7a}, 125))
	wantText(t, strings.Repeat("z", 249), 125, append(slices.Repeat([]uint16{0x7a7a}, 124), 0x7a00))
}

// P2.3: texts of one byte too many, with a byte 0, or for numbers of registers that are none.
func TestTextRefuses(t *testing.T) {
	refuseText(t, "a", 0)
	refuseText(t, "abc", 1)
	refuseText(t, "abcde", 2)
	refuseText(t, "éa", 1)
	refuseText(t, strings.Repeat("z", 251), 125)
	refuseText(t, "\x00", 1)
	refuseText(t, "\x00ab", 2)
	refuseText(t, "a\x00b", 2)
	refuseText(t, "ab\x00", 2)
	refuseText(t, strings.Repeat("z", 249)+"\x00", 125)
	for _, many := range []int{least, -1 << 32, -256, -2, -1, 126, 127, 256, 1 << 32, 1 << 62, most} {
		for _, s := range []string{"", "a", "ab", strings.Repeat("z", 252)} {
			refuseText(t, s, many)
		}
	}
}

// P2.3: the bytes up to the first byte 0, in either half of any register, or all of them.
func TestFromText(t *testing.T) {
	rows := []struct {
		l    []uint16
		want string
	}{
		{nil, ""},
		{[]uint16{}, ""},
		{[]uint16{0x6162, 0x6300}, "abc"},
		{[]uint16{0x6162, 0x6364}, "abcd"},
		{[]uint16{0}, ""},
		{[]uint16{0x0061}, ""},
		{[]uint16{0x0061, 0x6263}, ""},
		{[]uint16{0x6100, 0x6263}, "a"},
		{[]uint16{0x6162, 0x0063, 0x6465}, "ab"},
		{[]uint16{0x6162, 0, 0x6465}, "ab"},
		{[]uint16{0x6162, 0x6300, 0x6465}, "abc"},
		{[]uint16{0xff80, 0x01fe}, "\xff\x80\x01\xfe"},
		{slices.Repeat([]uint16{0x7a79}, 300), strings.Repeat("zy", 300)}, // more than a text may have
	}
	for _, r := range rows {
		if s := regs.FromText(r.l); s != r.want {
			t.Errorf("FromText(%04x) = %q; want %q", r.l, s, r.want)
		}
	}
}

func wantBytes(t *testing.T, l []uint16, b []byte) {
	t.Helper()
	if got := regs.Bytes(l); !bytes.Equal(got, b) {
		t.Errorf("Bytes(%04x) = %x; want %x", l, got, b)
	}
	if got, e := regs.FromBytes(b); e != api.OK || !slices.Equal(got, l) {
		t.Errorf("FromBytes(%x) = %04x, %v; want %04x", b, got, e, l)
	}
}

// P2.3: two bytes per register, the upper one first, and back; zeros are bytes like others.
func TestBytesAndFromBytes(t *testing.T) {
	wantBytes(t, nil, nil)
	wantBytes(t, []uint16{}, []byte{})
	wantBytes(t, []uint16{0x0102}, []byte{1, 2})
	wantBytes(t, []uint16{0x0102, 0x0304, 0x0506}, []byte{1, 2, 3, 4, 5, 6})
	wantBytes(t, []uint16{0, 0x00ff, 0xff00, 0x8000, 0x0080}, []byte{0, 0, 0, 255, 255, 0, 128, 0, 0, 128})
	wantBytes(t, slices.Repeat([]uint16{0x1234}, 5000), bytes.Repeat([]byte{0x12, 0x34}, 5000))
	for _, many := range []int{1, 3, 5, 249, 251, 10001} {
		if l, e := regs.FromBytes(make([]byte, many)); e != api.ErrRegs || len(l) != 0 {
			t.Errorf("FromBytes of %d bytes = %04x, %v; want ErrRegs", many, l, e)
		}
	}
}

// P2.4: nothing is written to an argument, nor beyond it in its memory, and it may change later.
func TestArgumentsAreOnlyRead(t *testing.T) {
	for _, many := range lengths {
		l := []uint16{0x0102, 0x0304, 0x0506, 0x0708, 0x090a}
		before := slices.Clone(l)
		for _, order := range append(slices.Clone(orders), noOrders...) {
			regs.Value(l[:many], order)
		}
		regs.FromText(l[:many])
		_ = append(regs.Bytes(l[:many]), 1)
		if !slices.Equal(l, before) {
			t.Errorf("registers %04x became %04x", before, l)
		}
	}
	b := []byte{1, 2, 3, 4, 5}
	for many := range len(b) {
		l, _ := regs.FromBytes(b[:many])
		_ = append(l, 0xffff)
	}
	if !bytes.Equal(b, []byte{1, 2, 3, 4, 5}) {
		t.Errorf("bytes became %x", b)
	}
	l, _ := regs.FromBytes(b[:4])
	fromL := regs.Bytes(l)
	clear(b)
	if !slices.Equal(l, []uint16{0x0102, 0x0304}) {
		t.Errorf("registers changed with the bytes: %04x", l)
	}
	clear(l)
	if !bytes.Equal(fromL, []byte{1, 2, 3, 4}) {
		t.Errorf("bytes changed with the registers: %x", fromL)
	}
}

// keepsNothing calls twice, spoils the first answer and all the memory behind it, and looks at the second one and at a third.
func keepsNothing[T uint16 | byte](t *testing.T, name string, call func() []T) {
	t.Helper()
	first, second := call(), call()
	want := slices.Clone(first)
	for i := range first[:cap(first)] {
		first[:cap(first)][i] ^= 0x55
	}
	if third := call(); !slices.Equal(second, want) || !slices.Equal(third, want) {
		t.Errorf("%s: answers share memory: %04x and %04x; want %04x", name, second, third, want)
	}
}

// P2.4: every returned slice is newly allocated.
func TestAnswersAreNew(t *testing.T) {
	for _, layout := range layouts {
		keepsNothing(t, "Words", func() []uint16 {
			l, _ := regs.Words(0x0102030405060708>>(64-16*layout.many), layout.many, layout.order)
			return l
		})
	}
	for many := range 126 {
		keepsNothing(t, "Text", func() []uint16 { l, _ := regs.Text(strings.Repeat("a", many), many); return l })
	}
	registers, b := []uint16{0x0102, 0x0304}, []byte{1, 2, 3, 4}
	keepsNothing(t, "Bytes", func() []byte { return regs.Bytes(registers) })
	keepsNothing(t, "FromBytes", func() []uint16 { l, _ := regs.FromBytes(b); return l })
	if !slices.Equal(registers, []uint16{0x0102, 0x0304}) || !bytes.Equal(b, []byte{1, 2, 3, 4}) {
		t.Errorf("answers share memory with arguments: %04x, %x", registers, b)
	}
}

// P2.5: Words and Value undo each other, from either side.
func TestWordsAndValueAreInverse(t *testing.T) {
	r := source()
	for _, layout := range layouts {
		for _, v := range someOf(r, layout.many) {
			l, e := regs.Words(v, layout.many, layout.order)
			if e != api.OK {
				t.Fatalf("Words(%#x, %d, %d): %v", v, layout.many, layout.order, e)
			}
			wantValue(t, l, layout.order, v)
		}
		for range 2000 {
			l := anyRegisters(r, layout.many)
			v, e := regs.Value(l, layout.order)
			if e != api.OK {
				t.Fatalf("Value(%04x, %d): %v", l, layout.order, e)
			}
			wantWords(t, v, layout.many, layout.order, l)
		}
	}
}

func anyRegisters(r *rand.Rand, many int) []uint16 {
	l := make([]uint16, many)
	for i := range l {
		l[i] = uint16(r.Uint32())
	}
	return l
}

// P2.5: the registers in the order Little are those in the order Big with all bytes reversed.
func TestLittleIsBigReversed(t *testing.T) {
	r := source()
	for _, many := range lengths {
		for _, v := range someOf(r, many) {
			big, _ := regs.Words(v, many, regs.Big)
			little, e := regs.Words(v, many, regs.Little)
			b := regs.Bytes(big)
			slices.Reverse(b)
			if e != api.OK || len(b) != 2*many || !bytes.Equal(regs.Bytes(little), b) {
				t.Errorf("Words(%#x, %d): Big %04x, Little %04x, %v", v, many, big, little, e)
			}
		}
	}
}

// anyText draws bytes other than 0.
func anyText(r *rand.Rand, length int) string {
	b := make([]byte, length)
	for i := range b {
		b[i] = byte(1 + r.IntN(255))
	}
	return string(b)
}

// P2.5: FromText gives back what Text laid into its registers, however many more there are; and Text those registers.
func TestTextAndFromTextAreInverse(t *testing.T) {
	r := source()
	for many := range 126 {
		for length := range 2*many + 1 {
			s := anyText(r, length)
			l, e := regs.Text(s, many)
			if e != api.OK || len(l) != many || regs.FromText(l) != s {
				t.Fatalf("Text(%q, %d) = %04x, %v", s, many, l, e)
			}
			wantText(t, regs.FromText(l), many, l)
		}
	}
}

// P2.5: Bytes and FromBytes undo each other, zeros included.
func TestBytesAndFromBytesAreInverse(t *testing.T) {
	r := source()
	for many := range 300 {
		l := anyRegisters(r, many)
		if many > 0 {
			l[r.IntN(many)] = 0
		}
		b := regs.Bytes(l)
		if len(b) != 2*many {
			t.Fatalf("Bytes(%04x) = %x", l, b)
		}
		wantBytes(t, l, b)
	}
}
