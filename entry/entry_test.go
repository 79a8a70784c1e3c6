package entry_test

import (
	"bytes"
	"encoding/hex"
	"fmt"
	"math"
	"math/big"
	"math/rand/v2"
	"reflect"
	"slices"
	"strings"
	"testing"

	"kilowatt/api"
	"kilowatt/entry"
)

// kinds are the chapter's, with their words and fields.
var kinds = []struct {
	kind   int
	word   string
	fields []string
}{
	{1, "interval", []string{"Meter", "Start", "Energy", "Band", "Price", "Cost", "Flags"}},
	{2, "suspect", []string{"Meter", "Start", "Count"}},
	{3, "replace", []string{"Meter", "Start", "Count", "Seq", "Hash"}},
	{4, "correct", []string{"Meter", "Band", "Energy", "Cost", "Seq", "Hash"}},
	{5, "seal", []string{"Seq", "Hash"}},
}

// allFields are those of an entry but its kind, with the bytes that the chapter gives them.
var allFields = []struct {
	name string
	size int
}{
	{"Meter", 1}, {"Start", 8}, {"Energy", 8}, {"Band", 1}, {"Price", 8},
	{"Cost", 8}, {"Flags", 1}, {"Count", 4}, {"Seq", 8}, {"Hash", 32},
}

// edges are integers about which a range, or a width, may end.
var edges = []int64{
	0, 1, 2, 6, 7, 8, 9, 14, 15, 16, 31, 62, 63, 64, 65, 127, 128, 255, 256, 257, 65535, 65536,
	1<<30 - 1, 1 << 30, 1<<30 + 1, 1<<31 - 1, 1 << 31, 1<<32 - 1, 1 << 32, 1<<32 + 1, 1<<32 + 5,
	253402300799, 253402300800, 253402300801, 1<<62 - 1, 1 << 62, 1<<62 + 1, math.MaxInt64 - 1, math.MaxInt64,
	-1, -2, -63, -128, -256, -1 << 30, -1 << 32, 1 - 1<<62, -1 << 62, -1<<62 - 1, math.MinInt64 + 1, math.MinInt64,
}

func source() *rand.Rand { return rand.New(rand.NewPCG(151, 152)) }

func anyHash(r *rand.Rand) api.Hash {
	var h api.Hash
	for i := range h {
		h[i] = byte(r.Uint32())
	}
	return h
}

// rowOf is the row of a kind; -1 if there is none.
func rowOf(kind int) int {
	for i, k := range kinds {
		if k.kind == kind {
			return i
		}
	}
	return -1
}

func sizeOf(name string) int {
	for _, f := range allFields {
		if f.name == name {
			return f.size
		}
	}
	panic(name)
}

// bounds is the range of a field by the chapter's words.
func bounds(kind int, name string) (least, most *big.Int) {
	power := func(n uint) *big.Int { return new(big.Int).Lsh(big.NewInt(1), n) }
	least = new(big.Int)
	switch name {
	case "Meter":
		most = big.NewInt(63)
	case "Band":
		most = big.NewInt(7)
	case "Flags":
		most = big.NewInt(15)
	case "Start":
		most = big.NewInt(253402300799)
	case "Price":
		most = power(30)
	case "Count":
		most = big.NewInt(4294967295)
	case "Seq":
		most = new(big.Int).Sub(power(64), big.NewInt(1))
	case "Energy", "Cost":
		most = power(62)
		if kind == 4 {
			least.Neg(most)
		}
	}
	return least, most
}

// get is the integer of a field.
func get(x api.Entry, name string) *big.Int {
	v := reflect.ValueOf(x).FieldByName(name)
	if v.CanUint() {
		return new(big.Int).SetUint64(v.Uint())
	}
	return big.NewInt(v.Int())
}

// set changes the integer of a field, if the field's type has room for it.
func set(x *api.Entry, name string, n *big.Int) bool {
	v := reflect.ValueOf(x).Elem().FieldByName(name)
	if v.CanUint() {
		if !n.IsUint64() || v.OverflowUint(n.Uint64()) {
			return false
		}
		v.SetUint(n.Uint64())
		return true
	}
	if !n.IsInt64() || v.OverflowInt(n.Int64()) {
		return false
	}
	v.SetInt(n.Int64())
	return true
}

func within(kind int, name string, n *big.Int) bool {
	least, most := bounds(kind, name)
	return least.Cmp(n) <= 0 && n.Cmp(most) <= 0
}

// isEntry reports whether an entry is valid by the chapter's words.
func isEntry(x api.Entry) bool {
	row := rowOf(x.Kind)
	if row < 0 {
		return false
	}
	for _, f := range allFields {
		has := slices.Contains(kinds[row].fields, f.name)
		switch {
		case f.name == "Hash":
			if !has && x.Hash != (api.Hash{}) {
				return false
			}
		case !has && get(x, f.name).Sign() != 0:
			return false
		case has && !within(x.Kind, f.name, get(x, f.name)):
			return false
		}
	}
	return true
}

// bytesBy is the bytes and the plain bytes of a valid entry by the chapter's words.
func bytesBy(x api.Entry) (all, plain []byte) {
	all, plain = []byte{byte(x.Kind)}, []byte{byte(x.Kind)}
	for _, name := range kinds[rowOf(x.Kind)].fields {
		if name == "Hash" {
			all = append(all, x.Hash[:]...)
			continue
		}
		n := get(x, name)
		if n.Sign() < 0 {
			n.Add(n, new(big.Int).Lsh(big.NewInt(1), uint(8*sizeOf(name))))
		}
		piece := n.FillBytes(make([]byte, sizeOf(name)))
		all, plain = append(all, piece...), append(plain, piece...)
	}
	return all, plain
}

// lineBy is the line of a valid entry by the chapter's words.
func lineBy(x api.Entry) string {
	line := kinds[rowOf(x.Kind)].word
	for _, name := range kinds[rowOf(x.Kind)].fields {
		if name == "Hash" {
			line += " " + hex.EncodeToString(x.Hash[:])
		} else {
			line += " " + get(x, name).String()
		}
	}
	return line
}

// readBy is the entry of bytes by the chapter's words.
func readBy(b []byte) (api.Entry, bool) {
	if len(b) == 0 || rowOf(int(b[0])) < 0 {
		return api.Entry{}, false
	}
	x := api.Entry{Kind: int(b[0])}
	rest := b[1:]
	for _, name := range kinds[rowOf(x.Kind)].fields {
		size := sizeOf(name)
		if len(rest) < size {
			return api.Entry{}, false
		}
		if name == "Hash" {
			x.Hash = api.Hash(rest[:size])
			rest = rest[size:]
			continue
		}
		n := new(big.Int).SetBytes(rest[:size])
		if least, _ := bounds(x.Kind, name); least.Sign() < 0 && rest[0] >= 128 {
			n.Sub(n, new(big.Int).Lsh(big.NewInt(1), uint(8*size)))
		}
		if !within(x.Kind, name, n) || !set(&x, name, n) {
			return api.Entry{}, false
		}
		rest = rest[size:]
	}
	return x, len(rest) == 0
}

// readLineBy is the entry of a line by the chapter's words: whatever integers its pieces may be meant as, its line is written anew and compared.
func readLineBy(s string) (api.Entry, bool) {
	pieces := strings.Split(s, " ")
	row := slices.IndexFunc(kinds, func(k struct {
		kind   int
		word   string
		fields []string
	}) bool {
		return k.word == pieces[0]
	})
	if row < 0 || len(pieces) != 1+len(kinds[row].fields) {
		return api.Entry{}, false
	}
	x := api.Entry{Kind: kinds[row].kind}
	for i, name := range kinds[row].fields {
		if name == "Hash" {
			h, err := hex.DecodeString(pieces[i+1])
			if err != nil || len(h) != 32 {
				return api.Entry{}, false
			}
			x.Hash = api.Hash(h)
			continue
		}
		n, is := new(big.Int).SetString(pieces[i+1], 10)
		if !is || !within(x.Kind, name, n) || !set(&x, name, n) {
			return api.Entry{}, false
		}
	}
	return x, lineBy(x) == s
}

// checkBytes holds what the package tells of bytes against the chapter's words.
func checkBytes(t *testing.T, b []byte) {
	t.Helper()
	want, is := readBy(b)
	before := slices.Clone(b)
	x, e := entry.Read(b)
	if !is {
		if e != api.ErrEntry || x != (api.Entry{}) {
			t.Fatalf("Read(%x) = %+v %v; want ErrEntry", b, x, e)
		}
	} else if e != api.OK || x != want {
		t.Fatalf("Read(%x) = %+v %v; want %+v", b, x, e, want)
	} else if back, e := entry.Bytes(x); e != api.OK || !bytes.Equal(back, b) {
		t.Fatalf("Bytes of the entry of %x = %x %v", b, back, e)
	}
	if !bytes.Equal(b, before) {
		t.Fatalf("Read changed %x to %x", before, b)
	}
}

// checkLine holds what the package tells of a line against the chapter's words.
func checkLine(t *testing.T, s string) {
	t.Helper()
	want, is := readLineBy(s)
	x, e := entry.ReadLine(s)
	if !is {
		if e != api.ErrEntry || x != (api.Entry{}) {
			t.Fatalf("ReadLine(%q) = %+v %v; want ErrEntry", s, x, e)
		}
	} else if e != api.OK || x != want {
		t.Fatalf("ReadLine(%q) = %+v %v; want %+v", s, x, e, want)
	} else if back, e := entry.Line(x); e != api.OK || back != s {
		t.Fatalf("Line of the entry of %q = %q %v", s, back, e)
	}
}

// checkEntry holds what the package tells of an entry against the chapter's words, and reads back what it tells.
func checkEntry(t *testing.T, x api.Entry) {
	t.Helper()
	check := entry.Check(x)
	all, e := entry.Bytes(x)
	plain, f := entry.Plain(x)
	line, g := entry.Line(x)
	if !isEntry(x) {
		if check != api.ErrEntry || e != api.ErrEntry || f != api.ErrEntry || g != api.ErrEntry {
			t.Fatalf("of %+v: Check %v, Bytes %v, Plain %v, Line %v; want ErrEntry", x, check, e, f, g)
		}
		if all != nil || plain != nil || line != "" {
			t.Fatalf("of %+v, beside ErrEntry: %x, %x, %q", x, all, plain, line)
		}
		return
	}
	if check != api.OK || e != api.OK || f != api.OK || g != api.OK {
		t.Fatalf("of %+v: Check %v, Bytes %v, Plain %v, Line %v; want OK", x, check, e, f, g)
	}
	wantAll, wantPlain := bytesBy(x)
	if !bytes.Equal(all, wantAll) || !bytes.Equal(plain, wantPlain) || line != lineBy(x) {
		t.Fatalf("of %+v: %x, %x, %q; want %x, %x, %q", x, all, plain, line, wantAll, wantPlain, lineBy(x))
	}
	if back, e := entry.Read(all); e != api.OK || back != x {
		t.Fatalf("Read(%x) = %+v %v; want %+v", all, back, e, x)
	}
	if back, e := entry.ReadLine(line); e != api.OK || back != x {
		t.Fatalf("ReadLine(%q) = %+v %v; want %+v", line, back, e, x)
	}
}

// anyInteger is a number of a field, at an edge of its range or within.
func anyInteger(r *rand.Rand, kind int, name string) *big.Int {
	least, most := bounds(kind, name)
	switch r.IntN(6) {
	case 0:
		return least
	case 1:
		return most
	case 2:
		return big.NewInt(int64(r.IntN(4)))
	}
	n := new(big.Int).SetUint64(r.Uint64())
	n.Rsh(n, uint(r.IntN(64)))
	width := new(big.Int).Sub(most, least)
	n.Mod(n, width.Add(width, big.NewInt(1)))
	return n.Add(n, least)
}

// anyEntry is a valid entry of a kind.
func anyEntry(r *rand.Rand, kind int) api.Entry {
	x := api.Entry{Kind: kind}
	for _, name := range kinds[rowOf(kind)].fields {
		if name == "Hash" {
			if r.IntN(5) > 0 {
				x.Hash = anyHash(r)
			}
		} else if !set(&x, name, anyInteger(r, kind, name)) {
			panic(name)
		}
	}
	return x
}

func hashOf(first, last byte) api.Hash { return api.Hash{0: first, 31: last} }

// samples are one entry of each kind, and their bytes and lines written out.
var samples = []struct {
	x     api.Entry
	plain string
	hash  string
	line  string
}{
	{api.Entry{Kind: api.EntInterval, Meter: 63, Start: 900, Energy: 1 << 62, Band: 7, Price: 1 << 30, Cost: 5, Flags: 15},
		"01" + "3f" + "0000000000000384" + "4000000000000000" + "07" + "0000000040000000" + "0000000000000005" + "0f", "",
		"interval 63 900 4611686018427387904 7 1073741824 5 15"},
	{api.Entry{Kind: api.EntSuspect, Meter: 2, Start: 5, Count: 258},
		"02" + "02" + "0000000000000005" + "00000102", "",
		"suspect 2 5 258"},
	{api.Entry{Kind: api.EntReplace, Meter: 1, Start: 253402300799, Count: 4294967295, Seq: 18446744073709551615, Hash: hashOf(1, 255)},
		"03" + "01" + "0000003afff4417f" + "ffffffff" + "ffffffffffffffff", "01" + strings.Repeat("00", 30) + "ff",
		"replace 1 253402300799 4294967295 18446744073709551615 01" + strings.Repeat("00", 30) + "ff"},
	{api.Entry{Kind: api.EntCorrect, Meter: 1, Energy: -5, Cost: -7, Seq: 3, Hash: hashOf(0xab, 0)},
		"04" + "01" + "00" + "fffffffffffffffb" + "fffffffffffffff9" + "0000000000000003", "ab" + strings.Repeat("00", 31),
		"correct 1 0 -5 -7 3 ab" + strings.Repeat("00", 31)},
	{api.Entry{Kind: api.EntCorrect, Meter: 0, Band: 7, Energy: -1 << 62, Cost: 1 << 62, Seq: 0},
		"04" + "00" + "07" + "c000000000000000" + "4000000000000000" + "0000000000000000", strings.Repeat("00", 32),
		"correct 0 7 -4611686018427387904 4611686018427387904 0 " + strings.Repeat("00", 32)},
	{api.Entry{Kind: api.EntSeal, Seq: 1 << 63, Hash: hashOf(2, 3)},
		"05" + "8000000000000000", "02" + strings.Repeat("00", 30) + "03",
		"seal 9223372036854775808 02" + strings.Repeat("00", 30) + "03"},
}

// P15.1, P15.2: entries of each kind, the chapter's examples among them, with their bytes and lines written out.
func TestSamples(t *testing.T) {
	for _, s := range samples {
		if e := entry.Check(s.x); e != api.OK {
			t.Errorf("Check(%+v) = %v", s.x, e)
		}
		if b, e := entry.Bytes(s.x); e != api.OK || hex.EncodeToString(b) != s.plain+s.hash {
			t.Errorf("Bytes(%+v) = %x %v; want %s", s.x, b, e, s.plain+s.hash)
		}
		if b, e := entry.Plain(s.x); e != api.OK || hex.EncodeToString(b) != s.plain {
			t.Errorf("Plain(%+v) = %x %v; want %s", s.x, b, e, s.plain)
		}
		if line, e := entry.Line(s.x); e != api.OK || line != s.line {
			t.Errorf("Line(%+v) = %q %v; want %q", s.x, line, e, s.line)
		}
		b, _ := hex.DecodeString(s.plain + s.hash)
		if x, e := entry.Read(b); e != api.OK || x != s.x {
			t.Errorf("Read(%x) = %+v %v; want %+v", b, x, e, s.x)
		}
		if x, e := entry.ReadLine(s.line); e != api.OK || x != s.x {
			t.Errorf("ReadLine(%q) = %+v %v; want %+v", s.line, x, e, s.x)
		}
		checkEntry(t, s.x)
	}
}

// P15.1, P15.2: the chapter's examples of what is no entry.
func TestExamplesOfNone(t *testing.T) {
	if x, e := entry.Read([]byte{2, 2, 0}); e != api.ErrEntry || x != (api.Entry{}) {
		t.Errorf("Read of 2 2 0 = %+v %v", x, e)
	}
	for _, s := range []string{"suspect 64 5 0", "suspect 2 05 0"} {
		if x, e := entry.ReadLine(s); e != api.ErrEntry || x != (api.Entry{}) {
			t.Errorf("ReadLine(%q) = %+v %v", s, x, e)
		}
	}
}

// P15.1, P15.2: kinds that there are not, whatever else an entry has; their words are empty.
func TestKinds(t *testing.T) {
	for _, n := range append([]int64{-5, -4, -3, 3, 4, 5, 10, 100, 258, 259, 260, 261, 1<<32 + 2, 1<<32 + 3}, edges...) {
		kind, word := int(n), ""
		if row := rowOf(kind); row >= 0 {
			word = kinds[row].word
		}
		if name := entry.Name(kind); name != word {
			t.Errorf("Name(%d) = %q; want %q", kind, name, word)
		}
		checkEntry(t, api.Entry{Kind: kind})
		for _, s := range samples {
			s.x.Kind = kind
			checkEntry(t, s.x)
		}
	}
	for c := range 256 {
		for length := range 100 {
			checkBytes(t, append([]byte{byte(c)}, make([]byte, length)...))
		}
	}
	for kind, word := range map[int]string{1: "interval", 2: "suspect", 3: "replace", 4: "correct", 5: "seal", 0: "", 6: "", -1: ""} {
		if name := entry.Name(kind); name != word {
			t.Errorf("Name(%d) = %q; want %q", kind, name, word)
		}
	}
}

// P15.1: the entry without a kind, and those of each kind with zeros only.
func TestZeros(t *testing.T) {
	if entry.Check(api.Entry{}) != api.ErrEntry {
		t.Error("the zero Entry is valid")
	}
	for _, k := range kinds {
		x := api.Entry{Kind: k.kind}
		if entry.Check(x) != api.OK {
			t.Errorf("%+v is not valid", x)
		}
		checkEntry(t, x)
	}
}

// P15.1, P15.2: each field of each kind at the edges of its range, beyond them, and at those of its bytes.
func TestEdges(t *testing.T) {
	r := source()
	for _, k := range kinds {
		for _, name := range k.fields {
			if name == "Hash" {
				continue
			}
			valid := 0
			for _, n := range edges {
				for range 3 {
					x := anyEntry(r, k.kind)
					if !set(&x, name, big.NewInt(n)) {
						continue
					}
					if within(k.kind, name, big.NewInt(n)) {
						valid++
					}
					checkEntry(t, x)
				}
				checkNumber(t, r, k.kind, name, big.NewInt(n))
			}
			if valid == 0 {
				t.Errorf("no valid %s of kind %d", name, k.kind)
			}
			most := new(big.Int).SetUint64(math.MaxUint64)
			checkNumber(t, r, k.kind, name, most)
			checkNumber(t, r, k.kind, name, most.Add(most, big.NewInt(1)))
			checkNumber(t, r, k.kind, name, most.Neg(most))
		}
	}
}

// checkNumber puts a number, that need not be one of the field, into bytes and a line at the field's place.
func checkNumber(t *testing.T, r *rand.Rand, kind int, name string, n *big.Int) {
	t.Helper()
	x := anyEntry(r, kind)
	b, _ := bytesBy(x)
	pieces := strings.Split(lineBy(x), " ")
	place := 1
	for i, other := range kinds[rowOf(kind)].fields {
		if other == name {
			pieces[i+1] = n.String()
			break
		}
		place += sizeOf(other)
	}
	size := sizeOf(name)
	modulus := new(big.Int).Lsh(big.NewInt(1), uint(8*size))
	new(big.Int).Mod(n, modulus).FillBytes(b[place : place+size])
	checkBytes(t, b)
	checkLine(t, strings.Join(pieces, " "))
}

// P15.1: a field that the kind does not have must be zero.
func TestFieldsOfOtherKinds(t *testing.T) {
	r := source()
	for _, k := range kinds {
		for _, f := range allFields {
			if slices.Contains(k.fields, f.name) {
				continue
			}
			if f.name == "Hash" {
				for i := range 32 {
					x := anyEntry(r, k.kind)
					x.Hash[i] = 1 << r.IntN(8)
					checkNone(t, x)
				}
				continue
			}
			for _, n := range edges {
				x := anyEntry(r, k.kind)
				if n != 0 && set(&x, f.name, big.NewInt(n)) {
					checkNone(t, x)
				}
			}
		}
	}
}

func checkNone(t *testing.T, x api.Entry) {
	t.Helper()
	if e := entry.Check(x); e != api.ErrEntry {
		t.Fatalf("Check(%+v) = %v; want ErrEntry", x, e)
	}
	checkEntry(t, x)
}

// P15.1, P15.2, P15.4: any entries, valid ones and those with any fields.
func TestAnyEntries(t *testing.T) {
	r := source()
	for range 4000 {
		for _, k := range kinds {
			x := anyEntry(r, k.kind)
			if !isEntry(x) {
				t.Fatalf("%+v should be valid", x)
			}
			checkEntry(t, x)
			f := allFields[r.IntN(len(allFields)-1)]
			set(&x, f.name, big.NewInt(edges[r.IntN(len(edges))]))
			checkEntry(t, x)
			x.Kind = r.IntN(7)
			checkEntry(t, x)
		}
	}
}

// P15.1, P15.4: bytes with some missing, or with more behind them, are none of an entry.
func TestReadLengths(t *testing.T) {
	r := source()
	checkBytes(t, nil)
	checkBytes(t, []byte{})
	for range 20 {
		for _, k := range kinds {
			b, _ := bytesBy(anyEntry(r, k.kind))
			for n := range b {
				if _, e := entry.Read(b[:n]); e != api.ErrEntry {
					t.Fatalf("Read of the first %d bytes of %x: %v", n, b, e)
				}
				checkBytes(t, b[:n])
			}
			for _, more := range [][]byte{{0}, {1}, {255}, make([]byte, 32), b} {
				longer := slices.Concat(b, more)
				if _, e := entry.Read(longer); e != api.ErrEntry {
					t.Fatalf("Read(%x): %v", longer, e)
				}
			}
		}
	}
}

// P15.1, P15.4: bytes with one of them changed are those of another entry, or of none.
func TestReadChangedBytes(t *testing.T) {
	r := source()
	for range 20 {
		for _, k := range kinds {
			b, _ := bytesBy(anyEntry(r, k.kind))
			for i := range b {
				old := b[i]
				for c := range 256 {
					b[i] = byte(c)
					checkBytes(t, b)
				}
				b[i] = old
			}
		}
	}
}

// P15.1: any bytes of all lengths.
func TestReadAnyBytes(t *testing.T) {
	r := source()
	for range 50000 {
		b := make([]byte, r.IntN(70))
		for i := range b {
			if r.IntN(3) == 0 {
				b[i] = byte(r.Uint32())
			}
		}
		if len(b) > 0 {
			b[0] = byte(r.IntN(7))
		}
		checkBytes(t, b)
	}
}

// P15.2: lines that are almost one.
func TestReadLineNone(t *testing.T) {
	zeros := strings.Repeat("0", 64)
	for _, s := range []string{
		"", " ", "  ", "suspect", "suspect ", "suspect 2", "suspect 2 5", "suspect 2 5 ", "suspect 2 5 258 ", " suspect 2 5 258",
		"suspect  2 5 258", "suspect 2  5 258", "suspect 2 5  258", "suspect 2 5 258 0", "suspect 2 5 258\n", "suspect 2 5 258\r\n", "suspect\t2 5 258",
		"suspect 2 5\t258", "suspect,2,5,258", "Suspect 2 5 258", "SUSPECT 2 5 258", "suspects 2 5 258", "suspec 2 5 258", "2 2 5 258", "entry 2 5 258",
		"suspect +2 5 258", "suspect 2 +5 258", "suspect 2 5 +258", "suspect -0 5 258", "suspect 2 -5 258", "suspect 2 5 -1", "suspect 02 5 258",
		"suspect 2 5 0258", "suspect 00 5 258", "suspect 2 5 0x102", "suspect 2 5 2_58", "suspect 2 5 258.0", "suspect 2 5 1e2", "suspect two 5 258",
		"suspect 2 5 4294967296", "suspect 64 5 258", "suspect 2 253402300800 258", "suspect 2 5 99999999999999999999999999", "suspect 2 5 ２",
		" 2 5 258", "\x00 2 5 258", "suspect 2 5 \x00",
		"seal", "seal 7", "seal 7 ", "seal " + zeros, "seal  " + zeros, "seal 18446744073709551616 " + zeros, "seal -1 " + zeros, "seal 7 " + zeros[1:],
		"seal 7 " + zeros + "0", "seal 7 " + zeros + " ", "seal 7 " + zeros + " 0", "seal 7 " + strings.Repeat("A", 64), "seal 7 " + strings.Repeat("g", 64),
		"seal 07 " + zeros, "seal +7 " + zeros, "seal 7 0x" + zeros[2:],
		"correct 1 0 -0 0 0 " + zeros, "correct 1 0 0 -0 0 " + zeros, "correct 1 0 +5 0 0 " + zeros, "correct 1 0 -05 0 0 " + zeros, "correct 1 0 - 0 0 " + zeros,
		"correct 1 0 --5 0 0 " + zeros, "correct 1 0 5- 0 0 " + zeros, "correct 1 0 4611686018427387905 0 0 " + zeros, "correct 1 0 0 -4611686018427387905 0 " + zeros,
		"correct 1 8 0 0 0 " + zeros, "correct 1 0 0 0 -1 " + zeros, "correct -1 0 0 0 0 " + zeros, "correct 1 -1 0 0 0 " + zeros, "correct 1 0 0 0 0",
		"interval 1 2 -3 4 5 6 7", "interval 1 2 3 4 5 -6 7", "interval 1 2 3 4 5 6 16", "interval 1 2 3 8 5 6 7", "interval 1 2 3 4 1073741825 6 7", "interval 1 2 3 4 5 6",
		"interval 1 2 3 4 5 6 7 8", "replace 1 2 3 4", "replace 1 2 3 " + zeros, "replace 1 2 3 4 5", "replace 1 2 3 4 5 " + zeros,
	} {
		if x, e := entry.ReadLine(s); e != api.ErrEntry || x != (api.Entry{}) {
			t.Errorf("ReadLine(%q) = %+v %v; want ErrEntry", s, x, e)
		}
		checkLine(t, s)
	}
	for _, s := range []string{"suspect 2 5 258", "seal 7 " + zeros, "correct 1 0 -5 0 0 " + zeros, "interval 1 2 3 4 5 6 7", "replace 1 2 3 4 " + zeros} {
		if _, e := entry.ReadLine(s); e != api.OK {
			t.Errorf("ReadLine(%q): %v", s, e)
		}
	}
}

// P15.2: any words ahead of a kind's fields; only the kind's own reads them.
func TestReadLineWords(t *testing.T) {
	for _, k := range kinds {
		line := lineBy(anyEntry(source(), k.kind))
		fields := line[len(k.word):]
		for _, word := range []string{"", "interval", "suspect", "replace", "correct", "seal", "1", "2", "3", "4", "5", k.word[1:], k.word + "s", strings.ToUpper(k.word)} {
			checkLine(t, word+fields)
		}
	}
}

// P15.2, P15.4: lines with a byte changed, taken out or put in are those of another entry, or of none.
func TestReadSpoiledLines(t *testing.T) {
	r := source()
	const bytesOfLines = "0123456789-+ abf_.xAF\n\x00\xff"
	for range 20 {
		for _, k := range kinds {
			line := lineBy(anyEntry(r, k.kind))
			for i := range len(line) + 1 {
				checkLine(t, line[:i])
				checkLine(t, line[i:])
				for _, c := range []byte(bytesOfLines) {
					checkLine(t, line[:i]+string([]byte{c})+line[i:])
					if i < len(line) {
						checkLine(t, line[:i]+string([]byte{c})+line[i+1:])
					}
				}
				if i < len(line) {
					checkLine(t, line[:i]+line[i+1:])
				}
			}
		}
	}
}

// P15.2: a hash in a line is its text, in small letters, whatever its bytes are.
func TestHashesInLines(t *testing.T) {
	r := source()
	for range 500 {
		x := api.Entry{Kind: api.EntSeal, Seq: r.Uint64(), Hash: anyHash(r)}
		checkEntry(t, x)
		want := fmt.Sprintf("seal %d %x", x.Seq, x.Hash[:])
		if s, _ := entry.Line(x); s != want {
			t.Fatalf("Line(%+v) = %q; want %q", x, s, want)
		}
		upper := strings.ToUpper(want[5:])
		if _, e := entry.ReadLine("seal " + upper); upper != want[5:] && e != api.ErrEntry {
			t.Fatalf("ReadLine of capital letters: %v", e)
		}
	}
}

// P15.3: what is returned shares no memory with another answer, nor does Read keep its argument.
func TestMemory(t *testing.T) {
	for _, s := range samples {
		want, wantPlain := bytesBy(s.x)
		one, _ := entry.Bytes(s.x)
		two, _ := entry.Bytes(s.x)
		plain, _ := entry.Plain(s.x)
		other, _ := entry.Plain(s.x)
		for _, b := range [][]byte{one, plain} {
			// What lies behind the answer, up to its capacity, may be written to by whoever appends.
			room := b[:cap(b)]
			for i := range room {
				room[i] ^= 0xaa
			}
		}
		if !bytes.Equal(two, want) || !bytes.Equal(other, wantPlain) {
			t.Fatal("answers share memory")
		}
		again, _ := entry.Bytes(s.x)
		if !bytes.Equal(again, want) {
			t.Fatal("an answer changes later ones")
		}
		x, e := entry.Read(two)
		for i := range two {
			two[i] = 0xee
		}
		if e != api.OK || x != s.x {
			t.Fatalf("Read = %+v %v; want %+v", x, e, s.x)
		}
	}
}

// near are valid entries, many of which differ in one field only, or in their kind.
func near(r *rand.Rand) []api.Entry {
	var l []api.Entry
	for _, k := range kinds {
		l = append(l, api.Entry{Kind: k.kind})
		x := anyEntry(r, k.kind)
		l = append(l, x, x)
		for _, name := range k.fields {
			y := x
			if name == "Hash" {
				y.Hash[r.IntN(32)] ^= 1
			} else {
				set(&y, name, anyInteger(r, k.kind, name))
			}
			l = append(l, y)
		}
	}
	return l
}

// P15.4: two valid entries have the same bytes, and the same line, exactly if they are equal, and no entry's bytes are the first ones of another entry's.
func TestPairs(t *testing.T) {
	r := source()
	for range 30 {
		l := near(r)
		var all [][]byte
		var lines []string
		for _, x := range l {
			b, e := entry.Bytes(x)
			s, f := entry.Line(x)
			if e != api.OK || f != api.OK {
				t.Fatalf("%+v: %v %v", x, e, f)
			}
			all, lines = append(all, b), append(lines, s)
		}
		for i, x := range l {
			for k, y := range l {
				same := x == y
				if bytes.Equal(all[i], all[k]) != same || (lines[i] == lines[k]) != same {
					t.Fatalf("%+v and %+v: %x, %x", x, y, all[i], all[k])
				}
				if bytes.HasPrefix(all[k], all[i]) != same {
					t.Fatalf("%x begins with %x", all[k], all[i])
				}
			}
		}
	}
}

// P15.1, P15.4: the plain bytes are the first ones of the bytes; all but those of the hash.
func TestPlain(t *testing.T) {
	r := source()
	for range 300 {
		for _, k := range kinds {
			x := anyEntry(r, k.kind)
			all, _ := entry.Bytes(x)
			plain, _ := entry.Plain(x)
			hash := 0
			if slices.Contains(k.fields, "Hash") {
				hash = 32
			}
			if len(all) != len(plain)+hash || !bytes.HasPrefix(all, plain) {
				t.Fatalf("%+v: %x and %x", x, all, plain)
			}
			if hash > 0 {
				y := x
				y.Hash = anyHash(r)
				if other, _ := entry.Plain(y); !bytes.Equal(other, plain) {
					t.Fatalf("the hash changes the plain bytes %x to %x", plain, other)
				}
			}
		}
	}
}
