package sha_test

import (
	"bytes"
	"crypto/sha256"
	"encoding/hex"
	"math/big"
	"math/bits"
	"math/rand/v2"
	"slices"
	"strings"
	"testing"

	"kilowatt/api"
	"kilowatt/sha"
)

func source() *rand.Rand { return rand.New(rand.NewPCG(7, 8)) }

func anyBytes(r *rand.Rand, length int) []byte {
	b := make([]byte, length)
	for i := range b {
		b[i] = byte(r.Uint32())
	}
	return b
}

// library is the hash of b by a package that has nothing in common with the program.
func library(b []byte) api.Hash { return sha256.Sum256(b) }

// rootBits are the first 32 bits of the fractional part of the root of n, by exact integers.
func rootBits(n int64, degree int) uint32 {
	// The root of n * 2^(32 * degree), rounded down, is the root of n with 32 bits behind its point.
	scaled := new(big.Int).Lsh(big.NewInt(n), uint(32*degree))
	var low, high = big.NewInt(0), new(big.Int).Lsh(big.NewInt(n), 32)
	for low.Cmp(high) < 0 {
		middle := new(big.Int).Add(low, high)
		middle.Add(middle, big.NewInt(1)).Rsh(middle, 1)
		if new(big.Int).Exp(middle, big.NewInt(int64(degree)), nil).Cmp(scaled) <= 0 {
			low = middle
		} else {
			high = middle.Sub(middle, big.NewInt(1))
		}
	}
	return uint32(low.Uint64())
}

func firstPrimes(many int) []int64 {
	var primes []int64
	for n := int64(2); len(primes) < many; n++ {
		if big.NewInt(n).ProbablyPrime(0) {
			primes = append(primes, n)
		}
	}
	return primes
}

func padded(b []byte) []byte {
	all := append(slices.Clone(b), 128)
	for (len(all)+8)%64 != 0 {
		all = append(all, 0)
	}
	length := uint64(len(b)) * 8
	for shift := 56; shift >= 0; shift -= 8 {
		all = append(all, byte(length>>shift))
	}
	return all
}

// turned is the exclusive or of x rotated right by two or three numbers of bits.
func turned(x uint32, by ...int) uint32 {
	var out uint32
	for _, n := range by {
		out ^= bits.RotateLeft32(x, -n)
	}
	return out
}

func round(v [8]uint32, k, w uint32) [8]uint32 {
	a, b, c, e, f, g := v[0], v[1], v[2], v[4], v[5], v[6]
	x := v[7] + turned(e, 6, 11, 25) + (e&f ^ ^e&g) + k + w
	y := turned(a, 2, 13, 22) + (a&b | a&c | b&c)
	return [8]uint32{x + y, a, b, c, v[3] + x, e, f, g}
}

func byTheChapterBlock(v [8]uint32, block []byte, k []uint32) [8]uint32 {
	var w []uint32
	for t := range 64 {
		if t < 16 {
			w = append(w, uint32(block[4*t])<<24|uint32(block[4*t+1])<<16|uint32(block[4*t+2])<<8|uint32(block[4*t+3]))
			continue
		}
		s1 := turned(w[t-2], 17, 19) ^ w[t-2]>>10
		s0 := turned(w[t-15], 7, 18) ^ w[t-15]>>3
		w = append(w, s1+w[t-7]+s0+w[t-16])
	}
	now := v
	for t := range 64 {
		now = round(now, k[t], w[t])
	}
	for i := range v {
		v[i] += now[i]
	}
	return v
}

// byTheChapter is the hash of b by the chapter's words, its constants computed from the primes.
func byTheChapter(b []byte) api.Hash {
	var v [8]uint32
	var k []uint32
	for i, p := range firstPrimes(64) {
		if i < 8 {
			v[i] = rootBits(p, 2)
		}
		k = append(k, rootBits(p, 3))
	}
	for block := range slices.Chunk(padded(b), 64) {
		v = byTheChapterBlock(v, block, k)
	}
	var h api.Hash
	for i := range h {
		h[i] = byte(v[i/4] >> (24 - i%4*8))
	}
	return h
}

// written is a Sha that got the parts one by one.
func written(parts ...[]byte) *sha.Sha {
	s := new(sha.Sha)
	for _, p := range parts {
		s.Write(p)
	}
	return s
}

// check holds what a Sha tells against the bytes that it should have processed.
func check(t *testing.T, s *sha.Sha, all []byte, what string) {
	t.Helper()
	if h, want := s.Sum(), library(all); h != want {
		t.Fatalf("%s: Sum of %d bytes = %x; want %x", what, len(all), h, want)
	}
	if n := s.Len(); n != uint64(len(all)) {
		t.Fatalf("%s: Len = %d; want %d", what, n, len(all))
	}
}

// P4.1 and P4.2: known hashes, those of the chapter's examples among them.
func TestRows(t *testing.T) {
	rows := []struct{ b, want string }{
		{"", "e3b0c44298fc1c149afbf4c8996fb92427ae41e4649b934ca495991b7852b855"},
		{"abc", "ba7816bf8f01cfea414140de5dae2223b00361a396177a9cb410ff61f20015ad"},
		{"abcdbcdecdefdefgefghfghighijhijkijkljklmklmnlmnomnopnopq", "248d6a61d20638b8e5c026930c3e6039a33ce45964ff2167f6ecedd419db06c1"},
		{"abcdefghbcdefghicdefghijdefghijkefghijklfghijklmghijklmnhijklmnoijklmnopjklmnopqklmnopqrlmnopqrsmnopqrstnopqrstu", "cf5b16a778af8380036ce59e7b0492370b249b11e8f07a51afac45037afee9d1"},
		{"The quick brown fox jumps over the lazy dog", "d7a8fbb307d7809469ca9abcb0082e4f8d5651e46d3cdb762d02d0bf37c9e592"},
		{"\x00", "6e340b9cffb37a989ca544e6bb780a2c78901d3fb33738768511a30617afa01d"},
		{"\xbd", "68325720aabd7c82f30f554b313d0570c95accbb7dc4b5aae11204c08ffe732b"},
		{strings.Repeat("a", 1000000), "cdc76e5c9914fb9281a1c7e284d73e67f1809a48a497200e046d39ccc7112cd0"},
	}
	for _, r := range rows {
		name := r.b[:min(len(r.b), 60)]
		h := sha.Of([]byte(r.b))
		if text := sha.Text(h); text != r.want {
			t.Errorf("Text(Of(%q)) = %s; want %s", name, text, r.want)
		}
		if back, e := sha.Parse(r.want); e != api.OK || back != h {
			t.Errorf("Parse(%s) = %x, %v; want %x", r.want, back, e, h)
		}
		if sum := written([]byte(r.b)).Sum(); sum != h {
			t.Errorf("Sum behind Write(%q) = %x; want %x", name, sum, h)
		}
	}
	if sha.Of(nil) != sha.Of([]byte{}) || sha.Text(sha.Of(nil)) != rows[0].want {
		t.Errorf("Of(nil) = %x", sha.Of(nil))
	}
}

// P4.1: the hash is the chapter's, with the padding's every length.
func TestOfByTheChapter(t *testing.T) {
	r := source()
	for length := range 130 {
		b := anyBytes(r, length)
		if h, want := sha.Of(b), byTheChapter(b); h != want {
			t.Fatalf("Of(%x) = %x; want %x", b, h, want)
		}
	}
}

// P4.1: the hash of bytes of many lengths, of equal bytes and of others.
func TestOfManyBytes(t *testing.T) {
	r := source()
	for length := range 700 {
		for _, b := range [][]byte{anyBytes(r, length), make([]byte, length), bytes.Repeat([]byte{0xff}, length), bytes.Repeat([]byte{0x80}, length)} {
			if h, want := sha.Of(b), library(b); h != want {
				t.Fatalf("Of(%x) = %x; want %x", b, h, want)
			}
		}
	}
	for _, length := range []int{4095, 4096, 4097, 8191, 8192, 65535, 65536, 1<<20 + 3} {
		b := anyBytes(r, length)
		if h, want := sha.Of(b), library(b); h != want {
			t.Fatalf("Of %d bytes = %x; want %x", length, h, want)
		}
	}
}

// P4.1: a length that needs more than 32 bits when it is counted in bits.
func TestLongLength(t *testing.T) {
	if testing.Short() {
		t.Skip("takes some seconds")
	}
	part := anyBytes(source(), 1<<20)
	var s sha.Sha
	other := sha256.New()
	for range 1 << 9 {
		s.Write(part)
		other.Write(part)
	}
	for _, tail := range []string{"", "x"} {
		s.Write([]byte(tail))
		other.Write([]byte(tail))
		if h, want := s.Sum(), api.Hash(other.Sum(nil)); h != want {
			t.Fatalf("Sum of %d bytes = %x; want %x", s.Len(), h, want)
		}
	}
	if n := s.Len(); n != 1<<29+1 {
		t.Fatalf("Len = %d; want %d", n, 1<<29+1)
	}
}

// P4.4: two parts of up to 150 bytes, empty ones too, whatever their lengths.
func TestTwoParts(t *testing.T) {
	all := anyBytes(source(), 150)
	for end := range len(all) + 1 {
		for middle := range end + 1 {
			check(t, written(all[:middle], all[middle:end]), all[:end], "two parts")
		}
	}
}

// P4.3: nothing of earlier arguments is kept beyond what the hash needs, so the same bytes leave the same Sha.
func TestNothingElseIsKept(t *testing.T) {
	all := anyBytes(source(), 150)
	for end := range len(all) + 1 {
		whole := written(all[:end])
		for middle := range end + 1 {
			if parts := written(all[:middle], all[middle:end]); *parts != *whole {
				t.Fatalf("%d bytes, divided at %d: %+v; want %+v", end, middle, parts, whole)
			}
		}
	}
}

// P4.4: many parts, and a part for each byte.
func TestManyParts(t *testing.T) {
	r := source()
	for range 500 {
		all := anyBytes(r, r.IntN(1000))
		var parts [][]byte
		for from := 0; from < len(all); {
			end := min(len(all), from+r.IntN(140))
			parts = append(parts, all[from:end])
			from = end
		}
		check(t, written(parts...), all, "many parts")
	}
	for size := 1; size <= 200; size++ {
		all := anyBytes(r, 600)
		check(t, written(slices.Collect(slices.Chunk(all, size))...), all, "equal parts")
	}
}

// P4.1 and P4.4: Sum and Len change nothing, and more bytes may follow.
func TestSumChangesNothing(t *testing.T) {
	r := source()
	var s sha.Sha
	var all []byte
	check(t, &s, nil, "the zero Sha")
	for range 400 {
		part := anyBytes(r, r.IntN(70))
		s.Write(part)
		all = append(all, part...)
		before := s
		check(t, &s, all, "between parts")
		check(t, &s, all, "between parts, again")
		if s != before {
			t.Fatalf("%+v became %+v", before, s)
		}
	}
}

// P4.1: no bytes, nil or empty, change nothing.
func TestWriteNoBytes(t *testing.T) {
	var s sha.Sha
	for length := range 130 {
		all := bytes.Repeat([]byte{7}, length)
		s.Write(nil)
		s.Write([]byte{})
		check(t, &s, all, "behind no bytes")
		s.Write([]byte{7})
	}
}

// P4.1: a copy and its original go on apart from each other.
func TestCopy(t *testing.T) {
	r := source()
	for length := range 200 {
		head, left, right := anyBytes(r, length), anyBytes(r, r.IntN(140)), anyBytes(r, r.IntN(140))
		s := written(head)
		c := s.Copy()
		if c == s || c == nil {
			t.Fatal("Copy is the Sha itself, or none")
		}
		check(t, c, head, "a copy")
		s.Write(left)
		check(t, c, head, "a copy whose original went on")
		c.Write(right)
		check(t, s, slices.Concat(head, left), "an original whose copy went on")
		check(t, c, slices.Concat(head, right), "a copy that went on")
		check(t, c.Copy(), slices.Concat(head, right), "a copy of a copy")
	}
	check(t, new(sha.Sha).Copy(), nil, "a copy of the zero Sha")
}

// P4.1: one Sha tells nothing about another one.
func TestShasAreIndependent(t *testing.T) {
	r := source()
	var shas [5]sha.Sha
	var all [5][]byte
	for range 500 {
		i := r.IntN(len(shas))
		part := anyBytes(r, r.IntN(100))
		shas[i].Write(part)
		all[i] = append(all[i], part...)
		sha.Of(part)
	}
	for i := range shas {
		check(t, &shas[i], all[i], "one of several")
	}
}

// The chapter's types: what a nil Sha returns.
func TestNilSha(t *testing.T) {
	var s *sha.Sha
	s.Write([]byte("abc"))
	s.Write(nil)
	check(t, s, nil, "a nil Sha")
	if c := s.Copy(); c != nil {
		t.Errorf("Copy of a nil Sha = %v", c)
	}
}

// P4.2: each value of each byte has its digits, at its place.
func TestTextOfEveryByte(t *testing.T) {
	for c := range 256 {
		for i := range len(api.Hash{}) {
			var h api.Hash
			h[i] = byte(c)
			want := hex.EncodeToString(h[:])
			if text := sha.Text(h); text != want {
				t.Fatalf("Text(%x) = %s", h, text)
			}
			if back, e := sha.Parse(want); e != api.OK || back != h {
				t.Fatalf("Parse(%s) = %x, %v", want, back, e)
			}
		}
	}
}

// P4.4: a hash is parsed back from its text.
func TestParseBack(t *testing.T) {
	r := source()
	for range 2000 {
		h := api.Hash(anyBytes(r, len(api.Hash{})))
		text := sha.Text(h)
		if text != hex.EncodeToString(h[:]) {
			t.Fatalf("Text(%x) = %s", h[:], text)
		}
		if back, e := sha.Parse(text); e != api.OK || back != h {
			t.Fatalf("Parse(%s) = %x, %v", text, back, e)
		}
	}
}

func refuse(t *testing.T, s string) {
	t.Helper()
	if h, e := sha.Parse(s); e != api.ErrHash || h != (api.Hash{}) {
		t.Errorf("Parse(%q) = %x, %v; want ErrHash", s, h, e)
	}
}

// P4.2: texts that are too short or too long are those of no hash.
func TestParseOtherLengths(t *testing.T) {
	for length := range 200 {
		if length != 64 {
			refuse(t, strings.Repeat("0", length))
			refuse(t, strings.Repeat("f", length))
		}
	}
	good := sha.Text(sha.Of([]byte("abc")))
	for _, s := range []string{good + good, good + " ", " " + good, good + "\n", "0x" + good, good[1:], good[:63], good + "\x00"} {
		refuse(t, s)
	}
}

// P4.2: whatever is not one of the 16 digits is refused, at each place.
func TestParseOtherBytes(t *testing.T) {
	good := sha.Text(sha.Of([]byte("abc")))
	for i := range len(good) {
		for c := range 256 {
			s := good[:i] + string([]byte{byte(c)}) + good[i+1:]
			if !strings.Contains("0123456789abcdef", string(rune(c))) {
				refuse(t, s)
				continue
			}
			if h, e := sha.Parse(s); e != api.OK || sha.Text(h) != s {
				t.Errorf("Parse(%s) = %x, %v", s, h, e)
			}
		}
	}
	refuse(t, strings.ToUpper(good))
	refuse(t, "0x"+good[2:])
	refuse(t, "-"+good[1:])
	refuse(t, "+"+good[1:])
	refuse(t, good[:62]+"é")
	refuse(t, good[:61]+"١0")
	refuse(t, strings.Repeat("é", 32))
	refuse(t, strings.Repeat("١", 64))
}

// P4.3: nothing is written to an argument, nor beyond it in its memory, and nothing of it is needed afterwards.
func TestArgumentsAreOnlyReadAndNotRetained(t *testing.T) {
	r := source()
	for length := range 200 {
		room := anyBytes(r, length+80)
		before := slices.Clone(room)
		b := room[:length]
		sha.Of(b)
		var s sha.Sha
		s.Write(b)
		s.Sum()
		c := s.Copy()
		if !bytes.Equal(room, before) {
			t.Fatalf("%x became %x", before, room)
		}
		clear(room)
		check(t, &s, before[:length], "when the argument has changed")
		check(t, c, before[:length], "a copy when the argument has changed")
		s.Write(before[length:])
		check(t, &s, before, "going on when the argument has changed")
	}
}

// P4.3: a hash that was returned or passed is the caller's own.
func TestHashesAreTheCallersOwn(t *testing.T) {
	s := written([]byte("abc"))
	h := s.Sum()
	clear(h[:])
	check(t, s, []byte("abc"), "when the answer has changed")
	h = sha.Of([]byte("abc"))
	before := h
	sha.Text(h)
	if h != before {
		t.Errorf("%x became %x", before, h)
	}
}
