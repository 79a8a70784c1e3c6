package mac_test

import (
	"bytes"
	"crypto/hmac"
	"crypto/sha256"
	"encoding/hex"
	"math"
	"math/rand/v2"
	"slices"
	"strings"
	"testing"

	"kilowatt/api"
	"kilowatt/mac"
	"kilowatt/sha"
)

func source() *rand.Rand { return rand.New(rand.NewPCG(9, 10)) }

func anyBytes(r *rand.Rand, length int) []byte {
	b := make([]byte, length)
	for i := range b {
		b[i] = byte(r.Uint32())
	}
	return b
}

// library is the tag of b by a package that has nothing in common with the program.
func library(key, b []byte) api.Hash {
	h := hmac.New(sha256.New, key)
	h.Write(b)
	return api.Hash(h.Sum(nil))
}

// byTheChapter is the tag of b by the chapter's words, over the library's SHA-256.
func byTheChapter(key, b []byte) api.Hash {
	if len(key) > 64 {
		hash := sha256.Sum256(key)
		key = hash[:]
	}
	var inner, outer []byte
	for i := range 64 {
		c := byte(0)
		if i < len(key) {
			c = key[i]
		}
		inner = append(inner, c^0x36)
		outer = append(outer, c^0x5C)
	}
	hash := sha256.Sum256(append(inner, b...))
	return sha256.Sum256(append(outer, hash[:]...))
}

// written is a Mac that got the parts one by one.
func written(key []byte, parts ...[]byte) *mac.Mac {
	m := mac.New(key)
	for _, p := range parts {
		m.Write(p)
	}
	return m
}

// check holds what a Mac tells against the bytes that it should have processed.
func check(t *testing.T, m *mac.Mac, key, all []byte, what string) {
	t.Helper()
	want := library(key, all)
	if tag := m.Sum(); tag != want {
		t.Fatalf("%s: Sum of %d bytes under %x = %x; want %x", what, len(all), key, tag, want)
	}
	if !m.Is(want) {
		t.Fatalf("%s: Is(%x) is false", what, want)
	}
	other := want
	other[0] ^= 1
	if m.Is(other) {
		t.Fatalf("%s: Is(%x) is true; the tag is %x", what, other, want)
	}
}

// rows are the chapter's examples and the other cases of RFC 4231, the shortened one among them.
var rows = []struct {
	key, b string
	n      int
	want   string
}{
	{strings.Repeat("\x0b", 20), "Hi There", 32, "b0344c61d8db38535ca8afceaf0bf12b881dc200c9833da726e9376c2e32cff7"},
	{"Jefe", "what do ya want for nothing?", 32, "5bdcc146bf60754e6a042426089575c75a003f089d2739839dec58b964ec3843"},
	{strings.Repeat("\xaa", 20), strings.Repeat("\xdd", 50), 32, "773ea91e36800e46854db8ebd09181a72959098b3ef8c122d9635514ced565fe"},
	{"\x01\x02\x03\x04\x05\x06\x07\x08\x09\x0a\x0b\x0c\x0d\x0e\x0f\x10\x11\x12\x13\x14\x15\x16\x17\x18\x19", strings.Repeat("\xcd", 50), 32, "82558a389a443c0ea4cc819899f2083a85f0faa3e578f8077a2e3ff46729665b"},
	{strings.Repeat("\x0c", 20), "Test With Truncation", 16, "a3b6167473100ee06e0c796c2955552b"},
	{strings.Repeat("\xaa", 131), "Test Using Larger Than Block-Size Key - Hash Key First", 32, "60e431591ee0b67f0d8a26aacbf5b77f8e0bc6213728c5140546040f0ee37f54"},
	{strings.Repeat("\xaa", 131), "This is a test using a larger than block-size key and a larger than block-size data. The key needs to be hashed before being used by the HMAC algorithm.", 32, "9b09ffa71b942fcb27635fbcd5b0e944bfdc63644f0713938a7f51535c3a35e2"},
	{"", "", 32, "b613679a0814d9ec772f95d778c35fc5ff1697c493715653c6c712144292c5ad"},
	{"key", "The quick brown fox jumps over the lazy dog", 32, "f7bc83f430538424b13298e6aa6fb143ef4d59a14946175997479dbc2d1a3cd8"},
}

// P5.1 and P5.2: known tags.
func TestRows(t *testing.T) {
	for _, r := range rows {
		key, b := []byte(r.key), []byte(r.b)
		tag := mac.Of(key, b)
		if text := hex.EncodeToString(mac.Short(tag, r.n)); text != r.want {
			t.Errorf("Of(%q, %q) = %s; want %s", r.key, r.b, text, r.want)
		}
		if sum := written(key, b).Sum(); sum != tag {
			t.Errorf("Sum under %q behind Write(%q) = %x; want %x", r.key, r.b, sum, tag)
		}
		if !mac.Right(key, b, tag) || !written(key, b).Is(tag) {
			t.Errorf("%x is not the tag of %q under %q", tag, r.b, r.key)
		}
	}
	if tag := mac.Of(nil, nil); tag != mac.Of([]byte{}, []byte{}) || sha.Text(tag) != rows[7].want {
		t.Errorf("Of(nil, nil) = %x", tag)
	}
}

// P5.2: the tag is the chapter's, for keys of all lengths about a block's and a hash's.
func TestOfByTheChapter(t *testing.T) {
	r := source()
	for length := range 200 {
		for _, key := range [][]byte{anyBytes(r, length), make([]byte, length), bytes.Repeat([]byte{0xff}, length), bytes.Repeat([]byte{0x36}, length), bytes.Repeat([]byte{0x5c}, length)} {
			b := anyBytes(r, r.IntN(200))
			tag := mac.Of(key, b)
			if want := byTheChapter(key, b); tag != want {
				t.Fatalf("Of(%x, %x) = %x; want %x", key, b, tag, want)
			}
			if want := library(key, b); tag != want {
				t.Fatalf("Of(%x, %x) = %x; by the library %x", key, b, tag, want)
			}
		}
	}
}

// P5.2: bytes of all lengths up to three blocks, and of some greater ones, under short and long keys.
func TestOfManyBytes(t *testing.T) {
	r := source()
	lengths := []int{4095, 4096, 4097, 65535, 65536, 1<<20 + 3}
	for length := range 200 {
		lengths = append(lengths, length)
	}
	for _, length := range lengths {
		for _, size := range []int{0, 1, 32, 63, 64, 65, 1000} {
			key, b := anyBytes(r, size), anyBytes(r, length)
			if tag, want := mac.Of(key, b), library(key, b); tag != want {
				t.Fatalf("Of(%x, %d bytes) = %x; want %x", key, length, tag, want)
			}
		}
	}
}

// P5.1: a Mac has processed no bytes at first, whatever its key.
func TestNewHasProcessedNoBytes(t *testing.T) {
	r := source()
	for length := range 200 {
		key := anyBytes(r, length)
		check(t, mac.New(key), key, nil, "a new Mac")
	}
	check(t, mac.New(nil), nil, nil, "a new Mac under no key")
}

// P5.1 and P5.4: two parts of up to 150 bytes, empty ones too, whatever their lengths.
func TestTwoParts(t *testing.T) {
	r := source()
	all := anyBytes(r, 150)
	for _, size := range []int{0, 20, 64, 65} {
		key := anyBytes(r, size)
		for end := range len(all) + 1 {
			want := library(key, all[:end])
			for middle := range end + 1 {
				if tag := written(key, all[:middle], all[middle:end]).Sum(); tag != want {
					t.Fatalf("Sum of %d bytes, divided at %d, under %x = %x; want %x", end, middle, key, tag, want)
				}
			}
		}
	}
}

// P5.4: many parts, and a part for each byte.
func TestManyParts(t *testing.T) {
	r := source()
	for range 500 {
		key, all := anyBytes(r, r.IntN(100)), anyBytes(r, r.IntN(1000))
		var parts [][]byte
		for from := 0; from < len(all); {
			end := min(len(all), from+r.IntN(140))
			parts = append(parts, all[from:end])
			from = end
		}
		check(t, written(key, parts...), key, all, "many parts")
	}
	for size := 1; size <= 200; size++ {
		key, all := anyBytes(r, size), anyBytes(r, 600)
		check(t, written(key, slices.Collect(slices.Chunk(all, size))...), key, all, "equal parts")
	}
}

// P5.1: Sum and Is change nothing, and more bytes may follow.
func TestSumChangesNothing(t *testing.T) {
	r := source()
	key := anyBytes(r, 40)
	m := mac.New(key)
	var all []byte
	for range 400 {
		part := anyBytes(r, r.IntN(70))
		m.Write(part)
		all = append(all, part...)
		before := *m
		check(t, m, key, all, "between parts")
		check(t, m, key, all, "between parts, again")
		if *m != before {
			t.Fatalf("%+v became %+v", before, *m)
		}
	}
}

// P5.1: no bytes, nil or empty, change nothing.
func TestWriteNoBytes(t *testing.T) {
	key := []byte("Jefe")
	m := mac.New(key)
	for length := range 130 {
		m.Write(nil)
		m.Write([]byte{})
		check(t, m, key, bytes.Repeat([]byte{7}, length), "behind no bytes")
		m.Write([]byte{7})
	}
}

// P5.1: a copy and its original go on apart from each other.
func TestCopy(t *testing.T) {
	r := source()
	for length := range 200 {
		key, head, left, right := anyBytes(r, r.IntN(100)), anyBytes(r, length), anyBytes(r, r.IntN(140)), anyBytes(r, r.IntN(140))
		m := written(key, head)
		c := m.Copy()
		if c == m || c == nil {
			t.Fatal("Copy is the Mac itself, or none")
		}
		check(t, c, key, head, "a copy")
		m.Write(left)
		check(t, c, key, head, "a copy whose original went on")
		c.Write(right)
		check(t, m, key, slices.Concat(head, left), "an original whose copy went on")
		check(t, c, key, slices.Concat(head, right), "a copy that went on")
		check(t, c.Copy(), key, slices.Concat(head, right), "a copy of a copy")
	}
	check(t, mac.New(nil).Copy(), nil, nil, "a copy of a new Mac under no key")
}

// P5.1: one Mac tells nothing about another one, under the same key or another.
func TestMacsAreIndependent(t *testing.T) {
	r := source()
	var macs [6]*mac.Mac
	var keys, all [6][]byte
	for i := range macs {
		keys[i] = bytes.Repeat([]byte{byte(i / 2)}, 10)
		macs[i] = mac.New(keys[i])
	}
	for range 500 {
		i := r.IntN(len(macs))
		part := anyBytes(r, r.IntN(100))
		macs[i].Write(part)
		all[i] = append(all[i], part...)
		mac.Of(keys[i], part)
	}
	for i := range macs {
		check(t, macs[i], keys[i], all[i], "one of several")
	}
}

// P5.1 and P5.2: a tag with any of its bits turned over, that of other bytes and that under another key are refused.
func TestIsAndRightRefuse(t *testing.T) {
	r := source()
	for range 20 {
		key, b := anyBytes(r, 1+r.IntN(100)), anyBytes(r, 1+r.IntN(100))
		tag := library(key, b)
		m := written(key, b)
		refuse := func(other api.Hash, what string) {
			t.Helper()
			if m.Is(other) || mac.Right(key, b, other) {
				t.Errorf("%s: %x is taken for the tag %x", what, other, tag)
			}
		}
		for bit := range 8 * len(tag) {
			other := tag
			other[bit/8] ^= 1 << (bit % 8)
			refuse(other, "a bit turned over")
		}
		otherKey, otherBytes := slices.Clone(key), slices.Clone(b)
		otherKey[r.IntN(len(key))] ^= 1
		otherBytes[r.IntN(len(b))] ^= 1
		refuse(api.Hash{}, "the zero hash")
		refuse(library(otherKey, b), "another key")
		refuse(library(key, otherBytes), "other bytes")
		refuse(library(key, b[1:]), "fewer bytes")
		refuse(library(key, append(otherBytes, 0)), "more bytes")
		refuse(library(b, key), "key and bytes exchanged")
		refuse(sha256.Sum256(b), "a hash without a key")
		if !m.Is(tag) || !mac.Right(key, b, tag) {
			t.Errorf("the tag %x is refused", tag)
		}
	}
}

// P5.2: the first bytes of a hash, for each number of them and for numbers beyond both ends.
func TestShort(t *testing.T) {
	h := api.Hash(anyBytes(source(), 32))
	for n := range 33 {
		if b := mac.Short(h, n); !bytes.Equal(b, h[:n]) {
			t.Errorf("Short(%x, %d) = %x; want %x", h, n, b, h[:n])
		}
	}
	for _, n := range []int{math.MinInt, math.MinInt + 1, math.MinInt32, -1 << 32, -256 + 5, -33, -32, -2, -1, 0} {
		if b := mac.Short(h, n); len(b) != 0 {
			t.Errorf("Short(%x, %d) = %x; want no bytes", h, n, b)
		}
	}
	for _, n := range []int{33, 34, 64, 256 + 5, math.MaxInt32, 1<<32 + 5, math.MaxInt - 1, math.MaxInt} {
		if b := mac.Short(h, n); !bytes.Equal(b, h[:]) {
			t.Errorf("Short(%x, %d) = %x; want all of it", h, n, b)
		}
	}
	if b := mac.Short(api.Hash{}, 3); !bytes.Equal(b, []byte{0, 0, 0}) {
		t.Errorf("Short of the zero hash = %x", b)
	}
}

// P5.4: a key of more than 64 bytes is as good as its hash, and one of up to 64 bytes is not.
func TestLongKeyIsItsHash(t *testing.T) {
	r := source()
	for length := range 300 {
		key, b := anyBytes(r, length), anyBytes(r, r.IntN(150))
		hash := sha.Of(key)
		if same := mac.Of(key, b) == mac.Of(hash[:], b); same != (length > 64) {
			t.Errorf("%d bytes of key: the same tag as under its hash: %v", length, same)
		}
	}
}

// P5.4: zeros behind a key make no difference up to 64 bytes, and do so beyond; ahead of it they always do.
func TestZerosBehindKey(t *testing.T) {
	r := source()
	for length := range 65 {
		key, b := anyBytes(r, length), anyBytes(r, r.IntN(150))
		if length > 0 {
			key[0] |= 1
		}
		tag := mac.Of(key, b)
		for zeros := range 80 {
			same := mac.Of(append(slices.Clone(key), make([]byte, zeros)...), b) == tag
			if same != (length+zeros <= 64 || zeros == 0) {
				t.Fatalf("%d bytes of key and %d zeros: the same tag: %v", length, zeros, same)
			}
		}
		if length > 0 && mac.Of(append([]byte{0}, key...), b) == tag {
			t.Fatalf("a zero ahead of %d bytes of key makes no difference", length)
		}
	}
}

// wantNone holds what the chapter says of a Mac that New did not create.
func wantNone(t *testing.T, m *mac.Mac, what string) {
	t.Helper()
	for _, part := range []string{"", "abc", strings.Repeat("x", 200)} {
		m.Write([]byte(part))
		if tag := m.Sum(); tag != (api.Hash{}) {
			t.Errorf("%s: Sum = %x", what, tag)
		}
		for _, tag := range []api.Hash{{}, sha.Of(nil), sha.Of([]byte(part)), mac.Of(nil, nil), mac.Of(nil, []byte(part))} {
			if m.Is(tag) {
				t.Errorf("%s: Is(%x) is true", what, tag)
			}
		}
		if c := m.Copy(); c != nil {
			t.Errorf("%s: Copy = %v", what, c)
		}
	}
}

// The chapter's types, and P5.1: a nil Mac, and others that New did not create.
func TestMacsOfOthers(t *testing.T) {
	wantNone(t, nil, "a nil Mac")
	wantNone(t, new(mac.Mac), "a zero Mac")
	wantNone(t, &mac.Mac{}, "a literal Mac")
	list := make([]mac.Mac, 2)
	list[1] = *mac.New([]byte("key"))
	wantNone(t, &list[0], "a Mac of a list")
	list[1] = mac.Mac{}
	wantNone(t, &list[1], "a Mac that was set back")
}

// P5.3: nothing is written to an argument, nor beyond it in its memory, and nothing of it is needed afterwards.
func TestArgumentsAreOnlyReadAndNotRetained(t *testing.T) {
	r := source()
	for length := range 200 {
		keyRoom, room := anyBytes(r, length+80), anyBytes(r, length+80)
		keyBefore, before := slices.Clone(keyRoom), slices.Clone(room)
		key, b := keyRoom[:length], room[:length]
		mac.Right(key, b, mac.Of(key, b))
		m := written(key, b)
		m.Is(m.Sum())
		c := m.Copy()
		if !bytes.Equal(room, before) || !bytes.Equal(keyRoom, keyBefore) {
			t.Fatalf("%x became %x, or %x became %x", before, room, keyBefore, keyRoom)
		}
		clear(keyRoom)
		clear(room)
		check(t, m, keyBefore[:length], before[:length], "when the arguments have changed")
		check(t, c, keyBefore[:length], before[:length], "a copy when the arguments have changed")
		m.Write(before[length:])
		check(t, m, keyBefore[:length], before, "going on when the arguments have changed")
	}
}

// P5.3: what was returned or passed is the caller's own.
func TestAnswersAreTheCallersOwn(t *testing.T) {
	key, b := []byte("Jefe"), []byte("abc")
	m := written(key, b)
	tag := m.Sum()
	clear(tag[:])
	check(t, m, key, b, "when the answer has changed")
	h := sha.Of(b)
	before := h
	for n := range 34 {
		first, second := mac.Short(h, n), mac.Short(h, n)
		want := slices.Clone(first)
		clear(first[:cap(first)])
		if third := mac.Short(h, n); h != before || !bytes.Equal(second, want) || !bytes.Equal(third, want) {
			t.Fatalf("Short(%x, %d): answers share memory: %x and %x; want %x", h, n, second, third, want)
		}
	}
}
