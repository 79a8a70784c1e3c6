package chain_test

import (
	"bytes"
	"crypto/sha256"
	"encoding/hex"
	"math"
	"math/rand/v2"
	"reflect"
	"slices"
	"testing"

	"kilowatt/api"
	"kilowatt/chain"
	"kilowatt/entry"
)

const mostEvery = 1000

func source() *rand.Rand { return rand.New(rand.NewPCG(161, 162)) }

// The entries of the chapter's examples.
var (
	a = api.Entry{Kind: 2, Meter: 2, Start: 5, Count: 258}
	b = api.Entry{Kind: 1, Meter: 3, Start: 900, Energy: 10, Band: 1, Price: 5, Cost: 50, Flags: 1}
	c = api.Entry{Kind: 4, Meter: 1, Band: 2, Energy: -5, Cost: -7, Seq: 3, Hash: api.Hash{9}}
)

// Chain hashes that were computed by another program: sealHash is that of a b, which their seal states.
const (
	aHash     = "d374fbf22a58564aed6bf35379016ade1f39d73e305ea7688090cafa6ede1a61"
	sealHash  = "e51624cf7760b81f884822e96617d8d8f338d4101511c41880d549b8cfb33516"
	abcHash   = "4e8fb7eca5d32818e4282903712b2ee305895977669fb883bb3dd2d92f8aa417"
	abSeal    = "bbb254669e8eb71d1e965d6baf53b41d3a39f3c6be680423741ce5f35b819371"
	abSealC   = "907ccdb908859284ad53f2c786d1a8b673437572542448b73179b8798ce7b69f"
	nextNone  = "66687aadf862bd776c8fc18b8e9f8e20089714856ee233b3902a591d0d5f2925" // of 32 zero bytes
	nextOfAbc = "42fd4a8c529fdb402d577c701b291018f0b2c52207f96e2a057483fd349a9868" // of the bytes 0 to 31, then abc
)

// hashOf is the hash of a text.
func hashOf(s string) api.Hash {
	h, err := hex.DecodeString(s)
	if err != nil {
		panic(err)
	}
	return api.Hash(h)
}

func sealBy(seq uint64, h api.Hash) api.Entry { return api.Entry{Kind: 5, Seq: seq, Hash: h} }

func isSeal(x api.Entry) bool { return x.Kind == 5 }

// wrong are entries that are not valid.
func wrong() []api.Entry {
	return []api.Entry{
		{}, {Kind: -1}, {Kind: 6}, {Kind: 256 + 2}, {Kind: 2, Meter: 64}, {Kind: 2, Start: -1}, {Kind: 2, Seq: 1},
		{Kind: 2, Hash: api.Hash{31: 1}}, {Kind: 1, Energy: -1}, {Kind: 1, Flags: 16}, {Kind: 3, Start: 253402300800},
		{Kind: 4, Cost: -1<<62 - 1}, {Kind: 5, Meter: 1}, {Kind: 5, Count: 1}, {Kind: 5, Start: 1}, {Kind: 5, Energy: 1},
	}
}

// plain is a valid entry that is no seal.
func plain(r *rand.Rand) api.Entry {
	meter, start, count, seq := r.IntN(64), r.Int64N(253402300800), r.Uint32(), r.Uint64()
	var h api.Hash
	for i := range h {
		h[i] = byte(r.Uint32())
	}
	switch r.IntN(5) {
	case 0:
		return api.Entry{Kind: 1, Meter: meter, Start: start, Energy: r.Int64N(1 << 62), Band: r.IntN(8), Price: r.Int64N(1 << 30), Cost: r.Int64N(1 << 62), Flags: r.IntN(16)}
	case 1:
		return api.Entry{Kind: 3, Meter: meter, Start: start, Count: count, Seq: seq, Hash: h}
	case 2:
		return api.Entry{Kind: 4, Meter: meter, Band: r.IntN(8), Energy: -r.Int64N(1 << 62), Cost: r.Int64N(1 << 62), Seq: seq, Hash: h}
	}
	return api.Entry{Kind: 2, Meter: meter, Start: start, Count: count}
}

func isEntry(x api.Entry) bool { return entry.Check(x) == api.OK }

// hashBy is the chain hash of valid entries by the chapter's words, with the library's hash.
func hashBy(l []api.Entry) api.Hash {
	var h api.Hash
	for _, x := range l {
		all, e := entry.Bytes(x)
		if e != api.OK {
			panic(e)
		}
		h = sha256.Sum256(slices.Concat(h[:], all))
	}
	return h
}

// sinceBy is the number of entries that are not seals after the last seal, by the chapter's words.
func sinceBy(l []api.Entry) int {
	n := 0
	for i := len(l) - 1; i >= 0 && !isSeal(l[i]); i-- {
		n++
	}
	return n
}

// faultBy is the index of the first entry that is not valid or with which the list is no longer valid, and the error, by the chapter's words; otherwise the number of entries.
func faultBy(l []api.Entry, every int) (int, api.Errno) {
	for i, x := range l {
		ahead := l[:i]
		switch {
		case !isEntry(x):
			return i, api.ErrEntry
		case isSeal(x) && (sinceBy(ahead) != every || x.Seq != uint64(i) || x.Hash != hashBy(ahead)):
			return i, api.ErrChain
		case !isSeal(x) && sinceBy(ahead) == every:
			return i, api.ErrChain
		}
	}
	return len(l), api.OK
}

func lastSealBy(l []api.Entry) (api.Entry, bool) {
	for _, x := range slices.Backward(l) {
		if isSeal(x) {
			return x, true
		}
	}
	return api.Entry{}, false
}

func dueBy(l []api.Entry, every int) (api.Entry, bool) {
	if sinceBy(l) != every {
		return api.Entry{}, false
	}
	return sealBy(uint64(len(l)), hashBy(l)), true
}

// check holds what a chain tells against its list.
func check(t *testing.T, k *chain.Chain, l []api.Entry, every int) {
	t.Helper()
	if h := k.Head(); h != hashBy(l) {
		t.Fatalf("Head of %d entries = %x; want %x", len(l), h, hashBy(l))
	}
	if n := k.Len(); n != len(l) {
		t.Fatalf("Len of %d entries = %d", len(l), n)
	}
	if n := k.Since(); n != sinceBy(l) {
		t.Fatalf("Since of %d entries = %d; want %d", len(l), n, sinceBy(l))
	}
	want, wantIs := lastSealBy(l)
	if x, is := k.Seal(); x != want || is != wantIs {
		t.Fatalf("Seal of %d entries = %+v %v; want %+v %v", len(l), x, is, want, wantIs)
	}
	want, wantIs = dueBy(l, every)
	if x, is := k.Due(); x != want || is != wantIs {
		t.Fatalf("Due of %d entries, every %d = %+v %v; want %+v %v", len(l), every, x, is, want, wantIs)
	}
}

func newChain(t *testing.T, every int) *chain.Chain {
	t.Helper()
	k, e := chain.New(every)
	if e != api.OK || k == nil {
		t.Fatalf("New(%d) = %v %v", every, k, e)
	}
	return k
}

// load holds Load against the chapter's words, and returns the chain if there is one.
func load(t *testing.T, l []api.Entry, every int) *chain.Chain {
	t.Helper()
	before := slices.Clone(l)
	want, fault := faultBy(l, every)
	k, n, e := chain.Load(l, every)
	if n != want || e != fault || (k != nil) != (e == api.OK) {
		t.Fatalf("Load(%+v, %d) = %v, %d, %v; want %d, %v", l, every, k, n, e, want, fault)
	}
	if !slices.Equal(l, before) {
		t.Fatalf("Load changed %+v to %+v", before, l)
	}
	if k != nil {
		check(t, k, l, every)
	}
	return k
}

// mustAppend appends a valid entry that is no seal, holds the answer against the chapter's words, and returns the longer list.
func mustAppend(t *testing.T, k *chain.Chain, l []api.Entry, every int, x api.Entry) []api.Entry {
	t.Helper()
	var want []api.Entry
	if seal, due := dueBy(l, every); due {
		want = append(want, seal)
	}
	want = append(want, x)
	got, e := k.Append(x)
	if e != api.OK || !slices.Equal(got, want) {
		t.Fatalf("Append(%+v) to %d entries, every %d = %+v %v; want %+v", x, len(l), every, got, e, want)
	}
	return slices.Concat(l, got)
}

// refused appends an entry that may not be, and sees that nothing changes.
func refused(t *testing.T, k *chain.Chain, l []api.Entry, every int, x api.Entry) {
	t.Helper()
	want := api.ErrChain
	if !isEntry(x) {
		want = api.ErrEntry
	}
	if got, e := k.Append(x); e != want || got != nil {
		t.Fatalf("Append(%+v) = %+v %v; want %v", x, got, e, want)
	}
	check(t, k, l, every)
}

// P16.1 to P16.4: the chapter's examples, with the hashes written out.
func TestExamples(t *testing.T) {
	k := newChain(t, 2)
	if got, e := k.Append(a); e != api.OK || !slices.Equal(got, []api.Entry{a}) || k.Head() != hashOf(aHash) {
		t.Fatalf("Append a: %+v %v, head %x", got, e, k.Head())
	}
	if x, due := k.Due(); due || x != (api.Entry{}) {
		t.Fatalf("Due after a: %+v %v", x, due)
	}
	if got, e := k.Append(b); e != api.OK || !slices.Equal(got, []api.Entry{b}) || k.Head() != hashOf(sealHash) {
		t.Fatalf("Append b: %+v %v, head %x", got, e, k.Head())
	}
	seal := sealBy(2, hashOf(sealHash))
	if x, due := k.Due(); !due || x != seal {
		t.Fatalf("Due after a b: %+v %v", x, due)
	}
	if got, e := k.Append(c); e != api.OK || !slices.Equal(got, []api.Entry{seal, c}) || k.Head() != hashOf(abSealC) {
		t.Fatalf("Append c: %+v %v, head %x", got, e, k.Head())
	}
	if k.Len() != 4 || k.Since() != 1 {
		t.Fatalf("Len %d, Since %d", k.Len(), k.Since())
	}
	if x, is := k.Seal(); !is || x != seal {
		t.Fatalf("Seal: %+v %v", x, is)
	}
	if k, n, e := chain.Load([]api.Entry{a, b, c}, 2); k != nil || n != 2 || e != api.ErrChain {
		t.Fatalf("Load of a b c: %d %v", n, e)
	}
	if k, n, e := chain.Load([]api.Entry{a, b, seal, c}, 2); k == nil || n != 4 || e != api.OK || k.Head() != hashOf(abSealC) {
		t.Fatalf("Load of a b seal c: %d %v", n, e)
	}
	if got, e := k.Append(seal); got != nil || e != api.ErrChain {
		t.Fatalf("Append of a seal: %+v %v", got, e)
	}
}

// P16.1: hashes written out; h is hashed even if it is zero, and so is nothing behind it.
func TestNext(t *testing.T) {
	var ascending api.Hash
	for i := range ascending {
		ascending[i] = byte(i)
	}
	for _, b := range [][]byte{nil, {}} {
		if h := chain.Next(api.Hash{}, b); h != hashOf(nextNone) {
			t.Errorf("Next of nothing = %x", h)
		}
	}
	if h := chain.Next(ascending, []byte("abc")); h != hashOf(nextOfAbc) {
		t.Errorf("Next of abc = %x", h)
	}
	r := source()
	for n := range 300 {
		h, b := api.Hash{}, make([]byte, n)
		for i := range h {
			h[i] = byte(r.Uint32())
		}
		for i := range b {
			b[i] = byte(r.Uint32())
		}
		before := slices.Clone(b)
		if got, want := chain.Next(h, b), sha256.Sum256(slices.Concat(h[:], b)); got != want {
			t.Fatalf("Next(%x, %x) = %x; want %x", h, b, got, want)
		}
		if !bytes.Equal(b, before) {
			t.Fatalf("Next changed %x to %x", before, b)
		}
	}
}

// P16.1: the chain hashes of lists, written out, of seals in any place too.
func TestOf(t *testing.T) {
	seal := sealBy(2, hashOf(sealHash))
	for _, test := range []struct {
		l    []api.Entry
		want api.Hash
	}{
		{nil, api.Hash{}},
		{[]api.Entry{}, api.Hash{}},
		{[]api.Entry{a}, hashOf(aHash)},
		{[]api.Entry{a, b}, hashOf(sealHash)},
		{[]api.Entry{a, b, c}, hashOf(abcHash)},
		{[]api.Entry{a, b, seal}, hashOf(abSeal)},
		{[]api.Entry{a, b, seal, c}, hashOf(abSealC)},
	} {
		if h, e := chain.Of(test.l); e != api.OK || h != test.want {
			t.Errorf("Of(%+v) = %x %v; want %x", test.l, h, e, test.want)
		}
	}
	r := source()
	for n := range 60 {
		var l []api.Entry
		for range n {
			x := plain(r)
			if r.IntN(3) == 0 {
				x = sealBy(r.Uint64(), x.Hash)
			}
			l = append(l, x)
		}
		before := slices.Clone(l)
		if h, e := chain.Of(l); e != api.OK || h != hashBy(l) {
			t.Fatalf("Of %d entries = %x %v; want %x", n, h, e, hashBy(l))
		}
		if !slices.Equal(l, before) {
			t.Fatalf("Of changed %+v to %+v", before, l)
		}
	}
}

// P16.1: an entry that is not valid, in any place of a list.
func TestOfNone(t *testing.T) {
	for _, x := range wrong() {
		for _, l := range [][]api.Entry{{x}, {x, a}, {a, x}, {a, x, b}, {a, b, x}, {x, x}} {
			if h, e := chain.Of(l); e != api.ErrEntry || h != (api.Hash{}) {
				t.Fatalf("Of(%+v) = %x %v; want ErrEntry", l, h, e)
			}
		}
	}
}

// P16.2: the distances that there are; Load has no index beside ErrArg, whatever the list is.
func TestEvery(t *testing.T) {
	for _, every := range []int{math.MinInt, -1000, -1, 0, 1001, 1002, 1 << 16, 1<<32 + 1, math.MaxInt} {
		if k, e := chain.New(every); k != nil || e != api.ErrArg {
			t.Errorf("New(%d) = %v %v; want ErrArg", every, k, e)
		}
		for _, l := range [][]api.Entry{nil, {a, b}, {{}}, {a, {}}, {a, sealBy(7, api.Hash{})}} {
			if k, n, e := chain.Load(l, every); k != nil || n != 0 || e != api.ErrArg {
				t.Errorf("Load(%+v, %d) = %v %d %v; want ErrArg", l, every, k, n, e)
			}
		}
	}
	for _, every := range []int{1, 2, 3, 500, 999, mostEvery} {
		check(t, newChain(t, every), nil, every)
		load(t, nil, every)
		load(t, []api.Entry{}, every)
		load(t, []api.Entry{a}, every)
	}
}

// candidates are entries that may come after a list: valid ones, seals that are correct or almost, and wrong ones.
func candidates(l []api.Entry) []api.Entry {
	seal := sealBy(uint64(len(l)), hashBy(l))
	early, late, spoiled, old, extra := seal, seal, seal, seal, seal
	early.Seq--
	late.Seq++
	spoiled.Hash[31] ^= 1
	old.Hash = hashBy(l[:max(0, len(l)-1)])
	if len(l) == 0 {
		old.Hash[0] = 128
	}
	extra.Meter = 1
	return []api.Entry{a, b, seal, early, late, spoiled, old, extra, {}}
}

// P16.2, P16.6: all lists of some length of such entries, for small distances; behind the first fault any entry may follow.
func TestLoadAll(t *testing.T) {
	for every := 1; every <= 3; every++ {
		var walk func(l []api.Entry, depth int)
		walk = func(l []api.Entry, depth int) {
			k := load(t, l, every)
			for _, x := range candidates(l) {
				longer := append(slices.Clone(l), x)
				if load(t, longer, every) != nil {
					if depth > 0 {
						walk(longer, depth-1)
					}
				} else {
					refusedOf(t, k, l, every, x)
					for _, y := range []api.Entry{a, sealBy(uint64(len(longer)), api.Hash{}), {}} {
						load(t, append(slices.Clone(longer), y), every)
					}
				}
			}
		}
		walk(nil, 8)
	}
}

// refusedOf appends to a copy of the chain of l: a seal or an entry that is not valid is refused there too; an entry that is neither comes behind the seal that is due.
func refusedOf(t *testing.T, k *chain.Chain, l []api.Entry, every int, x api.Entry) {
	t.Helper()
	k = k.Copy()
	if isSeal(x) || !isEntry(x) {
		refused(t, k, l, every, x)
		return
	}
	check(t, k, mustAppend(t, k, l, every, x), every)
}

// P16.2: of an entry that is not valid in the place of a seal the error is ErrEntry, and the first fault counts, whichever comes behind it.
func TestFirstFault(t *testing.T) {
	seal := sealBy(2, hashBy([]api.Entry{a, b}))
	spoiled := seal
	spoiled.Band = 1
	for _, test := range []struct {
		l     []api.Entry
		index int
		e     api.Errno
	}{
		{[]api.Entry{a, b, spoiled}, 2, api.ErrEntry},
		{[]api.Entry{a, b, {}}, 2, api.ErrEntry},
		{[]api.Entry{a, b, c, {}}, 2, api.ErrChain},
		{[]api.Entry{a, {}, c}, 1, api.ErrEntry},
		{[]api.Entry{{}, b, c}, 0, api.ErrEntry},
		{[]api.Entry{seal, {}}, 0, api.ErrChain},
		{[]api.Entry{sealBy(0, api.Hash{})}, 0, api.ErrChain},
		{[]api.Entry{a, sealBy(1, hashBy([]api.Entry{a})), b}, 1, api.ErrChain},
		{[]api.Entry{a, b, seal, sealBy(3, hashBy([]api.Entry{a, b, seal}))}, 3, api.ErrChain},
		{[]api.Entry{a, b, seal, a, b, seal}, 5, api.ErrChain},
		{[]api.Entry{a, b, seal, a, b, c}, 5, api.ErrChain},
		{[]api.Entry{a, b, sealBy(1<<32+2, seal.Hash)}, 2, api.ErrChain},
	} {
		if k, n, e := chain.Load(test.l, 2); k != nil || n != test.index || e != test.e {
			t.Errorf("Load(%+v, 2) = %v %d %v; want %d %v", test.l, k, n, e, test.index, test.e)
		}
	}
	for _, x := range wrong() {
		load(t, []api.Entry{a, x}, 2)
		load(t, []api.Entry{a, b, x}, 2)
		load(t, []api.Entry{a, b, seal, x, c}, 2)
	}
}

// P16.2, P16.6: each byte of a valid list counts: with an entry changed, taken out, put in or moved, what Load answers is by the chapter's words.
func TestLoadChanged(t *testing.T) {
	r := source()
	for every := 1; every <= 4; every++ {
		k := newChain(t, every)
		var l []api.Entry
		for range 11 {
			l = mustAppend(t, k, l, every, plain(r))
		}
		for i := range l {
			changed := slices.Clone(l)
			changed[i] = plain(r)
			load(t, changed, every)
			spoiled := slices.Clone(l)
			spoiled[i].Seq ^= 1
			load(t, spoiled, every)
			spoiled[i] = l[i]
			spoiled[i].Hash[i] ^= 1
			load(t, spoiled, every)
			load(t, slices.Delete(slices.Clone(l), i, i+1), every)
			load(t, slices.Insert(slices.Clone(l), i, plain(r)), every)
			load(t, slices.Insert(slices.Clone(l), i, l[i]), every)
			load(t, l[i:], every)
			for other := 1; other <= 6; other++ {
				load(t, l, other)
			}
		}
	}
}

// P16.3: what is refused, and that it changes nothing, whether a seal is due or not: the very seal that is due is refused too.
func TestAppendRefused(t *testing.T) {
	r := source()
	for every := 1; every <= 3; every++ {
		k := newChain(t, every)
		var l []api.Entry
		for range 10 {
			for _, x := range wrong() {
				refused(t, k, l, every, x)
			}
			seal := sealBy(uint64(len(l)), hashBy(l))
			refused(t, k, l, every, seal)
			refused(t, k, l, every, sealBy(uint64(len(l)+1), chain.Next(seal.Hash, []byte{5})))
			refused(t, k, l, every, sealBy(0, api.Hash{}))
			if x, is := k.Due(); is {
				refused(t, k, l, every, x)
				next := append(slices.Clone(l), x)
				refused(t, k, l, every, sealBy(uint64(len(next)), hashBy(next)))
			}
			l = mustAppend(t, k, l, every, plain(r))
			check(t, k, l, every)
		}
	}
}

// P16.2, P16.3, P16.4, P16.6: any calls in any order; what is appended is a valid list, all its prefixes are loaded, and the chain that Load returns goes on like the first one.
func TestAny(t *testing.T) {
	r := source()
	for range 60 {
		every := 1 + r.IntN(5)
		k := newChain(t, every)
		var l []api.Entry
		for range 40 {
			switch r.IntN(8) {
			case 0:
				refused(t, k, l, every, wrong()[r.IntN(len(wrong()))])
			case 1:
				refused(t, k, l, every, sealBy(uint64(len(l)), hashBy(l)))
			case 2:
				k = load(t, l, every)
			case 3:
				k = k.Copy()
			default:
				l = mustAppend(t, k, l, every, plain(r))
			}
			check(t, k, l, every)
		}
		for i := range len(l) + 1 {
			again := load(t, l[:i], every)
			if again == nil {
				t.Fatalf("Load of the first %d of %+v, every %d", i, l, every)
			}
			rest := l[:i:i]
			for _, x := range l[i:] {
				if !isSeal(x) {
					rest = mustAppend(t, again, rest, every, x)
				}
			}
			if !slices.Equal(rest, l) {
				t.Fatalf("%+v from its first %d on, every %d: %+v", l, i, every, rest)
			}
			check(t, again, l, every)
		}
	}
}

// P16.2, P16.3: a list that ends with the seal that was due, and one that ends ahead of it: the next entry is the same in both.
func TestSealAtTheEnd(t *testing.T) {
	seal := sealBy(2, hashBy([]api.Entry{a, b}))
	open, closed := load(t, []api.Entry{a, b}, 2), load(t, []api.Entry{a, b, seal}, 2)
	if x, due := open.Due(); !due || x != seal || open.Since() != 2 {
		t.Errorf("Due of a b = %+v %v, Since %d", x, due, open.Since())
	}
	if x, due := closed.Due(); due || x != (api.Entry{}) || closed.Since() != 0 {
		t.Errorf("Due of a b seal = %+v %v, Since %d", x, due, closed.Since())
	}
	if got, e := open.Append(c); e != api.OK || !slices.Equal(got, []api.Entry{seal, c}) {
		t.Errorf("Append to a b = %+v %v", got, e)
	}
	if got, e := closed.Append(c); e != api.OK || !slices.Equal(got, []api.Entry{c}) {
		t.Errorf("Append to a b seal = %+v %v", got, e)
	}
	if open.Head() != closed.Head() || open.Head() != hashOf(abSealC) {
		t.Errorf("heads %x and %x", open.Head(), closed.Head())
	}
}

// P16.2, P16.3: the greatest distance, and the one below it: the seal comes after exactly as many entries.
func TestGreatestEvery(t *testing.T) {
	for _, every := range []int{mostEvery - 1, mostEvery} {
		k := newChain(t, every)
		var l []api.Entry
		for n := range 2*every + 1 {
			x, e := k.Append(api.Entry{Kind: 2, Count: uint32(n)})
			if seals := n > 0 && n%every == 0; e != api.OK || seals != (len(x) == 2) || !seals && len(x) != 1 {
				t.Fatalf("entry %d, every %d: %+v %v", n, every, x, e)
			}
			l = append(l, x...)
			if _, due := k.Due(); due != ((n+1)%every == 0) || k.Since() != n%every+1 {
				t.Fatalf("after entry %d, every %d: Due %v, Since %d", n, every, due, k.Since())
			}
		}
		for _, place := range []int{every, 2*every + 1} {
			if seal := l[place]; seal != sealBy(uint64(place), hashBy(l[:place])) {
				t.Fatalf("the seal at %d is %+v", place, seal)
			}
		}
		check(t, k, l, every)
		again, n, e := chain.Load(l, every)
		if e != api.OK || n != len(l) {
			t.Fatalf("Load, every %d: %d %v", every, n, e)
		}
		check(t, again, l, every)
		for _, cut := range []int{every - 1, every, every + 1} {
			load(t, l[:cut], every)
		}
		if k, n, e := chain.Load(slices.Delete(slices.Clone(l), every, every+1), every); k != nil || n != every || e != api.ErrChain {
			t.Fatalf("Load without the first seal, every %d: %d %v", every, n, e)
		}
		if k, n, e := chain.Load(slices.Delete(slices.Clone(l), 0, 1), every); k != nil || n != every-1 || e != api.ErrChain {
			t.Fatalf("Load without the first entry, every %d: %d %v", every, n, e)
		}
	}
}

// The section "Types": chains that this package did not create.
func TestOtherChains(t *testing.T) {
	for _, k := range []*chain.Chain{nil, new(chain.Chain), {}} {
		for range 2 {
			for _, x := range append(wrong(), a, b, sealBy(0, api.Hash{})) {
				if l, e := k.Append(x); l != nil || e != api.ErrNil {
					t.Fatalf("Append(%+v) = %+v %v; want ErrNil", x, l, e)
				}
			}
			if x, is := k.Due(); is || x != (api.Entry{}) {
				t.Errorf("Due = %+v %v", x, is)
			}
			if x, is := k.Seal(); is || x != (api.Entry{}) {
				t.Errorf("Seal = %+v %v", x, is)
			}
			if k.Head() != (api.Hash{}) || k.Len() != 0 || k.Since() != 0 {
				t.Errorf("Head %x, Len %d, Since %d", k.Head(), k.Len(), k.Since())
			}
			if k.Copy() != nil {
				t.Error("Copy is not nil")
			}
		}
	}
}

// P16.4: a copy and its origin are independent of each other, at each length.
func TestCopy(t *testing.T) {
	r := source()
	for every := 1; every <= 3; every++ {
		k := newChain(t, every)
		var l []api.Entry
		for range 8 {
			other := k.Copy()
			if other == k || !reflect.DeepEqual(other, k) {
				t.Fatalf("Copy of %+v = %+v", k, other)
			}
			mine := slices.Clone(l)
			for range every + 1 {
				mine = mustAppend(t, other, mine, every, plain(r))
			}
			check(t, k, l, every)
			check(t, other, mine, every)
			l = mustAppend(t, k, l, every, plain(r))
			check(t, other, mine, every)
			check(t, k, l, every)
		}
	}
}

// P16.5: what is returned shares no memory with another answer, and no argument is retained.
func TestMemory(t *testing.T) {
	l := []api.Entry{a, b, sealBy(2, hashBy([]api.Entry{a, b})), c, a}
	kept := slices.Clone(l)
	k := load(t, l, 2)
	for i := range l {
		l[i] = api.Entry{Kind: 7}
	}
	check(t, k, kept, 2)
	first, e := k.Copy().Append(b)
	second, f := k.Append(b)
	if e != api.OK || f != api.OK || !slices.Equal(first, second) || len(first) != 2 {
		t.Fatalf("%+v %v, %+v %v", first, e, second, f)
	}
	kept = append(kept, second...)
	for _, got := range [][]api.Entry{first, second} {
		whole := append(got, c, c)[:cap(got)]
		for i := range whole {
			whole[i] = api.Entry{Kind: 8}
		}
		for i := range got {
			got[i] = api.Entry{Kind: 9}
		}
	}
	check(t, k, kept, 2)
	third := mustAppend(t, k, kept, 2, c)
	check(t, k, third, 2)
	long := []byte("abcdef")
	if h := chain.Next(api.Hash{}, long[:3]); h != sha256.Sum256(append(make([]byte, 32), "abc"...)) || string(long) != "abcdef" {
		t.Errorf("Next made %q of its argument's memory", long)
	}
}

// P16.6: of two valid lists for the same distance with the same entries that are not seals one is a prefix of the other.
func TestPrefixes(t *testing.T) {
	for every := 1; every <= 3; every++ {
		valid := map[string][][]api.Entry{}
		key := func(l []api.Entry) string {
			var all []byte
			for _, x := range l {
				if !isSeal(x) {
					b, _ := entry.Bytes(x)
					all = append(all, b...)
				}
			}
			return string(all)
		}
		var walk func(l []api.Entry, depth int)
		walk = func(l []api.Entry, depth int) {
			if _, _, e := chain.Load(l, every); e != api.OK {
				return
			}
			valid[key(l)] = append(valid[key(l)], l)
			if depth == 0 {
				return
			}
			for _, x := range candidates(l) {
				walk(append(slices.Clone(l), x), depth-1)
			}
		}
		walk(nil, 9)
		pairs := 0
		for _, lists := range valid {
			for i, l := range lists {
				for _, m := range lists[:i] {
					pairs++
					short := min(len(l), len(m))
					if !slices.Equal(l[:short], m[:short]) || len(l) == len(m) {
						t.Fatalf("%+v and %+v are both valid, every %d", l, m, every)
					}
				}
			}
		}
		if pairs == 0 {
			t.Fatalf("no two lists, every %d", every)
		}
	}
}

// P16.3, P16.6: entries of all kinds but seals, each followed by its seal: every entry's bytes go into the hash, the seals' too.
func TestKinds(t *testing.T) {
	entries := []api.Entry{b, a, {Kind: 3, Meter: 63, Start: 253402300799, Count: math.MaxUint32, Seq: math.MaxUint64, Hash: api.Hash{31: 255}}, c, {Kind: 1}}
	k := newChain(t, 1)
	var h api.Hash
	for i, x := range entries {
		got, e := k.Append(x)
		if e != api.OK || len(got) != min(i, 1)+1 || got[len(got)-1] != x {
			t.Fatalf("Append(%+v) = %+v %v", x, got, e)
		}
		for _, y := range got {
			if isSeal(y) && (y.Hash != h || y.Seq != uint64(2*i-1)) {
				t.Fatalf("the seal ahead of entry %d is %+v; want %x", i, y, h)
			}
			all, _ := entry.Bytes(y)
			h = sha256.Sum256(slices.Concat(h[:], all))
		}
		if k.Head() != h {
			t.Fatalf("Head after entry %d = %x; want %x", i, k.Head(), h)
		}
	}
}
