package journal_test

import (
	"bytes"
	"encoding/binary"
	"fmt"
	"hash/crc32"
	"math"
	"math/rand/v2"
	"reflect"
	"slices"
	"testing"

	"kilowatt/api"
	"kilowatt/blockdev"
	"kilowatt/journal"
)

const (
	size       = 128   // bytes of a sector
	mostCache  = 256   // writes
	mostPlaces = 65536 // sectors
	most       = 4096  // bytes of a record
	ahead      = 6     // bytes of a frame ahead of its record
)

func source() *rand.Rand { return rand.New(rand.NewPCG(141, 142)) }

// framed is the frame of a record by the words of layer 13.
func framed(record []byte) []byte {
	length := binary.BigEndian.AppendUint16(nil, uint16(len(record)))
	sum := crc32.ChecksumIEEE(slices.Concat(length, record))
	return slices.Concat(length, binary.BigEndian.AppendUint32(nil, sum), record)
}

func concatenated(l [][]byte) []byte {
	var b []byte
	for _, record := range l {
		b = append(b, framed(record)...)
	}
	return b
}

// recordsIn are the records of frames without gaps, or false.
func recordsIn(b []byte) ([][]byte, bool) {
	var l [][]byte
	for len(b) > 0 {
		if len(b) < ahead {
			return nil, false
		}
		n := int(binary.BigEndian.Uint16(b))
		if n < 1 || n > most || len(b) < ahead+n || !bytes.HasPrefix(b, framed(b[ahead:ahead+n])) {
			return nil, false
		}
		l, b = append(l, slices.Clone(b[ahead:ahead+n])), b[ahead+n:]
	}
	return l, true
}

// superblock is one by the chapter's words, with the numbers at both ends.
func superblock(number, end, again uint64) []byte {
	b := binary.BigEndian.AppendUint64(nil, number)
	b = binary.BigEndian.AppendUint64(b, end)
	return binary.BigEndian.AppendUint64(append(b, make([]byte, size-24)...), again)
}

// state is what a journal has by the chapter's words.
type state struct {
	records, waiting [][]byte
	tried            [][]byte // the records of a commit that failed
	place            int
	number, top      uint64
	broken           api.Errno
}

// opened is what Open answers by the chapter's words.
func opened(d *blockdev.Device) (state, api.Errno) {
	switch {
	case d == nil || d.Len() == 0:
		return state{}, api.ErrNil
	case d.Down():
		return state{}, api.ErrDown
	case d.Len() < 4:
		return state{}, api.ErrArg
	}
	var numbers []uint64
	var all []byte
	for n := range d.Len() {
		b, _ := d.Read(n)
		if n < 2 {
			numbers = append(numbers, binary.BigEndian.Uint64(b), binary.BigEndian.Uint64(b[size-8:]))
		}
		all = append(all, b...)
	}
	var s state
	switch valid0, valid1 := numbers[0] == numbers[1], numbers[2] == numbers[3]; {
	case !valid0 && !valid1:
		return state{}, api.ErrLog
	case !valid0, valid1 && numbers[2] > numbers[0]:
		s.place = 1
	}
	s.number, s.top = numbers[2*s.place], slices.Max(numbers)
	end := binary.BigEndian.Uint64(all[s.place*size+8:])
	log := all[2*size:]
	if end > uint64(len(log)) {
		return state{}, api.ErrLog
	}
	var whole bool
	if s.records, whole = recordsIn(log[:end]); !whole {
		return state{}, api.ErrLog
	}
	if s.top == math.MaxUint64 {
		return state{}, api.ErrFull
	}
	return s, api.OK
}

func (s *state) room(sectors int) int {
	return (sectors-2)*size - len(concatenated(s.records)) - len(concatenated(s.waiting))
}

func (s *state) append(b []byte, sectors int) api.Errno {
	switch {
	case s.broken != api.OK:
		return s.broken
	case len(b) < 1 || len(b) > most:
		return api.ErrArg
	case ahead+len(b) > s.room(sectors):
		return api.ErrFull
	}
	s.waiting = append(s.waiting, slices.Clone(b))
	return api.OK
}

// commit does what the chapter says of a commit, step by step, with a device.
func (s *state) commit(d *blockdev.Device) api.Errno {
	if s.broken != api.OK || len(s.waiting) == 0 {
		return s.broken
	}
	write := func(n int, b []byte) {
		if s.broken != api.OK {
			return
		}
		if s.broken = d.Write(n, b); s.broken != api.ErrCache {
			return
		}
		if s.broken = d.Flush(); s.broken == api.OK {
			s.broken = d.Write(n, b)
		}
	}
	flush := func() {
		if s.broken == api.OK {
			s.broken = d.Flush()
		}
	}
	s.tried = s.waiting
	old := len(concatenated(s.records))
	log := concatenated(slices.Concat(s.records, s.waiting))
	padded := slices.Concat(log, make([]byte, size))
	for n := old / size; n*size < len(log); n++ {
		write(2+n, padded[n*size:(n+1)*size])
	}
	flush()
	number := s.top + 1
	write(1-s.place, superblock(number, uint64(len(log)), number))
	flush()
	if s.broken == api.OK {
		*s = state{records: slices.Concat(s.records, s.waiting), place: 1 - s.place, number: number, top: number}
	}
	return s.broken
}

func same(l, m [][]byte) bool { return slices.EqualFunc(l, m, bytes.Equal) }

// is checks the error of a call.
func is(t *testing.T, call string, got, want api.Errno) {
	t.Helper()
	if got != want {
		t.Fatalf("%s = %v, not %v", call, got, want)
	}
}

// agrees checks all that a journal tells of itself.
func agrees(t *testing.T, j *journal.Journal, want *state, sectors int) {
	t.Helper()
	if got := j.Records(); !same(got, want.records) {
		t.Fatalf("Records() = %d of them %.300v, not %d of them %.300v", len(got), got, len(want.records), want.records)
	}
	if got := j.Waiting(); !same(got, want.waiting) {
		t.Fatalf("Waiting() = %d of them %.300v, not %d of them %.300v", len(got), got, len(want.waiting), want.waiting)
	}
	if got := j.Len(); got != len(want.records) {
		t.Fatalf("Len() = %d, not %d", got, len(want.records))
	}
	if got := j.Room(); got != want.room(sectors) {
		t.Fatalf("Room() = %d, not %d", got, want.room(sectors))
	}
	if got := j.Number(); got != want.number {
		t.Fatalf("Number() = %d, not %d", got, want.number)
	}
	is(t, "Broken", j.Broken(), want.broken)
}

// equal checks that two devices are in the same state, as far as they tell of it.
func equal(t *testing.T, d, want *blockdev.Device) {
	t.Helper()
	if d.Down() != want.Down() || d.Calls() != want.Calls() || !slices.Equal(d.Cached(), want.Cached()) {
		t.Fatalf("Down %v, Calls %d, Cached %v, not %v %d %v", d.Down(), d.Calls(), d.Cached(), want.Down(), want.Calls(), want.Cached())
	}
	for n := range want.Len() {
		b, _ := d.Read(n)
		c, _ := want.Read(n)
		if !bytes.Equal(b, c) {
			t.Fatalf("sector %d is %v, not %v", n, b, c)
		}
		b, _ = d.Safe(n)
		c, _ = want.Safe(n)
		if !bytes.Equal(b, c) {
			t.Fatalf("the durable sector %d is %v, not %v", n, b, c)
		}
	}
}

func device(t *testing.T, sectors int) *blockdev.Device {
	t.Helper()
	d, e := blockdev.New(sectors)
	is(t, "New", e, api.OK)
	return d
}

// put writes sectors, from place on, with those bytes, and zeros behind them.
func put(t *testing.T, d *blockdev.Device, place int, b []byte) {
	t.Helper()
	b = slices.Concat(b, make([]byte, (size-len(b)%size)%size))
	for c := range slices.Chunk(b, size) {
		e := d.Write(place, c)
		if e == api.ErrCache {
			is(t, "Flush", d.Flush(), api.OK)
			e = d.Write(place, c)
		}
		is(t, "Write", e, api.OK)
		place++
	}
}

// open opens a device of which the chapter says that it has a log, and leaves the device as it is.
func open(t *testing.T, d *blockdev.Device) (*journal.Journal, state) {
	t.Helper()
	want, e := opened(d)
	is(t, "the chapter's Open", e, api.OK)
	before := d.Copy()
	j, e := journal.Open(d)
	is(t, "Open", e, api.OK)
	agrees(t, j, &want, d.Len())
	equal(t, d, before)
	return j, want
}

// closed checks that Open has that error, and nothing beside it, and that it leaves the device as it is.
func closed(t *testing.T, d *blockdev.Device, want api.Errno) {
	t.Helper()
	_, e := opened(d)
	is(t, "the chapter's Open", e, want)
	before := d.Copy()
	if j, e := journal.Open(d); j != nil || e != want {
		t.Fatalf("Open = %v %v, not %v", j, e, want)
	}
	if before != nil {
		equal(t, d, before)
	}
}

// both appends to a journal and to what it should be.
func both(t *testing.T, j *journal.Journal, s *state, b []byte, sectors int) api.Errno {
	t.Helper()
	want := s.append(b, sectors)
	is(t, fmt.Sprintf("Append of %d bytes", len(b)), j.Append(b), want)
	agrees(t, j, s, sectors)
	return want
}

// commits commits a journal and, with a copy of its device, what it should be; the devices must be equal afterwards.
func commits(t *testing.T, j *journal.Journal, s *state, d *blockdev.Device) api.Errno {
	t.Helper()
	c := d.Copy()
	want := s.commit(c)
	is(t, "Commit", j.Commit(), want)
	equal(t, d, c)
	agrees(t, j, s, d.Len())
	return want
}

// crash makes the device go down and come up again.
func crash(t *testing.T, d *blockdev.Device, c api.Crash) {
	t.Helper()
	is(t, "Pull", d.Pull(), api.OK)
	is(t, "Restart", d.Restart(c), api.OK)
}

// The chapter's examples.
func TestExamples(t *testing.T) {
	d := device(t, 4)
	j, e := journal.Open(d)
	is(t, "Open", e, api.OK)
	if j.Room() != 256 {
		t.Error(j.Room())
	}
	is(t, "Append", j.Append([]byte("ab")), api.OK)
	if j.Room() != 248 || j.Len() != 0 {
		t.Error(j.Room(), j.Len())
	}
	is(t, "Commit", j.Commit(), api.OK)
	if j.Len() != 1 || j.Number() != 1 {
		t.Error(j.Len(), j.Number())
	}
	is(t, "Append", j.Append(make([]byte, 300)), api.ErrFull)
	is(t, "Append", j.Append([]byte("c")), api.OK)
	if n := j.Forget(); n != 1 {
		t.Error(n)
	}
	is(t, "Commit", j.Commit(), api.OK)
	if j.Number() != 1 {
		t.Error(j.Number())
	}
	closed(t, device(t, 3), api.ErrArg)
	d = device(t, 4)
	put(t, d, 1, []byte{1})
	put(t, d, 0, []byte{2})
	closed(t, d, api.ErrLog)
}

// P14.1: devices that are none, that are down, or that are too small, the errors in their order.
func TestOpenDevice(t *testing.T) {
	closed(t, nil, api.ErrNil)
	closed(t, new(blockdev.Device), api.ErrNil)
	for n := 1; n <= 8; n++ {
		d := device(t, n)
		if n < 4 {
			closed(t, d, api.ErrArg)
		} else {
			open(t, d)
		}
		is(t, "Pull", d.Pull(), api.OK)
		closed(t, d, api.ErrDown)
		is(t, "Restart", d.Restart(api.Crash{}), api.OK)
		for place := range min(n, 2) {
			put(t, d, place, superblock(7, 0, 8))
		}
		if n < 4 {
			closed(t, d, api.ErrArg)
		} else {
			closed(t, d, api.ErrLog)
		}
		is(t, "Pull", d.Pull(), api.OK)
		closed(t, d, api.ErrDown)
	}
}

// P14.1, P14.3: which superblock is valid, which is current, what else makes a device no log, and the numbers that are too great; all of it also unflushed, as a sector's contents are what was written last.
func TestOpenSuperblocks(t *testing.T) {
	records := [][]byte{[]byte("one"), []byte("two"), bytes.Repeat([]byte{7}, 300)}
	ends := []uint64{0, 9, 18, 324, // whole frames
		1, 8, 10, 17, 19, 323, 325, 383, 384, // no whole number of frames
		385, 512, 1 << 16, 1 << 32, 1<<63 - 1, 1 << 63, 1<<63 + 9, math.MaxUint64 - 8, math.MaxUint64}
	numbers := []uint64{0, 1, 2, 255, 256, 1<<32 + 1, 1<<63 - 1, 1 << 63, math.MaxUint64 - 1, math.MaxUint64}
	base := device(t, 5)
	put(t, base, 2, concatenated(records))
	r := source()
	seen := map[api.Errno]int{}
	for i := range 6000 {
		d := base.Copy()
		n := [4]uint64{}
		for k := range n {
			n[k] = numbers[r.IntN(len(numbers))]
		}
		if i%2 == 0 {
			n[1] = n[0]
		}
		if i%4 < 2 {
			n[3] = n[2]
		}
		for place := range 2 {
			b := superblock(n[2*place], ends[r.IntN(len(ends))/(1+i%3)], n[2*place+1])
			if i%5 == 0 { // what stands where the zeros are decides nothing
				b[16+r.IntN(size-24)] = byte(r.Uint32())
			}
			put(t, d, place, b)
		}
		if i%7 == 0 {
			is(t, "Flush", d.Flush(), api.OK)
		}
		_, e := opened(d)
		seen[e]++
		if e == api.OK {
			open(t, d)
		} else {
			closed(t, d, e)
		}
	}
	for _, e := range []api.Errno{api.OK, api.ErrLog, api.ErrFull} {
		if seen[e] < 100 {
			t.Errorf("%v was seen %d times", e, seen[e])
		}
	}
}

// P14.1: one of the four numbers that is the greatest makes a log full, wherever it stands, but not one that is no log.
func TestOpenFull(t *testing.T) {
	for at := range 4 {
		for _, number := range []uint64{math.MaxUint64 - 1, math.MaxUint64} {
			n := [4]uint64{3, 3, 3, 3}
			n[at] = number
			d := device(t, 4)
			put(t, d, 0, superblock(n[0], 0, n[1]))
			put(t, d, 1, superblock(n[2], 0, n[3]))
			if number == math.MaxUint64 {
				closed(t, d, api.ErrFull)
				put(t, d, 0, superblock(n[0], 1, n[1]))
				put(t, d, 1, superblock(n[2], 1, n[3]))
				closed(t, d, api.ErrLog)
				put(t, d, 1-at/2, superblock(4, 0, 5))
				closed(t, d, api.ErrLog)
				continue
			}
			// The next commit has the greatest number, then: above the one in a sector that is not valid, too.
			j, s := open(t, d)
			both(t, j, &s, []byte("x"), 4)
			commits(t, j, &s, d)
			if j.Number() != math.MaxUint64 {
				t.Error(j.Number())
			}
			closed(t, d, api.ErrFull)
		}
	}
}

// P14.2: numbers are counted modulo 2^64.
func TestWrap(t *testing.T) {
	for place := range 2 {
		d := device(t, 6)
		put(t, d, place, superblock(math.MaxUint64-1, 0, math.MaxUint64-1))
		j, s := open(t, d)
		for _, number := range []uint64{math.MaxUint64, 0, 1, 2} {
			both(t, j, &s, []byte{byte(number)}, 6)
			is(t, "Commit", commits(t, j, &s, d), api.OK)
			if j.Number() != number {
				t.Fatalf("Number() = %d, not %d", j.Number(), number)
			}
			place = 1 - place
			b, _ := d.Safe(place)
			if end := uint64(7 * j.Len()); !bytes.Equal(b, superblock(number, end, number)) {
				t.Fatalf("sector %d is %v", place, b)
			}
		}
		open(t, d)
	}
}

// P14.1: the durable bytes are frames without gaps; those behind them decide nothing.
func TestOpenLog(t *testing.T) {
	records := [][]byte{[]byte("abc"), bytes.Repeat([]byte{1}, 130), []byte("d")}
	log := concatenated(records)
	for end := range 4*size + 2 {
		d := device(t, 6)
		put(t, d, 2, log)
		put(t, d, 1, superblock(1, uint64(end), 1))
		switch end {
		case 0, 9, 145, 152:
			j, _ := open(t, d)
			if n := j.Len(); n != map[int]int{0: 0, 9: 1, 145: 2, 152: 3}[end] {
				t.Errorf("%d records up to %d", n, end)
			}
		default:
			closed(t, d, api.ErrLog)
		}
	}
	// Each byte changed, ahead of the end and behind it.
	for at := range 2 * size {
		bytes := slices.Concat(log, make([]byte, 2*size-len(log)))
		bytes[at] ^= 1 << (at % 8)
		d := device(t, 6)
		put(t, d, 2, bytes)
		put(t, d, 0, superblock(1, uint64(len(log)), 1))
		if at < len(log) {
			closed(t, d, api.ErrLog)
		} else if j, _ := open(t, d); !same(j.Records(), records) {
			t.Error(at, j.Records())
		}
	}
	// A log that fills the device.
	d := device(t, 6)
	put(t, d, 2, framed(make([]byte, 4*size-ahead)))
	put(t, d, 0, superblock(1, 4*size, 1))
	j, s := open(t, d)
	both(t, j, &s, []byte("a"), 6)
	if j.Len() != 1 || j.Room() != 0 {
		t.Error(j.Len(), j.Room())
	}
}

// P14.2: what is a record, and what there is room for, the errors in their order.
func TestAppend(t *testing.T) {
	const sectors = 70 // a room of 8704 bytes
	j, s := open(t, device(t, sectors))
	for _, n := range []int{0, most + 1, most + 2, 65535, 65536, 65537} {
		is(t, "Append", both(t, j, &s, make([]byte, n), sectors), api.ErrArg)
	}
	is(t, "Append", both(t, j, &s, nil, sectors), api.ErrArg)
	for _, n := range []int{1, most, 2, most - 1} {
		is(t, "Append", both(t, j, &s, bytes.Repeat([]byte{byte(n)}, n), sectors), api.OK)
	}
	left := j.Room()
	is(t, "Append", both(t, j, &s, make([]byte, left-ahead+1), sectors), api.ErrFull)
	is(t, "Append", both(t, j, &s, make([]byte, most+1), sectors), api.ErrArg)
	is(t, "Append", both(t, j, &s, make([]byte, left-ahead-7), sectors), api.OK)
	is(t, "Append", both(t, j, &s, make([]byte, 2), sectors), api.ErrFull)
	is(t, "Append", both(t, j, &s, make([]byte, 1), sectors), api.OK)
	is(t, "Append", both(t, j, &s, make([]byte, 1), sectors), api.ErrFull)
	is(t, "Append", both(t, j, &s, nil, sectors), api.ErrArg)
	if j.Room() != 0 {
		t.Error(j.Room())
	}
	for range 2 {
		want := len(s.waiting)
		s.waiting = nil
		if n := j.Forget(); n != want {
			t.Errorf("Forget() = %d, not %d", n, want)
		}
		agrees(t, j, &s, sectors)
	}
	is(t, "Append", both(t, j, &s, make([]byte, most), sectors), api.OK)
}

// P14.2: the calls of a commit, by the places of the frames in the sectors.
func TestCommit(t *testing.T) {
	for first := range 2*size + 2 {
		for _, second := range []int{1, size - ahead - 1, size - ahead, size - ahead + 1, 2*size - ahead, 300} {
			d := device(t, 8)
			j, s := open(t, d)
			if first > 0 {
				both(t, j, &s, bytes.Repeat([]byte{1}, first), 8)
				is(t, "Commit", commits(t, j, &s, d), api.OK)
			}
			both(t, j, &s, bytes.Repeat([]byte{2}, second), 8)
			both(t, j, &s, []byte{3}, 8)
			// The sectors wait in the cache when the flush behind them fails.
			writes := (len(concatenated(slices.Concat(s.records, s.waiting)))+size-1)/size - len(concatenated(s.records))/size
			broken := d.Copy()
			k, q := open(t, broken)
			for _, b := range s.waiting {
				both(t, k, &q, b, 8)
			}
			is(t, "Plan", broken.Plan(writes+1), api.OK)
			is(t, "Commit", commits(t, k, &q, broken), api.ErrDown)
			if n := len(broken.Cached()); n != writes {
				t.Fatalf("%d sectors written, not %d", n, writes)
			}
			is(t, "Commit", commits(t, j, &s, d), api.OK)
			is(t, "Commit", commits(t, j, &s, d), api.OK)
			open(t, d)
		}
	}
}

// P14.2: without waiting records nothing happens, also with a device that is down.
func TestCommitNothing(t *testing.T) {
	d := device(t, 4)
	j, s := open(t, d)
	is(t, "Pull", d.Pull(), api.OK)
	is(t, "Commit", commits(t, j, &s, d), api.OK)
	is(t, "Append", both(t, j, &s, []byte("a"), 4), api.OK)
	s.waiting = nil
	if n := j.Forget(); n != 1 {
		t.Error(n)
	}
	is(t, "Commit", commits(t, j, &s, d), api.OK)
	is(t, "Restart", d.Restart(api.Crash{}), api.OK)
	is(t, "Append", both(t, j, &s, []byte("b"), 4), api.OK)
	is(t, "Commit", commits(t, j, &s, d), api.OK)
}

// P14.2: a full cache is flushed, and the same write made again, whichever write of a commit finds it full.
func TestCommitCache(t *testing.T) {
	for _, cached := range []int{0, 1, mostCache - 4, mostCache - 3, mostCache - 2, mostCache - 1, mostCache} {
		for plan := range 10 {
			d := device(t, 12)
			j, s := open(t, d)
			for k := range cached {
				put(t, d, 11, []byte{byte(k)})
			}
			both(t, j, &s, bytes.Repeat([]byte{9}, 300), 12)
			is(t, "Plan", d.Plan(plan), api.OK)
			commits(t, j, &s, d)
		}
	}
}

// P14.2, P14.5: a commit of more sectors than a cache holds, with a crash at each of its later calls.
func TestCommitMany(t *testing.T) {
	const sectors = 3*mostCache + 30
	d := device(t, sectors)
	j, s := open(t, d)
	for k := range 24 {
		both(t, j, &s, bytes.Repeat([]byte{byte(k)}, most), sectors)
	}
	for at := 1; at < 780; at += 53 {
		c := d.Copy()
		k, q := open(t, c)
		for _, b := range s.waiting {
			is(t, "Append", k.Append(b), api.OK)
			q.append(b, sectors)
		}
		is(t, "Plan", c.Plan(at), api.OK)
		commits(t, k, &q, c)
		crash(t, c, api.Crash{Keep: []byte{0x5a, 0xff, 0x11}, Torn: at % 7, At: at % size})
		if k, _ := open(t, c); k.Len() != 0 && k.Len() != 24 {
			t.Fatalf("%d records after a crash at call %d", k.Len(), at)
		}
	}
	is(t, "Commit", commits(t, j, &s, d), api.OK)
	open(t, d)
}

// P14.2, P14.3: the largest device, filled in one commit.
func TestLargest(t *testing.T) {
	d := device(t, mostPlaces)
	j, e := journal.Open(d)
	is(t, "Open", e, api.OK)
	n := 0
	for ; j.Room() >= ahead+most; n++ {
		is(t, "Append", j.Append(bytes.Repeat([]byte{byte(n)}, most)), api.OK)
	}
	last := j.Room() - ahead
	is(t, "Append", j.Append(make([]byte, last+1)), api.ErrFull)
	is(t, "Append", j.Append(make([]byte, last)), api.OK)
	is(t, "Commit", j.Commit(), api.OK)
	k, e := journal.Open(d)
	is(t, "Open", e, api.OK)
	if k.Len() != n+1 || k.Room() != 0 || len(k.Records()[n]) != last {
		t.Error(k.Len(), k.Room())
	}
}

// P14.2: many small records, one commit for each.
func TestSmall(t *testing.T) {
	const sectors = 200
	d := device(t, sectors)
	j, _ := open(t, d)
	n := 0
	for ; j.Append([]byte{byte(n)}) == api.OK; n++ {
		is(t, "Commit", j.Commit(), api.OK)
	}
	if n != 198*size/7 || j.Number() != uint64(n) {
		t.Error(n, j.Number())
	}
	k, _ := open(t, d)
	for i, b := range k.Records() {
		if !bytes.Equal(b, []byte{byte(i)}) {
			t.Fatal(i, b)
		}
	}
}

// P14.2: the error by which a journal is broken goes ahead of the others, and what it has stays.
func TestBroken(t *testing.T) {
	for at := 1; at <= 4; at++ {
		d := device(t, 6)
		j, s := open(t, d)
		both(t, j, &s, []byte("first"), 6)
		is(t, "Commit", commits(t, j, &s, d), api.OK)
		both(t, j, &s, []byte("second"), 6)
		is(t, "Plan", d.Plan(at), api.OK)
		is(t, "Commit", commits(t, j, &s, d), api.ErrDown)
		is(t, "Broken", j.Broken(), api.ErrDown)
		if j.Len() != 1 || len(j.Waiting()) != 1 || j.Number() != 1 {
			t.Error(j.Len(), j.Waiting(), j.Number())
		}
		is(t, "Restart", d.Restart(api.Crash{Torn: -1}), api.OK)
		for _, b := range [][]byte{nil, []byte("x"), make([]byte, most), make([]byte, most+1)} {
			is(t, "Append", both(t, j, &s, b, 6), api.ErrDown)
		}
		is(t, "Commit", commits(t, j, &s, d), api.ErrDown)
		s.waiting = nil
		if n := j.Forget(); n != 1 {
			t.Error(n)
		}
		agrees(t, j, &s, 6)
		// Still without waiting records.
		is(t, "Commit", commits(t, j, &s, d), api.ErrDown)
		k, q := open(t, d)
		both(t, k, &q, []byte("third"), 6)
		is(t, "Commit", commits(t, k, &q, d), api.OK)
	}
	// A device that is no device any more.
	d := device(t, 6)
	j, _ := open(t, d)
	is(t, "Append", j.Append([]byte("x")), api.OK)
	*d = blockdev.Device{}
	is(t, "Commit", j.Commit(), api.ErrNil)
	is(t, "Broken", j.Broken(), api.ErrNil)
}

// P14.1 to P14.3: a nil Journal, and one that Open did not create.
func TestOther(t *testing.T) {
	for _, j := range []*journal.Journal{nil, {}, new(journal.Journal)} {
		for range 2 {
			is(t, "Append", j.Append([]byte("a")), api.ErrNil)
			is(t, "Append", j.Append(nil), api.ErrNil)
			is(t, "Commit", j.Commit(), api.ErrNil)
			is(t, "Broken", j.Broken(), api.ErrNil)
			if j.Forget() != 0 || j.Records() != nil || j.Waiting() != nil || j.Len() != 0 || j.Room() != 0 || j.Number() != 0 {
				t.Error(j.Forget(), j.Records(), j.Waiting(), j.Len(), j.Room(), j.Number())
			}
		}
	}
}

// P14.4: what a caller does with its bytes, or with the answers, changes nothing of a journal.
func TestMemory(t *testing.T) {
	d := device(t, 8)
	j, s := open(t, d)
	b := append(make([]byte, 0, 40), "record"...)
	room := b[:40]
	both(t, j, &s, b, 8)
	both(t, j, &s, []byte("second"), 8)
	if !bytes.Equal(room, append([]byte("record"), make([]byte, 34)...)) {
		t.Error("the argument was written to")
	}
	clear(room)
	spoil := func(l [][]byte) {
		for i, b := range l {
			clear(b)
			_ = append(b, 1, 2, 3)
			l[i] = nil
		}
		_ = append(l, []byte("more"))
	}
	spoil(j.Waiting())
	agrees(t, j, &s, 8)
	is(t, "Commit", commits(t, j, &s, d), api.OK)
	both(t, j, &s, []byte("third"), 8)
	spoil(j.Records())
	spoil(j.Waiting())
	agrees(t, j, &s, 8)
	waiting := j.Waiting()
	is(t, "Commit", commits(t, j, &s, d), api.OK)
	spoil(waiting)
	agrees(t, j, &s, 8)
	if &j.Records()[0][0] == &j.Records()[0][0] {
		t.Error("the same memory twice")
	}
	// Two journals of one device do not share what they have.
	k, q := open(t, d)
	both(t, k, &q, []byte("only of one"), 8)
	agrees(t, j, &s, 8)
}

// P14.2, P14.4: a journal retains its device, and is told by it alone whether it is up.
func TestDevice(t *testing.T) {
	d := device(t, 5)
	j, s := open(t, d)
	both(t, j, &s, []byte("kept"), 5)
	crash(t, d, api.Crash{Torn: -1})
	is(t, "Commit", commits(t, j, &s, d), api.OK)
	crash(t, d, api.Crash{Torn: -1})
	both(t, j, &s, []byte("too"), 5)
	is(t, "Commit", commits(t, j, &s, d), api.OK)
	open(t, d)
	before := d.Copy()
	both(t, j, &s, []byte("forgotten"), 5)
	equal(t, d, before)
}

// keeps are the crashes of a cache of so many writes: each subset of them, none torn, and each one torn at several bytes.
func keeps(writes int) []api.Crash {
	var l []api.Crash
	for bits := range 1 << writes {
		keep := []byte{byte(bits)}
		l = append(l, api.Crash{Keep: keep, Torn: -1})
		for torn := range writes {
			for _, at := range []int{1, 5, 7, 8, 9, 12, 15, 16, 17, 60, 119, 120, 121, 124, 127, 128} {
				l = append(l, api.Crash{Keep: keep, Torn: torn, At: at})
			}
		}
	}
	return l
}

// P14.5: a crash at each call of a commit, with each subset of the writes: the log has what was durable, or that and all that waited, also if it is opened again.
func TestCrashes(t *testing.T) {
	for _, number := range []uint64{0, 254, 255, 256, 0xffff, 1<<32 - 1, 1<<56 - 2} {
		for _, first := range []int{0, 10, size - ahead, 200} {
			for _, invalid := range []bool{false, true} {
				base := device(t, 9)
				put(t, base, 0, superblock(number, 0, number))
				if invalid { // a crash ahead of this one tore the other superblock
					put(t, base, 1, superblock(number+1, 77, number+2))
				}
				is(t, "Flush", base.Flush(), api.OK)
				j, s := open(t, base)
				if first > 0 {
					both(t, j, &s, bytes.Repeat([]byte{1}, first), 9)
					is(t, "Commit", commits(t, j, &s, base), api.OK)
				}
				crashes(t, base)
			}
		}
	}
}

// crashes crashes at each call of a commit with a device that has a log.
func crashes(t *testing.T, base *blockdev.Device) {
	t.Helper()
	added := [][]byte{bytes.Repeat([]byte{2}, 100), []byte("x"), bytes.Repeat([]byte{3}, 150)}
	done := false
	for at := 1; !done; at++ {
		d := base.Copy()
		j, s := open(t, d)
		for _, b := range added {
			is(t, "Append", both(t, j, &s, b, 9), api.OK)
		}
		old, all := s.records, slices.Concat(s.records, s.waiting)
		is(t, "Plan", d.Plan(at), api.OK)
		done = commits(t, j, &s, d) == api.OK
		for _, c := range keeps(len(d.Cached())) {
			x := d.Copy()
			crash(t, x, c)
			k, e := journal.Open(x)
			is(t, "Open after a crash", e, api.OK)
			got := k.Records()
			if !same(got, all) && (done || !same(got, old)) {
				t.Fatalf("call %d, %v: %d records", at, c, len(got))
			}
			l, e := journal.Open(x)
			is(t, "Open again", e, api.OK)
			if !same(l.Records(), got) || l.Number() != k.Number() || l.Room() != k.Room() {
				t.Fatalf("call %d, %v: opened again it is another one", at, c)
			}
		}
	}
}

// P14.1 to P14.5: any calls in any order, with crashes, a full cache, and further journals of one device.
func TestAny(t *testing.T) {
	r := source()
	seen := map[string]int{}
	for range 400 {
		sectors := 4 + r.IntN(30)
		d := device(t, sectors)
		j, s := open(t, d)
		for range 60 {
			step(t, r, d, &j, &s, seen)
		}
	}
	for _, what := range []string{"append 0", "append 141", "append 120", "commit 0", "commit 120", "crash old", "crash new", "forget"} {
		if seen[what] < 50 {
			t.Errorf("%s was seen %d times", what, seen[what])
		}
	}
}

func step(t *testing.T, r *rand.Rand, d *blockdev.Device, j **journal.Journal, s *state, seen map[string]int) {
	t.Helper()
	switch k := r.IntN(20); {
	case k < 9:
		b := make([]byte, r.IntN(1+r.IntN(400)))
		for i := range b {
			b[i] = byte(r.Uint32())
		}
		seen[fmt.Sprintf("append %d", int(both(t, *j, s, b, d.Len())))]++
	case k < 14:
		seen[fmt.Sprintf("commit %d", int(commits(t, *j, s, d)))]++
	case k == 14:
		seen["forget"]++
		want := len(s.waiting)
		s.waiting = nil
		if n := (*j).Forget(); n != want {
			t.Fatalf("Forget() = %d, not %d", n, want)
		}
		agrees(t, *j, s, d.Len())
	case k < 17:
		d.Plan(r.IntN(8))
	default:
		old, all := s.records, slices.Concat(s.records, s.tried)
		c := api.Crash{Keep: []byte{byte(r.Uint32()), byte(r.Uint32())}, Torn: r.IntN(12) - 1, At: r.IntN(size + 1)}
		crash(t, d, c)
		*j, *s = open(t, d)
		switch {
		case same(s.records, old):
			seen["crash old"]++
		case same(s.records, all):
			seen["crash new"]++
		default:
			t.Fatalf("after %v: %d records", c, len(s.records))
		}
	}
}

// P14.1 to P14.4: the same calls have the same answers.
func TestSame(t *testing.T) {
	play := func() []any {
		d := device(t, 7)
		j, s := open(t, d)
		both(t, j, &s, []byte("one"), 7)
		e := commits(t, j, &s, d)
		b, _ := d.Safe(2)
		return []any{j.Records(), j.Number(), j.Room(), e, b}
	}
	if a, b := play(), play(); !reflect.DeepEqual(a, b) {
		t.Error(a, b)
	}
}
