package frame_test

import (
	"bytes"
	"encoding/binary"
	"hash/crc32"
	"math/rand/v2"
	"slices"
	"testing"

	"kilowatt/api"
	"kilowatt/frame"
)

const (
	most = 4096 // bytes of a record
	head = 6    // bytes of a frame ahead of its record
)

func source() *rand.Rand { return rand.New(rand.NewPCG(131, 132)) }

// framed is the frame of a record by the chapter's words.
func framed(record []byte) []byte {
	length := binary.BigEndian.AppendUint16(nil, uint16(len(record)))
	sum := crc32.ChecksumIEEE(slices.Concat(length, record))
	return slices.Concat(length, binary.BigEndian.AppendUint32(nil, sum), record)
}

func concatenated(l [][]byte) []byte {
	var b []byte
	for _, record := range l {
		b = append(b, framed(record)...)
	}
	return b
}

// answer is what the chapter says of a byte sequence.
type answer struct {
	records [][]byte
	whole   int
	why     int
}

// framesIn determines the answer by the chapter's words: of each place it tries the one record that the two bytes there allow, frames it again, and compares.
func framesIn(b []byte) answer {
	var a answer
	for {
		tail := b[a.whole:]
		if len(tail) == 0 {
			return a
		}
		if len(tail) < 2 {
			a.why = 1
			return a
		}
		length := int(binary.BigEndian.Uint16(tail))
		switch {
		case length == 0 || length > most:
			a.why = 2
		case len(tail) < head+length:
			a.why = 1
		case !bytes.HasPrefix(tail, framed(tail[head:head+length])):
			a.why = 3
		}
		if a.why != 0 {
			return a
		}
		a.records = append(a.records, slices.Clone(tail[head:head+length]))
		a.whole += head + length
	}
}

func same(l, m [][]byte) bool { return slices.EqualFunc(l, m, bytes.Equal) }

// checkBytes holds Read, Scan, Exact and Why of b against an answer.
func checkBytes(t *testing.T, b []byte, want answer) {
	t.Helper()
	before := slices.Clone(b)
	checkRead(t, b, want)
	l, whole := frame.Scan(b)
	if !same(l, want.records) || whole != want.whole {
		t.Fatalf("Scan(%.40x..) has %d records and %d bytes, not %d and %d", b, len(l), whole, len(want.records), want.whole)
	}
	if why := frame.Why(b); why != want.why {
		t.Fatalf("Why(%.40x..) = %d, not %d", b, why, want.why)
	}
	l, e := frame.Exact(b)
	if want.why != 0 {
		if l != nil || e != api.ErrFrame {
			t.Fatalf("Exact(%.40x..) = %d records, %v despite a tail", b, len(l), e)
		}
	} else if !same(l, want.records) || e != api.OK {
		t.Fatalf("Exact(%.40x..) = %d records, %v, not %d", b, len(l), e, len(want.records))
	}
	if !bytes.Equal(b, before) {
		t.Fatalf("%.40x.. was changed", before)
	}
}

// checkRead holds Read of b against an answer.
func checkRead(t *testing.T, b []byte, want answer) {
	t.Helper()
	record, n, e := frame.Read(b)
	if len(want.records) == 0 {
		if record != nil || n != 0 || e != api.ErrFrame {
			t.Fatalf("Read(%.40x..) = %.40x.. %d %v, not ErrFrame alone", b, record, n, e)
		}
		return
	}
	if !bytes.Equal(record, want.records[0]) || n != head+len(want.records[0]) || e != api.OK {
		t.Fatalf("Read(%.40x..) = %.40x.. %d %v, not the first record", b, record, n, e)
	}
}

func anyBytes(r *rand.Rand, length int) []byte {
	b := make([]byte, length)
	for i := range b {
		b[i] = byte(r.Uint32())
	}
	return b
}

// records are that many, most of them short.
func records(r *rand.Rand, count int) [][]byte {
	l := make([][]byte, count)
	for i := range l {
		length := 1 + r.IntN(12)
		if r.IntN(16) == 0 {
			length = 250 + r.IntN(12) // at the edge of the length's lower byte
		}
		l[i] = anyBytes(r, length)
	}
	return l
}

// lengths are those of byte strings at the edges of what is a record.
var lengths = []int{0, 1, 2, 3, 97, 255, 256, 257, 4000, most - 1, most, most + 1, most + 2, 2 * most, 65535, 65536, 65537, 65536 + most}

func isRecord(length int) bool { return length >= 1 && length <= most }

// The chapter's examples.
func TestExamples(t *testing.T) {
	b, e := frame.Put(nil, []byte("a"))
	if len(b) != 7 || b[0] != 0 || b[1] != 1 || b[6] != 0x61 || e != api.OK {
		t.Fatalf("Put(no bytes, a) = %x %v", b, e)
	}
	two := [][]byte{[]byte("one"), []byte("four")}
	length := 2*head + 7
	for last := range 256 {
		b := append(concatenated(two), byte(last))
		l, whole := frame.Scan(b)
		if !same(l, two) || whole != length || frame.Why(b) != 1 {
			t.Fatalf("two frames and %d: %q, %d, Why %d", last, l, whole, frame.Why(b))
		}
	}
	if why := frame.Why(make([]byte, 6)); why != 2 {
		t.Fatalf("Why(six zeros) = %d", why)
	}
	b[6]++
	if why := frame.Why(b); why != 3 {
		t.Fatalf("Why of a frame with its last byte changed = %d", why)
	}
}

// P13.1: the bytes of a frame, computed by hand from the CRC-32 of 00 01 61, and the constants.
func TestBytesOfFrame(t *testing.T) {
	if frame.MaxRecord != most || frame.Head != head {
		t.Fatal(frame.MaxRecord, frame.Head)
	}
	sum := crc32.ChecksumIEEE([]byte{0, 1, 0x61})
	want := []byte{0, 1, byte(sum >> 24), byte(sum >> 16), byte(sum >> 8), byte(sum), 0x61}
	if b, e := frame.Put(nil, []byte("a")); !bytes.Equal(b, want) || e != api.OK {
		t.Fatalf("Put = %x %v, not %x", b, e, want)
	}
}

// P13.1: Size and Put of what is a record, and of what is none.
func TestSizeAndPut(t *testing.T) {
	r := source()
	outs := [][]byte{nil, {}, {0}, []byte("ahead"), framed([]byte("first")), anyBytes(r, 300)}
	for _, length := range lengths {
		b := anyBytes(r, length)
		size := 0
		if isRecord(length) {
			size = head + length
		}
		if n := frame.Size(b); n != size {
			t.Fatalf("Size of %d bytes = %d, not %d", length, n, size)
		}
		for _, out := range outs {
			checkPut(t, out, b)
		}
	}
	if frame.Size(nil) != 0 {
		t.Fatal("Size(nil)", frame.Size(nil))
	}
	checkPut(t, []byte("ahead"), nil)
}

// checkPut holds Put against the chapter's words.
func checkPut(t *testing.T, out, b []byte) {
	t.Helper()
	beforeOut, before := slices.Clone(out), slices.Clone(b)
	got, e := frame.Put(out, b)
	if !bytes.Equal(out, beforeOut) || !bytes.Equal(b, before) {
		t.Fatal("Put changed an argument")
	}
	if !isRecord(len(b)) {
		if got != nil || e != api.ErrFrame {
			t.Fatalf("Put of %d bytes has %d bytes, %v", len(b), len(got), e)
		}
		return
	}
	if want := slices.Concat(out, framed(b)); !bytes.Equal(got, want) || e != api.OK {
		t.Fatalf("Put(%.20x.., %d bytes) = %.40x.. %v, not %.40x..", out, len(b), got, e, want)
	}
}

// P13.1: All of records, of none, and with an element at each place that is no record.
func TestAll(t *testing.T) {
	r := source()
	for _, l := range [][][]byte{nil, {}} {
		if b, e := frame.All(l); len(b) != 0 || e != api.OK {
			t.Fatalf("All of no records = %x %v", b, e)
		}
	}
	for count := range 20 {
		l := records(r, count)
		if b, e := frame.All(l); !bytes.Equal(b, concatenated(l)) || e != api.OK {
			t.Fatalf("All of %d records = %.40x.. %v", count, b, e)
		}
		for place := range l {
			good := l[place]
			for _, length := range lengths {
				l[place] = anyBytes(r, length)
				b, e := frame.All(l)
				if isRecord(length) {
					if !bytes.Equal(b, concatenated(l)) || e != api.OK {
						t.Fatalf("All with one of %d bytes: %v", length, e)
					}
				} else if b != nil || e != api.ErrFrame {
					t.Fatalf("All with one of %d bytes: %d bytes, %v", length, len(b), e)
				}
			}
			l[place] = good
		}
	}
	if b, e := frame.All([][]byte{[]byte("a"), nil}); b != nil || e != api.ErrFrame {
		t.Fatalf("All with nil = %x %v", b, e)
	}
}

// P13.2: bytes without a frame: none, too few, lengths that are none.
func TestNoFrame(t *testing.T) {
	checkBytes(t, nil, answer{})
	checkBytes(t, []byte{}, answer{})
	for c := range 256 {
		checkBytes(t, []byte{byte(c)}, answer{why: 1})
	}
	for length := range 1 << 16 {
		b := []byte{byte(length >> 8), byte(length)}
		want := answer{why: 2}
		if isRecord(length) {
			want.why = 1
		}
		checkBytes(t, b, want)
		checkBytes(t, append(b, 1, 2, 3, 4), want)
	}
	// Of a length that is none not even a right CRC makes a frame.
	checkBytes(t, framed(nil), answer{why: 2})
	for _, length := range []int{most + 1, most + 2, 2 * most, 65535} {
		checkBytes(t, framed(make([]byte, length)), answer{why: 2})
	}
}

// P13.2: single frames, at the edges of a record's length, whole, and with one byte more or less.
func TestSingleFrame(t *testing.T) {
	r := source()
	for _, length := range lengths {
		if !isRecord(length) {
			continue
		}
		record := anyBytes(r, length)
		b := framed(record)
		one := answer{[][]byte{record}, len(b), 0}
		checkBytes(t, b, one)
		checkBytes(t, b[:len(b)-1], answer{why: 1})
		for _, last := range []byte{0, 1, 16, 255} {
			one.why = 1
			checkBytes(t, append(slices.Clone(b), last), one)
		}
		one.why = 2
		checkBytes(t, append(slices.Clone(b), 0, 0), one)
		checkBytes(t, append(slices.Clone(b), 0x10, 1), one)
	}
}

// P13.2, P13.4: frames truncated anywhere have the first ones of their records, all that are complete.
func TestTruncated(t *testing.T) {
	r := source()
	for count := range 12 {
		l := records(r, count)
		b := concatenated(l)
		complete, end := 0, 0
		for n := range len(b) + 1 {
			for complete < count && end+head+len(l[complete]) <= n {
				end += head + len(l[complete])
				complete++
			}
			want := answer{records: l[:complete], whole: end}
			if n > end {
				want.why = 1
			}
			checkBytes(t, b[:n], want)
		}
	}
}

// P13.2: a changed bit makes the tail begin with its frame, whichever bit it is.
func TestChangedBit(t *testing.T) {
	r := source()
	for count := 1; count < 7; count++ {
		l := records(r, count)
		b := concatenated(l)
		place, begin := 0, 0
		for i := range b {
			if i == begin+head+len(l[place]) {
				begin = i
				place++
			}
			for bit := range 8 {
				b[i] ^= 1 << bit
				want := framesIn(b)
				if want.whole != begin || want.why == 0 {
					t.Fatalf("the model takes a frame with bit %d of byte %d changed", bit, i)
				}
				checkBytes(t, b, want)
				b[i] ^= 1 << bit
			}
		}
	}
}

// P13.2: a frame of which the length, the CRC or the order of their bytes is other than the chapter's is none.
func TestOtherForms(t *testing.T) {
	record := []byte("record")
	right := framed(record)
	alone := binary.BigEndian.AppendUint32([]byte{0, 6}, crc32.ChecksumIEEE(record))
	behind := binary.BigEndian.AppendUint32(append([]byte{0, 6}, record...), crc32.ChecksumIEEE(append([]byte{0, 6}, record...)))
	turned := slices.Clone(right)
	slices.Reverse(turned[2:head])
	for _, b := range [][]byte{append(alone, record...), behind, turned} {
		checkBytes(t, b, answer{why: 3})
	}
	turned = slices.Clone(right)
	turned[0], turned[1] = turned[1], turned[0]
	checkBytes(t, turned, answer{why: 1})
	checkBytes(t, append([]byte{6, 0}, make([]byte, 6000)...), answer{why: 3})
}

// P13.2, P13.4: a frame behind a broken one, or behind a gap, is not found.
func TestFrameBehindTail(t *testing.T) {
	first, second := framed([]byte("first")), framed([]byte("second"))
	one := [][]byte{[]byte("first")}
	checkBytes(t, slices.Concat(first, []byte{0, 0}, second), answer{one, len(first), 2})
	checkBytes(t, slices.Concat([]byte{0, 0}, second), answer{why: 2})
	broken := slices.Clone(second)
	broken[head] ^= 1
	checkBytes(t, slices.Concat(first, broken, second), answer{one, len(first), 3})
	checkBytes(t, slices.Concat(broken, first, second), answer{why: 3})
}

// P13.2: the reasons by their order: a length that is none is told ahead of an incomplete frame, that ahead of a CRC.
func TestOrderOfReasons(t *testing.T) {
	checkBytes(t, []byte{0, 0}, answer{why: 2})
	checkBytes(t, []byte{0xff, 0xff, 1}, answer{why: 2})
	for n := range 7 {
		checkBytes(t, make([]byte, n+2), answer{why: 2})
	}
	b := []byte{0, 2, 9, 9, 9, 9, 1, 1}
	for n := 1; n < len(b); n++ {
		checkBytes(t, b[:n], answer{why: 1})
	}
	checkBytes(t, b, answer{why: 3})
}

// P13.2, P13.4: any bytes, most of them made of frames that are whole, cut or changed.
func TestAnyBytes(t *testing.T) {
	r := source()
	found := map[int]int{}
	for range 20000 {
		var b []byte
		for range r.IntN(6) {
			b = append(b, anyPiece(r)...)
		}
		want := framesIn(b)
		found[want.why]++
		checkBytes(t, b, want)
		checkConsequences(t, b)
	}
	for why := range 4 {
		if found[why] < 100 {
			t.Fatalf("%d byte sequences with reason %d", found[why], why)
		}
	}
}

// anyPiece is a frame, mostly a whole one, or other bytes.
func anyPiece(r *rand.Rand) []byte {
	b := framed(anyBytes(r, 1+r.IntN(5)))
	switch r.IntN(12) {
	case 0:
		return b[:r.IntN(len(b))]
	case 1:
		b[r.IntN(len(b))] ^= 1 << r.IntN(8)
	case 2:
		return anyBytes(r, r.IntN(10))
	case 3:
		return framed(nil)
	}
	return b
}

// checkConsequences checks P13.4 by the package's own functions.
func checkConsequences(t *testing.T, b []byte) {
	t.Helper()
	l, whole := frame.Scan(b)
	again, e := frame.All(l)
	if e != api.OK || !bytes.Equal(again, b[:whole]) {
		t.Fatalf("All of the records of %x = %x %v", b, again, e)
	}
	if (whole == len(b)) != (frame.Why(b) == 0) {
		t.Fatalf("%x: %d bytes in frames, Why %d", b, whole, frame.Why(b))
	}
	m, e := frame.Exact(again)
	if e != api.OK || !same(l, m) {
		t.Fatalf("Exact(%x) = %x %v", again, m, e)
	}
}

// P13.4: bytes behind a whole number of frames do not change their records, even those that go on with frames.
func TestAdded(t *testing.T) {
	r := source()
	for range 300 {
		l := records(r, r.IntN(6))
		b, e := frame.All(l)
		if e != api.OK {
			t.Fatal(e)
		}
		if m, e := frame.Exact(b); e != api.OK || !same(l, m) {
			t.Fatalf("Exact of All = %x %v", m, e)
		}
		for range 20 {
			m, whole := frame.Scan(append(slices.Clone(b), anyPiece(r)...))
			if len(m) < len(l) || !same(m[:len(l)], l) || whole < len(b) {
				t.Fatalf("%d bytes of frames became %d", len(b), whole)
			}
		}
	}
}

// P13.4: a byte sequence is the frames put one behind the other.
func TestPutByPut(t *testing.T) {
	l := records(source(), 30)
	var b []byte
	for i, record := range l {
		var e api.Errno
		if b, e = frame.Put(b, record); e != api.OK {
			t.Fatal(e)
		}
		checkBytes(t, b, answer{l[:i+1], len(b), 0})
	}
	if all, e := frame.All(l); !bytes.Equal(all, b) || e != api.OK {
		t.Fatal("All is not Put by Put", e)
	}
}

// P13.3: what is returned shares no memory with an argument, nor with another answer.
func TestMemory(t *testing.T) {
	room := append(make([]byte, 0, 64), "ahead"...)
	record := []byte("record")
	one, _ := frame.Put(room, record)
	two, _ := frame.Put(room, []byte("others"))
	if !bytes.Equal(one, slices.Concat([]byte("ahead"), framed(record))) {
		t.Fatal("a second Put changed the answer of the first")
	}
	if !bytes.Equal(room[:64][5:], make([]byte, 59)) {
		t.Fatal("Put wrote behind its argument")
	}
	spoil(one, two)
	if string(room) != "ahead" || string(record) != "record" {
		t.Fatal("the answer of Put shares memory with an argument")
	}
	l := [][]byte{record}
	all, _ := frame.All(l)
	spoil(all)
	if string(l[0]) != "record" {
		t.Fatal("the answer of All shares memory with its argument")
	}
}

// P13.3: the records that are returned share no memory with the bytes, nor with each other.
func TestMemoryOfRecords(t *testing.T) {
	l := [][]byte{[]byte("one"), []byte("four"), {0}, []byte("sevens!")}
	b := concatenated(l)
	before := slices.Clone(b)
	first, _, _ := frame.Read(b)
	scanned, _ := frame.Scan(b)
	exact, _ := frame.Exact(b)
	all := append(append([][]byte{first}, scanned...), exact...)
	wanted := append(append([][]byte{l[0]}, l...), l...)
	for i := range all {
		if !bytes.Equal(all[i], wanted[i]) {
			t.Fatalf("record %d is %q, not %q", i, all[i], wanted[i])
		}
		spoil(all[i])
		if !bytes.Equal(b, before) {
			t.Fatal("a record shares memory with the bytes")
		}
	}
	again, _ := frame.Scan(b)
	for i := range b {
		b[i] = 0xee
	}
	if !same(again, l) {
		t.Fatal("a record changes with the bytes")
	}
}

// spoil changes the bytes, and those that appending to them might.
func spoil(all ...[]byte) {
	for _, b := range all {
		_ = append(b, 0xaa, 0xaa, 0xaa, 0xaa, 0xaa, 0xaa, 0xaa, 0xaa)
		for i := range b {
			b[i] = ^b[i]
		}
	}
}
