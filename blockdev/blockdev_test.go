package blockdev_test

import (
	"bytes"
	"fmt"
	"math"
	"math/rand/v2"
	"reflect"
	"slices"
	"testing"

	"kilowatt/api"
	"kilowatt/blockdev"
)

const (
	size      = 128   // bytes of a sector
	most      = 65536 // sectors
	mostCache = 256   // writes
)

// beyond are numbers that are no sector, nor any length or plan below 0.
var beyond = []int{math.MinInt64, math.MinInt64 + 1, math.MinInt32, -size, -2, -1}

func source() *rand.Rand { return rand.New(rand.NewPCG(121, 122)) }

func full(c byte) []byte { return bytes.Repeat([]byte{c}, size) }

func device(t *testing.T, sectors int) *blockdev.Device {
	t.Helper()
	d, e := blockdev.New(sectors)
	if d == nil || e != api.OK {
		t.Fatalf("New(%d) = %v %v", sectors, d, e)
	}
	return d
}

// is checks the error of a call.
func is(t *testing.T, call string, got, want api.Errno) {
	t.Helper()
	if got != want {
		t.Fatalf("%s = %v, not %v", call, got, want)
	}
}

// write writes sector n full of c.
func write(t *testing.T, d *blockdev.Device, n int, c byte) {
	t.Helper()
	is(t, "Write", d.Write(n, full(c)), api.OK)
}

// reads checks that sector n has those contents.
func reads(t *testing.T, d *blockdev.Device, n int, want []byte) {
	t.Helper()
	if b, e := d.Read(n); !bytes.Equal(b, want) || e != api.OK {
		t.Fatalf("Read(%d) = %v %v, not %v", n, b, e, want)
	}
}

// safe checks that sector n has those durable contents.
func safe(t *testing.T, d *blockdev.Device, n int, want []byte) {
	t.Helper()
	if b, e := d.Safe(n); !bytes.Equal(b, want) || e != api.OK {
		t.Fatalf("Safe(%d) = %v %v, not %v", n, b, e, want)
	}
}

// noRead checks that Read has that error, and nothing beside it.
func noRead(t *testing.T, d *blockdev.Device, n int, want api.Errno) {
	t.Helper()
	if b, e := d.Read(n); b != nil || e != want {
		t.Fatalf("Read(%d) = %v %v, not %v", n, b, e, want)
	}
}

// noSafe checks that Safe has that error, and nothing beside it.
func noSafe(t *testing.T, d *blockdev.Device, n int, want api.Errno) {
	t.Helper()
	if b, e := d.Safe(n); b != nil || e != want {
		t.Fatalf("Safe(%d) = %v %v, not %v", n, b, e, want)
	}
}

// state checks what a device tells of itself.
func state(t *testing.T, d *blockdev.Device, down bool, calls int, cached ...int) {
	t.Helper()
	if d.Down() != down || d.Calls() != calls || !slices.Equal(d.Cached(), cached) {
		t.Fatalf("Down %v, Calls %d, Cached %v, not %v %d %v", d.Down(), d.Calls(), d.Cached(), down, calls, cached)
	}
}

// crash makes the device go down and come up again.
func crash(t *testing.T, d *blockdev.Device, c api.Crash) {
	t.Helper()
	is(t, "Pull", d.Pull(), api.OK)
	is(t, "Restart", d.Restart(c), api.OK)
}

// The chapter's examples.
func TestExamples(t *testing.T) {
	d := device(t, 4)
	write(t, d, 1, 'a')
	write(t, d, 1, 'b')
	write(t, d, 2, 'a')
	state(t, d, false, 3, 1, 1, 2)
	crash(t, d, api.Crash{Keep: []byte{5}, Torn: 1, At: 2})
	reads(t, d, 1, append([]byte("bb"), full('a')[2:]...))
	reads(t, d, 2, full('a'))

	d = device(t, 4)
	is(t, "Restart", d.Restart(api.Crash{}), api.ErrArg)
	is(t, "Write", d.Write(4, full('a')), api.ErrPlace)
	is(t, "Write", d.Write(0, full('a')[1:]), api.ErrArg)
	is(t, "Plan", d.Plan(-1), api.ErrArg)
	is(t, "Plan", d.Plan(2), api.OK)
	write(t, d, 0, 'a')
	is(t, "Write", d.Write(0, full('b')), api.ErrDown)
	state(t, d, true, 2, 0, 0)
	is(t, "Restart", d.Restart(api.Crash{Keep: []byte{2}}), api.OK)
	reads(t, d, 0, full('b'))
}

// P12.1: how many sectors there may be; a new device is up, empty and without a plan.
func TestNew(t *testing.T) {
	for _, n := range append(beyond, 0, most+1, math.MaxInt32, math.MaxInt64) {
		if d, e := blockdev.New(n); d != nil || e != api.ErrArg {
			t.Errorf("New(%d) = %v %v", n, d, e)
		}
	}
	for _, n := range []int{1, 2, 127, most - 1, most} {
		d := device(t, n)
		if d.Len() != n {
			t.Errorf("Len() = %d, not %d", d.Len(), n)
		}
		state(t, d, false, 0)
		for _, k := range []int{0, n / 2, n - 1} {
			reads(t, d, k, make([]byte, size))
			safe(t, d, k, make([]byte, size))
		}
		for range 5 {
			is(t, "Flush", d.Flush(), api.OK)
		}
		write(t, d, n-1, 'z')
		reads(t, d, n-1, full('z'))
		state(t, d, false, 6, n-1)
	}
}

// P12.1 to P12.4: no device, and one that New did not create.
func TestOther(t *testing.T) {
	for _, d := range []*blockdev.Device{nil, {}, new(blockdev.Device)} {
		for range 2 {
			noRead(t, d, 0, api.ErrNil)
			noRead(t, d, -1, api.ErrNil)
			noSafe(t, d, 0, api.ErrNil)
			noSafe(t, d, 1, api.ErrNil)
			is(t, "Write", d.Write(0, full('a')), api.ErrNil)
			is(t, "Write", d.Write(-1, nil), api.ErrNil)
			is(t, "Flush", d.Flush(), api.ErrNil)
			is(t, "Plan", d.Plan(1), api.ErrNil)
			is(t, "Plan", d.Plan(-1), api.ErrNil)
			is(t, "Restart", d.Restart(api.Crash{}), api.ErrNil)
			is(t, "Pull", d.Pull(), api.ErrNil)
			state(t, d, false, 0)
			if d.Len() != 0 || d.Cached() != nil || d.Copy() != nil {
				t.Error(d.Len(), d.Cached(), d.Copy())
			}
		}
	}
}

// P12.1: what is done with a copy leaves the device as it is, and the other way round.
func TestCopy(t *testing.T) {
	d := device(t, 3)
	write(t, d, 0, 'a')
	is(t, "Flush", d.Flush(), api.OK)
	for n, c := range []byte("bcd") {
		write(t, d, n, c)
	}
	is(t, "Plan", d.Plan(3), api.OK)
	c := d.Copy()
	for _, x := range [][2]*blockdev.Device{{c, d}, {d, c}} {
		y, other := x[0].Copy(), x[1]
		if y.Len() != 3 {
			t.Error(y.Len())
		}
		for n, b := range []byte("bcd") {
			reads(t, y, n, full(b))
		}
		state(t, y, false, 5, 0, 1, 2)
		write(t, y, 0, 'x')
		is(t, "Flush", y.Flush(), api.OK)
		is(t, "Write", y.Write(1, full('y')), api.ErrDown)
		state(t, y, true, 8, 1)
		state(t, y.Copy(), true, 8, 1)
		// A copy of one that is down is down, with the same cache.
		z := y.Copy()
		noRead(t, z, 0, api.ErrDown)
		is(t, "Restart", z.Restart(api.Crash{Keep: []byte{1}, Torn: -1}), api.OK)
		reads(t, z, 1, full('y'))
		safe(t, y, 1, full('c'))
		state(t, other, false, 5, 0, 1, 2)
		safe(t, other, 0, full('a'))
		reads(t, other, 0, full('b'))
	}
	// Both add to caches that were one, and the plan of each holds for its own calls.
	write(t, d, 0, '1')
	write(t, c, 2, '2')
	write(t, d, 1, '3')
	write(t, c, 1, '4')
	state(t, d, false, 7, 0, 1, 2, 0, 1)
	state(t, c, false, 7, 0, 1, 2, 2, 1)
	reads(t, d, 2, full('d'))
	reads(t, c, 0, full('b'))
	reads(t, d, 1, full('3'))
	reads(t, c, 1, full('4'))
	is(t, "Plan", c.Plan(0), api.OK)
	is(t, "Flush", c.Flush(), api.OK)
	is(t, "Flush", d.Flush(), api.ErrDown)
	state(t, d, true, 8, 0, 1, 2, 0, 1)
	state(t, c, false, 8)
	safe(t, d, 1, make([]byte, size))
}

// P12.2: which sectors there are, and how long a write is; a wrong call changes nothing and is not counted.
func TestWrong(t *testing.T) {
	for _, sectors := range []int{1, 4, most} {
		d := device(t, sectors)
		is(t, "Plan", d.Plan(2), api.OK)
		for _, n := range append(beyond, sectors, sectors+1, math.MaxInt32, math.MaxInt64) {
			noRead(t, d, n, api.ErrPlace)
			noSafe(t, d, n, api.ErrPlace)
			is(t, "Write", d.Write(n, full('a')), api.ErrPlace)
			// P12.2: the sector goes ahead of the length.
			is(t, "Write", d.Write(n, nil), api.ErrPlace)
		}
		for _, n := range []int{0, 1, size - 1, size + 1, 2 * size} {
			is(t, "Write", d.Write(sectors-1, make([]byte, n)), api.ErrArg)
		}
		is(t, "Write", d.Write(0, nil), api.ErrArg)
		is(t, "Plan", d.Plan(-1), api.ErrArg)
		is(t, "Plan", d.Plan(math.MinInt64), api.ErrArg)
		is(t, "Restart", d.Restart(api.Crash{}), api.ErrArg)
		state(t, d, false, 0)
		// The plan is as it was.
		write(t, d, 0, 'a')
		is(t, "Flush", d.Flush(), api.ErrDown)
	}
}

// P12.2, P12.3: a device that is down; being down goes ahead of all other errors but ErrNil.
func TestDown(t *testing.T) {
	d := device(t, 2)
	write(t, d, 0, 'a')
	is(t, "Flush", d.Flush(), api.OK)
	write(t, d, 0, 'b')
	is(t, "Pull", d.Pull(), api.OK)
	for range 2 {
		state(t, d, true, 3, 0)
		for _, n := range []int{0, 1, 2, -1} {
			noRead(t, d, n, api.ErrDown)
			is(t, "Write", d.Write(n, full('c')), api.ErrDown)
			is(t, "Write", d.Write(n, nil), api.ErrDown)
		}
		is(t, "Flush", d.Flush(), api.ErrDown)
		is(t, "Plan", d.Plan(1), api.ErrDown)
		is(t, "Plan", d.Plan(-1), api.ErrDown)
		if d.Len() != 2 {
			t.Error(d.Len())
		}
		// P12.4: what is durable is told also then.
		safe(t, d, 0, full('a'))
		safe(t, d, 1, make([]byte, size))
		noSafe(t, d, 2, api.ErrPlace)
		noSafe(t, d, -1, api.ErrPlace)
		// P12.3: it may be down already.
		is(t, "Pull", d.Pull(), api.OK)
	}
	is(t, "Restart", d.Restart(api.Crash{Torn: -1}), api.OK)
	state(t, d, false, 3)
	reads(t, d, 0, full('a'))
	is(t, "Restart", d.Restart(api.Crash{Torn: -1}), api.ErrArg)
	write(t, d, 1, 'c')
	state(t, d, false, 4, 1)
}

// P12.2: what a sector has with and without writes in the cache, and after a flush.
func TestContents(t *testing.T) {
	d := device(t, 3)
	for _, c := range []byte("abc") {
		write(t, d, 1, c)
		reads(t, d, 1, full(c))
		safe(t, d, 1, make([]byte, size))
	}
	write(t, d, 2, 'd')
	reads(t, d, 1, full('c'))
	reads(t, d, 0, make([]byte, size))
	state(t, d, false, 4, 1, 1, 1, 2)
	is(t, "Flush", d.Flush(), api.OK)
	state(t, d, false, 5)
	safe(t, d, 0, make([]byte, size))
	safe(t, d, 1, full('c'))
	safe(t, d, 2, full('d'))
	reads(t, d, 1, full('c'))
	// All bytes of a sector are told, in their order.
	ramp := make([]byte, size)
	for i := range ramp {
		ramp[i] = byte(255 - i)
	}
	is(t, "Write", d.Write(1, ramp), api.OK)
	reads(t, d, 1, ramp)
	safe(t, d, 1, full('c'))
	is(t, "Flush", d.Flush(), api.OK)
	safe(t, d, 1, ramp)
	// A flush with nothing to do is a call as each other one.
	is(t, "Flush", d.Flush(), api.OK)
	state(t, d, false, 8)
}

// P12.2: the cache has its greatest length, whatever sectors it has; one write more changes nothing and is not counted.
func TestCacheFull(t *testing.T) {
	d := device(t, 3)
	var places []int
	for k := range mostCache {
		write(t, d, k*k%3, byte(k))
		places = append(places, k*k%3)
	}
	is(t, "Plan", d.Plan(1), api.OK)
	for range 3 {
		is(t, "Write", d.Write(2, full('x')), api.ErrCache)
		// The sector and the length go ahead of the cache.
		is(t, "Write", d.Write(3, full('x')), api.ErrPlace)
		is(t, "Write", d.Write(2, full('x')[1:]), api.ErrArg)
	}
	state(t, d, false, mostCache, places...)
	reads(t, d, 0, full(255))
	reads(t, d, 1, full(254))
	reads(t, d, 2, make([]byte, size))
	// The plan still waits for its call.
	c := d.Copy()
	is(t, "Flush", c.Flush(), api.ErrDown)
	state(t, c, true, mostCache+1, places...)
	is(t, "Write", c.Write(2, full('x')), api.ErrDown)
	// P12.3: a crash tells of every write of the cache.
	is(t, "Restart", c.Restart(api.Crash{Keep: append(make([]byte, 31), 0x40), Torn: 255, At: 1}), api.OK)
	reads(t, c, 0, append([]byte{255}, make([]byte, size-1)...))
	reads(t, c, 1, full(254))
	reads(t, c, 2, make([]byte, size))
	is(t, "Plan", d.Plan(0), api.OK)
	is(t, "Flush", d.Flush(), api.OK)
	write(t, d, 2, 'x')
	state(t, d, false, mostCache+2, 2)
	safe(t, d, 0, full(255))
	safe(t, d, 1, full(254))
	// The last write that there is room for can still be the one at which the device goes down.
	for range mostCache - 2 {
		write(t, d, 0, 'y')
	}
	is(t, "Plan", d.Plan(1), api.OK)
	is(t, "Write", d.Write(0, full('z')), api.ErrDown)
	if n := len(d.Cached()); n != mostCache {
		t.Error(n)
	}
}

// P12.2, P12.3: the n-th counted call after Plan(n) fails, be it a Write or a Flush; calls that are not counted are skipped.
func TestPlan(t *testing.T) {
	for ahead := range 4 {
		for n := 1; n <= 6; n++ {
			for _, flush := range []bool{false, true} {
				d := device(t, 2)
				for range ahead {
					write(t, d, 1, 'a')
				}
				is(t, "Plan", d.Plan(n), api.OK)
				for k := range n - 1 {
					noRead(t, d, 2, api.ErrPlace)
					is(t, "Write", d.Write(0, nil), api.ErrArg)
					is(t, "Write", d.Write(2, full('x')), api.ErrPlace)
					reads(t, d, 0, make([]byte, size))
					if k%2 == 0 {
						is(t, "Flush", d.Flush(), api.OK)
					} else {
						write(t, d, 1, 'b')
					}
				}
				cached := d.Cached()
				before, _ := d.Safe(1)
				if flush {
					is(t, "Flush", d.Flush(), api.ErrDown)
				} else {
					is(t, "Write", d.Write(0, full('z')), api.ErrDown)
					cached = append(cached, 0)
				}
				// A flush does nothing, and a write stands in the cache.
				state(t, d, true, ahead+n, cached...)
				safe(t, d, 1, before)
				safe(t, d, 0, make([]byte, size))
				is(t, "Restart", d.Restart(api.Crash{Keep: []byte{255, 255}, Torn: -1}), api.OK)
				if !flush {
					reads(t, d, 0, full('z'))
				}
				// After that there is no plan.
				for range 10 {
					is(t, "Flush", d.Flush(), api.OK)
				}
				state(t, d, false, ahead+n+10)
			}
		}
	}
}

// P12.3: a plan replaces the one before; 0 is none, and a great one never comes.
func TestPlanReplaced(t *testing.T) {
	d := device(t, 1)
	for _, n := range []int{1, 7, 0, 2, math.MaxInt64, math.MaxInt64 - 1, 0, 3} {
		is(t, "Plan", d.Plan(n), api.OK)
		if n > 1000 || n == 0 {
			for range 5 {
				is(t, "Flush", d.Flush(), api.OK)
			}
		}
	}
	is(t, "Flush", d.Flush(), api.OK)
	is(t, "Plan", d.Plan(-1), api.ErrArg)
	is(t, "Flush", d.Flush(), api.OK)
	is(t, "Flush", d.Flush(), api.ErrDown)
	state(t, d, true, 23)
	is(t, "Restart", d.Restart(api.Crash{}), api.OK)
	// A plan that a crash overtook is gone too.
	is(t, "Plan", d.Plan(2), api.OK)
	write(t, d, 0, 'a')
	crash(t, d, api.Crash{})
	is(t, "Flush", d.Flush(), api.OK)
	is(t, "Flush", d.Flush(), api.OK)
	state(t, d, false, 26)
}

// P12.3: which writes a crash applies, by bits, the torn one and where it is torn; a later write of a sector goes over an earlier one.
func TestRestart(t *testing.T) {
	d := device(t, 2)
	write(t, d, 0, 's')
	is(t, "Flush", d.Flush(), api.OK)
	for _, c := range []byte("abcdefghij") {
		write(t, d, 0, c)
	}
	two := func(first byte, n int, second byte) []byte {
		return append(full(first)[:n], full(second)[n:]...)
	}
	rows := []struct {
		c    api.Crash
		want []byte
	}{
		{api.Crash{Torn: -1}, full('s')},
		// The zero crash tears the first write ahead of its first byte.
		{api.Crash{}, full('s')},
		{api.Crash{Keep: []byte{1}}, full('s')},
		{api.Crash{Keep: []byte{1}, Torn: -1}, full('a')},
		{api.Crash{Keep: []byte{0x80}, Torn: -1}, full('h')},
		{api.Crash{Keep: []byte{0, 1}, Torn: -1}, full('i')},
		{api.Crash{Keep: []byte{255, 2}, Torn: -1}, full('j')},
		{api.Crash{Keep: []byte{9, 0}, Torn: -1}, full('d')},
		{api.Crash{Keep: []byte{255}, Torn: -1}, full('h')},
		// Bits and bytes of writes that there are not.
		{api.Crash{Keep: []byte{4, 0xfc, 255, 255}, Torn: -1}, full('c')},
		{api.Crash{Keep: bytes.Repeat([]byte{255}, 1000), Torn: -1}, full('j')},
		{api.Crash{Keep: []byte{4}, Torn: 10, At: 7}, full('c')},
		{api.Crash{Keep: []byte{4}, Torn: math.MaxInt64, At: 7}, full('c')},
		{api.Crash{Keep: []byte{4}, Torn: math.MinInt64, At: 7}, full('c')},
		// The torn one is not kept, whatever its bit is, and others go over it.
		{api.Crash{Keep: []byte{5}, Torn: 2, At: 1}, two('c', 1, 'a')},
		{api.Crash{Keep: []byte{1}, Torn: 2, At: 127}, two('c', 127, 'a')},
		{api.Crash{Keep: []byte{9}, Torn: 2, At: 127}, full('d')},
		{api.Crash{Keep: []byte{1}, Torn: 9, At: 64}, two('j', 64, 'a')},
		{api.Crash{Torn: 9, At: 2}, two('j', 2, 's')},
		// Where it is torn is limited to the sector.
		{api.Crash{Keep: []byte{5}, Torn: 2, At: 0}, full('a')},
		{api.Crash{Keep: []byte{5}, Torn: 2, At: -1}, full('a')},
		{api.Crash{Keep: []byte{5}, Torn: 2, At: math.MinInt64}, full('a')},
		{api.Crash{Keep: []byte{1}, Torn: 2, At: 128}, full('c')},
		{api.Crash{Keep: []byte{1}, Torn: 2, At: 129}, full('c')},
		{api.Crash{Keep: []byte{1}, Torn: 2, At: math.MaxInt64}, full('c')},
	}
	for _, x := range rows {
		y := d.Copy()
		crash(t, y, x.c)
		state(t, y, false, 12)
		if b, _ := y.Safe(0); !bytes.Equal(b, x.want) {
			t.Errorf("%+v: %v, not %v", x.c, b, x.want)
		}
		reads(t, y, 0, x.want)
		reads(t, y, 1, make([]byte, size))
	}
}

// P12.5: nothing that is handed in is changed or kept, and nothing that is handed out is the device's.
func TestMemory(t *testing.T) {
	d := device(t, 2)
	b := full('a')
	is(t, "Write", d.Write(0, b), api.OK)
	if !bytes.Equal(b, full('a')) {
		t.Error(b)
	}
	clear(b)
	reads(t, d, 0, full('a'))
	for range 2 {
		got, _ := d.Read(0)
		clear(got[:cap(got)])
		reads(t, d, 0, full('a'))
		got, _ = d.Safe(0)
		clear(got[:cap(got)])
		got, _ = d.Read(1)
		got[0] = 'x'
		reads(t, d, 1, make([]byte, size))
		is(t, "Flush", d.Flush(), api.OK)
		got, _ = d.Safe(0)
		clear(got)
		safe(t, d, 0, full('a'))
		write(t, d, 0, 'a')
		places := d.Cached()
		places[0] = 1
		_ = append(places[:0], 7, 7, 7)
		state(t, d, false, d.Calls(), 0)
	}
	keep := []byte{1, 255}
	crash(t, d, api.Crash{Keep: keep, Torn: -1})
	if !bytes.Equal(keep, []byte{1, 255}) {
		t.Error(keep)
	}
}

// model is a device by the chapter's words: all writes since the last flush as they came.
type model struct {
	safe  [][]byte
	cache []cached
	left  int // counted calls until one fails
	calls int
	down  bool
}

type cached struct {
	n int
	b []byte
}

func (m *model) read(n int) []byte {
	b := m.safe[n]
	for _, w := range m.cache {
		if w.n == n {
			b = w.b
		}
	}
	return b
}

func (m *model) count() api.Errno {
	m.calls++
	m.left--
	m.down = m.left == 0
	if m.down {
		return api.ErrDown
	}
	return api.OK
}

func (m *model) write(n int, b []byte) api.Errno {
	switch {
	case m.down:
		return api.ErrDown
	case n < 0 || n >= len(m.safe):
		return api.ErrPlace
	case len(b) != size:
		return api.ErrArg
	case len(m.cache) == mostCache:
		return api.ErrCache
	}
	m.cache = append(m.cache, cached{n, slices.Clone(b)})
	return m.count()
}

func (m *model) flush() api.Errno {
	if m.down || m.count() != api.OK {
		return api.ErrDown
	}
	for n := range m.safe {
		m.safe[n] = m.read(n)
	}
	m.cache = nil
	return api.OK
}

func (m *model) plan(n int) api.Errno {
	switch {
	case m.down:
		return api.ErrDown
	case n < 0:
		return api.ErrArg
	}
	m.left = n
	return api.OK
}

func (m *model) restart(c api.Crash) api.Errno {
	if !m.down {
		return api.ErrArg
	}
	for k, w := range m.cache {
		at := 0
		if k/8 < len(c.Keep) && c.Keep[k/8]&(1<<(k%8)) != 0 {
			at = size
		}
		if k == c.Torn {
			at = max(0, min(c.At, size))
		}
		m.safe[w.n] = append(slices.Clone(w.b[:at]), m.safe[w.n][at:]...)
	}
	m.cache, m.left, m.down = nil, 0, false
	return api.OK
}

// same checks all that a device tells.
func (m *model) same(t *testing.T, d *blockdev.Device) {
	t.Helper()
	var places []int
	for _, w := range m.cache {
		places = append(places, w.n)
	}
	if d.Len() != len(m.safe) {
		t.Fatalf("Len() = %d, not %d", d.Len(), len(m.safe))
	}
	state(t, d, m.down, m.calls, places...)
	for n := range m.safe {
		safe(t, d, n, m.safe[n])
		if m.down {
			noRead(t, d, n, api.ErrDown)
		} else {
			reads(t, d, n, m.read(n))
		}
	}
}

// bytesOf are a sector's, or by and by a few more or fewer.
func bytesOf(r *rand.Rand) []byte {
	b := make([]byte, size)
	if r.IntN(20) == 0 {
		b = make([]byte, size-2+r.IntN(5))
	}
	for i := range b {
		b[i] = byte(r.Uint32())
	}
	return b
}

// crashOf is some crash of about n writes.
func crashOf(r *rand.Rand, n int) api.Crash {
	c := api.Crash{Keep: make([]byte, r.IntN(n/8+3)), Torn: r.IntN(n+4) - 2, At: r.IntN(size+20) - 10}
	for i := range c.Keep {
		c.Keep[i] = byte(r.Uint32())
	}
	return c
}

// P12.1 to P12.4: any calls in any order answer as the chapter says.
func TestAnyCalls(t *testing.T) {
	r := source()
	for round := range 300 {
		sectors := 1 + r.IntN(6)
		d, m := device(t, sectors), &model{}
		for range sectors {
			m.safe = append(m.safe, make([]byte, size))
		}
		// Some rounds flush so rarely that the cache becomes full.
		busy := []int{4, 40, 4000}[round%3]
		for step := range 400 {
			call, got, want := "", api.OK, api.OK
			switch k := r.IntN(busy + 10); {
			case k == 0:
				call, got, want = "Flush", d.Flush(), m.flush()
			case k == 1:
				n := r.IntN(2*busy) - 1
				call, got, want = fmt.Sprintf("Plan(%d)", n), d.Plan(n), m.plan(n)
			case k == 2 && r.IntN(4) == 0:
				call, got = "Pull", d.Pull()
				m.down = true
			case k == 3 || k == 4 && m.down:
				c := crashOf(r, len(m.cache))
				call, got, want = fmt.Sprintf("Restart(%+v)", c), d.Restart(c), m.restart(c)
			case k == 5 && step%10 == 0:
				d = d.Copy()
			default:
				n, b := r.IntN(sectors+2)-1, bytesOf(r)
				call, got, want = fmt.Sprintf("Write(%d)", n), d.Write(n, b), m.write(n, b)
			}
			is(t, call, got, want)
			if step%20 == 0 || m.down {
				m.same(t, d)
			}
		}
		m.same(t, d)
	}
}

// P12.6: what was flushed survives all crashes, but in sectors that were written since.
func TestFlushedSurvives(t *testing.T) {
	r := source()
	for range 200 {
		d := device(t, 8)
		var flushed [8][]byte
		for n := range flushed {
			flushed[n] = full(byte(r.Uint32()))
			is(t, "Write", d.Write(n, flushed[n]), api.OK)
		}
		is(t, "Flush", d.Flush(), api.OK)
		for range 4 {
			for range r.IntN(30) {
				write(t, d, r.IntN(4), byte(r.Uint32()))
			}
			crash(t, d, crashOf(r, 30))
			for n := 4; n < 8; n++ {
				reads(t, d, n, flushed[n])
				safe(t, d, n, flushed[n])
			}
		}
	}
}

// P12.6: a crash that keeps all writes loses nothing, one that keeps none loses all that was not durable, and each leaves of a sector what it was or what one write made of it, but of one at most, which is made of two of these.
func TestCrashes(t *testing.T) {
	r := source()
	for range 300 {
		d := device(t, 4)
		for n := range 4 {
			is(t, "Write", d.Write(n, bytesOfSector(r)), api.OK)
		}
		is(t, "Flush", d.Flush(), api.OK)
		may := map[int][][]byte{}
		for n := range 4 {
			b, _ := d.Safe(n)
			may[n] = append(may[n], b)
		}
		many := r.IntN(20)
		for range many {
			n, b := r.IntN(4), bytesOfSector(r)
			is(t, "Write", d.Write(n, b), api.OK)
			may[n] = append(may[n], b)
		}
		all, none, any := d.Copy(), d.Copy(), d.Copy()
		crash(t, all, api.Crash{Keep: []byte{255, 255, 255}, Torn: -1})
		crash(t, none, api.Crash{Torn: many})
		crash(t, any, crashOf(r, many))
		composed := 0
		for n := range 4 {
			reads(t, all, n, may[n][len(may[n])-1])
			reads(t, none, n, may[n][0])
			b, _ := any.Read(n)
			if !slices.ContainsFunc(may[n], func(x []byte) bool { return bytes.Equal(b, x) }) {
				composed++
				ofTwo(t, b, may[n])
			}
		}
		if composed > 1 {
			t.Fatal(composed, "sectors are composed")
		}
	}
}

func bytesOfSector(r *rand.Rand) []byte {
	b := make([]byte, size)
	for i := range b {
		b[i] = byte(r.Uint32())
	}
	return b
}

// ofTwo checks that the first bytes of b are those of one, and the others those of another.
func ofTwo(t *testing.T, b []byte, may [][]byte) {
	t.Helper()
	for _, x := range may {
		for _, y := range may {
			for at := range size + 1 {
				if bytes.Equal(b[:at], x[:at]) && bytes.Equal(b[at:], y[at:]) {
					return
				}
			}
		}
	}
	t.Fatal("not of two:", b)
}

// The same calls have the same answers.
func TestSame(t *testing.T) {
	play := func() []any {
		var told []any
		r, d := source(), device(t, 3)
		for range 200 {
			told = append(told, d.Write(r.IntN(4), bytesOf(r)), d.Cached(), d.Plan(r.IntN(9)))
			if d.Down() {
				told = append(told, d.Restart(crashOf(r, 5)))
			}
			b, e := d.Read(r.IntN(3))
			told = append(told, b, e)
		}
		return told
	}
	if !reflect.DeepEqual(play(), play()) {
		t.Error("not the same")
	}
}
