package journal

import (
	"kilowatt/api"
	"kilowatt/blockdev"
)

const (
	superblocks = 2 // they are the first sectors
	wordBytes   = 8
	byteBits    = 8

	// Where a superblock states its number, the log's end, and its number again.
	numberAt = 0
	endAt    = wordBytes
	againAt  = api.Sector - wordBytes
)

type sector [api.Sector]byte

// pair is both superblocks, by their sectors.
type pair [superblocks]sector

// head is what a journal has of the superblocks.
type head struct {
	place  int    // the sector of the current one
	number uint64 // its number
	top    uint64 // the maximum of the numbers in both sectors
}

// next is the head after a commit: the sector that is not the current one has a number above those of both, so that a part of its write never makes it valid.
func (h head) next() head {
	number := h.top + 1
	return head{place: superblocks - 1 - h.place, number: number, top: number}
}

func superblockOf(number, end uint64) sector {
	var s sector
	s.put(numberAt, number)
	s.put(endAt, end)
	s.put(againAt, number)
	return s
}

// put states a word from the byte at on, its most significant byte first.
func (s *sector) put(at int, word uint64) {
	for i := wordBytes - 1; i >= 0; i-- {
		s[at+i] = byte(word)
		word >>= byteBits
	}
}

func (s *sector) word(at int) uint64 {
	word := uint64(0)
	for _, c := range s[at : at+wordBytes] {
		word = word<<byteBits | uint64(c)
	}
	return word
}

// isValid reports whether a superblock was written whole.
func (s *sector) isValid() bool {
	return s.word(numberAt) == s.word(againAt)
}

func pairOf(d *blockdev.Device) (pair, api.Errno) {
	var p pair
	for place := range p {
		b, e := d.Read(place)
		if e != api.OK {
			return pair{}, e
		}
		p[place] = sector(b)
	}
	return p, api.OK
}

// current returns the head and the end that the current superblock states, or false if none is valid.
func (p *pair) current() (now head, end uint64, found bool) {
	top := uint64(0)
	for place := range p {
		s := &p[place]
		number := s.word(numberAt)
		top = max(top, number, s.word(againAt))
		// Of two with the same number the first one is current.
		if s.isValid() && (!found || number > now.number) {
			now.place, now.number = place, number
			end, found = s.word(endAt), true
		}
	}
	now.top = top
	return now, end, found
}
