package journal

import (
	"iter"

	"franking/api"
)

// The places of what is in a sector; partSize is how many bytes of a record it has.
const (
	checksumAt = 4
	numberAt   = 8
	flagsAt    = 10
	countAt    = 11
	partAt     = 12
	againAt    = 124
	partSize   = againAt - partAt
)

// The flags of a sector.
const (
	beginsF = 1
	endsF   = 2
)

// part is what a good sector says.
type part struct {
	generation   uint32
	begins, ends bool
	data         []byte
}

// number32 returns the number that four bytes form.
func number32(b []byte) uint32 {
	n := uint32(0)
	for _, x := range b[:4] {
		n = n<<8 | uint32(x)
	}
	return n
}

// digits32 returns the four bytes of a number.
func digits32(n uint32) [4]byte {
	return [4]byte{byte(n >> 24), byte(n >> 16), byte(n >> 8), byte(n)}
}

func checksum(b []byte) uint32 {
	n := ^uint32(0)
	for _, x := range b {
		n ^= uint32(x)
		for range 8 {
			n = n>>1 ^ 0xEDB88320&-(n&1)
		}
	}
	return ^n
}

// good returns what a sector says, if it is good for its number.
func good(b []byte, number int) (p part, ok bool) {
	p.generation = number32(b)
	flags, count := b[flagsAt], int(b[countAt])
	p.begins, p.ends = flags&beginsF != 0, flags&endsF != 0
	switch {
	case p.generation == 0 || p.generation != number32(b[againAt:]):
	case int(b[numberAt])<<8|int(b[numberAt+1]) != number || flags > beginsF|endsF || count > partSize:
	case !p.ends && count != partSize || !p.begins && count == 0:
	case !blank(b[partAt+count:againAt]) || number32(b[checksumAt:]) != checksum(b[numberAt:againAt]):
	default:
		p.data = b[partAt : partAt+count]
		return p, true
	}
	return part{}, false
}

func blank(b []byte) bool {
	for _, x := range b {
		if x != 0 {
			return false
		}
	}
	return true
}

// sectorOf returns the sector with the part i of a record.
func sectorOf(record []byte, i, number int, generation uint32) [api.SectorSize]byte {
	var s [api.SectorSize]byte
	rest := record[i*partSize:]
	n := copy(s[partAt:againAt], rest)
	if i == 0 {
		s[flagsAt] |= beginsF
	}
	if n == len(rest) {
		s[flagsAt] |= endsF
	}
	s[countAt] = byte(n)
	s[numberAt], s[numberAt+1] = byte(number>>8), byte(number)
	g, c := digits32(generation), digits32(checksum(s[numberAt:againAt]))
	copy(s[:], g[:])
	copy(s[againAt:], g[:])
	copy(s[checksumAt:], c[:])
	return s
}

// records yields the records on a disk, up to the first sector at which none begins.
func records(sectors [][]byte) iter.Seq[[]byte] {
	return func(yield func(b []byte) bool) {
		last := uint32(0)
	scan:
		for at := 0; at < len(sectors); at++ {
			p, ok := good(sectors[at], at)
			if !ok || !p.begins || p.generation < last {
				break
			}
			last = p.generation
			record := append([]byte{}, p.data...)
			for !p.ends {
				at++
				if at == len(sectors) {
					break scan
				}
				p, ok = good(sectors[at], at)
				if !ok || p.begins || p.generation != last {
					break scan
				}
				record = append(record, p.data...)
			}
			if !yield(record) {
				return
			}
		}
	}
}

// newest returns the greatest number that stands where the generation of a sector stands.
func newest(sectors [][]byte) uint32 {
	n := uint32(0)
	for _, b := range sectors {
		n = max(n, number32(b), number32(b[againAt:]))
	}
	return n
}
