package codec

import (
	"math/bits"

	"franking/api"
)

// unsigned returns the unsigned form of an integer: 2n, or -2n - 1 for negative ones.
func unsigned(n int) uint64 { return uint64(n)<<1 ^ uint64(n>>63) }

// signed returns the integer with this unsigned form.
func signed(u uint64) int { return int(u>>1) ^ -int(u&1) }

func writeValue(b []byte, v api.Value) []byte {
	return forms()[v.Kind].write(append(b, byte(v.Kind)), v)
}

func writeInt(b []byte, v api.Value) []byte { return writeNumeral(b, unsigned(v.N)) }

func writeText(b []byte, v api.Value) []byte {
	return append(writeNumeral(b, uint64(len(v.S))), v.S...)
}

func writeList(b []byte, v api.Value) []byte {
	b = writeNumeral(b, uint64(len(v.L)))
	for _, x := range v.L {
		b = writeValue(b, x)
	}
	return b
}

func writeNumeral(b []byte, u uint64) []byte {
	for u >= 128 {
		b = append(b, byte(u)|128)
		u >>= 7
	}
	return append(b, byte(u))
}

func sizeValue(v api.Value) int { return 1 + forms()[v.Kind].size(v) }

func sizeInt(v api.Value) int { return sizeNumeral(unsigned(v.N)) }

func sizeText(v api.Value) int { return sizeNumeral(uint64(len(v.S))) + len(v.S) }

func sizeList(v api.Value) int {
	n := sizeNumeral(uint64(len(v.L)))
	for _, x := range v.L {
		n += sizeValue(x)
	}
	return n
}

// sizeNumeral returns how many digits to the base 128 a number has.
func sizeNumeral(u uint64) int { return (max(bits.Len64(u), 1) + 6) / 7 }
