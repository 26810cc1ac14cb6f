// Package octets is beside the layers: numbers in as many bytes as are asked for, the highest first. Layers whose numbers have a set size call it.
package octets

import (
	"transom/api"
)

// Put tells out with n behind, in so many bytes: the lowest ones of n, the highest of these first, so that numbers stand in order by their bytes.
func Put(out []byte, n uint64, size int) []byte {
	for left := size - 1; left >= 0; left-- {
		out = append(out, byte(n>>(8*left)))
	}
	return out
}

// Read tells the number whose bytes, so many, s begins with, and what is behind: ErrShort, if fewer are there.
func Read(s string, size int) (uint64, string, api.Errno) {
	if len(s) < size {
		return 0, "", api.ErrShort
	}
	var n uint64
	for i := range size {
		n = n<<8 | uint64(s[i])
	}
	return n, s[size:], api.OK
}
