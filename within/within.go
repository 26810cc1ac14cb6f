// Package within is beside the layers: numbers as chapter 3 writes them, of which but some may be. Layers that read such numbers call it.
package within

import (
	"transom/api"
	"transom/pack"
)

// Read tells the number whose bytes s begins with, and what is behind them: pack's error, or the error past, unless it is low to high.
func Read(s string, low, high uint64, past api.Errno) (int, string, api.Errno) {
	n, rest, err := pack.ReadUint(s)
	if err != api.OK {
		return 0, "", err
	}
	// Asked of the uint64: a number above the greatest int would be below 0 as an int.
	if n < low || n > high {
		return 0, "", past
	}
	return int(n), rest, api.OK
}
