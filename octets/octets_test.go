package octets_test

import (
	"encoding/binary"
	"testing"

	"transom/api"
	"transom/octets"
)

// numbers hold a byte of each worth at some place, and both borders.
var numbers = []uint64{0, 1, 127, 128, 255, 256, 0x0102030405060708, 0xfedcba9876543210, 1<<63 - 1, 1 << 63, 1<<64 - 1}

// whole tells a number's eight bytes by the library.
func whole(n uint64) string {
	return string(binary.BigEndian.AppendUint64(nil, n))
}

func TestPutWritesTheLowestBytesHighestFirst(t *testing.T) {
	for _, n := range numbers {
		for size := 0; size <= 8; size++ {
			want := "ab" + whole(n)[8-size:]
			if got := string(octets.Put([]byte("ab"), n, size)); got != want {
				t.Errorf("Put of %#x in %d bytes: %q, not %q", n, size, got, want)
			}
		}
	}
}

func TestReadTellsWhatWasPut(t *testing.T) {
	for _, n := range numbers {
		for size := 0; size <= 8; size++ {
			want := n
			if size < 8 {
				want %= 1 << (8 * size)
			}
			s := whole(n)[8-size:]
			for _, behind := range []string{"", "yz"} {
				got, rest, err := octets.Read(s+behind, size)
				if got != want || rest != behind || err != api.OK {
					t.Errorf("Read of %q: %#x, %q, %d, not %#x", s+behind, got, rest, err, want)
				}
			}
		}
	}
}

func TestReadOfTooFewBytes(t *testing.T) {
	for size := 1; size <= 8; size++ {
		for there := 0; there < size; there++ {
			n, rest, err := octets.Read(whole(1<<64 - 1)[:there], size)
			if n != 0 || rest != "" || err != api.ErrShort {
				t.Errorf("Read of %d bytes where %d are there: %d, %q, %d", size, there, n, rest, err)
			}
		}
	}
}
