package within_test

import (
	"encoding/binary"
	"testing"

	"transom/api"
	"transom/within"
)

// numbers hold some that take one byte, two, and more, and those around what an int holds.
var numbers = []uint64{0, 1, 2, 5, 6, 7, 8, 63, 64, 65, 99, 100, 101, 127, 128, 129, 255, 256, 257, 1 << 32, 1<<32 + 1, 1<<63 - 1, 1 << 63, 1<<63 + 6, 1<<64 - 1}

// borders hold what is the least and the greatest that may be.
var borders = []struct{ low, high uint64 }{{0, 0}, {1, 1}, {1, 6}, {0, 8}, {0, 64}, {0, 100}, {1, 128}, {128, 256}, {0, 1<<63 - 1}}

// bytesOf tells n's bytes, in the library's own words.
func bytesOf(n uint64) string {
	return string(binary.AppendUvarint(nil, n))
}

// wantRead holds Read against a number and what is behind it, and against an error.
func wantRead(t *testing.T, s string, low, high uint64, past api.Errno, n int, behind string, want api.Errno) {
	t.Helper()
	got, rest, err := within.Read(s, low, high, past)
	if got != n || rest != behind || err != want {
		t.Errorf("Read(%q, %d, %d, %d) = %d, %q, %d, not %d, %q, %d", s, low, high, past, got, rest, err, n, behind, want)
	}
}

func TestReadOfEachNumber(t *testing.T) {
	for _, b := range borders {
		for _, n := range numbers {
			for _, past := range []api.Errno{api.ErrArg, api.ErrLimit} {
				for _, behind := range []string{"", "z", "\x00", "\x80"} {
					if n >= b.low && n <= b.high {
						wantRead(t, bytesOf(n)+behind, b.low, b.high, past, int(n), behind, api.OK)
					} else {
						wantRead(t, bytesOf(n)+behind, b.low, b.high, past, 0, "", past)
					}
				}
			}
		}
	}
}

// Bytes that no number has: pack's error is told, whatever may be.
func TestReadOfWhatIsNoNumber(t *testing.T) {
	for _, b := range borders {
		for s, want := range map[string]api.Errno{
			"":             api.ErrShort,
			"\x80":         api.ErrShort,
			"\xff\xff":     api.ErrShort,
			"\x80\x00":     api.ErrForm,
			"\x81\x00z":    api.ErrForm,
			"\x81\x80\x00": api.ErrForm,
			"\xff\xff\xff\xff\xff\xff\xff\xff\xff\x02": api.ErrForm,
		} {
			wantRead(t, s, b.low, b.high, api.ErrLimit, 0, "", want)
		}
	}
}
