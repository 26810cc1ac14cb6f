// Package utf is layer 1: characters as bytes (UTF-8). See shared/doc/01-utf.md.
package utf

import (
	"transom/api"
)

// The greatest number of one, two, three and four bytes, and the numbers among them that are no characters.
const (
	lastOfOne   = 0x7f
	lastOfTwo   = 0x7ff
	lastOfThree = 0xffff
	lastOfFour  = 0x10ffff
	gapFirst    = 0xd800
	gapLast     = 0xdfff
)

// What the first byte of two, three and four bytes has beside the number's bits, and what a further byte has.
const (
	markTwo   = 0xc0
	markThree = 0xe0
	markFour  = 0xf0
	further   = 0x80
)

// A further byte has six bits of the number; the two above them are its mark.
const (
	sixBits     = 6
	sixMask     = 1<<sixBits - 1
	furtherMask = 0xff - sixMask
)

// Width tells how many bytes the character r has: 0, if r is none.
func Width(r int) int {
	switch {
	case r < 0 || r > lastOfFour || r >= gapFirst && r <= gapLast:
		return 0
	case r <= lastOfOne:
		return 1
	case r <= lastOfTwo:
		return 2
	case r <= lastOfThree:
		return 3
	}
	return 4
}

// Put tells the bytes of the character r: ErrArg, if r is none.
func Put(r int) (string, api.Errno) {
	width := Width(r)
	if width == 0 {
		return "", api.ErrArg
	}
	b := make([]byte, width)
	for i := width - 1; i > 0; i-- {
		b[i] = further | byte(r&sixMask)
		r >>= sixBits
	}
	b[0] = mark(width) | byte(r)
	return string(b), api.OK
}

// Next tells the character whose bytes s begins with, and how many they are: ErrShort, if s is empty or ends within one; ErrText, if s begins with none.
func Next(s string) (int, int, api.Errno) {
	if s == "" {
		return 0, 0, api.ErrShort
	}
	r, width := lead(s[0])
	err := api.OK
look:
	for at := 1; ; at++ {
		switch {
		case !begins(r, width, at):
			err = api.ErrText
			break look
		case at == width:
			break look
		case at == len(s):
			err = api.ErrShort
			break look
		case s[at]&furtherMask != further:
			err = api.ErrText
			break look
		}
		r = r<<sixBits | int(s[at]&sixMask)
	}
	if err != api.OK {
		return 0, 0, err
	}
	return r, width, api.OK
}

// Count tells how many characters s is: -1, if not all of s is characters.
func Count(s string) int {
	count := 0
	for s != "" {
		_, width, err := Next(s)
		if err != api.OK {
			return -1
		}
		s = s[width:]
		count++
	}
	return count
}

// Valid tells whether all of s is characters.
func Valid(s string) bool {
	return Count(s) >= 0
}

// Runes tells the characters of s, up to where Next tells an error.
func Runes(s string) []int {
	var all []int
	for {
		r, width, err := Next(s)
		if err != api.OK {
			return all
		}
		all = append(all, r)
		s = s[width:]
	}
}

// mark tells what the first of so many bytes has beside the number's bits.
func mark(width int) byte {
	switch width {
	case 2:
		return markTwo
	case 3:
		return markThree
	case 4:
		return markFour
	}
	return 0
}

// lead tells the number's bits in a first byte, and how many bytes there are: 0 of one that can only be a further byte.
// A byte that no character begins with for its number's sake (192, 193, 245 and above) is left to begins.
func lead(b byte) (int, int) {
	switch {
	case b <= lastOfOne:
		return int(b), 1
	case b < markTwo:
		return 0, 0
	case b < markThree:
		return int(b - markTwo), 2
	case b < markFour:
		return int(b - markThree), 3
	}
	return int(b - markFour), 4
}

// begins tells whether the first bytes of some character of that width, as many as were seen, have the bits r.
// The bits that are still open may be any, so r stands for a block of numbers. Neither the borders between widths
// nor the gap cut any block at both of its ends, so one that has characters of the width has one at an end.
func begins(r, width, seen int) bool {
	if width == 0 {
		return false
	}
	open := sixBits * (width - seen)
	first := r << open
	last := first + 1<<open - 1
	return Width(first) == width || Width(last) == width
}
