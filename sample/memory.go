package sample

import (
	"slices"
)

// Roomy tells l in memory of its own, with room behind it, where spare stands: that a call writes there is found out by Kept.
func Roomy[T any](l []T, spare T) []T {
	return append(slices.Clone(l), spare, spare)[:len(l)]
}

// Kept tells whether l, which Roomy told, is as it was, and so is what stands behind it.
func Kept[T any](l, was []T, spare T, alike func(a, b T) bool) bool {
	return slices.EqualFunc(l[:len(l)+2], append(slices.Clone(was), spare, spare), alike)
}

// Scribble writes to all of l's memory, up to its very end.
func Scribble[T any](l []T, what T) {
	for i := range l[:cap(l)] {
		l[:cap(l)][i] = what
	}
}
