package sample

import (
	"slices"
)

// Roomy tells l in memory of its own, with room behind it, where spare stands: that a call writes there is found out by Kept.
func Roomy[T any](l []T, spare T) []T {
	return append(slices.Clone(l), spare, spare)[:len(l)]
}

// Kept tells whether l, which Roomy told, is as it was, and so is what stands behind it.
func Kept[T any](l, was []T, spare T, alike func(a, b T) bool) bool {
	return slices.EqualFunc(l[:len(l)+2], append(slices.Clone(was), spare, spare), alike)
}

// Scribble writes to all of l's memory, up to its very end.
func Scribble[T any](l []T, what T) {
	for i := range l[:cap(l)] {
		l[:cap(l)][i] = what
	}
}

// Apart writes to all memory of those lists, one by one, and tells whether each was as it had been till its turn came: whether no two of them share any.
func Apart[T any](lists [][]T, what T, alike func(a, b T) bool) bool {
	was := make([][]T, len(lists))
	for i, l := range lists {
		was[i] = slices.Clone(l)
	}
	apart := true
	for i, l := range lists {
		apart = apart && slices.EqualFunc(l, was[i], alike)
		Scribble(l, what)
	}
	return apart
}

// roomyAll tells what Roomy tells of l, and each item in memory of its own, too, which roomy tells.
func roomyAll[T any](l []T, spare T, roomy func(T) T) []T {
	l = Roomy(l, spare)
	for i := range l {
		l[i] = roomy(l[i])
	}
	return l
}

// keptAll tells whether l, which roomyAll told, is as it was, and so is each item, which kept tells.
func keptAll[T any](l, was []T, spare T, alike, kept func(a, b T) bool) bool {
	return Kept(l, was, spare, alike) && slices.EqualFunc(l, was, kept)
}

// same is the language's own ==.
func same[T comparable](a, b T) bool {
	return a == b
}
