package tests

import (
	"math"
	"slices"
	"testing"

	"loop.example/g00336/impl"
)

// odd are numbers at which sums and differences would wrap, and those around the limits.
var odd = []int64{math.MinInt64, math.MinInt64 + 1, -401, -20, -1, 0, 1, 2, 3, 19, 20, 21, 99, 100, 101, 380, 381, 399, 400, 401, math.MaxInt64 - 20, math.MaxInt64 - 1, math.MaxInt64}

// watched is a list with spare room behind it and a copy of both, so that a write into either shows.
type watched[T comparable] struct {
	list, was []T
}

func watch[T comparable](l []T, spare T) watched[T] {
	whole := make([]T, len(l)+40)
	copy(whole, l)
	for i := len(l); i < len(whole); i++ {
		whole[i] = spare
	}
	return watched[T]{list: whole[:len(l)], was: slices.Clone(whole)}
}

func (w watched[T]) check(t *testing.T, what string) {
	t.Helper()
	if !slices.Equal(w.list[:cap(w.list)], w.was) {
		t.Errorf("%s: the argument or the room behind it was written into: %v", what, w.list[:cap(w.list)])
	}
}

// apart fails if a write into the answer, as far as its room goes, shows in the argument, or the other way round.
func apart[T comparable](t *testing.T, what string, answer []T, mark T, args ...watched[T]) {
	t.Helper()
	kept := slices.Clone(answer)
	for _, a := range args {
		a.check(t, what)
		fill(a.list[:cap(a.list)], mark)
	}
	if !slices.Equal(answer, kept) {
		t.Errorf("%s: the answer shares memory with an argument", what)
	}
	for _, a := range args {
		copy(a.list[:cap(a.list)], a.was)
	}
	fill(answer[:cap(answer)], mark)
	for _, a := range args {
		a.check(t, what+", the answer being written into")
	}
}

func fill[T any](l []T, mark T) {
	for i := range l {
		l[i] = mark
	}
}

var (
	extentMark = impl.Extent{Addr: 77, Data: "mark"}
	extentRoom = impl.Extent{Addr: 88, Data: "room"}
	partMark   = impl.Part{Addr: 77, From: 7, Len: 7}
	partRoom   = impl.Part{Addr: 88, From: 8, Len: 8}
)
