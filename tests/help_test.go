package tests

import (
	"fmt"
	"math"
	"reflect"
	"slices"
	"testing"

	"loop.example/g00336/impl"
)

// odd are numbers at which sums and differences would wrap, and those around the limits.
var odd = []int64{math.MinInt64, math.MinInt64 + 1, -401, -20, -1, 0, 1, 2, 3, 19, 20, 21, 99, 100, 101, 380, 381, 399, 400, 401, math.MaxInt64 - 20, math.MaxInt64 - 1, math.MaxInt64}

// watched is a list with spare room behind it and a copy of both, so that a write into either shows.
type watched[T comparable] struct {
	list, was []T
}

func watch[T comparable](l []T, spare T) watched[T] {
	whole := make([]T, len(l)+40)
	copy(whole, l)
	for i := len(l); i < len(whole); i++ {
		whole[i] = spare
	}
	return watched[T]{list: whole[:len(l)], was: slices.Clone(whole)}
}

func (w watched[T]) check(t *testing.T, what string) {
	t.Helper()
	if !slices.Equal(w.list[:cap(w.list)], w.was) {
		t.Errorf("%s: the argument or the room behind it was written into: %v", what, w.list[:cap(w.list)])
	}
}

// apart fails if a write into the answer, as far as its room goes, shows in the argument, or the other way round.
func apart[T comparable](t *testing.T, what string, answer []T, mark T, args ...watched[T]) {
	t.Helper()
	kept := slices.Clone(answer)
	for _, a := range args {
		a.check(t, what)
		fill(a.list[:cap(a.list)], mark)
	}
	if !slices.Equal(answer, kept) {
		t.Errorf("%s: the answer shares memory with an argument", what)
	}
	for _, a := range args {
		copy(a.list[:cap(a.list)], a.was)
	}
	fill(answer[:cap(answer)], mark)
	for _, a := range args {
		a.check(t, what+", the answer being written into")
	}
}

func fill[T any](l []T, mark T) {
	for i := range l {
		l[i] = mark
	}
}

var (
	extentMark = impl.Extent{Addr: 77, Data: "mark"}
	extentRoom = impl.Extent{Addr: 88, Data: "room"}
	partMark   = impl.Part{Addr: 77, From: 7, Len: 7}
	partRoom   = impl.Part{Addr: 88, From: 8, Len: 8}
)

// span is the memory of one list, with the room behind it.
type span struct {
	name     string
	from, to uintptr
}

func spansOf[T any](name string, l []T) []span {
	if cap(l) == 0 {
		return nil
	}
	from := reflect.ValueOf(l).Pointer()
	return []span{{name, from, from + uintptr(cap(l))*reflect.TypeFor[T]().Size()}}
}

func poolSpans(name string, p impl.Pool) []span {
	all := slices.Concat(spansOf(name+".Extents", p.Extents), spansOf(name+".Vols", p.Vols), spansOf(name+".Refs", p.Refs), spansOf(name+".Late", p.Late))
	for i, v := range p.Vols {
		all = append(all, spansOf(fmt.Sprint(name, ".Vols ", i), v.Items)...)
		for k, x := range v.Items {
			all = append(all, spansOf(fmt.Sprint(name, ".Vols ", i, " Items ", k), x.Parts)...)
		}
	}
	return all
}

// checkApart fails if any two of these lists share memory.
func checkApart(t *testing.T, what string, lists ...[]span) {
	t.Helper()
	all := slices.Concat(lists...)
	for i, a := range all {
		for _, b := range all[:i] {
			if a.from < b.to && b.from < a.to {
				t.Errorf("%s: %s and %s share memory", what, a.name, b.name)
			}
		}
	}
}
