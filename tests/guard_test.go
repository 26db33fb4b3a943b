package tests

import (
	"slices"
	"testing"
)

// guarded is a slice argument with known memory in front of it and in its spare capacity, so that a test sees every change of that memory.
type guarded[T comparable] struct {
	part    []T
	backing []T
	saved   []T
}

const guardWidth = 16

func guard[T byte | int](content []T) guarded[T] {
	return guardBetween(201, content)
}

// guardBetween surrounds the content with copies of a value that no function of the package makes.
func guardBetween[T comparable](edge T, content []T) guarded[T] {
	edges := slices.Repeat([]T{edge}, guardWidth)
	backing := slices.Concat(edges, content, edges)
	return guarded[T]{
		part:    backing[guardWidth : guardWidth+len(content)],
		backing: backing,
		saved:   slices.Clone(backing),
	}
}

func (g guarded[T]) check(t *testing.T, what string) {
	t.Helper()
	if !slices.Equal(g.backing, g.saved) {
		t.Errorf("%s: the memory of an argument is %v, was %v", what, g.backing, g.saved)
	}
}

// scribble changes all memory that a result reaches, its spare capacity included.
func scribble[T byte | int](result []T) {
	all := result[:cap(result)]
	for i := range all {
		all[i] ^= 85
	}
}
