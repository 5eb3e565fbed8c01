package tests

import (
	"slices"
	"testing"
)

type integer interface{ byte | int }

// loan is a slice that lies, with room behind its length, in memory whose
// other elements are foreign to it: by them it shows whether a function that
// got the slice changed more than its elements.
type loan[T integer] struct {
	memory []T
	before []T
	slice  []T
}

func lend[T integer](elements []T, foreign T) loan[T] {
	const room = 16
	memory := slices.Repeat([]T{foreign}, room+len(elements)+room)
	copy(memory[room:], elements)
	return loan[T]{memory, slices.Clone(memory), memory[room : room+len(elements)]}
}

func (l loan[T]) isUnchanged() bool { return slices.Equal(l.memory, l.before) }

// overwrite changes every element that a result reaches, those behind its length, too.
func overwrite[T integer](result []T) {
	whole := result[:cap(result)]
	for i := range whole {
		whole[i] = ^whole[i]
	}
}

// memoryFaults calls a function with an argument in several surroundings: its
// result has to be the same one in each, and to share no memory with the
// argument, nor with the result of another call.
func memoryFaults[A integer, R integer](argument []A, call func([]A) []R) []string {
	want := slices.Clone(call(lend(argument, 3).slice))
	var found []string
	for _, foreign := range []A{0, 1, 7, 255} {
		lent := lend(argument, foreign)
		first := call(lent.slice)
		second := call(lent.slice)
		if !slices.Equal(first, want) {
			found = append(found, "the result depends on memory behind the argument")
		}
		if !lent.isUnchanged() {
			found = append(found, "the argument or memory beside it is changed")
		}
		overwrite(first)
		if !lent.isUnchanged() {
			found = append(found, "the result shares memory with the argument")
		}
		if !slices.Equal(second, want) {
			found = append(found, "two results share memory")
		}
	}
	return found
}

func checkMemory[A integer, R integer](t *testing.T, what string, argument []A, call func([]A) []R) {
	t.Helper()
	for _, fault := range memoryFaults(argument, call) {
		t.Errorf("%s: %s", what, fault)
	}
}

func TestMemoryFaultsAreFound(t *testing.T) {
	kept := []byte{1, 2, 3}
	faults := map[string]func([]byte) []byte{
		"a result that is the argument":     func(b []byte) []byte { return b },
		"an empty result in the argument":   func(b []byte) []byte { return b[:0] },
		"a change of the argument":          func(b []byte) []byte { b[0]++; return nil },
		"a change behind the argument":      func(b []byte) []byte { b = append(b, 77); return nil },
		"a result from behind the argument": func(b []byte) []byte { return slices.Clone(b[:len(b)+1]) },
		"a result that two calls share":     func([]byte) []byte { return kept },
	}
	for what, fault := range faults {
		if len(memoryFaults([]byte{4, 5, 6}, fault)) == 0 {
			t.Errorf("not found: %s", what)
		}
	}
	if found := memoryFaults([]byte{4, 5, 6}, slices.Clone); len(found) != 0 {
		t.Errorf("found without a fault: %v", found)
	}
}
