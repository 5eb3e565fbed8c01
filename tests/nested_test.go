package tests

import (
	"fmt"
	"reflect"
	"runtime"
	"slices"
	"testing"

	"loop.example/g00611/impl"
)

// nestedLoan is a value whose slices may hold slices: each of them, at every
// depth, lies in memory of its own among elements that are foreign to it.
type nestedLoan struct {
	value    reflect.Value
	memories []reflect.Value
}

func lendNested(value any, room int, foreign int) *nestedLoan {
	l := &nestedLoan{}
	l.value = l.lend(reflect.ValueOf(value), room, foreign)
	return l
}

func (l *nestedLoan) lend(v reflect.Value, room int, foreign int) reflect.Value {
	result := reflect.New(v.Type()).Elem()
	switch v.Kind() {
	case reflect.Struct:
		for i := range v.NumField() {
			result.Field(i).Set(l.lend(v.Field(i), room, foreign))
		}
	case reflect.Slice:
		memory := reflect.MakeSlice(v.Type(), room+v.Len()+room, room+v.Len()+room)
		for i := range memory.Len() {
			if i < room || i >= room+v.Len() {
				memory.Index(i).Set(foreigner(v.Type().Elem(), foreign))
			} else {
				memory.Index(i).Set(l.lend(v.Index(i-room), room, foreign))
			}
		}
		l.memories = append(l.memories, memory)
		result = memory.Slice(room, room+v.Len())
	default:
		result.Set(v)
	}
	return result
}

// foreigner is a value that has a number in each of its fields.
func foreigner(kind reflect.Type, number int) reflect.Value {
	result := reflect.New(kind).Elem()
	switch kind.Kind() {
	case reflect.Struct:
		for i := range kind.NumField() {
			result.Field(i).Set(foreigner(kind.Field(i).Type, number))
		}
	case reflect.Slice:
		result.Set(reflect.Append(result, foreigner(kind.Elem(), number)))
	default:
		result.Set(reflect.ValueOf(number).Convert(kind))
	}
	return result
}

// seen tells all that the memory of a loan holds.
func (l *nestedLoan) seen() string {
	var texts []string
	for _, memory := range l.memories {
		texts = append(texts, fmt.Sprint(memory))
	}
	return fmt.Sprint(texts)
}

// region is where the elements of a slice lie, those behind its length, too.
type region struct {
	start uintptr
	end   uintptr
}

// regions finds the memory of every slice in a value.
func regions(v reflect.Value) []region {
	var list []region
	switch v.Kind() {
	case reflect.Struct:
		for i := range v.NumField() {
			list = append(list, regions(v.Field(i))...)
		}
	case reflect.Slice:
		whole := v.Slice(0, v.Cap())
		if whole.Len() > 0 {
			list = append(list, region{whole.Pointer(), whole.Pointer() + uintptr(whole.Len())*v.Type().Elem().Size()})
		}
		for i := range whole.Len() {
			list = append(list, regions(whole.Index(i))...)
		}
	}
	return list
}

func overlap(list []region) bool {
	slices.SortFunc(list, func(a region, b region) int { return int(a.start) - int(b.start) })
	for i := 1; i < len(list); i++ {
		if list[i].start < list[i-1].end {
			return true
		}
	}
	return false
}

// nestedFaults calls a function with an argument in several surroundings: its
// result has to be the same one in each, and no slice of it may share memory
// with another one, nor with the argument, nor with the result of another call.
func nestedFaults[A any, R any](argument A, call func(A) R) []string {
	const room = 9
	want := fmt.Sprint(call(lendNested(argument, room, 3).value.Interface().(A)))
	var found []string
	for _, foreign := range []int{0, 1, 7, 255} {
		lent := lendNested(argument, room, foreign)
		before := lent.seen()
		first := call(lent.value.Interface().(A))
		second := call(lent.value.Interface().(A))
		if fmt.Sprint(first) != want || fmt.Sprint(second) != want {
			found = append(found, "the result depends on memory behind the argument")
		}
		if lent.seen() != before {
			found = append(found, "the argument or memory beside it is changed")
		}
		list := append(regions(reflect.ValueOf(&first).Elem()), regions(reflect.ValueOf(&second).Elem())...)
		for _, memory := range lent.memories {
			list = append(list, regions(memory)[:min(1, memory.Len())]...)
		}
		if overlap(list) {
			found = append(found, "the result shares memory")
		}
		runtime.KeepAlive(&first)
		runtime.KeepAlive(&second)
		runtime.KeepAlive(lent)
	}
	return found
}

func checkNested[A any, R any](t *testing.T, what string, argument A, call func(A) R) {
	t.Helper()
	for _, fault := range nestedFaults(argument, call) {
		t.Errorf("%s: %s", what, fault)
	}
}

// anew copies a value and every slice in it.
func anew[T any](value T) T {
	return lendNested(value, 0, 0).value.Interface().(T)
}

func TestNestedFaultsAreFound(t *testing.T) {
	kept := []int{1, 2, 3}
	faults := map[string]func(impl.Desk) impl.Desk{
		"a result that is the argument": func(d impl.Desk) impl.Desk { return d },
		"an empty list in the argument": func(d impl.Desk) impl.Desk { return impl.Desk{Done: d.Done[:0]} },
		"a copy of the outer list only": func(d impl.Desk) impl.Desk { return impl.Desk{Open: slices.Clone(d.Open)} },
		"a change of the argument": func(d impl.Desk) impl.Desk {
			d.Open[1].Got[0].Data[2]++
			return impl.Desk{}
		},
		"a change behind a length": func(d impl.Desk) impl.Desk {
			d.Open[0].Got = append(d.Open[0].Got, impl.Piece{})
			return impl.Desk{}
		},
		"a result from behind a length": func(d impl.Desk) impl.Desk {
			return impl.Desk{Done: slices.Clone(d.Done[:len(d.Done)+1])}
		},
		"a result that two calls share": func(impl.Desk) impl.Desk { return impl.Desk{Done: kept} },
		"two slices of one result that share": func(d impl.Desk) impl.Desk {
			d = anew(d)
			d.Open[1].Got[1].Data = d.Open[0].Got[0].Data[10:]
			return d
		},
		"two slices that share behind their lengths": func(d impl.Desk) impl.Desk {
			d = anew(d)
			whole := make([]byte, 40)
			d.Open[0].Got[0].Data, d.Open[1].Got[1].Data = whole[:20], whole[20:]
			return d
		},
	}
	for what, fault := range faults {
		if len(nestedFaults(goodDesk(), fault)) == 0 {
			t.Errorf("not found: %s", what)
		}
	}
	if found := nestedFaults(goodDesk(), anew[impl.Desk]); len(found) != 0 {
		t.Errorf("found without a fault: %v", found)
	}
}
