package tests

import (
	"fmt"
	"testing"

	"loop.example/g00611/impl"
)

// coding is how values of one kind become bytes and are recovered from them.
type coding[T any] struct {
	name   string
	write  func(T) ([]byte, bool)
	read   func([]byte) (T, bool)
	wanted func([]byte) (T, bool)
}

func poolCoding() coding[impl.Pool] {
	return coding[impl.Pool]{"Pool", impl.PoolBytes, impl.PoolRead, wantedPoolRead}
}

func nodeCoding() coding[impl.Node] {
	return coding[impl.Node]{"Node", impl.NodeBytes, impl.NodeRead, wantedNodeRead}
}

func (c coding[T]) checkNotWritten(t *testing.T, what string, value T) {
	t.Helper()
	if b, ok := c.write(value); ok || len(b) != 0 {
		t.Errorf("%s: %sBytes = %v %t, want nil and false", what, c.name, b, ok)
	}
}

// checkRead compares a reading with the wanted one, and what was read with its bytes.
func (c coding[T]) checkRead(t *testing.T, b []byte) bool {
	t.Helper()
	want, wantOk := c.wanted(b)
	got, ok := c.read(b)
	what := fmt.Sprintf("%sRead(%v)", c.name, b)
	checkFlag(t, what, ok, wantOk)
	checkSame(t, what, got, want)
	if ok {
		again, _ := c.write(got)
		checkBytes(t, c.name+"Bytes of what was read", again, b)
	}
	return ok
}

func (c coding[T]) checkNotRead(t *testing.T, what string, b []byte) {
	t.Helper()
	var zero T
	got, ok := c.read(b)
	checkFlag(t, what+": "+c.name+"Read", ok, false)
	checkSame(t, what+": "+c.name+"Read", got, zero)
}

// bytesTaker hands out bytes, and zeros when there are no more.
type bytesTaker struct {
	b  []byte
	ok bool
}

func (r *bytesTaker) take(count int) []byte {
	if len(r.b) < count {
		r.b, r.ok = nil, false
		return make([]byte, count)
	}
	part := r.b[:count]
	r.b = r.b[count:]
	return part
}

func (r *bytesTaker) one() int { return int(r.take(1)[0]) }

func (r *bytesTaker) two() int { return r.one()*256 + r.one() }

func (r *bytesTaker) four() int { return r.two()*65536 + r.two() }
