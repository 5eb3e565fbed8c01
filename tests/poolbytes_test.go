package tests

import (
	"bytes"
	"fmt"
	"slices"
	"testing"

	"loop.example/g00611/impl"
)

// The signatures that chapter 5 gives for the bytes of a pool.
var (
	_ func(impl.Pool) ([]byte, bool) = impl.PoolBytes
	_ func([]byte) (impl.Pool, bool) = impl.PoolRead
)

// wantedPoolBytes encodes any pool whose numbers fit their bytes, also one that is not valid.
func wantedPoolBytes(p impl.Pool) []byte {
	b := []byte{byte(len(p.L)), byte(len(p.Tags))}
	for _, h := range p.L {
		b = append(b, byte(h.Next), byte(h.Due/256), byte(h.Due%256))
		b = append(b, h.Cell.B...)
	}
	for _, tag := range p.Tags {
		b = append(b, withCode(tag, nil)...)
	}
	return b
}

// wantedPoolRead reads byte by byte, and looks for faults on the way.
func wantedPoolRead(b []byte) (impl.Pool, bool) {
	r := &bytesTaker{b, true}
	var p impl.Pool
	cells, tags := r.one(), r.one()
	for range cells {
		h := impl.Held{Next: r.one(), Due: r.two()}
		h.Cell.B = r.take(cellBytes)
		p.L = append(p.L, h)
		r.ok = r.ok && h.Next < nodeCount
	}
	for range tags {
		tag := r.four()
		r.ok = r.ok && tag < prime && !slices.Contains(p.Tags, tag)
		p.Tags = append(p.Tags, tag)
	}
	if !r.ok || len(r.b) > 0 || cells > mostHeld || tags > mostTags {
		return impl.Pool{}, false
	}
	return p, true
}

func checkNoPoolBytes(t *testing.T, what string, p impl.Pool) {
	t.Helper()
	poolCoding().checkNotWritten(t, what, p)
}

func checkPoolRead(t *testing.T, b []byte) bool {
	t.Helper()
	return poolCoding().checkRead(t, b)
}

func checkNoPool(t *testing.T, what string, b []byte) {
	t.Helper()
	poolCoding().checkNotRead(t, what, b)
}

func TestPoolBytes(t *testing.T) {
	b, ok := impl.PoolBytes(impl.Pool{})
	checkFlag(t, "PoolBytes of the empty pool", ok, true)
	checkBytes(t, "PoolBytes of the empty pool", b, []byte{0, 0})
	c := countedBytes(100, cellBytes)
	b, ok = impl.PoolBytes(impl.Pool{L: []impl.Held{{Next: 7, Due: 0x1234, Cell: impl.Cell{B: c}}}, Tags: []int{prime - 1, 0x01020304}})
	checkFlag(t, "PoolBytes", ok, true)
	checkBytes(t, "PoolBytes", b, slices.Concat([]byte{1, 2, 7, 0x12, 0x34}, c, []byte{0x7f, 0xff, 0xff, 0xfe, 1, 2, 3, 4}))
	for _, p := range goodPools() {
		b, ok := impl.PoolBytes(p)
		checkFlag(t, "PoolBytes", ok, true)
		checkBytes(t, "PoolBytes", b, wantedPoolBytes(p))
		check(t, "the length of PoolBytes", len(b), 2+83*len(p.L)+4*len(p.Tags))
	}
	for what, p := range badPools() {
		checkNoPoolBytes(t, what, p)
	}
}

func TestPoolsAreRecoveredFromTheirBytes(t *testing.T) {
	for _, p := range goodPools() {
		b, _ := impl.PoolBytes(p)
		got, ok := impl.PoolRead(b)
		checkFlag(t, "PoolRead", ok, true)
		checkSame(t, "PoolRead", got, p)
		checkFlag(t, "PoolRead of the bytes", checkPoolRead(t, b), true)
	}
	for cells := range mostHeld + 1 {
		for tags := range mostTags + 1 {
			p := poolOf(cells, tags)
			got, ok := impl.PoolRead(wantedPoolBytes(p))
			checkFlag(t, "PoolRead", ok, true)
			checkSame(t, "PoolRead", got, p)
		}
	}
}

func TestPoolReadOfInvalidPools(t *testing.T) {
	checkNoPool(t, "13 cells", wantedPoolBytes(poolOf(mostHeld+1, 3)))
	checkNoPool(t, "255 cells", wantedPoolBytes(poolOf(255, 0)))
	checkNoPool(t, "256 cells", wantedPoolBytes(poolOf(256, 0)))
	checkNoPool(t, "61 tags", wantedPoolBytes(poolOf(3, mostTags+1)))
	checkNoPool(t, "61 tags, no cells", wantedPoolBytes(poolOf(0, mostTags+1)))
	checkNoPool(t, "255 tags", wantedPoolBytes(poolOf(0, 255)))
	for _, tags := range [][]int{{5, 5}, {0, 0}, {1, 2, 3, 1}, {prime - 1, 9, prime - 1}, {prime}, {prime + 1}, {1, 1 << 31}, {1<<32 - 1, 1}, {0, prime}} {
		for cells := range 3 {
			checkNoPool(t, fmt.Sprintf("the tags %v", tags), wantedPoolBytes(impl.Pool{L: poolOf(cells, 0).L, Tags: tags}))
		}
	}
	for next := nodeCount; next <= 255; next++ {
		for at := range 3 {
			p := poolOf(3, 2)
			p.L[at].Next = next
			checkNoPool(t, "a Next of no node", wantedPoolBytes(p))
		}
	}
	for _, length := range []int{0, 1, 79, 81, 160, 163} {
		p := poolOf(3, 2)
		p.L[1].Cell.B = data(length)
		checkNoPool(t, "a cell of another size", wantedPoolBytes(p))
	}
}

func TestPoolReadOfOtherLengths(t *testing.T) {
	for _, p := range []impl.Pool{{}, poolOf(0, 1), poolOf(1, 0), goodPool(), poolOf(mostHeld, mostTags)} {
		b := wantedPoolBytes(p)
		for length := range b {
			checkNoPool(t, "bytes that are too short", b[:length])
			checkNoPool(t, "bytes that are too short", bytes.Clone(b[:length]))
		}
		for _, extra := range []int{1, 2, 3, 4, 5, 8, 79, 80, 83, 84, 87, 166} {
			checkNoPool(t, "bytes that are too long", append(bytes.Clone(b), make([]byte, extra)...))
			checkNoPool(t, "bytes that are too long", append(bytes.Clone(b), drawn(extra, 1)...))
		}
	}
	checkNoPool(t, "no bytes", nil)
	for _, length := range []int{1, 2, 3, 4, 6, 10, 85, 86, 89, 1000, 1238, 1239, 22187} {
		for _, filler := range []byte{0, 1, 2, 12, 60, 255} {
			checkPoolRead(t, bytes.Repeat([]byte{filler}, length))
		}
	}
}

// Numbers of cells and tags that do not fit each other or the length.
func TestPoolReadOfOtherNumbers(t *testing.T) {
	for _, p := range []impl.Pool{{}, poolOf(1, 3), goodPool(), poolOf(mostHeld, mostTags), poolOf(4, mostTags)} {
		b := wantedPoolBytes(p)
		for cells := range 256 {
			for _, tags := range append(counted(64), 128, 192, 255) {
				changed := bytes.Clone(b)
				changed[0], changed[1] = byte(cells), byte(tags)
				isSame := cells == len(p.L) && tags == len(p.Tags)
				if got, ok := impl.PoolRead(changed); ok != isSame || !ok && len(got.L)+len(got.Tags) > 0 {
					checkPoolRead(t, changed)
				}
			}
		}
	}
	// As long as 4 cells and 83 tags more or less.
	for _, tags := range []int{83, 84, 90, 143} {
		checkNoPool(t, "too many tags", wantedPoolBytes(poolOf(0, tags)))
		b := wantedPoolBytes(poolOf(0, tags))
		b[0], b[1] = 4, byte(tags-83)
		checkPoolRead(t, b)
	}
}

func TestPoolReadOfChangedBytes(t *testing.T) {
	for _, p := range []impl.Pool{poolOf(2, 3), goodPool()} {
		b := wantedPoolBytes(p)
		for i := range b {
			for _, value := range []byte{0, 1, 7, 8, 12, 13, 60, 61, 127, 128, 255, b[i] ^ 1, b[i] + 1} {
				changed := bytes.Clone(b)
				changed[i] = value
				checkPoolRead(t, changed)
			}
		}
	}
	valid := 0
	for start := range 3000 {
		b := drawn(2+83*(start%3)+4*(start%5), start)
		b[0], b[1] = byte(start%3), byte(start%5)
		for cell := range start % 3 {
			b[2+83*cell] %= nodeCount + 1
		}
		if checkPoolRead(t, b) {
			valid++
		}
	}
	checkFlag(t, "some of the drawn bytes are a pool, and some not", 0 < valid && valid < 3000, true)
}

func TestPoolBytesAreNewMemory(t *testing.T) {
	for _, p := range memoryPools() {
		checkNested(t, "PoolBytes", p, func(p impl.Pool) []byte {
			b, _ := impl.PoolBytes(p)
			return b
		})
		b := wantedPoolBytes(p)
		for _, b := range [][]byte{b, b[:1], b[:len(b)-1], append(bytes.Clone(b), 0)} {
			checkNested(t, "PoolRead", b, func(b []byte) impl.Pool {
				p, _ := impl.PoolRead(b)
				return p
			})
		}
	}
}
