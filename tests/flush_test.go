package tests

import (
	"fmt"
	"math"
	"slices"
	"testing"

	"loop.example/g00611/impl"
)

// The signature that chapter 5 gives.
var _ func(impl.Pool, int, []byte) (impl.Pool, []impl.Held, int) = impl.Flush

// wantedFlush takes valid arguments only.
func wantedFlush(p impl.Pool, need int, draws []byte) (impl.Pool, []impl.Held, int) {
	if len(p.L) < need {
		return p, nil, 0
	}
	order, used := wantedShuffle(draws, len(p.L))
	if used == -1 {
		return p, nil, -1
	}
	var cells []impl.Held
	for _, i := range order {
		cells = append(cells, p.L[i])
	}
	return impl.Pool{Tags: p.Tags}, cells, used
}

func checkFlushed(t *testing.T, p impl.Pool, need int, draws []byte) ([]impl.Held, int) {
	t.Helper()
	want, wantCells, wantUsed := wantedFlush(p, need, draws)
	got, cells, used := impl.Flush(p, need, draws)
	what := fmt.Sprintf("Flush of %d cells, %d needed, by %v", len(p.L), need, draws)
	checkSame(t, what, got, want)
	checkSame(t, what, cells, wantCells)
	check(t, what, used, wantUsed)
	checkFlag(t, "PoolOk after "+what, impl.PoolOk(got), true)
	return cells, used
}

// checkNotFlushed wants the result for a pool or a need that is not valid.
func checkNotFlushed(t *testing.T, what string, p impl.Pool, need int, draws []byte) {
	t.Helper()
	got, cells, used := impl.Flush(p, need, draws)
	checkSame(t, what+": the pool of Flush", got, impl.Pool{})
	checkSame(t, what+": the cells of Flush", cells, []impl.Held{})
	check(t, what+": the number of Flush", used, -2)
}

// checkStays wants the pool unchanged, no cells and a number.
func checkStays(t *testing.T, p impl.Pool, need int, draws []byte, number int) {
	t.Helper()
	got, cells, used := impl.Flush(p, need, draws)
	what := fmt.Sprintf("Flush of %d cells, %d needed, by %v", len(p.L), need, draws)
	checkSame(t, what, got, p)
	checkSame(t, what, cells, []impl.Held{})
	check(t, what, used, number)
}

func TestFlush(t *testing.T) {
	a, b, c := held(1, 9, 1), held(7, 300, 2), held(1, 5, 3)
	tags := []int{4, 0, 9}
	tests := []struct {
		cells []impl.Held
		draws []byte
		order []impl.Held
		used  int
	}{
		{[]impl.Held{a}, nil, []impl.Held{a}, 0},
		{[]impl.Held{a}, []byte{3, 4}, []impl.Held{a}, 0},
		{[]impl.Held{a, b}, []byte{0}, []impl.Held{b, a}, 1},
		{[]impl.Held{a, b}, []byte{1}, []impl.Held{a, b}, 1},
		{[]impl.Held{a, b}, []byte{255, 0}, []impl.Held{a, b}, 1},
		{[]impl.Held{a, b, c}, []byte{1, 0, 9}, []impl.Held{c, a, b}, 2},
		{[]impl.Held{a, b, c}, []byte{0, 0}, []impl.Held{b, c, a}, 2},
		{[]impl.Held{a, b, c}, []byte{255, 255, 1, 0}, []impl.Held{c, a, b}, 4},
	}
	for _, f := range tests {
		p, cells, used := impl.Flush(impl.Pool{L: f.cells, Tags: tags}, 1, f.draws)
		checkSame(t, "the pool after a flush", p, impl.Pool{Tags: tags})
		checkSame(t, "the cells of a flush", cells, f.order)
		check(t, "the draws of a flush", used, f.used)
	}
}

func TestFlushOfTooFewCells(t *testing.T) {
	for cells := range mostHeld + 1 {
		p := poolOf(cells, 5)
		for need := 1; need <= mostHeld; need++ {
			for _, draws := range [][]byte{nil, {0}, drawn(100, need), slices.Repeat([]byte{255}, 40)} {
				checkFlushed(t, p, need, draws)
				// That there are too few cells comes before too few draws.
				if cells < need {
					checkStays(t, p, need, draws, 0)
				}
			}
		}
		if cells > 0 {
			flushed, used := checkFlushed(t, p, cells, make([]byte, cells-1))
			check(t, "the cells of a flush", len(flushed), cells)
			check(t, "the draws of a flush", used, cells-1)
		}
	}
	for need := 1; need <= mostHeld; need++ {
		checkStays(t, impl.Pool{}, need, drawn(100, 1), 0)
		checkStays(t, impl.Pool{Tags: tagsOf(mostTags)}, need, nil, 0)
	}
}

func TestFlushOfInvalidNeeds(t *testing.T) {
	needs := []int{0, -1, -mostHeld, mostHeld + 1, mostHeld + 2, 256 + 1, 1<<32 + 1, 1<<32 + mostHeld, math.MinInt, math.MinInt + 1, math.MaxInt}
	for _, need := range needs {
		for _, p := range []impl.Pool{{}, {Tags: tagsOf(3)}, goodPool(), poolOf(1, 1), poolOf(mostHeld, 0), poolOf(mostHeld, mostTags)} {
			checkNotFlushed(t, "an invalid need", p, need, drawn(100, 1))
			checkNotFlushed(t, "an invalid need", p, need, nil)
		}
	}
}

func TestFlushWhenDrawsRunOut(t *testing.T) {
	for cells := 1; cells <= mostHeld; cells++ {
		p := poolOf(cells, 5)
		_, used := checkFlushed(t, p, 1, make([]byte, cells-1))
		check(t, "the draws that just suffice", used, cells-1)
		for fewer := range cells - 1 {
			checkStays(t, p, 1, make([]byte, fewer), -1)
			checkStays(t, p, cells, make([]byte, fewer), -1)
			// Draws behind the length do not count.
			checkStays(t, p, 1, make([]byte, 100)[:fewer], -1)
		}
		// The greatest byte is rejected where the number of cells divides no power of two.
		if 256%cells != 0 {
			checkStays(t, p, 1, slices.Repeat([]byte{255}, 300), -1)
			rejected := append(slices.Repeat([]byte{255}, 300), make([]byte, cells-1)...)
			_, used = checkFlushed(t, p, 1, rejected)
			check(t, "the draws with the rejected ones", used, len(rejected))
			checkStays(t, p, 1, rejected[:len(rejected)-1], -1)
			checkStays(t, p, 1, rejected[2:301], -1)
		}
	}
}

func TestFlushByAnyDraws(t *testing.T) {
	for _, p := range goodPools() {
		for start := range 12 {
			for _, length := range []int{len(p.L) / 2, len(p.L), len(p.L) + 1, 60} {
				draws := drawn(length, start)
				for i := range draws {
					if (i+start)%5 == 2 {
						draws[i] = byte(250 + start%6)
					}
				}
				checkFlushed(t, p, 1+start%mostHeld, draws)
				checkFlushed(t, p, max(1, len(p.L)), draws)
			}
		}
	}
}

func TestAFlushRemovesAllCellsOrNone(t *testing.T) {
	for cells := range mostHeld + 1 {
		for start := range 40 {
			p := poolOf(cells, 5)
			q, flushed, used := impl.Flush(p, 1+start%6, drawn(start, start))
			all := append(slices.Clone(q.L), flushed...)
			checkSame(t, "the cells in the pool and out of it", sortedCells(all), sortedCells(p.L))
			checkFlag(t, "no cells in the pool or none out of it", len(q.L) == 0 || len(flushed) == 0, true)
			checkFlag(t, "a flush that used draws and left cells", used > 0 && len(q.L) > 0, false)
			checkNodes(t, "the tags after a flush", q.Tags, p.Tags...)
		}
	}
}

// For an observer, an exchange of two cells looks like another draw.
func TestExchangedCellsLookLikeAnotherDraw(t *testing.T) {
	a, b := held(3, 9, 1), held(5, 300, 2)
	one, other := impl.Pool{L: []impl.Held{a, b}}, impl.Pool{L: []impl.Held{b, a}}
	for draw := range 256 {
		_, cells, used := impl.Flush(one, 2, []byte{byte(draw)})
		check(t, "the number of cells", len(cells), 2)
		for _, near := range []int{draw - 1, draw + 1} {
			if near < 0 || near > 255 {
				continue
			}
			_, exchanged, nearUsed := impl.Flush(other, 2, []byte{byte(near)})
			checkSame(t, "the cells of another draw", exchanged, cells)
			check(t, "the number of other draws", nearUsed, used)
		}
		_, same, _ := impl.Flush(other, 2, []byte{byte(draw)})
		checkFlag(t, "equal output of the same draw", fmt.Sprint(same) == fmt.Sprint(cells), false)
	}
}

func TestFlushIsNewMemory(t *testing.T) {
	numbers := map[int]int{}
	for _, p := range memoryPools() {
		for _, need := range []int{0, 1, 2, mostHeld} {
			for _, draws := range [][]byte{nil, {0}, make([]byte, mostHeld), drawn(100, 3)} {
				call := func(in PoolInput) pooled {
					got, cells, used := impl.Flush(in.Pool, need, in.Draws)
					return pooled{got, cells, used}
				}
				in := PoolInput{Pool: p, Draws: draws}
				checkNested(t, "Flush", in, call)
				numbers[min(1, call(in).N)]++
			}
		}
	}
	for number := -2; number <= 1; number++ {
		if numbers[number] == 0 {
			t.Errorf("no call with the number %d", number)
		}
	}
}
