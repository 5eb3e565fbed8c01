package tests

import (
	"fmt"
	"math"
	"reflect"
	"runtime"
	"slices"
	"testing"

	"loop.example/g00611/impl"
)

// The signatures that chapter 5 gives for pools.
var (
	_ func(impl.Held) bool                             = impl.HeldOk
	_ func(impl.Pool) bool                             = impl.PoolOk
	_ func(impl.Pool, impl.Held, int) (impl.Pool, int) = impl.Admit
	_ func(impl.Pool, int) (impl.Pool, int)            = impl.Expire
	_ func(impl.Pool, int) impl.Pool                   = impl.Forget
	_ func(impl.Pool, int) bool                        = impl.Saw
	_ func(impl.Pool) []int                            = impl.Nexts
	_ func(impl.Pool, int) []impl.Held                 = impl.For
	_ func(impl.Pool) int                              = impl.Earliest
)

// The limits are written out here so that a wrong constant is found.
const (
	mostHeld = 12
	mostTags = 60
)

// held returns a cell of its own contents for each mark.
func held(next int, due int, mark int) impl.Held {
	return impl.Held{Next: next, Due: due, Cell: impl.Cell{B: drawn(cellBytes, mark)}}
}

// tagsOf returns distinct tags in no order, 0 and P - 1 among them.
func tagsOf(count int) []int {
	var list []int
	for i := range count {
		list = append(list, (i+3)*77777777%prime)
	}
	copy(list[min(1, count):], []int{prime - 1, 0, 70})
	return list
}

func poolOf(cells int, tags int) impl.Pool {
	p := impl.Pool{Tags: tagsOf(tags)}
	dues := []int{300, lastDue, 0, 5, 256, 300}
	for i := range cells {
		p.L = append(p.L, held((7+5*i)%nodeCount, dues[i%len(dues)], i))
	}
	return p
}

func goodPool() impl.Pool {
	return impl.Pool{L: []impl.Held{held(1, 9, 1), held(7, 300, 2), held(1, 5, 3), held(0, 9, 4)}, Tags: []int{70, 0, prime - 1, 71, 5}}
}

func goodHelds() []impl.Held {
	list := []impl.Held{held(3, 0, 1), held(3, lastDue, 2), held(3, 300, 3)}
	for next := range nodeCount {
		list = append(list, held(next, 255+next, next))
	}
	for _, filler := range []byte{0, 1, 255} {
		list = append(list, impl.Held{Next: 2, Due: 9, Cell: impl.Cell{B: slices.Repeat([]byte{filler}, cellBytes)}})
	}
	return list
}

// badHelds has one fault each.
func badHelds() map[string]impl.Held {
	list := map[string]impl.Held{
		"no contents":        {},
		"a Next below 0":     held(-1, 9, 1),
		"a Next of no node":  held(nodeCount, 9, 1),
		"a Next of the exit": held(exit, 9, 1),
		"a Due below 0":      held(3, -1, 1),
		"a Due above 65535":  held(3, lastDue+1, 1),
	}
	for _, length := range []int{0, 1, 79, 81, 160, 336} {
		list[fmt.Sprintf("a cell of %d bytes", length)] = impl.Held{Next: 3, Due: 9, Cell: impl.Cell{B: data(length)}}
	}
	for _, n := range farNumbers {
		list[fmt.Sprintf("a Next of %d", n)] = held(n, 9, 1)
		list[fmt.Sprintf("a Due of %d", n)] = held(3, n, 1)
	}
	return list
}

func goodPools() []impl.Pool {
	list := []impl.Pool{{}, {L: []impl.Held{}, Tags: []int{}}, goodPool()}
	for _, cells := range []int{0, 1, 2, 3, mostHeld - 1, mostHeld} {
		for _, tags := range []int{0, 1, 2, 30, mostTags - 1, mostTags} {
			list = append(list, poolOf(cells, tags))
		}
	}
	for _, tag := range elements() {
		list = append(list, impl.Pool{Tags: []int{tag}})
	}
	for _, h := range goodHelds() {
		list = append(list, impl.Pool{L: []impl.Held{h}}, impl.Pool{L: slices.Repeat([]impl.Held{h}, mostHeld), Tags: tagsOf(2)})
	}
	return list
}

// badPools has one fault each, beside the faults that follow from it.
func badPools() map[string]impl.Pool {
	list := map[string]impl.Pool{
		"13 cells":            poolOf(mostHeld+1, 3),
		"13 cells, no tags":   poolOf(mostHeld+1, 0),
		"256 cells":           poolOf(256, 3),
		"61 tags":             poolOf(3, mostTags+1),
		"61 tags, no cells":   poolOf(0, mostTags+1),
		"256 tags":            poolOf(3, 256),
		"many equal tags":     {Tags: make([]int, 100000)},
		"two equal tags":      {Tags: []int{5, 5}},
		"two tags 0":          {Tags: []int{0, 1, 0}},
		"equal far tags":      {L: goodPool().L, Tags: []int{9, 1, 2, 3, 9}},
		"equal last tags":     {L: goodPool().L, Tags: []int{1, 2, 3, 9, 9}},
		"60 tags, two equal":  {Tags: append(tagsOf(mostTags-1), tagsOf(mostTags - 1)[30])},
		"60 tags, ends equal": {Tags: append(tagsOf(mostTags-1), tagsOf(1)[0])},
	}
	for what, h := range badHelds() {
		for _, at := range []int{0, 2, mostHeld - 1} {
			p := poolOf(mostHeld, 3)
			p.L[at] = h
			list[fmt.Sprintf("cell %d with %s", at, what)] = p
		}
		list["only a cell with "+what] = impl.Pool{L: []impl.Held{h}}
	}
	for _, tag := range notElements {
		for _, at := range []int{0, 2, 4} {
			p := goodPool()
			p.Tags[at] = tag
			list[fmt.Sprintf("the tag %d at %d", tag, at)] = p
		}
		list[fmt.Sprintf("only the tag %d", tag)] = impl.Pool{Tags: []int{tag}}
	}
	return list
}

// wantedAdmit takes valid arguments only.
func wantedAdmit(p impl.Pool, h impl.Held, tag int) (impl.Pool, int) {
	p = anew(p)
	if len(p.L) == mostHeld {
		return p, -2
	}
	for _, other := range p.Tags {
		if other == tag {
			return p, -1
		}
	}
	if len(p.Tags) == mostTags {
		return p, -2
	}
	return impl.Pool{L: append(p.L, h), Tags: append(p.Tags, tag)}, 0
}

func checkAdmitted(t *testing.T, p impl.Pool, h impl.Held, tag int, code int) impl.Pool {
	t.Helper()
	want, wantCode := wantedAdmit(p, h, tag)
	got, gotCode := impl.Admit(p, h, tag)
	what := fmt.Sprintf("Admit of the tag %d to %d cells and %d tags", tag, len(p.L), len(p.Tags))
	checkSame(t, what, got, want)
	check(t, what, gotCode, wantCode)
	check(t, what, gotCode, code)
	checkFlag(t, "PoolOk after "+what, impl.PoolOk(got), true)
	return got
}

func checkNotAdmitted(t *testing.T, what string, p impl.Pool, h impl.Held, tag int) {
	t.Helper()
	got, code := impl.Admit(p, h, tag)
	checkSame(t, what+": the pool of Admit", got, impl.Pool{})
	check(t, what+": the code of Admit", code, -3)
}

func TestPoolConstants(t *testing.T) {
	check(t, "MaxPool", impl.MaxPool, mostHeld)
	check(t, "MaxTags", impl.MaxTags, mostTags)
}

func TestHeldOk(t *testing.T) {
	for _, h := range goodHelds() {
		checkFlag(t, fmt.Sprintf("HeldOk(%v)", h), impl.HeldOk(h), true)
	}
	for what, h := range badHelds() {
		checkFlag(t, "HeldOk with "+what, impl.HeldOk(h), false)
	}
	for next := -300; next <= 300; next++ {
		checkFlag(t, "HeldOk of a Next", impl.HeldOk(held(next, 9, 1)), 0 <= next && next < nodeCount)
	}
	for length := range 300 {
		h := impl.Held{Next: 3, Due: 9, Cell: impl.Cell{B: data(300)[:length]}}
		checkFlag(t, "HeldOk of a length", impl.HeldOk(h), length == cellBytes)
	}
}

func TestPoolOk(t *testing.T) {
	for _, p := range goodPools() {
		checkFlag(t, fmt.Sprintf("PoolOk(%v)", p), impl.PoolOk(p), true)
	}
	for what, p := range badPools() {
		checkFlag(t, "PoolOk with "+what, impl.PoolOk(p), false)
	}
	for cells := range 30 {
		for tags := range 90 {
			checkFlag(t, "PoolOk", impl.PoolOk(poolOf(cells, tags)), cells <= mostHeld && tags <= mostTags)
		}
	}
	for first := range mostTags {
		for second := range first {
			p := poolOf(1, mostTags)
			p.Tags[first] = p.Tags[second]
			checkFlag(t, "PoolOk with equal tags", impl.PoolOk(p), false)
		}
	}
}

// Everything else that takes a pool has a fixed value for one that is not valid.
func TestInvalidPools(t *testing.T) {
	for what, p := range badPools() {
		for _, tag := range append([]int{0, 5, 72, -1, prime}, p.Tags[:min(3, len(p.Tags))]...) {
			checkNotAdmitted(t, what, p, held(3, 9, 1), tag)
			checkFlag(t, what+": Saw", impl.Saw(p, tag), false)
		}
		checkNotAdmitted(t, what, p, impl.Held{}, 72)
		for _, n := range []int{math.MinInt, -1, 0, 1, 3, 7, mostHeld, mostHeld + 1, 300, lastDue, math.MaxInt} {
			left, removed := impl.Expire(p, n)
			checkSame(t, what+": the pool of Expire", left, impl.Pool{})
			check(t, what+": the number of Expire", removed, -1)
			checkNotFlushed(t, what, p, n, make([]byte, 100))
			checkNotFlushed(t, what, p, n, nil)
			checkSame(t, what+": Forget", impl.Forget(p, n), impl.Pool{})
			checkSame(t, what+": For", impl.For(p, n), []impl.Held{})
		}
		checkNoPoolBytes(t, what, p)
		checkNodes(t, what+": Nexts", impl.Nexts(p))
		check(t, what+": Earliest", impl.Earliest(p), -1)
	}
}

func TestAdmit(t *testing.T) {
	first, second := held(1, 5, 1), held(2, 9, 2)
	p, code := impl.Admit(impl.Pool{}, first, 70)
	check(t, "the code of a first cell", code, 0)
	checkSame(t, "the pool of a first cell", p, impl.Pool{L: []impl.Held{first}, Tags: []int{70}})
	p, code = impl.Admit(p, second, 7)
	check(t, "the code of a second cell", code, 0)
	checkSame(t, "the pool of two cells", p, impl.Pool{L: []impl.Held{first, second}, Tags: []int{70, 7}})
	for _, tag := range []int{70, 7} {
		q, code := impl.Admit(p, held(3, 9, 3), tag)
		check(t, "the code of a tag again", code, -1)
		checkSame(t, "the pool after a tag again", q, p)
	}
	// Only the tag tells whether a cell was there before.
	p, code = impl.Admit(p, second, 0)
	check(t, "the code of an equal cell", code, 0)
	checkSame(t, "the pool with an equal cell", p, impl.Pool{L: []impl.Held{first, second, second}, Tags: []int{70, 7, 0}})
	for _, h := range goodHelds() {
		for _, tag := range elements() {
			q := checkAdmitted(t, impl.Pool{}, h, tag, 0)
			checkAdmitted(t, q, h, tag, -1)
		}
	}
}

func TestAdmitToAnyPool(t *testing.T) {
	codes := map[int]int{}
	for _, p := range goodPools() {
		for _, tag := range append([]int{0, 1, 5, 70, 72, prime - 1}, p.Tags...) {
			_, code := wantedAdmit(p, held(3, 9, 1), tag)
			checkAdmitted(t, p, held(3, 9, 1), tag, code)
			codes[code]++
		}
	}
	for code := -2; code <= 0; code++ {
		if codes[code] == 0 {
			t.Errorf("no call with the code %d", code)
		}
	}
}

func TestAdmitToFullPools(t *testing.T) {
	h := held(3, 9, 1)
	for _, tags := range []int{0, 5, mostTags - 1, mostTags} {
		full := poolOf(mostHeld, tags)
		checkAdmitted(t, full, h, 72, -2)
		// The number of cells is looked at before the tags.
		for _, tag := range full.Tags {
			checkAdmitted(t, full, h, tag, -2)
		}
	}
	last := checkAdmitted(t, poolOf(mostHeld-1, 5), h, 72, 0)
	check(t, "the number of cells", len(last.L), mostHeld)
	for _, cells := range []int{0, 1, mostHeld - 1} {
		full := poolOf(cells, mostTags)
		checkAdmitted(t, full, h, 72, -2)
		for _, tag := range full.Tags {
			checkAdmitted(t, full, h, tag, -1)
		}
		last := checkAdmitted(t, poolOf(cells, mostTags-1), h, 72, 0)
		check(t, "the number of tags", len(last.Tags), mostTags)
		checkAdmitted(t, impl.Forget(full, mostTags-1), h, 72, 0)
	}
	checkAdmitted(t, poolOf(mostHeld-1, mostTags-1), h, 72, 0)
}

// An invalid argument comes before a full pool and a recorded tag.
func TestAdmitOfInvalidArguments(t *testing.T) {
	pools := []impl.Pool{{}, goodPool(), poolOf(mostHeld, 5), poolOf(1, mostTags), poolOf(mostHeld, mostTags)}
	for _, p := range pools {
		for what, h := range badHelds() {
			for _, tag := range []int{0, 70, 72, prime - 1, prime, -1} {
				checkNotAdmitted(t, what, p, h, tag)
			}
		}
		for _, tag := range notElements {
			checkNotAdmitted(t, fmt.Sprintf("the tag %d", tag), p, held(3, 9, 1), tag)
		}
	}
}

// A tag stays recorded when its cell has left the pool.
func TestACellIsAdmittedOnce(t *testing.T) {
	p := impl.Pool{}
	for i, tag := range tagsOf(mostTags) {
		p = checkAdmitted(t, p, held(i%nodeCount, i, i), tag, 0)
		check(t, "the number of tags", len(p.Tags), i+1)
		for _, known := range tagsOf(i + 1) {
			checkAdmitted(t, p, held(3, 9, 1), known, -1)
		}
		if i%3 == 1 {
			p, _ = impl.Expire(p, i-1)
		} else if len(p.L) > 5 {
			p, _, _ = impl.Flush(p, 1, drawn(100, i))
		}
		checkAdmitted(t, p, held(3, 9, 1), tag, -1)
	}
	checkNodes(t, "the tags", p.Tags, tagsOf(mostTags)...)
	p = impl.Forget(p, mostTags-1)
	checkAdmitted(t, p, held(3, 9, 1), tagsOf(2)[1], -1)
	checkAdmitted(t, p, held(3, 9, 1), tagsOf(1)[0], 0)
}

func checkExpired(t *testing.T, p impl.Pool, now int) {
	t.Helper()
	want := impl.Pool{Tags: p.Tags}
	for _, h := range p.L {
		if h.Due > now {
			want.L = append(want.L, h)
		}
	}
	got, n := impl.Expire(p, now)
	what := fmt.Sprintf("Expire at %d of %d cells", now, len(p.L))
	checkSame(t, what, got, want)
	check(t, what, n, len(p.L)-len(want.L))
	checkFlag(t, "PoolOk after "+what, impl.PoolOk(got), true)
}

func TestExpire(t *testing.T) {
	p := goodPool()
	tests := []struct {
		now  int
		n    int
		left []impl.Held
	}{
		{4, 0, p.L}, {5, 1, []impl.Held{p.L[0], p.L[1], p.L[3]}}, {8, 1, []impl.Held{p.L[0], p.L[1], p.L[3]}},
		{9, 3, p.L[1:2]}, {10, 3, p.L[1:2]}, {299, 3, p.L[1:2]}, {300, 4, nil}, {301, 4, nil},
	}
	for _, c := range tests {
		got, n := impl.Expire(p, c.now)
		checkSame(t, "Expire", got, impl.Pool{L: c.left, Tags: p.Tags})
		check(t, "Expire", n, c.n)
	}
	for _, p := range goodPools() {
		nows := append([]int{-2, -1, 0, 1, 4, 5, 6, 8, 9, 10, 255, 256, 299, 300, 301, lastDue - 1, lastDue, lastDue + 1}, farNumbers...)
		for _, now := range nows {
			checkExpired(t, p, now)
		}
	}
}

func TestForget(t *testing.T) {
	p := goodPool()
	for keep, tags := range [][]int{{}, {5}, {71, 5}, {prime - 1, 71, 5}, {0, prime - 1, 71, 5}, p.Tags, p.Tags, p.Tags} {
		checkSame(t, "Forget", impl.Forget(p, keep), impl.Pool{L: p.L, Tags: tags})
	}
	for _, p := range goodPools() {
		keeps := []int{0, 1, 2, 29, 30, 31, mostTags - 1, mostTags, mostTags + 1, 1 << 32, 1<<32 + 1, math.MaxInt - 1, math.MaxInt}
		for _, keep := range append(keeps, len(p.Tags), len(p.Tags)+1, max(0, len(p.Tags)-1)) {
			want := impl.Pool{L: p.L}
			for i, tag := range p.Tags {
				if len(p.Tags)-i <= keep {
					want.Tags = append(want.Tags, tag)
				}
			}
			got := impl.Forget(p, keep)
			checkSame(t, fmt.Sprintf("Forget(%d)", keep), got, want)
			checkFlag(t, "PoolOk after Forget", impl.PoolOk(got), true)
		}
		for _, keep := range []int{-1, -2, -len(p.Tags), -len(p.Tags) - 1, -1 << 32, math.MinInt, math.MinInt + 1} {
			if keep < 0 {
				checkSame(t, fmt.Sprintf("Forget(%d)", keep), impl.Forget(p, keep), impl.Pool{})
			}
		}
	}
}

// checkPoolShown compares what the smaller functions tell of a valid pool with what it holds.
func checkPoolShown(t *testing.T, p impl.Pool) {
	t.Helper()
	for _, tag := range append(elements(), notElements...) {
		checkFlag(t, "Saw", impl.Saw(p, tag), slices.Contains(p.Tags, tag))
	}
	for _, tag := range p.Tags {
		checkFlag(t, "Saw of a tag", impl.Saw(p, tag), true)
		checkFlag(t, "Saw of a tag with another sign", impl.Saw(p, -tag), tag == 0)
		checkFlag(t, "Saw of a tag in more bits", impl.Saw(p, tag+1<<32), false)
	}
	counts := make([]int, nodeCount)
	earliest := -1
	for _, h := range p.L {
		counts[h.Next]++
		if earliest == -1 || h.Due < earliest {
			earliest = h.Due
		}
	}
	checkNodes(t, "Nexts", impl.Nexts(p), counts...)
	check(t, "Earliest", impl.Earliest(p), earliest)
	nexts := append([]int{-2, -1, nodeCount, nodeCount + 1, exit}, farNumbers...)
	for _, next := range append(nexts, counted(nodeCount)...) {
		var cells []impl.Held
		for _, h := range p.L {
			if h.Next == next {
				cells = append(cells, h)
			}
		}
		checkSame(t, fmt.Sprintf("For(%d)", next), impl.For(p, next), cells)
	}
}

func TestWhatPoolsShow(t *testing.T) {
	p := goodPool()
	checkNodes(t, "Nexts", impl.Nexts(p), 1, 2, 0, 0, 0, 0, 0, 1)
	checkNodes(t, "Nexts of no cells", impl.Nexts(impl.Pool{}), 0, 0, 0, 0, 0, 0, 0, 0)
	checkSame(t, "For", impl.For(p, 1), []impl.Held{p.L[0], p.L[2]})
	checkSame(t, "For a node without cells", impl.For(p, 2), []impl.Held{})
	check(t, "Earliest", impl.Earliest(p), 5)
	check(t, "Earliest of no cells", impl.Earliest(impl.Pool{Tags: []int{3}}), -1)
	check(t, "Earliest of the first time", impl.Earliest(impl.Pool{L: []impl.Held{held(1, 3, 1), held(1, 0, 1)}}), 0)
	check(t, "Earliest of the last time", impl.Earliest(impl.Pool{L: []impl.Held{held(1, lastDue, 1)}}), lastDue)
	checkFlag(t, "Saw", impl.Saw(p, 71), true)
	checkFlag(t, "Saw of another tag", impl.Saw(p, 72), false)
	checkFlag(t, "Saw of 0 in no tags", impl.Saw(impl.Pool{}, 0), false)
	for _, p := range goodPools() {
		checkPoolShown(t, p)
	}
}

func TestTheCellsForEachNodeAreAllCells(t *testing.T) {
	for _, p := range goodPools() {
		var marks []string
		total := 0
		for next, count := range impl.Nexts(p) {
			cells := impl.For(p, next)
			check(t, "the number of cells for a node", len(cells), count)
			total += count
			for _, h := range cells {
				marks = append(marks, fmt.Sprint(h))
			}
		}
		check(t, "the number of cells for all nodes", total, len(p.L))
		checkSame(t, "the cells for all nodes", slices.Sorted(slices.Values(marks)), sortedCells(p.L))
	}
}

// sortedCells makes lists of the same cells in different orders equal.
func sortedCells(cells []impl.Held) []string {
	var marks []string
	for _, h := range cells {
		marks = append(marks, fmt.Sprint(h))
	}
	slices.Sort(marks)
	return marks
}

// PoolInput has the arguments of one call; its fields are exported so that
// reflect can set them.
type PoolInput struct {
	Pool  impl.Pool
	Held  impl.Held
	Draws []byte
}

type pooled struct {
	Pool  impl.Pool
	Cells []impl.Held
	N     int
}

// memoryPools are few, with and without cells and tags, full and not valid ones.
func memoryPools() []impl.Pool {
	return []impl.Pool{
		{}, {Tags: tagsOf(2)}, {L: goodPool().L}, goodPool(), poolOf(1, 1), poolOf(2, 3), poolOf(mostHeld, 0), poolOf(mostHeld, 5),
		poolOf(mostHeld-1, mostTags-1), poolOf(0, mostTags), poolOf(1, mostTags), poolOf(mostHeld, mostTags),
		poolOf(mostHeld+1, 2), poolOf(2, mostTags+1), {L: goodPool().L, Tags: []int{4, 4}}, {L: []impl.Held{{}}}, {Tags: []int{-1}},
		{L: slices.Repeat([]impl.Held{held(1, 9, 1)}, 3), Tags: tagsOf(1)},
	}
}

func TestAdmitIsNewMemory(t *testing.T) {
	codes := map[int]int{}
	for _, p := range memoryPools() {
		for _, h := range []impl.Held{held(3, 9, 1), held(0, 0, 2), {}} {
			for _, tag := range []int{0, 70, 72, prime} {
				call := func(in PoolInput) pooled {
					got, code := impl.Admit(in.Pool, in.Held, tag)
					return pooled{Pool: got, N: code}
				}
				in := PoolInput{Pool: p, Held: h}
				checkNested(t, "Admit", in, call)
				codes[call(in).N]++
			}
		}
	}
	for code := -3; code <= 0; code++ {
		if codes[code] == 0 {
			t.Errorf("no call with the code %d", code)
		}
	}
}

// aliased has the same memory more than once: the results may not.
func aliased() PoolInput {
	whole := drawn(2*cellBytes, 3)
	one := impl.Held{Next: 1, Due: 9, Cell: impl.Cell{B: whole[:cellBytes]}}
	return PoolInput{Pool: impl.Pool{L: []impl.Held{one, one, one}, Tags: []int{4}}, Held: one, Draws: whole[:cellBytes]}
}

func checkNoOverlap(t *testing.T, what string, result pooled) {
	t.Helper()
	if overlap(regions(reflect.ValueOf(&result).Elem())) {
		t.Errorf("%s: two slices of the result share memory", what)
	}
	runtime.KeepAlive(&result)
}

func TestCellsThatShareMemoryAreSeparated(t *testing.T) {
	in := aliased()
	p, code := impl.Admit(in.Pool, in.Held, 5)
	checkNoOverlap(t, "Admit", pooled{Pool: p, N: code})
	check(t, "Admit", len(p.L), 4)
	p, n := impl.Expire(in.Pool, 3)
	checkNoOverlap(t, "Expire", pooled{Pool: p, N: n})
	for _, need := range []int{1, 4} {
		p, cells, n := impl.Flush(in.Pool, need, in.Draws)
		checkNoOverlap(t, "Flush", pooled{p, cells, n})
	}
	checkNoOverlap(t, "Forget", pooled{Pool: impl.Forget(in.Pool, 3)})
	checkNoOverlap(t, "For", pooled{Cells: impl.For(in.Pool, 1)})
}

func TestPoolsAreNewMemory(t *testing.T) {
	for _, p := range memoryPools() {
		checkNested(t, "PoolOk", p, impl.PoolOk)
		checkNested(t, "Nexts", p, impl.Nexts)
		checkNested(t, "Earliest", p, impl.Earliest)
		for _, n := range []int{-1, 0, 1, 2, 5, 7, 9, 70, 300, lastDue} {
			checkNested(t, "Expire", p, func(p impl.Pool) pooled {
				left, n := impl.Expire(p, n)
				return pooled{Pool: left, N: n}
			})
			checkNested(t, "Forget", p, func(p impl.Pool) impl.Pool { return impl.Forget(p, n) })
			checkNested(t, "Saw", p, func(p impl.Pool) bool { return impl.Saw(p, n) })
			checkNested(t, "For", p, func(p impl.Pool) []impl.Held { return impl.For(p, n) })
		}
	}
	for _, h := range append(goodHelds(), impl.Held{}, held(-1, 9, 1)) {
		checkNested(t, "HeldOk", h, impl.HeldOk)
	}
}
