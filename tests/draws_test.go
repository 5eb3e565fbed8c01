package tests

import (
	"bytes"
	"math"
	"slices"
	"testing"

	"loop.example/g00611/impl"
)

// The signatures that chapter 2 gives for its draws and permutations.
var (
	_ func([]byte, int) (int, int)       = impl.Below
	_ func([]byte, int) ([]int, int)     = impl.Shuffle
	_ func([]int) bool                   = impl.Ordered
	_ func([]byte, []int) ([]byte, bool) = impl.Reorder
	_ func(int) int                      = impl.Needed
)

const longestOrder = 64

var (
	notBounds  = []int{0, -1, -5, -256, math.MinInt, 257, 258, 512, 1 << 32, 1<<32 + 5, math.MaxInt}
	notLengths = []int{-1, -64, math.MinInt, 65, 66, 256, 1 << 32, 1<<32 + 5, math.MaxInt}
)

// wantedBelow takes the largest multiple of n up to 256 as its limit, found by counting.
func wantedBelow(draws []byte, n int) (int, int) {
	limit := 0
	for limit+n <= 256 {
		limit += n
	}
	i := slices.IndexFunc(draws, func(draw byte) bool { return int(draw) < limit })
	if i < 0 {
		return -1, len(draws)
	}
	return int(draws[i]) - int(draws[i])/n*n, i + 1
}

func wantedShuffle(draws []byte, n int) ([]int, int) {
	order := counted(n)
	rest := draws
	for i := n - 1; i >= 1; i-- {
		at, used := wantedBelow(rest, i+1)
		if at == -1 {
			return nil, -1
		}
		order[i], order[at] = order[at], order[i]
		rest = rest[used:]
	}
	return order, len(draws) - len(rest)
}

// counted returns 0 .. n - 1.
func counted(n int) []int {
	var list []int
	for i := range n {
		list = append(list, i)
	}
	return list
}

func isPermutation(l []int) bool {
	return slices.Equal(slices.Sorted(slices.Values(l)), counted(len(l)))
}

// drawn returns draws without an obvious order, another list for each start.
func drawn(length int, start int) []byte {
	b := make([]byte, length)
	x := start*7919 + 1
	for i := range b {
		x = x * 48271 % prime
		b[i] = byte(x / 128)
	}
	return b
}

func checkBelow(t *testing.T, draws []byte, n int, number int, used int) {
	t.Helper()
	gotNumber, gotUsed := impl.Below(draws, n)
	if gotNumber != number || gotUsed != used {
		t.Errorf("Below(%v, %d) = %d %d, want %d %d", draws, n, gotNumber, gotUsed, number, used)
	}
}

func checkShuffle(t *testing.T, draws []byte, n int, order []int, used int) {
	t.Helper()
	gotOrder, gotUsed := impl.Shuffle(draws, n)
	if !slices.Equal(gotOrder, order) || gotUsed != used {
		t.Errorf("Shuffle(%v, %d) = %v %d, want %v %d", draws, n, gotOrder, gotUsed, order, used)
	}
}

func TestBelow(t *testing.T) {
	checkBelow(t, []byte{255, 254, 7}, 5, 4, 2)
	checkBelow(t, []byte{7, 255, 254}, 5, 2, 1)
	checkBelow(t, []byte{255, 255, 0}, 3, 0, 3)
	checkBelow(t, []byte{200}, 256, 200, 1)
	checkBelow(t, []byte{255}, 256, 255, 1)
	checkBelow(t, []byte{255}, 1, 0, 1)
	checkBelow(t, []byte{255}, 128, 127, 1)
	checkBelow(t, []byte{255, 254}, 255, 254, 2)
	checkBelow(t, []byte{129, 128, 5}, 129, 128, 2)
	checkBelow(t, []byte{252, 251}, 6, 5, 2)
	for n := 1; n <= 256; n++ {
		for draw := range 256 {
			for _, draws := range [][]byte{{byte(draw)}, {byte(draw), 0}, {255, byte(draw)}, {255, 254, byte(draw), 9}} {
				number, used := wantedBelow(draws, n)
				checkBelow(t, draws, n, number, used)
			}
		}
	}
}

func TestBelowWhenDrawsRunOut(t *testing.T) {
	checkBelow(t, []byte{255}, 5, -1, 1)
	checkBelow(t, []byte{255, 255, 255}, 3, -1, 3)
	checkBelow(t, []byte{252, 255, 253, 254}, 6, -1, 4)
	checkBelow(t, bytes.Repeat([]byte{255}, 1000), 7, -1, 1000)
	for n := 1; n <= 256; n++ {
		checkBelow(t, nil, n, -1, 0)
		checkBelow(t, []byte{}, n, -1, 0)
	}
}

func TestBelowOfOtherBounds(t *testing.T) {
	for _, n := range notBounds {
		for _, draws := range [][]byte{nil, {}, {0}, {255}, {255, 254, 7}} {
			checkBelow(t, draws, n, -1, 0)
		}
	}
}

// timesBelow counts how often each number, and -1, comes from Below.
func timesBelow(n int, draws func(yield func([]byte) bool)) map[int]int {
	times := map[int]int{}
	for d := range draws {
		number, _ := impl.Below(d, n)
		times[number]++
	}
	return times
}

func singles(yield func([]byte) bool) {
	for a := range 256 {
		if !yield([]byte{byte(a)}) {
			return
		}
	}
}

func pairs(yield func([]byte) bool) {
	for a := range 256 {
		for b := range 256 {
			if !yield([]byte{byte(a), byte(b)}) {
				return
			}
		}
	}
}

func checkBalance(t *testing.T, n int, times map[int]int, each int, none int) {
	t.Helper()
	for number := range n {
		if times[number] != each {
			t.Errorf("below %d, %d occurs %d times, want %d", n, number, times[number], each)
		}
	}
	check(t, "draws without a number", times[-1], none)
	for number := range times {
		if number < -1 || number >= n {
			t.Errorf("Below gave %d, which is not below %d", number, n)
		}
	}
}

func TestEveryNumberOccursEquallyOften(t *testing.T) {
	for n := 1; n <= 256; n++ {
		skipped := 256 % n
		each := (256 - skipped) / n
		checkBalance(t, n, timesBelow(n, singles), each, skipped)
	}
	for _, n := range []int{1, 2, 3, 5, 6, 7, 10, 100, 127, 128, 129, 200, 255, 256} {
		skipped := 256 % n
		each := (256 - skipped) / n
		// A second byte counts either after a skipped one or not at all.
		checkBalance(t, n, timesBelow(n, pairs), each*256+skipped*each, skipped*skipped)
	}
}

func TestShuffle(t *testing.T) {
	checkShuffle(t, []byte{1, 0, 9}, 3, []int{2, 0, 1}, 2)
	checkShuffle(t, []byte{3, 1, 4, 1, 5}, 6, []int{5, 2, 4, 0, 1, 3}, 5)
	checkShuffle(t, []byte{255, 254, 255, 7}, 3, []int{0, 1, 2}, 3)
	checkShuffle(t, []byte{255, 254, 255, 252, 9, 8, 0}, 5, []int{2, 1, 0, 3, 4}, 5)
	checkShuffle(t, []byte{0}, 2, []int{1, 0}, 1)
	checkShuffle(t, []byte{255}, 2, []int{0, 1}, 1)
	steps := make([]byte, 80)
	for i := range steps {
		steps[i] = byte(255 - i*7)
	}
	checkShuffle(t, steps, 64, []int{
		6, 38, 26, 40, 8, 36, 0, 18, 14, 52, 21, 16, 28, 20, 4, 25, 60, 13, 33, 9, 57, 44, 58, 1, 30, 45, 46, 48, 10, 34, 24, 61,
		5, 50, 41, 53, 29, 56, 2, 49, 12, 17, 22, 54, 32, 37, 42, 62, 3, 7, 11, 15, 19, 23, 27, 31, 35, 39, 43, 47, 51, 55, 59, 63,
	}, 65)
	for n := range longestOrder + 1 {
		for start := range 50 {
			draws := drawn(300, start)
			order, used := wantedShuffle(draws, n)
			checkShuffle(t, draws, n, order, used)
			checkShuffle(t, draws[:used], n, order, used)
		}
	}
}

func TestShuffleOfFewIndices(t *testing.T) {
	for _, draws := range [][]byte{nil, {}, {0}, {255, 254}} {
		checkShuffle(t, draws, 0, nil, 0)
		checkShuffle(t, draws, 1, []int{0}, 0)
	}
}

func TestShuffleWhenDrawsRunOut(t *testing.T) {
	checkShuffle(t, []byte{1}, 3, nil, -1)
	checkShuffle(t, nil, 2, nil, -1)
	checkShuffle(t, []byte{255, 255}, 3, nil, -1)
	checkShuffle(t, []byte{255, 7}, 3, nil, -1)
	for n := 2; n <= longestOrder; n++ {
		draws := drawn(300, n)
		_, used := wantedShuffle(draws, n)
		for length := range used {
			checkShuffle(t, draws[:length], n, nil, -1)
		}
	}
}

func TestShuffleOfOtherLengths(t *testing.T) {
	for _, n := range notLengths {
		for _, draws := range [][]byte{nil, {1, 0, 9}, drawn(300, 1)} {
			checkShuffle(t, draws, n, nil, -1)
		}
	}
}

func TestPermutationContainsEveryIndexOnce(t *testing.T) {
	for n := range longestOrder + 1 {
		for start := range 50 {
			order, _ := impl.Shuffle(drawn(300, start), n)
			if len(order) != n || !isPermutation(order) || !impl.Ordered(order) {
				t.Errorf("Shuffle returned %v for %d indices", order, n)
			}
		}
	}
}

func TestEveryPermutationOfThreeOccursEquallyOften(t *testing.T) {
	times := map[[3]int]int{}
	add := func(draws []byte) {
		if order, used := impl.Shuffle(draws, 3); used >= 0 {
			times[[3]int(order)]++
		}
	}
	checkTimes := func(each int) {
		t.Helper()
		check(t, "the number of permutations", len(times), 6)
		for order, n := range times {
			if n != each {
				t.Errorf("%v occurs %d times, want %d", order, n, each)
			}
		}
		clear(times)
	}
	for draws := range pairs {
		add(draws)
	}
	checkTimes(255 * 256 / 6)
	// Of three draws, the first or the second one may be skipped.
	for draws := range pairs {
		add(append([]byte{255}, draws...))
	}
	checkTimes(255 * 256 / 6)
	for draws := range pairs {
		for _, last := range []byte{0, 1, 254, 255} {
			add(append(bytes.Clone(draws), last))
		}
	}
	checkTimes((255*256*4 + 255*4) / 6)
}

func TestEveryPermutationOfFourAndFiveOccursEquallyOften(t *testing.T) {
	four := map[[4]int]int{}
	for a := range 8 {
		for b := range 6 {
			for c := range 4 {
				order, _ := impl.Shuffle([]byte{byte(a), byte(b), byte(c)}, 4)
				four[[4]int(order)]++
			}
		}
	}
	check(t, "the number of permutations of four", len(four), 24)
	for order, n := range four {
		if n != 8*6*4/24 {
			t.Errorf("%v occurs %d times", order, n)
		}
	}
	five := map[[5]int]int{}
	for a := range 5 * 4 * 3 * 2 {
		order, _ := impl.Shuffle([]byte{byte(a % 5), byte(a / 5 % 4), byte(a / 20 % 3), byte(a / 60)}, 5)
		five[[5]int(order)]++
	}
	check(t, "the number of permutations of five", len(five), 120)
}

// lists yields all lists of a length of numbers in -1 .. length + 1.
func lists(length int) func(yield func([]int) bool) {
	return func(yield func([]int) bool) {
		list := slices.Repeat([]int{-1}, length)
		for {
			if !yield(list) {
				return
			}
			at := 0
			for ; at < length && list[at] == length+1; at++ {
				list[at] = -1
			}
			if at == length {
				return
			}
			list[at]++
		}
	}
}

func TestOrdered(t *testing.T) {
	for _, l := range [][]int{nil, {}, {0}, {1, 0}, {2, 0, 1}, {3, 1, 0, 2}} {
		if !impl.Ordered(l) {
			t.Errorf("Ordered(%v) = false", l)
		}
	}
	for length := range 6 {
		for l := range lists(length) {
			if impl.Ordered(l) != isPermutation(l) {
				t.Errorf("Ordered(%v) = %t", l, !isPermutation(l))
			}
		}
	}
	for length := range 80 {
		backwards := counted(length)
		slices.Reverse(backwards)
		if impl.Ordered(counted(length)) != (length <= longestOrder) || impl.Ordered(backwards) != (length <= longestOrder) {
			t.Errorf("Ordered of %d numbers is not %t", length, length <= longestOrder)
		}
	}
}

// almostOrdered has lists that are no permutations, some with one wrong number.
func almostOrdered() [][]int {
	list := [][]int{{1}, {-1}, {0, 0}, {1, 1}, {1, 2}, {0, 2}, {0, 1, 1}, {0, 2, 2}, {1, 1, 1}, {0, 1, 3}, {0, 1, -1}}
	for _, wrong := range []int{-1, 0, 62, 64, 65, 127, 128, 255, 1 << 32, 1<<32 + 63, math.MinInt, math.MaxInt} {
		full := counted(longestOrder)
		full[63] = wrong
		list = append(list, full)
	}
	return append(list, counted(longestOrder+1), counted(1000))
}

func TestOrderedOfOtherLists(t *testing.T) {
	for _, l := range almostOrdered() {
		if impl.Ordered(l) {
			t.Errorf("Ordered(%v) = true", l)
		}
	}
}

func checkReordered(t *testing.T, b []byte, order []int, want []byte) {
	t.Helper()
	got, ok := impl.Reorder(b, order)
	if !ok || !bytes.Equal(got, want) {
		t.Errorf("Reorder(%v, %v) = %v %t, want %v", b, order, got, ok, want)
	}
}

func TestReorder(t *testing.T) {
	checkReordered(t, []byte("abc"), []int{2, 0, 1}, []byte("cab"))
	checkReordered(t, []byte("abcd"), []int{3, 2, 1, 0}, []byte("dcba"))
	checkReordered(t, []byte("aab"), []int{1, 2, 0}, []byte("aba"))
	checkReordered(t, []byte("x"), []int{0}, []byte("x"))
	checkReordered(t, nil, nil, nil)
	checkReordered(t, []byte{}, []int{}, nil)
	checkReordered(t, nil, []int{}, nil)
	for n := range longestOrder + 1 {
		order, _ := impl.Shuffle(drawn(300, n), n)
		var want []byte
		for _, i := range order {
			want = append(want, data(n)[i])
		}
		checkReordered(t, data(n), order, want)
		checkReordered(t, data(n), counted(n), data(n))
	}
}

func TestReorderedBytesHaveTheSameMultiplicities(t *testing.T) {
	for n := range longestOrder + 1 {
		for start := range 20 {
			b := drawn(n, start)
			for i := range b {
				b[i] %= 5
			}
			order, _ := impl.Shuffle(drawn(300, start), n)
			got, ok := impl.Reorder(b, order)
			for value := range 256 {
				check(t, "a multiplicity", bytes.Count(got, []byte{byte(value)}), bytes.Count(b, []byte{byte(value)}))
			}
			if !ok || len(got) != n {
				t.Errorf("Reorder of %d bytes returned %d and %t", n, len(got), ok)
			}
		}
	}
}

func checkNotReordered(t *testing.T, b []byte, order []int) {
	t.Helper()
	if got, ok := impl.Reorder(b, order); ok || len(got) != 0 {
		t.Errorf("Reorder(%v, %v) = %v %t, want nil and false", b, order, got, ok)
	}
}

func TestReorderByOtherLists(t *testing.T) {
	for _, order := range almostOrdered() {
		checkNotReordered(t, data(len(order)), order)
		checkNotReordered(t, data(len(order)-1), order)
		checkNotReordered(t, nil, order)
	}
	for n := range longestOrder + 1 {
		checkNotReordered(t, data(n+1), counted(n))
		checkNotReordered(t, data(n), counted(n+1))
		checkNotReordered(t, data(n+256), counted(n))
	}
}

func TestNeeded(t *testing.T) {
	check(t, "Needed(0)", impl.Needed(0), 0)
	check(t, "Needed(1)", impl.Needed(1), 0)
	check(t, "Needed(2)", impl.Needed(2), 1)
	check(t, "Needed(3)", impl.Needed(3), 2)
	check(t, "Needed(64)", impl.Needed(64), 63)
	for _, n := range notLengths {
		check(t, "Needed of an invalid length", impl.Needed(n), -1)
	}
}

func TestNeededIsTheLeastNumberOfDraws(t *testing.T) {
	for n := range longestOrder + 1 {
		needed := impl.Needed(n)
		// Zeros are never skipped, so that they are as few draws as possible.
		if _, used := impl.Shuffle(make([]byte, 100), n); used != needed {
			t.Errorf("Shuffle of %d used %d draws, want %d", n, used, needed)
		}
		if needed > 0 {
			checkShuffle(t, make([]byte, needed-1), n, nil, -1)
		}
		if _, used := impl.Shuffle(make([]byte, needed), n); used != needed {
			t.Errorf("Shuffle of %d used %d of the needed draws, want %d", n, used, needed)
		}
	}
}

func TestDrawsAreKept(t *testing.T) {
	for _, draws := range [][]byte{nil, {255}, {1, 0, 9}, {255, 254, 255, 7}, drawn(300, 3)} {
		for _, n := range []int{-1, 0, 1, 2, 3, 5, 64, 65, 256, 257} {
			checkMemory(t, "Below", draws, func(b []byte) []int {
				number, used := impl.Below(b, n)
				return []int{number, used}
			})
			checkMemory(t, "Shuffle", draws, func(b []byte) []int {
				order, _ := impl.Shuffle(b, n)
				return order
			})
			checkMemory(t, "what Shuffle used", draws, func(b []byte) []int {
				_, used := impl.Shuffle(b, n)
				return []int{used}
			})
		}
	}
}

func TestListsAreKept(t *testing.T) {
	orders := append(almostOrdered(), nil, []int{0}, []int{2, 0, 1}, counted(3), counted(longestOrder))
	for _, order := range orders {
		checkMemory(t, "Ordered", order, func(l []int) []byte {
			if impl.Ordered(l) {
				return []byte{1}
			}
			return nil
		})
		for _, length := range []int{len(order), len(order) + 1, 0} {
			checkMemory(t, "Reorder, its order", order, func(l []int) []byte {
				b, _ := impl.Reorder(data(length), l)
				return b
			})
			checkMemory(t, "Reorder, its bytes", data(length), func(b []byte) []byte {
				b, _ = impl.Reorder(b, order)
				return b
			})
		}
	}
}
