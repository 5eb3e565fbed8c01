package tests

import (
	"bytes"
	"testing"

	"loop.example/g00611/impl"
)

// The signatures that chapter 3 gives for the removal of one layer.
var (
	_ func(int, impl.Cell, []byte) (impl.Peeled, bool) = impl.Peel
	_ func(int, impl.Cell) int                         = impl.TagOf
	_ func(int, impl.Cell) int                         = impl.NextOf
)

// mostContent is what a cell has room for behind the twelve bytes of a layer.
const mostContent = 68

// leastContent is that of a layer without a load.
const leastContent = 12

func checkPeeled(t *testing.T, what string, secret int, c impl.Cell, pad []byte, want impl.Peeled) {
	t.Helper()
	got, ok := impl.Peel(secret, c, pad)
	same := got.Next == want.Next && got.Due == want.Due && got.Tag == want.Tag
	if !ok || !same || !bytes.Equal(got.Load, want.Load) || !bytes.Equal(got.Cell.B, want.Cell.B) {
		t.Errorf("%s: Peel = %v %t, want %v", what, got, ok, want)
	}
	check(t, what+": NextOf", impl.NextOf(secret, c), want.Next)
	check(t, what+": TagOf", impl.TagOf(secret, c), want.Tag)
}

func checkNotPeeled(t *testing.T, what string, secret int, c impl.Cell) {
	t.Helper()
	checkZeroPeeled(t, what, secret, c, countedBytes(100, cellBytes))
	check(t, what+": NextOf", impl.NextOf(secret, c), -1)
}

func checkZeroPeeled(t *testing.T, what string, secret int, c impl.Cell, pad []byte) {
	t.Helper()
	got, ok := impl.Peel(secret, c, pad)
	if ok || got.Next != 0 || got.Due != 0 || got.Tag != 0 || len(got.Load) != 0 || len(got.Cell.B) != 0 {
		t.Errorf("%s: Peel = %v %t, want the zero value and false", what, got, ok)
	}
}

// wantedTag is what the number in the first bytes and the secret key give.
func wantedTag(secret int, c impl.Cell) int {
	number := int(c.B[0])<<24 | int(c.B[1])<<16 | int(c.B[2])<<8 | int(c.B[3])
	return wantedKey(wantedPower(number, secret), 9)
}

// receivers has every number that Peel accepts as a secret key: halfSecret, too.
func receivers() []int { return append(secretKeys(), halfSecret, 1000, 1007) }

func TestPeel(t *testing.T) {
	pad := countedBytes(100, cellBytes)
	p := goodPlan()
	first, second, third := p.wrapped(t), p.rest().wrapped(t), p.rest().rest().wrapped(t)
	checkPeeled(t, "the first node", 1002, first, pad, impl.Peeled{Next: 5, Due: 300, Tag: 922701769, Cell: second})
	checkPeeled(t, "the second node", 1005, second, pad, impl.Peeled{Next: 2, Due: 300, Tag: 1575148418, Cell: third})
	checkPeeled(t, "the third node", 1002, third, pad, impl.Peeled{Next: exit, Due: 300, Tag: 1938112366, Load: []byte("load")})
	for i, receiver := range receivers() {
		for j, secret := range goodSecrets() {
			due := (i*7919 + j*104729) % (lastDue + 1)
			c := cellOf(layerFor(receiver, secret, exit, due, data(j%25)))
			checkPeeled(t, "an exit", receiver, c, pad, impl.Peeled{Next: exit, Due: due, Tag: wantedTag(receiver, c), Load: data(j % 25)})
			content := data(12 + j%57)
			c = cellOf(layerFor(receiver, secret, j%8, due, content))
			next := impl.Cell{B: append(content, pad[:cellBytes-len(content)]...)}
			checkPeeled(t, "a relay", receiver, c, pad, impl.Peeled{Next: j % 8, Due: due, Tag: wantedTag(receiver, c), Cell: next})
		}
	}
}

func TestRemovingALayerGivesTheCellForTheRestOfTheRoute(t *testing.T) {
	for _, p := range plans() {
		for len(p.route) > 1 {
			c := p.wrapped(t)
			secret := nodeSecrets()[p.route[0]]
			want := impl.Peeled{Next: p.route[1], Due: p.due, Tag: wantedTag(secret, c), Cell: p.rest().wrapped(t)}
			checkPeeled(t, "a layer", secret, c, p.pad, want)
			p = p.rest()
		}
		c := p.wrapped(t)
		secret := nodeSecrets()[p.route[0]]
		want := impl.Peeled{Next: exit, Due: p.due, Tag: wantedTag(secret, c), Load: p.load}
		checkPeeled(t, "the last layer", secret, c, p.pad, want)
	}
}

func TestOtherNodesCannotPeel(t *testing.T) {
	for _, p := range plans() {
		c := p.wrapped(t)
		for node, secret := range nodeSecrets() {
			if node != p.route[0] {
				checkNotPeeled(t, "another node", secret, c)
			}
		}
		for _, secret := range goodSecrets() {
			checkNotPeeled(t, "another secret key", secret, c)
		}
	}
}

func TestPeelOfDueTimes(t *testing.T) {
	for _, due := range []int{0, 1, 2, 127, 128, 255, 256, 257, 300, 32767, 32768, lastDue - 255, lastDue - 1, lastDue} {
		for _, next := range []int{0, 7, exit} {
			c := cellOf(layerFor(1000, 11, next, due, data(20)))
			p, ok := impl.Peel(1000, c, zeroPad())
			checkFlag(t, "Peel", ok, true)
			check(t, "Due", p.Due, due)
		}
	}
}

func TestPeelOfContentLengths(t *testing.T) {
	pad := countedBytes(50, cellBytes)
	for length := range mostContent + 1 {
		content := data(length)
		for _, secret := range []int{1, 1003, prime - 2, halfSecret} {
			c := cellOf(layerFor(secret, 11, exit, 9, content))
			if length <= mostLoad {
				checkPeeled(t, "a load", secret, c, pad, impl.Peeled{Next: exit, Due: 9, Tag: wantedTag(secret, c), Load: content})
			} else {
				checkNotPeeled(t, "a load too long", secret, c)
			}
			for _, next := range []int{0, 3, 7} {
				c = cellOf(layerFor(secret, 11, next, 9, content))
				if length < leastContent {
					checkNotPeeled(t, "less than a layer", secret, c)
					continue
				}
				inner := impl.Cell{B: append(data(length), pad[:cellBytes-length]...)}
				checkPeeled(t, "a layer", secret, c, pad, impl.Peeled{Next: next, Due: 9, Tag: wantedTag(secret, c), Cell: inner})
			}
		}
	}
}

func TestPeelOfNextHops(t *testing.T) {
	for next := range 256 {
		for _, length := range []int{0, 11, 12, 24, 25, 68} {
			c := cellOf(layerFor(1000, 11, next, 9, data(length)))
			isGood := next < nodeCount && length >= leastContent || next == exit && length <= mostLoad
			if !isGood {
				checkNotPeeled(t, "a next hop that does not fit", 1000, c)
			} else {
				check(t, "NextOf", impl.NextOf(1000, c), next)
			}
		}
	}
}

// A layer that states another length than that of its content was sealed with
// that length, so that nothing but the number of sealed bytes is wrong.
func TestPeelOfStatedLengths(t *testing.T) {
	number := wantedPower(7, 11)
	shared := wantedPower(number, 1000)
	for _, length := range []int{0, 1, 11, 12, 13, 23, 24, 25, 40, 67, 68} {
		for stated := range 256 {
			for _, next := range []int{4, exit} {
				c := cellOf(wantedLayer(number, shared, next, 9, stated, data(length)))
				isGood := stated == length && (next == 4 && length >= leastContent || next == exit && length <= mostLoad)
				if !isGood {
					checkNotPeeled(t, "a length that does not fit", 1000, c)
				} else {
					check(t, "NextOf", impl.NextOf(1000, c), next)
				}
			}
		}
	}
}

func TestPeelOfLayersLongerThanACell(t *testing.T) {
	for length := mostContent + 1; length < 256; length++ {
		// The rest of the layer lies behind the cell, where it must not be read.
		whole := layerFor(1000, 11, 4, 9, data(length))
		checkNotPeeled(t, "a layer longer than a cell", 1000, impl.Cell{B: whole[:cellBytes]})
	}
}

// The layers are sealed with the key that the number would give, so that only
// the number itself can be the reason.
func TestPeelOfNumbersInTheFirstBytes(t *testing.T) {
	for _, secret := range []int{1, 2, 3, 1000, prime - 2, prime - 3, halfSecret} {
		for _, number := range []int{2, 3, 49, 1 << 30, prime - 3, prime - 2} {
			shared := wantedPower(number, secret)
			c := cellOf(wantedLayer(number, shared, exit, 9, 4, []byte("load")))
			want := impl.Peeled{Next: exit, Due: 9, Tag: wantedKey(shared, 9), Load: []byte("load")}
			checkPeeled(t, "a public key", secret, c, zeroPad(), want)
		}
		for _, number := range []int{0, 1, prime - 1, prime, prime + 1, prime + 2, prime + 49, 1 << 31, 1<<32 - 1, 2*prime + 1} {
			c := cellOf(wantedLayer(number, wantedPower(number, secret), exit, 9, 4, []byte("load")))
			checkNotPeeled(t, "no public key", secret, c)
			check(t, "TagOf with no public key", impl.TagOf(secret, c), -1)
		}
	}
}

func TestPeelWithOtherNumbersThanSecretKeys(t *testing.T) {
	p := goodPlan()
	c := p.wrapped(t)
	for _, secret := range append(notSecrets(), 1002-(prime-1), 1002+prime-1, 1002+2*(prime-1), 1002+1<<32, -1002) {
		checkNotPeeled(t, "no secret key", secret, c)
		check(t, "TagOf with no secret key", impl.TagOf(secret, c), -1)
		// 1 is what every number has as its power of 0 and of P - 1.
		d := cellOf(wantedLayer(49, 1, exit, 9, 4, []byte("load")))
		checkNotPeeled(t, "no secret key", secret, d)
	}
}

func TestPeelOfOtherSizes(t *testing.T) {
	p := goodPlan()
	whole := append(p.wrapped(t).B, p.pad...)
	for length := range len(whole) + 1 {
		c := impl.Cell{B: whole[:length]}
		if length != cellBytes {
			checkNotPeeled(t, "a cell of another size", 1002, c)
			check(t, "TagOf a cell of another size", impl.TagOf(1002, c), -1)
		}
	}
	checkNotPeeled(t, "no cell", 1002, impl.Cell{})
	check(t, "TagOf no cell", impl.TagOf(1002, impl.Cell{}), -1)
}

func TestPeelWithPadsOfOtherSizes(t *testing.T) {
	relay, last := goodPlan(), goodPlan().rest().rest()
	for length := range 400 {
		pad := data(length)
		for _, p := range []plan{relay, last} {
			c := p.wrapped(t)
			if length < cellBytes {
				checkZeroPeeled(t, "a pad too short", 1002, c, pad)
				continue
			}
			want := impl.Peeled{Next: exit, Due: 300, Tag: wantedTag(1002, c), Load: []byte("load")}
			if len(p.route) > 1 {
				want = impl.Peeled{Next: 5, Due: 300, Tag: wantedTag(1002, c)}
				want.Cell.B = append(bytes.Clone(p.rest().want()[:28]), pad[:52]...)
			}
			checkPeeled(t, "a pad", 1002, c, pad, want)
		}
	}
	checkZeroPeeled(t, "no pad", 1002, relay.wrapped(t), nil)
}

func TestThePaddingDoesNotMatter(t *testing.T) {
	for _, p := range plans() {
		c := p.wrapped(t)
		secret := nodeSecrets()[p.route[0]]
		want, ok := impl.Peel(secret, c, p.pad)
		checkFlag(t, "Peel", ok, true)
		for _, pad := range [][]byte{zeroPad(), countedBytes(7, cellBytes), bytes.Repeat([]byte{255}, cellBytes)} {
			q := p
			q.pad = pad
			other := q.wrapped(t)
			checkBytes(t, "the layers of a cell", other.B[:p.size()], c.B[:p.size()])
			checkPeeled(t, "another padding", secret, other, p.pad, want)
			got, _ := impl.Peel(secret, c, pad)
			if len(p.route) > 1 {
				checkBytes(t, "the layers in a cell", got.Cell.B[:p.size()-12], want.Cell.B[:p.size()-12])
				checkBytes(t, "the padding of a cell", got.Cell.B[p.size()-12:], pad[:92-p.size()])
			}
		}
		for i := p.size(); i < cellBytes; i++ {
			c.B[i] ^= 129
			checkPeeled(t, "a changed byte of the padding", secret, c, p.pad, want)
		}
	}
}

func TestChangedCellsAreNotPeeled(t *testing.T) {
	for i, p := range plans() {
		c := p.wrapped(t)
		secret := nodeSecrets()[p.route[0]]
		for at := range p.size() {
			old := c.B[at]
			for change := 1; change < 256; change++ {
				// Every change for some of the cells, and a few for the others.
				if i%9 == 0 || change%37 == 1 {
					c.B[at] = old ^ byte(change)
					checkNotPeeled(t, "a changed byte", secret, c)
				}
			}
			c.B[at] = old
		}
		check(t, "NextOf the cell without a change", impl.NextOf(secret, c), append(p.route[1:len(p.route):len(p.route)], exit)[0])
	}
}

func TestCellsOfPaddingAreNotPeeled(t *testing.T) {
	for start := range 200 {
		c, _ := impl.Dummy(drawn(cellBytes, start))
		for _, secret := range nodeSecrets() {
			checkNotPeeled(t, "a cell of padding", secret, c)
		}
	}
	for _, value := range []byte{0, 1, 127, 128, 255} {
		c := impl.Cell{B: bytes.Repeat([]byte{value}, cellBytes)}
		checkNotPeeled(t, "a cell of one value", 1000, c)
	}
}

func TestTagOf(t *testing.T) {
	p := goodPlan()
	check(t, "TagOf", impl.TagOf(1002, p.wrapped(t)), 922701769)
	check(t, "TagOf", impl.TagOf(1005, p.rest().wrapped(t)), 1575148418)
	check(t, "TagOf bytes that cannot be peeled", impl.TagOf(1, impl.Cell{B: countedBytes(0, cellBytes)}), 1631638243)
	for _, secret := range receivers() {
		for _, p := range plans() {
			c := p.wrapped(t)
			check(t, "TagOf", impl.TagOf(secret, c), wantedTag(secret, c))
			// Nothing but the first four bytes matters.
			d := impl.Cell{B: append(bytes.Clone(c.B[:4]), countedBytes(3, 76)...)}
			check(t, "TagOf", impl.TagOf(secret, d), wantedTag(secret, c))
		}
	}
}

func TestDifferentCellsHaveDifferentTags(t *testing.T) {
	seen := map[int]bool{}
	for secret := 1; secret <= 500; secret++ {
		p := goodPlan()
		p.secrets[0] = secret
		tag := impl.TagOf(1002, p.wrapped(t))
		checkFlag(t, "a tag that was there before", seen[tag], false)
		seen[tag] = true
	}
}

// checkPeelMemory checks the load and the cell of Peel each for each argument.
func checkPeelMemory(t *testing.T, secret int, c impl.Cell, pad []byte) {
	t.Helper()
	load := func(c impl.Cell, pad []byte) []byte {
		p, _ := impl.Peel(secret, c, pad)
		return p.Load
	}
	rest := func(c impl.Cell, pad []byte) []byte {
		p, _ := impl.Peel(secret, c, pad)
		return p.Cell.B
	}
	checkMemory(t, "the load of Peel, its cell", c.B, func(b []byte) []byte { return load(impl.Cell{B: b}, pad) })
	checkMemory(t, "the load of Peel, its pad", pad, func(b []byte) []byte { return load(c, b) })
	checkMemory(t, "the cell of Peel, its cell", c.B, func(b []byte) []byte { return rest(impl.Cell{B: b}, pad) })
	checkMemory(t, "the cell of Peel, its pad", pad, func(b []byte) []byte { return rest(c, b) })
}

func TestPeelIsNewMemory(t *testing.T) {
	pad := countedBytes(100, cellBytes)
	for _, p := range plans() {
		checkPeelMemory(t, nodeSecrets()[p.route[0]], p.wrapped(t), p.pad)
	}
	for _, length := range []int{0, 11, 12, 24, 25, 68} {
		for _, next := range []int{3, 8, exit} {
			c := cellOf(layerFor(1000, 11, next, 9, data(length)))
			checkPeelMemory(t, 1000, c, pad)
			checkPeelMemory(t, 1001, c, pad)
			checkPeelMemory(t, 1000, c, pad[:79])
			checkPeelMemory(t, 1000, impl.Cell{B: c.B[:79]}, pad)
			checkPeelMemory(t, 0, c, pad)
		}
	}
	// With this content and this padding, the cell in the result equals the padding.
	same := bytes.Repeat([]byte{7}, cellBytes)
	c := cellOf(layerFor(1000, 11, 3, 9, same[:20]))
	checkPeeled(t, "a cell that equals its padding", 1000, c, same, impl.Peeled{Next: 3, Due: 9, Tag: wantedTag(1000, c), Cell: impl.Cell{B: same}})
	checkPeelMemory(t, 1000, c, same)
}

func TestTagOfAndNextOfKeepTheirCell(t *testing.T) {
	for _, length := range []int{0, 3, 79, 80, 81} {
		b := append(goodPlan().wrapped(t).B, 9)[:length]
		for _, secret := range []int{0, 1001, 1002} {
			checkMemory(t, "TagOf", b, func(b []byte) []int { return []int{impl.TagOf(secret, impl.Cell{B: b})} })
			checkMemory(t, "NextOf", b, func(b []byte) []int { return []int{impl.NextOf(secret, impl.Cell{B: b})} })
		}
	}
}
