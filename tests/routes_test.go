package tests

import (
	"bytes"
	"slices"
	"testing"

	"loop.example/g00611/impl"
)

// The signatures that chapter 3 gives for what all secret keys show of a cell.
var (
	_ func([]int, []int, impl.Cell) ([]byte, bool) = impl.Follow
	_ func([]int, impl.Cell) []int                 = impl.CanPeel
	_ func([]int, int, impl.Cell) []int            = impl.Reach
	_ func([]int, impl.Cell) int                   = impl.Depth
)

func checkFollowed(t *testing.T, what string, secrets []int, route []int, c impl.Cell, want []byte) {
	t.Helper()
	got, ok := impl.Follow(secrets, route, c)
	if !ok || !bytes.Equal(got, want) {
		t.Errorf("%s: Follow along %v = %v %t, want %v", what, route, got, ok, want)
	}
}

func checkNotFollowed(t *testing.T, what string, secrets []int, route []int, c impl.Cell) {
	t.Helper()
	if got, ok := impl.Follow(secrets, route, c); ok || len(got) != 0 {
		t.Errorf("%s: Follow along %v = %v %t, want nil and false", what, route, got, ok)
	}
}

func checkNodes(t *testing.T, what string, got []int, want ...int) {
	t.Helper()
	if !slices.Equal(got, want) {
		t.Errorf("%s = %v, want %v", what, got, want)
	}
}

// checkNothingShown checks the fixed values of every function that takes the secret keys of all nodes.
func checkNothingShown(t *testing.T, what string, secrets []int, c impl.Cell) {
	t.Helper()
	checkNotFollowed(t, what, secrets, []int{2, 5, 2}, c)
	checkNodes(t, what+": CanPeel", impl.CanPeel(secrets, c))
	check(t, what+": Depth", impl.Depth(secrets, c), 0)
	for first := range nodeCount {
		checkNodes(t, what+": Reach", impl.Reach(secrets, first, c))
	}
}

// chain returns a cell with a layer for each node, the last one with a load
// for the exit; it may have more layers than a route, or equal nodes in a row.
func chain(nodes []int, load []byte) impl.Cell {
	b, next := load, exit
	for i := len(nodes) - 1; i >= 0; i-- {
		b = layerFor(nodeSecrets()[nodes[i]], 11+i, next, 9, b)
		next = nodes[i]
	}
	return cellOf(b)
}

// paddedByZeros returns a cell for node 2 whose content ends where its bytes
// for node 5 are zero, so that node 5 can open them only behind zero padding.
func paddedByZeros(t *testing.T) (impl.Cell, []byte) {
	t.Helper()
	number := wantedPower(7, 12)
	shared := wantedPower(number, 1005)
	// What hides zeros is the key stream itself.
	hidden := wantedXor(wantedKey(wantedKey(shared, 5), 1), zeroPad())
	load := hidden[4:10]
	inner := wantedLayer(number, shared, exit, 9, len(load), load)
	if !bytes.Equal(inner[12:], make([]byte, len(load))) {
		t.Fatalf("the end of the layer is %v", inner[12:])
	}
	return cellOf(layerFor(1002, 11, 5, 9, inner[:12])), load
}

func TestWrappedCellIsRecoveredAtItsEnd(t *testing.T) {
	p := goodPlan()
	checkFollowed(t, "a load", nodeSecrets(), p.route, p.wrapped(t), []byte("load"))
	for _, p := range plans() {
		checkFollowed(t, "a load", nodeSecrets(), p.route, p.wrapped(t), p.load)
	}
	for hops := 1; hops <= mostHops; hops++ {
		for length := range mostLoad + 1 {
			p := goodPlan()
			p.route, p.secrets, p.load = []int{1, 2, 1, 2}[:hops], []int{11, 12, 13, 14}[:hops], drawn(length, hops)
			checkFollowed(t, "a load", nodeSecrets(), p.route, p.wrapped(t), p.load)
		}
	}
}

func TestEveryRouteIsFollowed(t *testing.T) {
	for index := range nodeCount * nodeCount * nodeCount * nodeCount {
		route := []int{index % 8, index / 8 % 8, index / 64 % 8, index / 512}[:1+index%4]
		if isRoute(route) {
			p := goodPlan()
			p.route, p.secrets, p.load = route, []int{21, 22, 23, 24}[:len(route)], data(index%25)
			checkFollowed(t, "a load", nodeSecrets(), route, p.wrapped(t), p.load)
		}
	}
}

func TestNodesRemoveTheLayersInTheOrderOfTheRoute(t *testing.T) {
	secrets := nodeSecrets()
	for _, p := range plans() {
		for route := p.route; len(route) > 0; route = route[1:] {
			c := p.wrapped(t)
			checkNodes(t, "CanPeel", impl.CanPeel(secrets, c), route[0])
			check(t, "Depth", impl.Depth(secrets, c), len(route))
			for first := range nodeCount {
				if first == route[0] {
					checkNodes(t, "Reach", impl.Reach(secrets, first, c), route...)
				} else {
					checkNodes(t, "Reach from another node", impl.Reach(secrets, first, c))
				}
			}
			if len(route) > 1 {
				p = p.rest()
			}
		}
	}
}

func TestPaddingDoesNotMatterOnTheWay(t *testing.T) {
	for _, p := range plans() {
		for _, pad := range [][]byte{zeroPad(), countedBytes(7, cellBytes), bytes.Repeat([]byte{255}, 200)} {
			p.pad = pad
			c := p.wrapped(t)
			checkFollowed(t, "another padding", nodeSecrets(), p.route, c, p.load)
			checkNodes(t, "Reach with another padding", impl.Reach(nodeSecrets(), p.route[0], c), p.route...)
			// Each node pads with other bytes than the one before it.
			for i, node := range p.route {
				peeled, ok := impl.Peel(nodeSecrets()[node], c, drawn(cellBytes, i))
				checkFlag(t, "Peel", ok, true)
				if i == len(p.route)-1 {
					checkBytes(t, "the load", peeled.Load, p.load)
				} else {
					c = peeled.Cell
				}
			}
		}
	}
}

func TestFollowAlongAnotherRoute(t *testing.T) {
	secrets := nodeSecrets()
	for _, p := range plans() {
		c := p.wrapped(t)
		for shorter := range len(p.route) {
			checkNotFollowed(t, "a part of the route", secrets, p.route[:shorter], c)
			checkNotFollowed(t, "the end of the route", secrets, p.route[shorter+1:], c)
		}
		for node := range nodeCount {
			checkNotFollowed(t, "one node more", secrets, append(slices.Clone(p.route), node), c)
			checkNotFollowed(t, "one node before", secrets, append([]int{node}, p.route...), c)
			for i := range p.route {
				other := slices.Clone(p.route)
				other[i] = node
				if node != p.route[i] {
					checkNotFollowed(t, "another node", secrets, other, c)
				}
			}
		}
	}
	for _, route := range badRoutes() {
		checkNotFollowed(t, "an invalid route", secrets, route, goodPlan().wrapped(t))
	}
}

// These cells can be peeled along their nodes; only the route is invalid.
func TestFollowAlongInvalidRoutes(t *testing.T) {
	secrets := nodeSecrets()
	checkNotFollowed(t, "equal nodes", secrets, []int{3, 3}, chain([]int{3, 3}, []byte("load")))
	checkNotFollowed(t, "equal nodes at the end", secrets, []int{1, 2, 2}, chain([]int{1, 2, 2}, []byte("load")))
	checkNotFollowed(t, "five nodes", secrets, []int{0, 1, 2, 3, 4}, chain([]int{0, 1, 2, 3, 4}, nil))
	checkFollowed(t, "four nodes", secrets, []int{0, 1, 2, 3}, chain([]int{0, 1, 2, 3}, nil), nil)
}

func TestFollowOfLayersThatCannotBeRemoved(t *testing.T) {
	secrets := nodeSecrets()
	inner := layerFor(1005, 12, 6, 9, data(20))
	checkNotFollowed(t, "a last layer of other bytes", secrets, []int{2, 5, 6}, cellOf(layerFor(1002, 11, 5, 9, inner)))
	checkNotFollowed(t, "no exit", secrets, []int{2, 5}, cellOf(layerFor(1002, 11, 5, 9, inner)))
	checkNotFollowed(t, "no exit at all", secrets, []int{2}, cellOf(layerFor(1002, 11, 5, 9, data(12))))
	checkNotFollowed(t, "a load too long", secrets, []int{2}, cellOf(layerFor(1002, 11, exit, 9, data(25))))
	checkNotFollowed(t, "an early exit", secrets, []int{2, 5}, cellOf(layerFor(1002, 11, exit, 9, data(20))))
	early := layerFor(1002, 11, exit, 9, layerFor(1005, 12, exit, 9, []byte("load")))
	checkNotFollowed(t, "a layer behind the exit", secrets, []int{2, 5}, cellOf(early))
	p := goodPlan()
	c := p.wrapped(t)
	for i := range c.B {
		c.B[i] ^= 64
		if i < p.size() {
			checkNothingShown(t, "a changed byte", secrets, c)
		} else {
			checkFollowed(t, "a changed byte of the padding", secrets, p.route, c, p.load)
		}
		c.B[i] ^= 64
	}
}

func TestFollowPadsWithZeros(t *testing.T) {
	c, load := paddedByZeros(t)
	checkFollowed(t, "zeros", nodeSecrets(), []int{2, 5}, c, load)
	checkNodes(t, "Reach by zeros", impl.Reach(nodeSecrets(), 2, c), 2, 5)
	check(t, "Depth by zeros", impl.Depth(nodeSecrets(), c), 2)
	checkNodes(t, "CanPeel by zeros", impl.CanPeel(nodeSecrets(), c), 2)
	peeled, ok := impl.Peel(1002, c, countedBytes(1, cellBytes))
	checkFlag(t, "Peel", ok, true)
	checkNotPeeled(t, "another padding", 1005, peeled.Cell)
}

func TestNextOf(t *testing.T) {
	p := goodPlan()
	check(t, "NextOf the first node", impl.NextOf(1002, p.wrapped(t)), 5)
	check(t, "NextOf the second node", impl.NextOf(1005, p.rest().wrapped(t)), 2)
	check(t, "NextOf the last node", impl.NextOf(1002, p.rest().rest().wrapped(t)), exit)
	check(t, "NextOf another node", impl.NextOf(1001, p.wrapped(t)), -1)
	check(t, "NextOf node 0", impl.NextOf(1002, cellOf(layerFor(1002, 11, 0, 9, data(12)))), 0)
	check(t, "NextOf no cell", impl.NextOf(1002, impl.Cell{}), -1)
	check(t, "NextOf with no secret key", impl.NextOf(0, p.wrapped(t)), -1)
}

func TestCanPeelOfEqualSecrets(t *testing.T) {
	c := goodPlan().wrapped(t)
	checkNodes(t, "CanPeel", impl.CanPeel(nodeSecrets(), c), 2)
	two := nodeSecrets()
	two[0], two[7] = 1002, 1002
	checkNodes(t, "CanPeel of three equal secrets", impl.CanPeel(two, c), 0, 2, 7)
	check(t, "Depth of three equal secrets", impl.Depth(two, c), 3)
	checkNodes(t, "Reach from an equal secret", impl.Reach(two, 7, c), 7, 5, 2)
	all := slices.Repeat([]int{1002}, nodeCount)
	checkNodes(t, "CanPeel of equal secrets", impl.CanPeel(all, c), counted(nodeCount)...)
	checkNodes(t, "Reach of equal secrets", impl.Reach(all, 6, c), 6)
	check(t, "Depth of equal secrets", impl.Depth(all, c), 1)
}

func TestReachAlongOtherLayersThanThoseOfARoute(t *testing.T) {
	secrets := nodeSecrets()
	checkNodes(t, "Reach along five layers", impl.Reach(secrets, 0, chain([]int{0, 1, 2, 3, 4}, nil)), 0, 1, 2, 3)
	checkNodes(t, "Reach along six layers", impl.Reach(secrets, 1, chain([]int{1, 0, 1, 0, 1, 0}, nil)), 1, 0, 1, 0)
	check(t, "Depth of six layers", impl.Depth(secrets, chain([]int{1, 0, 1, 0, 1, 0}, nil)), 4)
	checkNodes(t, "Reach along equal nodes", impl.Reach(secrets, 3, chain([]int{3, 3, 3}, []byte("load"))), 3, 3, 3)
	stops := cellOf(layerFor(1002, 11, 5, 9, data(40)))
	checkNodes(t, "Reach up to other bytes", impl.Reach(secrets, 2, stops), 2)
	check(t, "Depth up to other bytes", impl.Depth(secrets, stops), 1)
	astray := cellOf(layerFor(1002, 11, 5, 9, layerFor(1004, 12, exit, 9, nil)))
	checkNodes(t, "Reach up to another node", impl.Reach(secrets, 2, astray), 2)
	checkNodes(t, "Reach of an exit", impl.Reach(secrets, 2, cellOf(layerFor(1002, 11, exit, 9, nil))), 2)
	late := cellOf(layerFor(1002, 11, 5, 9, layerFor(1005, 12, 8, 9, data(20))))
	checkNodes(t, "Reach up to a next hop that is no node", impl.Reach(secrets, 2, late), 2)
}

func TestReachFromOtherNumbersThanNodes(t *testing.T) {
	c := goodPlan().wrapped(t)
	for _, first := range append([]int{-1, -2, -8, 8, 9, 10, exit, 256, 258}, farNumbers...) {
		checkNodes(t, "Reach from no node", impl.Reach(nodeSecrets(), first, c))
	}
}

func TestNothingIsShownOfOtherCells(t *testing.T) {
	p := goodPlan()
	whole := append(p.wrapped(t).B, p.pad...)
	for length := range len(whole) + 1 {
		if length != cellBytes {
			checkNothingShown(t, "a cell of another size", nodeSecrets(), impl.Cell{B: whole[:length]})
		}
	}
	checkNothingShown(t, "no cell", nodeSecrets(), impl.Cell{})
	dummy, _ := impl.Dummy(p.pad)
	checkNothingShown(t, "a cell of padding", nodeSecrets(), dummy)
	checkNothingShown(t, "zeros", nodeSecrets(), impl.Cell{B: zeroPad()})
}

func TestNothingIsShownByOtherSecrets(t *testing.T) {
	c := goodPlan().wrapped(t)
	for length := range nodeCount {
		checkNothingShown(t, "too few secrets", nodeSecrets()[:length], c)
	}
	checkNothingShown(t, "no secrets", nil, c)
	checkNothingShown(t, "too many secrets", append(nodeSecrets(), 1008), c)
	checkNothingShown(t, "far too many secrets", slices.Repeat(nodeSecrets(), 100), c)
	for _, number := range append(notSecrets(), halfSecret) {
		// Nodes that do not peel the cell need a secret of a public key, too.
		for node := range nodeCount {
			secrets := nodeSecrets()
			secrets[node] = number
			checkNothingShown(t, "no secret of a public key", secrets, c)
		}
	}
}

func TestSecretsUpToTheirLimitsShowTheRoute(t *testing.T) {
	secrets := []int{1, 2, prime - 2, prime - 3, halfSecret - 1, halfSecret + 1, 3, 123456789}
	for _, p := range plans() {
		p.pubs = publicsOf(secrets)
		c := p.wrapped(t)
		checkFollowed(t, "a load", secrets, p.route, c, p.load)
		checkNodes(t, "Reach", impl.Reach(secrets, p.route[0], c), p.route...)
		// Secrets that are half of P - 1 apart share the same with every square.
		var same []int
		for node, secret := range secrets {
			if wantedTag(secret, c) == wantedTag(secrets[p.route[0]], c) {
				same = append(same, node)
			}
		}
		checkNodes(t, "CanPeel", impl.CanPeel(secrets, c), same...)
		check(t, "Depth", impl.Depth(secrets, c), len(p.route))
	}
}

// checkShownMemory checks each function that takes the secret keys of all nodes for each of its slices.
func checkShownMemory(t *testing.T, secrets []int, route []int, c impl.Cell) {
	t.Helper()
	follow := func(secrets []int, route []int, b []byte) []byte {
		load, _ := impl.Follow(secrets, route, impl.Cell{B: b})
		return load
	}
	checkMemory(t, "Follow, its secrets", secrets, func(l []int) []byte { return follow(l, route, c.B) })
	checkMemory(t, "Follow, its route", route, func(l []int) []byte { return follow(secrets, l, c.B) })
	checkMemory(t, "Follow, its cell", c.B, func(b []byte) []byte { return follow(secrets, route, b) })
	checkMemory(t, "CanPeel, its secrets", secrets, func(l []int) []int { return impl.CanPeel(l, c) })
	checkMemory(t, "CanPeel, its cell", c.B, func(b []byte) []int { return impl.CanPeel(secrets, impl.Cell{B: b}) })
	checkMemory(t, "Depth, its secrets", secrets, func(l []int) []int { return []int{impl.Depth(l, c)} })
	checkMemory(t, "Depth, its cell", c.B, func(b []byte) []int { return []int{impl.Depth(secrets, impl.Cell{B: b})} })
	for _, first := range []int{-1, 0, 2, 7, 8} {
		checkMemory(t, "Reach, its secrets", secrets, func(l []int) []int { return impl.Reach(l, first, c) })
		checkMemory(t, "Reach, its cell", c.B, func(b []byte) []int { return impl.Reach(secrets, first, impl.Cell{B: b}) })
	}
}

func TestShownRoutesAreNewMemory(t *testing.T) {
	for _, p := range plans() {
		checkShownMemory(t, nodeSecrets(), p.route, p.wrapped(t))
	}
	p := goodPlan()
	c := p.wrapped(t)
	p.load = nil
	checkShownMemory(t, nodeSecrets(), p.route, p.wrapped(t))
	checkShownMemory(t, nodeSecrets(), []int{2, 5}, c)
	checkShownMemory(t, nodeSecrets(), nil, c)
	checkShownMemory(t, nodeSecrets()[:7], p.route, c)
	checkShownMemory(t, nodeSecrets(), p.route, impl.Cell{B: c.B[:79]})
	checkShownMemory(t, nodeSecrets(), p.route, impl.Cell{B: zeroPad()})
	checkShownMemory(t, slices.Repeat([]int{2}, nodeCount), []int{3}, cellOf(layerFor(2, 11, exit, 9, []byte("load"))))
	checkShownMemory(t, nodeSecrets(), []int{0, 1, 2, 3}, chain([]int{0, 1, 2, 3, 4}, nil))
}
