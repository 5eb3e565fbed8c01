package tests

import (
	"fmt"
	"slices"
	"testing"

	"loop.example/g00611/impl"
)

// The signatures that chapter 7 gives for what happens to a cell in transit.
var (
	_ func(impl.Net, int) (impl.Net, int)          = impl.Deliver
	_ func(impl.Net, int) (impl.Net, bool)         = impl.Lose
	_ func(impl.Net, int) (impl.Net, bool)         = impl.Twice
	_ func(impl.Net, int, []byte) (impl.Net, bool) = impl.Forge
)

// busyCodes are the codes of the cells of the busy network, each delivered as the first one.
var busyCodes = []int{
	isHeld, isHeld, isHeld, isPart, isPart, isOld, isWhole, isBad, isOdd, isFull, isFull, isHeld, isWhole, isWhole,
}

// busyNet has cells with every outcome in its bag.
func busyNet() impl.Net {
	n := emptyNet(5)
	n.Now, n.Count = 300, 70
	n = withNode(n, 7, fullNode())
	for _, p := range []posting{
		{[]int{3, 6}, 400, 1, drawn(45, 1)},
		{[]int{6}, 400, 2, drawn(25, 2)},
		{[]int{2}, 300, 3, drawn(5, 3)},
		{[]int{2}, 301, 4, drawn(fullPart, 4)},
	} {
		n, _ = p.wanted(n)
	}
	n, _ = wantedTransmit(n, 1, zeroPad())
	n, _ = wantedTransmit(n, 4, loaded(11, 400, 9).cellFor(n.Nodes[4]).B)
	n, _ = wantedTransmit(n, 7, relayed(11, 3, 400).cellFor(n.Nodes[7]).B)
	n, _ = wantedTransmit(n, 7, carried(12, onlyPiece(200), 400).cellFor(n.Nodes[7]).B)
	n, _ = posting{[]int{1, 2, 1, 0}, lastDue, 5, nil}.wanted(n)
	n, _ = posting{[]int{0}, lastDue, 6, nil}.wanted(n)
	n, _ = wantedTransmit(n, 2, n.Bag[6].Cell.B)
	return n
}

// rotated is the busy network with another one of its cells in front.
func rotated(by int) impl.Net {
	n := busyNet()
	n.Bag = slices.Concat(n.Bag[by:], n.Bag[:by])
	return n
}

func TestDeliver(t *testing.T) {
	n := busyNet()
	check(t, "the cells", len(n.Bag), len(busyCodes))
	for i, want := range busyCodes {
		got, code := deliver(t, n, i)
		check(t, fmt.Sprintf("the code of cell %d", i), code, want)
		check(t, "Count", got.Count, n.Count+1)
		check(t, "the cells", len(got.Bag), len(n.Bag)-1)
		checkSame(t, "the cells before", got.Bag[:i], n.Bag[:i])
		checkSame(t, "the cells behind", got.Bag[i:], n.Bag[i+1:])
		checkSame(t, "Seen", got.Seen, n.Seen)
		checkSame(t, "Sent", got.Sent, n.Sent)
		for at := range nodeCount {
			if at != n.Bag[i].To {
				checkSame(t, "another node", got.Nodes[at], n.Nodes[at])
			}
		}
		if want == isOld || want == isBad || want == isOdd || want == isFull {
			checkSame(t, "the nodes", got.Nodes, n.Nodes)
		}
	}
}

// What a node passes on is padded with bytes that belong to Seed and Count.
func TestThePaddingOfDeliver(t *testing.T) {
	n := busyNet()
	for _, count := range []int{0, 1, 70, sendCount, lastCount - 1} {
		n.Count = count
		got, code := deliver(t, n, 0)
		check(t, "the code", code, isHeld)
		cell := got.Nodes[3].Pool.L[0].Cell.B
		// The layer for node 6 has 12 bytes beside a fragment of 23 bytes.
		for i, padding := range cell[35:] {
			check(t, "a byte of the padding", int(padding), impl.StreamAt(impl.KeyOf(31*5+count+1, 3), i))
		}
	}
}

// A cell arrives once, and its copy is recognized, whichever of both is the first.
func TestDeliverAgain(t *testing.T) {
	for i, first := range busyCodes {
		n, _ := double(t, busyNet(), i)
		last := len(n.Bag) - 1
		for _, order := range [][]int{{i, last - 1}, {last, i}} {
			x, code := deliver(t, n, order[0])
			check(t, "the first code", code, first)
			y, again := deliver(t, x, order[1])
			want := first
			if isAccepted(first) {
				want = isSeen
			}
			check(t, "the second code", again, want)
			checkSame(t, "the nodes", y.Nodes, x.Nodes)
		}
	}
}

func TestDeliverInAnyOrder(t *testing.T) {
	for start := range 20 {
		n := busyNet()
		for _, d := range drawn(len(busyCodes), start) {
			n, _ = deliver(t, n, int(d)%len(n.Bag))
		}
		check(t, "the cells", len(n.Bag), 0)
		checkNodes(t, "what node 6 has Got", impl.GotIds(n.Nodes[6]), 2)
		checkNodes(t, "what node 2 has Got", impl.GotIds(n.Nodes[2]), 4)
		checkNodes(t, "what node 0 has Got", impl.GotIds(n.Nodes[0]), 6)
		check(t, "what node 3 holds", impl.Load(n.Nodes[3]), 3)
		check(t, "what node 1 holds", impl.Load(n.Nodes[1]), 1)
		checkNoElement(t, "an empty bag", n, 0)
	}
}

func TestDeliverAtTheEdgesOfTime(t *testing.T) {
	for _, route := range [][]int{{3, 6}, {6}} {
		accepted := isHeld
		if len(route) == 1 {
			accepted = isWhole
		}
		for _, now := range []int{0, 1, 255, 256, lastTime - 1, lastTime} {
			for _, due := range []int{0, now - 1, now, now + 1, now + 2, lastDue} {
				if due < 0 {
					continue
				}
				n := emptyNet(5)
				n.Now = now
				n, _ = send(t, n, posting{route, due, 1, []byte("a letter")})
				_, code := deliver(t, n, 0)
				want := accepted
				if due <= now {
					want = isOld
				}
				check(t, fmt.Sprintf("the code of a cell due %d at %d", due, now), code, want)
			}
		}
	}
}

func TestDeliverAtTheLastCount(t *testing.T) {
	n := busyNet()
	n.Count = lastCount - 1
	n, code := deliver(t, n, 0)
	check(t, "the code", code, isHeld)
	check(t, "Count", n.Count, lastCount)
	for i := range n.Bag {
		got, code := impl.Deliver(n, i)
		checkNoNet(t, "Deliver without a Count", got)
		check(t, "the code", code, -1)
	}
	for _, i := range []int{-1, len(n.Bag)} {
		checkNoElement(t, "no Count and no element", n, i)
	}
	// Neither of the others draws anything.
	lose(t, n, 0)
	_, ok := double(t, n, 0)
	checkFlag(t, "Twice without a Count", ok, true)
	_, ok = forge(t, n, 3, zeroPad())
	checkFlag(t, "Forge without a Count", ok, true)
}

func TestNoElements(t *testing.T) {
	for i, n := range append(goodNets(), busyNet()) {
		for _, at := range append([]int{-1, -2, len(n.Bag), len(n.Bag) + 1, 256, mostBag}, farNumbers...) {
			checkNoElement(t, fmt.Sprintf("network %d", i), n, at)
		}
	}
}

func TestLose(t *testing.T) {
	for by := range busyCodes {
		n := rotated(by)
		for i := range n.Bag {
			got := lose(t, n, i)
			check(t, "the cells", len(got.Bag), len(n.Bag)-1)
			checkSame(t, "the cells before", got.Bag[:i], n.Bag[:i])
			checkSame(t, "the cells behind", got.Bag[i:], n.Bag[i+1:])
			check(t, "Count", got.Count, n.Count)
			checkSame(t, "Seen", got.Seen, n.Seen)
		}
	}
	n := countedNet(mostBag, mostSent, mostSeen)
	for len(n.Bag) > 0 {
		n = lose(t, n, len(n.Bag)/2)
	}
	for _, i := range []int{0, mostBag - 1} {
		check(t, "the cells", len(lose(t, fullNet(), i).Bag), mostBag-1)
	}
}

func TestTwice(t *testing.T) {
	n := busyNet()
	for i, m := range n.Bag {
		got, ok := double(t, n, i)
		checkFlag(t, "Twice", ok, true)
		checkSame(t, "the cells before", got.Bag[:len(n.Bag)], n.Bag)
		checkSame(t, "the copy", got.Bag[len(n.Bag)], m)
		checkSame(t, "what is seen", got.Seen, append(slices.Clone(n.Seen), impl.Glance{Now: 300, To: m.To}))
		check(t, "Count", got.Count, n.Count)
		checkSame(t, "the nodes", got.Nodes, n.Nodes)
		checkSame(t, "Sent", got.Sent, n.Sent)
	}
}

// roomy are numbers of cells and glances that leave room for one more, and others that do not.
func roomy() map[bool][][2]int {
	return map[bool][][2]int{
		true:  {{1, 0}, {mostBag - 1, 0}, {1, mostSeen - 1}, {mostBag - 1, mostSeen - 1}, {sendBag + 1, sendSeen + 1}},
		false: {{mostBag, 0}, {mostBag, mostSeen - 1}, {1, mostSeen}, {mostBag - 1, mostSeen}, {mostBag, mostSeen}},
	}
}

func TestTwiceAndForgeWithoutRoom(t *testing.T) {
	for hasRoom, list := range roomy() {
		for _, counts := range list {
			n := countedNet(counts[0], mostSent, counts[1])
			for _, i := range []int{0, len(n.Bag) / 2, len(n.Bag) - 1} {
				got, ok := double(t, n, i)
				checkFlag(t, "Twice", ok, hasRoom)
				check(t, "the cells", len(got.Bag)-len(n.Bag), len(flagged(hasRoom)))
			}
			for to := range nodeCount {
				got, ok := forge(t, n, to, drawn(cellBytes, to))
				checkFlag(t, "Forge", ok, hasRoom)
				check(t, "the glances", len(got.Seen)-len(n.Seen), len(flagged(hasRoom)))
			}
			// That there is no such element, node or cell comes first.
			checkNoElement(t, "no element and maybe no room", n, -1)
			checkNoElement(t, "no element and maybe no room", n, len(n.Bag))
			checkNotForged(t, "no node and maybe no room", n, -1, zeroPad())
			checkNotForged(t, "no node and maybe no room", n, nodeCount, zeroPad())
			checkNotForged(t, "no cell and maybe no room", n, 3, zeroPad()[1:])
		}
	}
}

func TestForge(t *testing.T) {
	n := goodNet()
	for to := range nodeCount {
		for _, b := range [][]byte{zeroPad(), drawn(cellBytes, to), slices.Repeat([]byte{255}, cellBytes), n.Bag[0].Cell.B} {
			got, ok := forge(t, n, to, b)
			checkFlag(t, "Forge", ok, true)
			checkSame(t, "the cells before", got.Bag[:4], n.Bag)
			check(t, "To", got.Bag[4].To, to)
			checkBytes(t, "the cell", got.Bag[4].Cell.B, b)
			checkSame(t, "what is seen", got.Seen, append(slices.Clone(n.Seen), impl.Glance{Now: 300, To: to}))
			check(t, "Count", got.Count, n.Count)
		}
	}
	for _, n := range []impl.Net{goodNet(), emptyNet(0), fullNet()} {
		for _, to := range append([]int{-1, -2, nodeCount, nodeCount + 1, exit, 256}, farNumbers...) {
			checkNotForged(t, fmt.Sprintf("the node %d", to), n, to, zeroPad())
			checkNotForged(t, fmt.Sprintf("the node %d and no bytes", to), n, to, nil)
		}
		for _, length := range []int{0, 1, 12, 79, 81, 160, 336, 1000} {
			checkNotForged(t, fmt.Sprintf("%d bytes", length), n, 3, data(length))
			checkNotForged(t, fmt.Sprintf("%d bytes", length), n, 3, data(2000)[:length])
		}
	}
}

// A forged cell may have every outcome.
func TestForgedCells(t *testing.T) {
	codes := map[int]int{}
	n := goodNet()
	for at, node := range n.Nodes {
		for i, s := range hearings(301 + at) {
			if (i+at)%2 == 0 {
				continue
			}
			n.Now = 300 + (i+at)/2%(at+2)
			x, ok := forge(t, n, at, s.cellFor(node).B)
			checkFlag(t, "Forge", ok, true)
			x, _ = double(t, x, len(n.Bag))
			for range 2 {
				_, want := wantedHear(x.Nodes[at], n.Now, s, wantedFreshPad(5, x.Count+1))
				y, code := deliver(t, x, len(n.Bag))
				check(t, "the code of a forged cell", code, want)
				codes[code]++
				x = y
			}
		}
	}
	for code := isHeld; code <= isOdd; code++ {
		if codes[code] == 0 {
			t.Errorf("no forged cell with the code %d", code)
		}
	}
}
