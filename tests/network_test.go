package tests

import (
	"fmt"
	"slices"
	"testing"

	"loop.example/g00611/impl"
)

// The signatures that chapter 7 gives for what happens to the nodes of a network.
var (
	_ func(impl.Net) (impl.Net, bool)                  = impl.TickNet
	_ func(impl.Net, int, int, []byte) (impl.Net, int) = impl.FlushAt
	_ func(impl.Net, int) (impl.Net, bool)             = impl.Restart
)

// dueNet has in every node cells and messages due at a time, before and after it.
func dueNet(due int) impl.Net {
	n := emptyNet(5)
	n.Now = 300
	for at := range nodeCount {
		l := []impl.Held{held(3, due, at), held(at, due+1, 2), held(0, due-1, 3), held(7, due, 4)}
		open := []impl.Whole{partial(3, 2, due-1, 1), partial(7, 2, due, 1), partial(8, 2, due+1, 1), partial(at+20, 3, due, 0, 2)}
		n = withNode(n, at, nodeOf(impl.Pool{L: l, Tags: tagsOf(4)}, impl.Desk{Open: open, Done: []int{5, 200 + at}}))
	}
	n.Bag, n.Sent, n.Seen = mails(5), sents(4), glances(9, 300)
	return n
}

// What is due at the new time goes, in every node.
func TestTickNet(t *testing.T) {
	for due, left := range map[int]int{299: 0, 300: 0, 301: 1, 302: 3, 303: 4} {
		n := dueNet(due)
		got := tickNet(t, n)
		check(t, "Now", got.Now, 301)
		for _, node := range got.Nodes {
			check(t, fmt.Sprintf("the cells left of those due %d", due), len(node.Pool.L), left)
			check(t, fmt.Sprintf("the messages left of those due %d", due), len(node.Desk.Open), left)
			check(t, "the tags", len(node.Pool.Tags), 4)
			checkNodes(t, "Done", node.Desk.Done, 5, 200+node.Id)
		}
		check(t, "Seed", got.Seed, 5)
		check(t, "Count", got.Count, n.Count)
		checkSame(t, "Bag", got.Bag, n.Bag)
		checkSame(t, "Sent", got.Sent, n.Sent)
		checkSame(t, "Seen", got.Seen, n.Seen)
	}
}

func TestTickNetAtTheLastTime(t *testing.T) {
	for _, now := range []int{0, 1, 255, lastTime - 2, lastTime - 1} {
		n := goodNet()
		n.Now, n.Seen = now, glances(11, now)
		check(t, "Now", tickNet(t, n).Now, now+1)
	}
	n := goodNet()
	n.Now = lastTime
	checkNoTick(t, "the last time", n)
	checkNoTick(t, "the last time", fullNet())
	n = emptyNet(1)
	n.Now = lastTime - 3
	for range 3 {
		n = tickNet(t, n)
	}
	checkNoTick(t, "the last time", n)
	for _, n := range goodNets() {
		if n.Now < lastTime {
			tickNet(t, n)
		}
	}
}

// flushNet has some cells in the pool of node 3, and some in the bag and seen.
func flushNet(cells int, bag int, seen int) impl.Net {
	n := countedNet(bag, 3, seen)
	return withNode(n, 3, nodeOf(poolOf(cells, 5), goodDesk()))
}

func TestFlushAt(t *testing.T) {
	n := goodNet()
	got, cells := flushAt(t, n, 2, 4, []byte{0, 0, 0})
	check(t, "the number of cells", cells, 4)
	l := goodPool().L
	var want []impl.Mail
	for _, h := range []impl.Held{l[1], l[2], l[3], l[0]} {
		want = append(want, impl.Mail{To: h.Next, Cell: h.Cell})
	}
	checkSame(t, "the cells before", got.Bag[:4], n.Bag)
	checkSame(t, "the cells", got.Bag[4:], want)
	checkSame(t, "what is seen", got.Seen, append(slices.Clone(n.Seen), []impl.Glance{{Now: 300, To: 7}, {Now: 300, To: 1}, {Now: 300, To: 0}, {Now: 300, To: 1}}...))
	checkSame(t, "the node", got.Nodes[2].Pool, impl.Pool{Tags: goodPool().Tags})
	checkSame(t, "the desk", got.Nodes[2].Desk, n.Nodes[2].Desk)
	check(t, "Count", got.Count, n.Count)
	for at := range nodeCount {
		if at != 2 {
			checkSame(t, "another node", got.Nodes[at], n.Nodes[at])
		}
	}
	// These cells are expired, but only TickNet removes them.
	check(t, "Now", got.Now, 300)
}

func TestFlushAtOfAnyPool(t *testing.T) {
	numbers := map[int]int{}
	for cells := range mostHeld + 1 {
		n := flushNet(cells, 3, 4)
		for need := 1; need <= mostHeld; need++ {
			for _, draws := range [][]byte{nil, make([]byte, max(0, cells-1)), make([]byte, max(0, cells-2)), drawn(100, need)} {
				got, number := flushAt(t, n, 3, need, draws)
				numbers[number]++
				if cells < need || cells == 0 || len(draws) < cells-1 {
					check(t, "the number of no flush", number, -1)
					checkNet(t, "the network after no flush", got, n)
				} else {
					check(t, "the number of cells", number, cells)
				}
			}
		}
		// A draw that is skipped leaves one too few.
		_, number := flushAt(t, n, 3, 1, append([]byte{255}, make([]byte, max(0, cells-2))...))
		numbers[number]++
	}
	for number := -1; number <= mostHeld; number++ {
		checkFlag(t, fmt.Sprintf("whether %d is a number of FlushAt", number), numbers[number] > 0, number != 0)
	}
	for at := range nodeCount {
		for _, need := range []int{1, 3, mostHeld} {
			flushAt(t, goodNet(), at, need, drawn(100, at))
			flushAt(t, dueNet(9), at, need, drawn(100, at))
		}
	}
}

// All cells of a pool are transmitted, or none of them.
func TestFlushAtWithoutRoom(t *testing.T) {
	for _, cells := range []int{1, 2, 5, mostHeld} {
		for _, bag := range []int{0, mostBag - cells - 1, mostBag - cells, mostBag - cells + 1, mostBag - 1, mostBag} {
			for _, seen := range []int{0, mostSeen - cells - 1, mostSeen - cells, mostSeen - cells + 1, mostSeen - 1, mostSeen} {
				n := flushNet(cells, bag, seen)
				got, number := flushAt(t, n, 3, cells, drawn(100, cells))
				if bag+cells > mostBag || seen+cells > mostSeen {
					check(t, "the number of no flush", number, -1)
					checkNet(t, "the network after no flush", got, n)
				} else {
					check(t, "the number of cells", number, cells)
					check(t, "the cells", len(got.Bag), bag+cells)
				}
			}
		}
	}
	// No room does not matter where nothing would be transmitted.
	for _, n := range []impl.Net{flushNet(0, mostBag, mostSeen), flushNet(2, mostBag, mostSeen)} {
		_, number := flushAt(t, n, 3, 3, nil)
		check(t, "the number of no flush", number, -1)
	}
}

func TestFlushAtOfInvalidArguments(t *testing.T) {
	nets := []impl.Net{goodNet(), fullNet(), emptyNet(5), flushNet(4, mostBag, mostSeen), flushNet(mostHeld, 0, 0)}
	for _, n := range nets {
		for _, node := range append([]int{-1, -2, nodeCount, nodeCount + 1, exit, 256}, farNumbers...) {
			for _, need := range []int{1, 3, mostHeld, 0, mostHeld + 1} {
				checkNoFlushAt(t, fmt.Sprintf("the node %d", node), n, node, need, drawn(100, 1))
				checkNoFlushAt(t, fmt.Sprintf("the node %d", node), n, node, need, nil)
			}
		}
		for _, need := range append([]int{0, -1, -2, mostHeld + 1, mostHeld + 2, 256 + 1}, farNumbers...) {
			for node := range nodeCount {
				checkNoFlushAt(t, fmt.Sprintf("%d needed", need), n, node, need, drawn(100, 1))
				checkNoFlushAt(t, fmt.Sprintf("%d needed", need), n, node, need, nil)
			}
		}
	}
}

func TestRestart(t *testing.T) {
	for _, n := range append(goodNets(), busyNet(), dueNet(9), flushNet(mostHeld, 3, 3)) {
		for at := range nodeCount {
			restart(t, n, at)
		}
		for _, node := range append([]int{-1, -2, nodeCount, nodeCount + 1, exit, 256}, farNumbers...) {
			checkNotRestarted(t, fmt.Sprintf("the node %d", node), n, node)
		}
	}
	for i, node := range goodNodes() {
		restart(t, withNode(goodNet(), i%nodeCount, node), i%nodeCount)
	}
}
