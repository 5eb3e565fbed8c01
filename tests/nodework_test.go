package tests

import (
	"fmt"
	"math"
	"slices"
	"testing"

	"loop.example/g00611/impl"
)

// The signatures that chapter 6 gives for what happens to a node from time to time.
var (
	_ func(impl.Node, int) (impl.Node, int)                      = impl.NodeTick
	_ func(impl.Node, int, []byte) (impl.Node, []impl.Held, int) = impl.NodeFlush
)

// wantedTick takes valid arguments only.
func wantedTick(n impl.Node, now int) (impl.Node, int) {
	n = anew(n)
	before := len(n.Pool.L) + len(n.Desk.Open)
	n.Pool.L = slices.DeleteFunc(n.Pool.L, func(h impl.Held) bool { return h.Due <= now })
	n.Desk.Open = slices.DeleteFunc(n.Desk.Open, func(w impl.Whole) bool { return w.Due <= now })
	return n, before - len(n.Pool.L) - len(n.Desk.Open)
}

func tick(t *testing.T, n impl.Node, now int) impl.Node {
	t.Helper()
	want, wantGone := wantedTick(n, now)
	got, gone := impl.NodeTick(n, now)
	what := fmt.Sprintf("NodeTick at %d", now)
	checkSame(t, what, got, want)
	check(t, what, gone, wantGone)
	checkFlag(t, "NodeOk after "+what, impl.NodeOk(got), true)
	return got
}

func checkNotTicked(t *testing.T, what string, n impl.Node, now int) {
	t.Helper()
	got, gone := impl.NodeTick(n, now)
	checkNoNode(t, what+": NodeTick", got)
	check(t, what+": the number of NodeTick", gone, -1)
}

func flush(t *testing.T, n impl.Node, need int, draws []byte) (impl.Node, int) {
	t.Helper()
	want := anew(n)
	p, wantCells, wantUsed := wantedFlush(n.Pool, need, draws)
	want.Pool = p
	got, cells, used := impl.NodeFlush(n, need, draws)
	what := fmt.Sprintf("NodeFlush of %d cells, %d needed, by %v", len(n.Pool.L), need, draws)
	checkSame(t, what, got, want)
	checkSame(t, what, cells, wantCells)
	check(t, what, used, wantUsed)
	checkFlag(t, "NodeOk after "+what, impl.NodeOk(got), true)
	return got, used
}

func checkNodeNotFlushed(t *testing.T, what string, n impl.Node, need int, draws []byte) {
	t.Helper()
	got, cells, used := impl.NodeFlush(n, need, draws)
	checkNoNode(t, what+": NodeFlush", got)
	checkSame(t, what+": the cells of NodeFlush", cells, []impl.Held{})
	check(t, what+": the number of NodeFlush", used, -2)
}

func TestNodeTick(t *testing.T) {
	// The cells are due at 9, 300, 5 and 9, and the messages at 300 and 20.
	n := goodNode()
	gone := map[int]int{0: 0, 4: 0, 5: 1, 8: 1, 9: 3, 10: 3, 19: 3, 20: 4, 21: 4, 299: 4, 300: 6, 301: 6, lastNow: 6}
	for now, number := range gone {
		_, got := impl.NodeTick(n, now)
		check(t, "the number of NodeTick", got, number)
	}
	got, _ := impl.NodeTick(n, 20)
	checkSame(t, "the cells after 20", got.Pool, impl.Pool{L: n.Pool.L[1:2], Tags: n.Pool.Tags})
	checkSame(t, "the messages after 20", got.Desk, impl.Desk{Open: n.Desk.Open[:1], Done: n.Desk.Done})
	checkSame(t, "the received messages", got.Got, n.Got)
	got, _ = impl.NodeTick(n, 300)
	checkSame(t, "the node after 300", got, impl.Node{Id: 2, Secret: 1002, Pool: impl.Pool{Tags: n.Pool.Tags}, Desk: impl.Desk{Done: n.Desk.Done}, Got: n.Got})
	for i, n := range goodNodes() {
		for j, now := range []int{0, 1, 5, 9, 255, 256, 299, 300, 301, lastNow - 1, lastNow} {
			if i < 10 || (i+j)%4 == 0 {
				tick(t, n, now)
			}
		}
	}
}

func TestNodeTickAtTheEdgesOfTime(t *testing.T) {
	h, late := held(3, lastNow, 1), held(3, lastNow+1, 2)
	first, last := partial(7, 2, 0, 1), partial(8, 2, lastDue, 1)
	n := nodeOf(impl.Pool{L: []impl.Held{h, late, held(3, 0, 3)}}, impl.Desk{Open: []impl.Whole{first, last}})
	for now, number := range map[int]int{0: 2, 1: 2, lastNow - 1: 2, lastNow: 3} {
		_, gone := impl.NodeTick(n, now)
		check(t, "the number of NodeTick", gone, number)
		tick(t, n, now)
	}
	for _, now := range append([]int{-1, -2, lastNow + 1, lastNow + 2, lastDue, lastDue + 1, math.MinInt + 1}, farNumbers...) {
		checkNotTicked(t, "an invalid time", n, now)
		checkNotTicked(t, "an invalid time", impl.Node{Id: 2, Secret: 1002}, now)
	}
}

func TestNodeFlush(t *testing.T) {
	n := goodNode()
	got, cells, used := impl.NodeFlush(n, 4, []byte{0, 0, 0})
	check(t, "the draws", used, 3)
	checkSame(t, "the cells", cells, []impl.Held{n.Pool.L[1], n.Pool.L[2], n.Pool.L[3], n.Pool.L[0]})
	want := anew(n)
	want.Pool.L = nil
	checkSame(t, "the node without cells", got, want)
	for number, draws := range map[int][]byte{0: {0, 0, 0}, -1: {0, 0}} {
		got, cells, used = impl.NodeFlush(n, 5+number, draws)
		check(t, "the number of no flush", used, number)
		checkSame(t, "the cells of no flush", cells, []impl.Held{})
		checkSame(t, "the node after no flush", got, n)
	}
	for cells := range mostHeld + 1 {
		for need := 1; need <= mostHeld; need++ {
			for _, draws := range [][]byte{nil, {0}, make([]byte, max(0, cells-1)), drawn(100, need)} {
				_, used := flush(t, nodeOf(poolOf(cells, 5), goodDesk()), need, draws)
				if cells < need {
					check(t, "the draws for too few cells", used, 0)
				}
			}
		}
	}
	for i, n := range goodNodes() {
		flush(t, n, 1+i%mostHeld, drawn(i%30, i))
		flush(t, n, 1, drawn(40, i))
	}
}

func TestNodeFlushOfInvalidNeeds(t *testing.T) {
	for _, need := range append([]int{0, -1, -2, mostHeld + 1, mostHeld + 2, 256 + 1}, farNumbers...) {
		for _, n := range []impl.Node{{Id: 2, Secret: 1002}, goodNode(), fullNode()} {
			checkNodeNotFlushed(t, "an invalid need", n, need, drawn(100, 1))
			checkNodeNotFlushed(t, "an invalid need", n, need, nil)
		}
	}
}

// step is something that happens to a node: a cell (kind 0), a tick (1, 2) or
// a flush (3, 4).
type step struct {
	kind  int
	s     sending
	now   int
	draws []byte
}

// steps draws what happens to a node: mostly cells, several of them heard
// again, or of messages that other cells belong to; the time goes on.
func steps(count int, start int) []step {
	draws := drawn(8*count, start)
	var list []step
	now := 0
	for i := range count {
		d := draws[8*i : 8*i+8]
		secret, due := 20+i, now+int(d[1])%12
		s := relayed(secret, int(d[2])%nodeCount, due)
		switch {
		case d[0] < 150:
			id := int(d[3]) % 9
			l := piecesOf(id, drawn(id*25%mostMsg, id))
			s = carried(secret, l[int(d[4])%len(l)], due)
		case d[0] < 165:
			s = loaded(secret, due, d[:int(d[5])%8]...)
		case d[0] < 175:
			s = relayed(secret, nodeCount, due)
		}
		if i > 0 && d[6] < 60 {
			s = list[int(d[7])%i].s
		}
		if d[5] < 50 {
			now += int(d[6]) % 5
		}
		kind := int(d[2]) / 8
		if kind > 4 {
			kind = 0
		}
		list = append(list, step{kind, s, now, d})
	}
	return list
}

// after returns a node after a step, and all else that the step has told.
func (s step) after(n impl.Node) noded {
	switch s.kind {
	case 1, 2:
		got, gone := impl.NodeTick(n, s.now)
		return noded{Node: got, N: gone}
	case 3, 4:
		got, cells, used := impl.NodeFlush(n, s.kind, s.draws)
		return noded{Node: got, Cells: cells, N: used}
	}
	got, code := impl.Hear(n, s.now, s.s.cellFor(n), hearPad())
	return noded{Node: got, N: code}
}

func isAccepted(code int) bool { return code == isHeld || code == isPart || code == isWhole }

// Promise 7, its first half.
func TestACellThatWasProcessedIsNotAcceptedAgain(t *testing.T) {
	codes := map[int]int{}
	for start := range 40 {
		n := impl.Node{Id: start % nodeCount, Secret: 1000 + start}
		processed := map[string]sending{}
		for _, s := range steps(90, start) {
			if s.kind != 0 {
				n = s.after(n).Node
				checkFlag(t, "NodeOk after a step", impl.NodeOk(n), true)
				continue
			}
			mark := fmt.Sprint(s.s)
			_, known := processed[mark]
			after, code := hear(t, n, s.now, s.s)
			codes[code]++
			checkFlag(t, "a cell accepted again", known && isAccepted(code), false)
			same, again := impl.Hear(after, s.now, s.s.cellFor(n), hearPad())
			checkFlag(t, "a cell accepted twice", isAccepted(again), false)
			checkSame(t, "the node after the same cell", same, after)
			if isAccepted(code) || code == isSeen {
				processed[mark] = s.s
			}
			n = after
		}
		for _, s := range processed {
			_, code := impl.Hear(n, 0, s.cellFor(n), hearPad())
			checkFlag(t, "a cell accepted in the end", isAccepted(code), false)
		}
	}
	for code := isHeld; code <= isOdd; code++ {
		if codes[code] < 5 {
			t.Errorf("%d cells with the code %d", codes[code], code)
		}
	}
}

// A message is received once, whatever is heard twice, flushed or removed.
func TestAMessageIsReceivedOnce(t *testing.T) {
	for start := range 30 {
		n := impl.Node{Id: 1, Secret: 7000 + start}
		times := map[int]int{}
		for _, s := range steps(120, start+100) {
			before := len(n.Got)
			result := s.after(n)
			if s.kind == 0 && result.N == isWhole {
				p, _ := s.s.piece()
				times[p.Id]++
				check(t, "the number of messages", len(result.Node.Got), before+1)
				b, ok := impl.LetterOf(result.Node, p.Id)
				checkFlag(t, "LetterOf a message", ok, true)
				checkBytes(t, "a message", b, drawn(p.Id*25%mostMsg, p.Id))
			} else {
				check(t, "the number of messages", len(result.Node.Got), before)
			}
			n = result.Node
		}
		checkFlag(t, "that messages were received", len(times) > 0, true)
		for id, number := range times {
			check(t, fmt.Sprintf("the times of message %d", id), number, 1)
		}
	}
}

// Promise 7, its second half.
func TestADecodedNodeBehavesTheSame(t *testing.T) {
	for start := range 40 {
		n := impl.Node{Id: start % nodeCount, Secret: 5000 + start}
		if start%4 == 1 {
			n.Pool, n.Desk, n.Got = goodNode().Pool, goodNode().Desk, goodNode().Got
		}
		decoded := n
		for i, s := range steps(90, start+200) {
			// One node is decoded each time, and the other one never.
			b, ok := impl.NodeBytes(decoded)
			checkFlag(t, "NodeBytes", ok, true)
			decoded, ok = impl.NodeRead(b)
			checkFlag(t, "NodeRead", ok, true)
			checkSame(t, "the decoded node", decoded, n)
			one, other := s.after(n), s.after(decoded)
			checkSame(t, fmt.Sprintf("step %d of the decoded node", i), other, one)
			n, decoded = one.Node, other.Node
			checkNodes(t, "GotIds", impl.GotIds(decoded), impl.GotIds(n)...)
			check(t, "Load", impl.Load(decoded), impl.Load(n))
			checkFlag(t, "Idle", impl.Idle(decoded), impl.Idle(n))
		}
	}
}

func TestTicksAndFlushesAreNewMemory(t *testing.T) {
	numbers := map[int]int{}
	for _, n := range memoryNodes() {
		for _, now := range []int{-1, 0, 9, 300, lastNow} {
			checkNested(t, "NodeTick", n, func(n impl.Node) noded {
				got, gone := impl.NodeTick(n, now)
				return noded{Node: got, N: gone}
			})
		}
		for _, need := range []int{0, 1, 2, mostHeld} {
			for _, draws := range [][]byte{nil, {0}, make([]byte, mostHeld), drawn(100, 3)} {
				call := func(in NodeInput) noded {
					got, cells, used := impl.NodeFlush(in.Node, need, in.Bytes)
					return noded{Node: got, Cells: cells, N: used}
				}
				in := NodeInput{Node: n, Bytes: draws}
				checkNested(t, "NodeFlush", in, call)
				numbers[min(1, call(in).N)]++
			}
		}
	}
	for number := -2; number <= 1; number++ {
		if numbers[number] == 0 {
			t.Errorf("no call with the number %d", number)
		}
	}
	in := sharingNode()
	for _, now := range []int{9, 300} {
		got, _ := impl.NodeTick(in.Node, now)
		checkSeparate(t, "NodeTick", noded{Node: got})
	}
	for _, need := range []int{1, 3, 4} {
		got, cells, _ := impl.NodeFlush(in.Node, need, in.Bytes)
		checkSeparate(t, "NodeFlush", noded{Node: got, Cells: cells})
	}
}
