package tests

import (
	"bytes"
	"fmt"
	"slices"
	"testing"

	"loop.example/g00611/impl"
)

// The kinds of what happens to a network.
const (
	sends = iota
	delivers
	loses
	doubles
	ticks
	flushes
	forges
	restarts
)

// happening is something that happens to a network, whatever the network holds by then.
type happening struct {
	kind  int
	at    int
	n     int
	route []int
	b     []byte
}

// netted is all that an operation tells.
type netted struct {
	Net impl.Net
	N   int
}

func netFlag(n impl.Net, ok bool) netted { return netted{n, len(flagged(ok))} }

func netNumber(n impl.Net, number int) netted { return netted{n, number} }

// place is an index in Bag, and now and then none.
func (h happening) place(n impl.Net) int {
	if h.n%20 == 0 {
		return []int{-1, len(n.Bag)}[h.at%2]
	}
	return h.at % max(1, len(n.Bag))
}

func (h happening) posting(n impl.Net) posting { return posting{h.route, n.Now + h.n, h.at, h.b} }

// forged returns bytes without an order, or a layer that the node can open.
func (h happening) forged(n impl.Net) []byte {
	list := hearings(n.Now + h.n)
	if h.n%4 == 0 {
		return drawn(cellBytes, h.n)
	}
	return list[(h.at*7+h.n)%len(list)].cellFor(n.Nodes[h.at%nodeCount]).B
}

func (h happening) after(n impl.Net) netted {
	switch h.kind {
	case sends:
		return netFlag(h.posting(n).send(n))
	case delivers:
		return netNumber(impl.Deliver(n, h.place(n)))
	case loses:
		return netFlag(impl.Lose(n, h.place(n)))
	case doubles:
		return netFlag(impl.Twice(n, h.place(n)))
	case ticks:
		return netFlag(impl.TickNet(n))
	case flushes:
		return netNumber(impl.FlushAt(n, h.at%nodeCount, 1+h.n%3, h.b))
	case forges:
		return netFlag(impl.Forge(n, h.at%nodeCount, h.forged(n)))
	}
	return netFlag(impl.Restart(n, h.at%nodeCount))
}

// isPossible reports whether there is the element of Bag that the happening takes.
func (h happening) isPossible(n impl.Net) bool {
	takes := h.kind == delivers || h.kind == loses || h.kind == doubles
	return !takes || 0 <= h.place(n) && h.place(n) < len(n.Bag)
}

func (h happening) wanted(n impl.Net) netted {
	switch h.kind {
	case sends:
		return netFlag(h.posting(n).wanted(n))
	case delivers:
		return netNumber(wantedDeliver(n, h.place(n)))
	case loses:
		return netFlag(wantedLose(n, h.place(n)), true)
	case doubles:
		m := n.Bag[h.place(n)]
		return netFlag(wantedTransmit(n, m.To, m.Cell.B))
	case ticks:
		return netFlag(wantedTickNet(n), true)
	case flushes:
		return netNumber(wantedFlushAt(n, h.at%nodeCount, 1+h.n%3, h.b))
	case forges:
		return netFlag(wantedTransmit(n, h.at%nodeCount, h.forged(n)))
	}
	return netFlag(n, true)
}

// happenings draws what happens to a network: most often a cell is delivered.
func happenings(count int, start int, kinds ...int) []happening {
	const each = 12
	draws := drawn(each*count, start)
	var list []happening
	for i := range count {
		d := draws[each*i : each*i+each]
		route := []int{int(d[1]) % nodeCount}
		for _, other := range d[2 : 2+d[5]%4] {
			route = append(route, (route[len(route)-1]+1+int(other)%7)%nodeCount)
		}
		h := happening{kinds[int(d[0])%len(kinds)], int(d[6]), 1 + int(d[7])%15, route, drawn(int(d[8])%60, start+i)}
		if d[9] < 20 {
			h.n, h.b = int(d[7]), drawn(int(d[8])%(mostMsg+1), start+i)
		}
		list = append(list, h)
	}
	return list
}

// honestKinds are all but the forging of cells, the usual ones more than once.
func honestKinds() []int {
	return []int{
		sends, sends, delivers, delivers, delivers, delivers, delivers, delivers, delivers, delivers,
		flushes, flushes, flushes, flushes, flushes, doubles, doubles, loses, ticks, restarts,
	}
}

// checkTraffic wants one glance more for each cell that the bag has got, and no other change of what was seen.
func checkTraffic(t *testing.T, what string, before impl.Net, after impl.Net, kind int) {
	t.Helper()
	if len(after.Seen) < len(before.Seen) || !slices.Equal(after.Seen[:len(before.Seen)], before.Seen) {
		t.Errorf("%s: what was seen before is not what is seen after", what)
		return
	}
	var want []impl.Glance
	if kind == sends || kind == doubles || kind == flushes || kind == forges {
		for _, m := range after.Bag[len(before.Bag):] {
			want = append(want, impl.Glance{Now: before.Now, To: m.To})
		}
	}
	checkSame(t, what+": what is seen", after.Seen[len(before.Seen):], want)
}

// happens compares what an operation tells with what is wanted, and returns the network after it.
func happens(t *testing.T, n impl.Net, h happening) (impl.Net, int) {
	t.Helper()
	what := fmt.Sprintf("the happening %v", h)
	got := h.after(n)
	if !h.isPossible(n) {
		checkNoNet(t, what, got.Net)
		checkFlag(t, what, got.N > 0, false)
		return n, got.N
	}
	want := h.wanted(n)
	checkNet(t, what, got.Net, want.Net)
	check(t, what, got.N, want.N)
	checkTraffic(t, what, n, got.Net, h.kind)
	return got.Net, got.N
}

// checkHonest wants every message that a node has Got to be a sent one for it, and none twice.
func checkHonest(t *testing.T, n impl.Net) int {
	t.Helper()
	times := map[int]int{}
	for at, node := range n.Nodes {
		for _, l := range node.Got {
			times[l.Id]++
			i := slices.IndexFunc(n.Sent, func(s impl.Sent) bool { return s.Id == l.Id })
			if i < 0 || n.Sent[i].To != at || !bytes.Equal(n.Sent[i].B, l.B) {
				t.Errorf("node %d has Got the message %v, sent were %v", at, l, n.Sent)
			}
		}
	}
	for id, number := range times {
		check(t, fmt.Sprintf("the times of the message %d", id), number, 1)
	}
	return len(times)
}

// Promise 8, its first two parts, with forged cells, too.
func TestOperationsLeaveAValidNetwork(t *testing.T) {
	numbers := map[[2]int]int{}
	for start := range 24 {
		n, _ := impl.NetNew(start * 43)
		if start%4 == 1 {
			n = withNode(n, 3, fullNode())
			n = withNode(n, 5, nodeOf(poolOf(mostHeld-2, 5), fullDesk()))
		}
		for _, h := range happenings(150, start, append(honestKinds(), forges, forges)...) {
			after, number := happens(t, n, h)
			numbers[[2]int{h.kind, number}]++
			n = after
		}
	}
	for code := isHeld; code <= isOdd; code++ {
		if numbers[[2]int{delivers, code}] < 3 {
			t.Errorf("%d cells with the code %d", numbers[[2]int{delivers, code}], code)
		}
	}
	for _, kind := range []int{sends, loses, doubles} {
		for ok := range 2 {
			checkFlag(t, fmt.Sprintf("whether the kind %d gave %d", kind, ok), numbers[[2]int{kind, ok}] > 0, true)
		}
	}
	for number := 1; number <= 4; number++ {
		checkFlag(t, fmt.Sprintf("whether %d cells were flushed", number), numbers[[2]int{flushes, number}] > 0, true)
	}
}

// Promise 9, for everything but forged cells.
func TestOnlyWhatWasSentIsReceived(t *testing.T) {
	received := 0
	for start := range 30 {
		n, _ := impl.NetNew(start * 31)
		for _, h := range happenings(300, start+100, honestKinds()...) {
			got := h.after(n)
			if !h.isPossible(n) {
				continue
			}
			checkFlag(t, "NetOk", impl.NetOk(got.Net), true)
			// What is received stays, and it is never more than one message at a time.
			for at, node := range got.Net.Nodes {
				before := len(n.Nodes[at].Got)
				isOne := h.kind == delivers && got.N == isWhole && n.Bag[h.place(n)].To == at
				check(t, "the messages of a node", len(node.Got), before+len(flagged(isOne)))
				checkSame(t, "the messages of a node before", node.Got[:min(before, len(node.Got))], n.Nodes[at].Got)
			}
			n = got.Net
			checkHonest(t, n)
		}
		received += checkHonest(t, n)
	}
	if received < 100 {
		t.Errorf("only %d messages were received", received)
	}
}

// Promise 8, its last part: at any point any node may be restarted.
func TestRestartingChangesNothing(t *testing.T) {
	for start := range 24 {
		n, _ := impl.NetNew(start * 17)
		restarted := n
		for i, h := range happenings(120, start+200, append(honestKinds(), forges)...) {
			for at := range nodeCount {
				if (start+i+at)%3 == 0 {
					restarted = restart(t, restarted, at)
				}
			}
			one, other := h.after(n), h.after(restarted)
			checkLong(t, fmt.Sprintf("the happening %d after restarts", i), other.Net, one.Net)
			check(t, fmt.Sprintf("the number %d after restarts", i), other.N, one.N)
			if h.isPossible(n) {
				n, restarted = one.Net, other.Net
			}
		}
	}
}

// arrive delivers and flushes in a drawn order until the network rests, and
// lets no pool get more cells than it can hold.
func arrive(t *testing.T, n impl.Net, start int) impl.Net {
	t.Helper()
	draws := drawn(4000, start)
	for i := 0; !impl.Resting(n); i++ {
		if i+20 > len(draws) {
			t.Fatal("the network does not come to rest")
		}
		at := int(draws[i]) % max(1, len(n.Bag))
		if len(n.Bag) == 0 || draws[i] < 40 || len(n.Nodes[n.Bag[at].To].Pool.L) == mostHeld {
			// One that has cells may stand behind some that have none.
			for node := range nodeCount {
				got, cells := impl.FlushAt(n, (node+int(draws[i+1]))%nodeCount, 1, draws[i:i+20])
				if cells > 0 {
					n = got
					break
				}
			}
			continue
		}
		got, code := impl.Deliver(n, at)
		checkFlag(t, fmt.Sprintf("whether a cell with the code %d is accepted", code), isAccepted(code), true)
		n = got
		if draws[i+2] < 20 {
			n, _ = impl.TickNet(n)
		}
		if draws[i+3] < 40 {
			n, _ = impl.Restart(n, int(draws[i+4])%nodeCount)
		}
	}
	return n
}

// checkArrived wants every sent message to be received by its receiver, and nothing else.
func checkArrived(t *testing.T, what string, n impl.Net) {
	t.Helper()
	check(t, what+": the messages that arrived", checkHonest(t, n), len(n.Sent))
	for _, s := range n.Sent {
		b, ok := impl.LetterOf(n.Nodes[s.To], s.Id)
		checkFlag(t, what+": LetterOf", ok, true)
		checkBytes(t, what+": the message", b, s.B)
	}
}

// routesOf gives out every valid route with that many nodes.
func routesOf(hops int) func(yield func([]int) bool) {
	return func(yield func([]int) bool) {
		for number := range 1 << (3 * hops) {
			var route []int
			for i := range hops {
				route = append(route, number>>(3*i)%nodeCount)
			}
			if isRoute(route) && !yield(route) {
				return
			}
		}
	}
}

// Promise 10: by every route.
func TestAMessageArrivesByEveryRoute(t *testing.T) {
	number := 0
	for hops := 1; hops <= mostHops; hops++ {
		for route := range routesOf(hops) {
			n, _ := impl.NetNew(number % (lastSeed + 1))
			msg := drawn(number%(2*fullPart+2), number)
			n, ok := impl.Send(n, route, 1, number%256, msg)
			checkFlag(t, "Send", ok, true)
			for i, node := range route {
				for len(n.Bag) > 0 {
					got, code := impl.Deliver(n, 0)
					checkFlag(t, "whether a cell is accepted", isAccepted(code), true)
					n = got
				}
				if i < len(route)-1 {
					n, _ = impl.FlushAt(n, node, 1, make([]byte, mostHeld))
				}
			}
			checkArrived(t, fmt.Sprintf("the route %v", route), n)
			checkFlag(t, "Resting", impl.Resting(n), true)
			number++
		}
	}
	check(t, "the number of routes", number, 8+8*7+8*7*7+8*7*7*7)
}

func TestMessagesOfEveryLengthArrive(t *testing.T) {
	for length := range mostMsg + 1 {
		for i, route := range sendRoutes() {
			if (length+i)%4 != 0 && length != 0 && length != mostMsg {
				continue
			}
			n := emptyNet(length)
			n, ok := impl.Send(n, route, lastDue, length, drawn(length, length))
			checkFlag(t, "Send", ok, true)
			checkArrived(t, fmt.Sprintf("a message of %d bytes", length), arrive(t, n, length+i))
		}
	}
}

// Promise 10: several messages at once, no more than the nodes can take.
func TestMessagesArriveTogether(t *testing.T) {
	for start := range 60 {
		n, _ := impl.NetNew(start * 11)
		for i, h := range happenings(6, start+300, sends) {
			got, ok := impl.Send(n, h.route, lastDue, start+i, drawn(int(h.at)%(5*fullPart+1), i))
			checkFlag(t, "Send", ok, true)
			n = got
		}
		checkArrived(t, "together", arrive(t, n, start))
	}
}

// With time for it, a cell arrives in the last moment before it is due, and not later.
func TestMessagesArriveUntilTheyAreDue(t *testing.T) {
	for _, route := range sendRoutes() {
		for late := range 2 {
			due := len(route) - late
			n, _ := impl.NetNew(5)
			n, ok := impl.Send(n, route, due, 1, drawn(50, 1))
			checkFlag(t, "Send", ok, true)
			for i, node := range route {
				if i > 0 {
					n, _ = impl.TickNet(n)
					n, _ = impl.FlushAt(n, route[i-1], 1, make([]byte, mostHeld))
				}
				for len(n.Bag) > 0 {
					n, _ = impl.Deliver(n, 0)
				}
				check(t, "the messages in time", len(n.Nodes[node].Got), (1-late)*len(flagged(i == len(route)-1)))
			}
		}
	}
}

// Promise 9 with every cell twice, at once or at the end: the copies are recognized.
func TestCopiesBringNothing(t *testing.T) {
	for start, route := range sendRoutes() {
		n := emptyNet(start)
		n, _ = impl.Send(n, route, lastDue, 1, drawn(70, start))
		var copies []impl.Mail
		for i, node := range route {
			copies = append(copies, n.Bag...)
			for range len(n.Bag) {
				n, _ = double(t, n, 0)
				n, _ = impl.Deliver(n, 0)
			}
			for len(n.Bag) > 0 {
				got, code := deliver(t, n, 0)
				check(t, "the code of a copy", code, isSeen)
				n = got
			}
			if i < len(route)-1 {
				n, _ = flushAt(t, n, node, 1, make([]byte, mostHeld))
			}
		}
		checkArrived(t, "with copies", n)
		n.Bag = copies
		for len(n.Bag) > 0 {
			got, code := deliver(t, n, len(n.Bag)-1)
			check(t, "the code of a late copy", code, isSeen)
			n = got
		}
		checkArrived(t, "with late copies", n)
	}
}
