package tests

import (
	"fmt"
	"slices"
	"testing"

	"loop.example/g00611/impl"
)

// The limits are written out here so that a wrong constant is found.
const (
	mostBag   = 60
	mostSent  = 20
	mostSeen  = 500
	lastTime  = 50000
	lastSeed  = 1000
	lastCount = 20000
)

// The most of what a network may have for a message to be sent.
const (
	sendBag   = 52
	sendSeen  = 492
	sendCount = 19900
)

// The wanted networks follow the chapter word for word. What a node does with
// a cell is left to Hear, which has tests of its own.

func ownSecret(seed int, node int) int {
	return 1 + (1009*seed+7919*node+12345)%1000000000
}

func emptyNet(seed int) impl.Net {
	n := impl.Net{Seed: seed}
	for node := range nodeCount {
		n.Nodes = append(n.Nodes, impl.Node{Id: node, Secret: ownSecret(seed, node)})
	}
	return n
}

// withNode returns the network with what a node holds, but no other Id and Secret.
func withNode(n impl.Net, at int, holds impl.Node) impl.Net {
	holds.Id, holds.Secret = n.Nodes[at].Id, n.Nodes[at].Secret
	n.Nodes = slices.Clone(n.Nodes)
	n.Nodes[at] = holds
	return n
}

func publicsIn(n impl.Net) []int {
	var secrets []int
	for _, node := range n.Nodes {
		secrets = append(secrets, node.Secret)
	}
	return publicsOf(secrets)
}

func wantedFreshSecret(seed int, count int) int {
	x := (30011*seed + 7907*count + 5) * 48271 % prime
	return 1 + x%(prime-2)
}

func wantedFreshPad(seed int, count int) []byte {
	key := wantedKey(31*seed+count, 3)
	var pad []byte
	for i := range cellBytes {
		pad = append(pad, wantedByte(key, i))
	}
	return pad
}

// wantedTransmit changes nothing that another network shares.
func wantedTransmit(n impl.Net, to int, b []byte) (impl.Net, bool) {
	if len(n.Bag) == mostBag || len(n.Seen) == mostSeen {
		return n, false
	}
	n.Bag = append(slices.Clone(n.Bag), impl.Mail{To: to, Cell: impl.Cell{B: b}})
	n.Seen = append(slices.Clone(n.Seen), impl.Glance{Now: n.Now, To: to})
	return n, true
}

// posting is what Send takes beside the network.
type posting struct {
	route []int
	due   int
	id    int
	msg   []byte
}

func (p posting) send(n impl.Net) (impl.Net, bool) {
	return impl.Send(n, p.route, p.due, p.id, p.msg)
}

func (p posting) isRefused(n impl.Net) bool {
	isSent := slices.ContainsFunc(n.Sent, func(s impl.Sent) bool { return s.Id == p.id })
	return isSent || len(n.Sent) == mostSent || len(n.Bag) > sendBag || len(n.Seen) > sendSeen || n.Count > sendCount
}

// wanted takes a valid network and a valid posting only.
func (p posting) wanted(n impl.Net) (impl.Net, bool) {
	if p.isRefused(n) {
		return n, false
	}
	pubs := publicsIn(n)
	for _, piece := range piecesOf(p.id, p.msg) {
		var secrets []int
		for range p.route {
			n.Count++
			secrets = append(secrets, wantedFreshSecret(n.Seed, n.Count))
		}
		n.Count++
		load := append([]byte{byte(piece.Id), byte(piece.At), byte(piece.Total)}, piece.Data...)
		cell := plan{p.route, pubs, secrets, p.due, load, wantedFreshPad(n.Seed, n.Count)}.want()
		n, _ = wantedTransmit(n, p.route[0], cell)
	}
	n.Sent = append(slices.Clone(n.Sent), impl.Sent{Id: p.id, To: p.route[len(p.route)-1], B: p.msg})
	return n, true
}

func wantedLose(n impl.Net, i int) impl.Net {
	n.Bag = slices.Concat(n.Bag[:i], n.Bag[i+1:])
	return n
}

func wantedDeliver(n impl.Net, i int) (impl.Net, int) {
	m := n.Bag[i]
	n = wantedLose(n, i)
	n.Count++
	node, code := impl.Hear(n.Nodes[m.To], n.Now, m.Cell, wantedFreshPad(n.Seed, n.Count))
	return withNode(n, m.To, node), code
}

func wantedTickNet(n impl.Net) impl.Net {
	n.Now++
	for i, node := range n.Nodes {
		ticked, _ := wantedTick(node, n.Now)
		n = withNode(n, i, ticked)
	}
	return n
}

func wantedFlushAt(n impl.Net, at int, need int, draws []byte) (impl.Net, int) {
	node := n.Nodes[at]
	p, cells, _ := wantedFlush(node.Pool, need, draws)
	if len(cells) == 0 || len(n.Bag)+len(cells) > mostBag || len(n.Seen)+len(cells) > mostSeen {
		return n, -1
	}
	node.Pool = p
	n = withNode(n, at, node)
	for _, h := range cells {
		n, _ = wantedTransmit(n, h.Next, h.Cell.B)
	}
	return n, len(cells)
}

// checkNet wants a valid network with the same contents.
func checkNet(t *testing.T, what string, got impl.Net, want impl.Net) {
	t.Helper()
	checkLong(t, what, got, want)
	checkFlag(t, "NetOk after "+what, impl.NetOk(got), true)
}

// checkLong compares as checkSame does, but shows no more than where two long values begin to differ.
func checkLong(t *testing.T, what string, got any, want any) {
	t.Helper()
	a, b := fmt.Sprint(got), fmt.Sprint(want)
	if a == b {
		return
	}
	at := 0
	for at < min(len(a), len(b)) && a[at] == b[at] {
		at++
	}
	at = max(0, at-30)
	t.Errorf("%s = %.20s .. %.80s, want %.20s .. %.80s", what, a, a[min(at, len(a)):], b, b[min(at, len(b)):])
}

func checkNoNet(t *testing.T, what string, got impl.Net) {
	t.Helper()
	checkLong(t, what+": the network", got, impl.Net{})
}

// send calls Send with a valid network and a valid posting, and compares its results with the wanted ones.
func send(t *testing.T, n impl.Net, p posting) (impl.Net, bool) {
	t.Helper()
	want, wantOk := p.wanted(n)
	got, ok := p.send(n)
	checkNet(t, "Send", got, want)
	checkFlag(t, "Send", ok, wantOk)
	return got, ok
}

func checkNotSent(t *testing.T, what string, n impl.Net, p posting) {
	t.Helper()
	got, ok := p.send(n)
	checkNoNet(t, what+": Send", got)
	checkFlag(t, what+": Send", ok, false)
}

// deliver needs an element of Bag, as lose and double do, too.
func deliver(t *testing.T, n impl.Net, i int) (impl.Net, int) {
	t.Helper()
	want, wantCode := wantedDeliver(n, i)
	got, code := impl.Deliver(n, i)
	checkNet(t, "Deliver", got, want)
	check(t, "the code of Deliver", code, wantCode)
	return got, code
}

func lose(t *testing.T, n impl.Net, i int) impl.Net {
	t.Helper()
	got, ok := impl.Lose(n, i)
	checkNet(t, "Lose", got, wantedLose(n, i))
	checkFlag(t, "Lose", ok, true)
	return got
}

func double(t *testing.T, n impl.Net, i int) (impl.Net, bool) {
	t.Helper()
	want, wantOk := wantedTransmit(n, n.Bag[i].To, n.Bag[i].Cell.B)
	got, ok := impl.Twice(n, i)
	checkNet(t, "Twice", got, want)
	checkFlag(t, "Twice", ok, wantOk)
	return got, ok
}

// checkNoElement wants the fixed values of everything that takes an element of Bag.
func checkNoElement(t *testing.T, what string, n impl.Net, i int) {
	t.Helper()
	got, code := impl.Deliver(n, i)
	checkNoNet(t, what+": Deliver", got)
	check(t, what+": the code of Deliver", code, -1)
	got, ok := impl.Lose(n, i)
	checkNoNet(t, what+": Lose", got)
	checkFlag(t, what+": Lose", ok, false)
	got, ok = impl.Twice(n, i)
	checkNoNet(t, what+": Twice", got)
	checkFlag(t, what+": Twice", ok, false)
}

func tickNet(t *testing.T, n impl.Net) impl.Net {
	t.Helper()
	got, ok := impl.TickNet(n)
	checkNet(t, "TickNet", got, wantedTickNet(n))
	checkFlag(t, "TickNet", ok, true)
	return got
}

func checkNoTick(t *testing.T, what string, n impl.Net) {
	t.Helper()
	got, ok := impl.TickNet(n)
	checkNoNet(t, what+": TickNet", got)
	checkFlag(t, what+": TickNet", ok, false)
}

func flushAt(t *testing.T, n impl.Net, node int, need int, draws []byte) (impl.Net, int) {
	t.Helper()
	want, wantCells := wantedFlushAt(n, node, need, draws)
	got, cells := impl.FlushAt(n, node, need, draws)
	checkNet(t, "FlushAt", got, want)
	check(t, "the number of FlushAt", cells, wantCells)
	return got, cells
}

func checkNoFlushAt(t *testing.T, what string, n impl.Net, node int, need int, draws []byte) {
	t.Helper()
	got, cells := impl.FlushAt(n, node, need, draws)
	checkNoNet(t, what+": FlushAt", got)
	check(t, what+": the number of FlushAt", cells, -2)
}

func forge(t *testing.T, n impl.Net, to int, b []byte) (impl.Net, bool) {
	t.Helper()
	want, wantOk := wantedTransmit(n, to, b)
	got, ok := impl.Forge(n, to, b)
	checkNet(t, "Forge", got, want)
	checkFlag(t, "Forge", ok, wantOk)
	return got, ok
}

func checkNotForged(t *testing.T, what string, n impl.Net, to int, b []byte) {
	t.Helper()
	got, ok := impl.Forge(n, to, b)
	checkNoNet(t, what+": Forge", got)
	checkFlag(t, what+": Forge", ok, false)
}

// restart wants a network in which nothing has changed.
func restart(t *testing.T, n impl.Net, node int) impl.Net {
	t.Helper()
	got, ok := impl.Restart(n, node)
	checkNet(t, "Restart", got, n)
	checkFlag(t, "Restart", ok, true)
	return got
}

func checkNotRestarted(t *testing.T, what string, n impl.Net, node int) {
	t.Helper()
	got, ok := impl.Restart(n, node)
	checkNoNet(t, what+": Restart", got)
	checkFlag(t, what+": Restart", ok, false)
}
