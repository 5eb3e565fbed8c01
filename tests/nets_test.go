package tests

import (
	"fmt"
	"math"
	"slices"
	"testing"

	"loop.example/g00611/impl"
)

// The signatures that chapter 7 gives for networks and what they show.
var (
	_ func(impl.Net) bool        = impl.NetOk
	_ func(int) (impl.Net, bool) = impl.NetNew
	_ func(impl.Net, int) int    = impl.OnWay
	_ func(impl.Net) []int       = impl.SentIds
	_ func(impl.Net) bool        = impl.Resting
	_ func(impl.Net, int) []int  = impl.SeenAt
)

// mail returns a cell of its own contents for each mark.
func mail(to int, mark int) impl.Mail {
	return impl.Mail{To: to, Cell: impl.Cell{B: drawn(cellBytes, mark)}}
}

func sent(id int, to int, length int) impl.Sent {
	return impl.Sent{Id: id, To: to, B: drawn(length, id)}
}

func mails(count int) []impl.Mail {
	var list []impl.Mail
	for i := range count {
		list = append(list, mail((3*i+3)%nodeCount, i))
	}
	return list
}

// sents has distinct Ids in no order, 0 and 255 among the first ones.
func sents(count int) []impl.Sent {
	var list []impl.Sent
	for i := range count {
		list = append(list, sent((171*i+255)%256, (5*i+6)%nodeCount, (i*53)%(mostMsg+1)))
	}
	return list
}

// glances lie in 0 .. now, and have both ends.
func glances(count int, now int) []impl.Glance {
	var list []impl.Glance
	for i := range count {
		list = append(list, impl.Glance{Now: i * 7 % 11 * now / 10, To: (5 * i) % nodeCount})
	}
	return list
}

// goodNet has something of everything.
func goodNet() impl.Net {
	n := emptyNet(5)
	n.Now, n.Count = 300, 70
	n = withNode(n, 1, nodeOf(poolOf(3, 5), impl.Desk{}))
	n = withNode(n, 2, goodNode())
	n = withNode(n, 3, fullNode())
	n = withNode(n, 5, nodeOf(impl.Pool{}, fullDesk()))
	n = withNode(n, 6, nodeWith([]int{0, 9, 255}, letter(9, 25), letter(255, mostMsg), letter(0, 0)))
	n.Bag = []impl.Mail{mail(3, 1), mail(7, 2), mail(0, 3), mail(3, 4)}
	n.Sent = []impl.Sent{sent(9, 6, 25), sent(255, 7, mostMsg), sent(0, 0, 0)}
	n.Seen = []impl.Glance{{Now: 7, To: 3}, {Now: 0, To: 7}, {Now: 299, To: 0}, {Now: 300, To: 3}, {Now: 300, To: 3}}
	return n
}

// fullNet has the most of everything but in its nodes.
func fullNet() impl.Net {
	n := emptyNet(lastSeed)
	n.Now, n.Count = lastTime, lastCount
	n.Bag, n.Sent, n.Seen = mails(mostBag), sents(mostSent), glances(mostSeen, lastTime)
	return n
}

// netWith returns the good network with a change, for which it is a new one.
func netWith(change func(n *impl.Net)) impl.Net {
	n := anew(goodNet())
	change(&n)
	return n
}

// countedNet has that many elements of each list.
func countedNet(bag int, sent int, seen int) impl.Net {
	n := emptyNet(7)
	n.Bag, n.Sent, n.Seen = mails(bag), sents(sent), glances(seen, 0)
	return n
}

func goodNets() []impl.Net {
	list := []impl.Net{goodNet(), fullNet(), countedNet(mostBag, 0, 0), countedNet(0, mostSent, 0), countedNet(0, 0, mostSeen)}
	for _, seed := range []int{0, 1, 500, lastSeed - 1, lastSeed} {
		list = append(list, emptyNet(seed))
	}
	for _, now := range []int{0, 1, 9, lastTime - 1, lastTime} {
		list = append(list, netWith(func(n *impl.Net) { n.Now, n.Seen = now, glances(11, now) }))
	}
	for _, count := range []int{0, 1, sendCount, lastCount - 1, lastCount} {
		list = append(list, netWith(func(n *impl.Net) { n.Count = count }))
	}
	for i, length := range []int{0, 1, 19, 20, mostMsg - 1, mostMsg} {
		list = append(list, netWith(func(n *impl.Net) { n.Sent = []impl.Sent{sent(51*i, i, length)} }))
	}
	for node := range nodeCount {
		list = append(list, netWith(func(n *impl.Net) {
			n.Bag[2].To, n.Sent[1].To, n.Seen[0].To = node, node, node
			*n = withNode(*n, node, fullNode())
		}))
	}
	n := netWith(func(n *impl.Net) { n.Bag, n.Sent, n.Seen = []impl.Mail{}, []impl.Sent{}, []impl.Glance{} })
	return append(list, n)
}

// badNets has one fault each, beside the faults that follow from it.
func badNets() map[string]impl.Net {
	list := badNumbersOfNets()
	add := func(what string, change func(n *impl.Net)) { list[what] = netWith(change) }
	for what, node := range badNodes() {
		for _, at := range []int{0, 2, nodeCount - 1} {
			add(fmt.Sprintf("%s in node %d", what, at), func(n *impl.Net) {
				// A wrong Id or Secret stays as it is.
				if node.Id == 2 {
					node.Id = at
				}
				if node.Secret == 1002 {
					node.Secret = n.Nodes[at].Secret
				}
				n.Nodes[at] = node
			})
		}
	}
	add("no nodes", func(n *impl.Net) { n.Nodes = nil })
	add("7 nodes", func(n *impl.Net) { n.Nodes = n.Nodes[:nodeCount-1] })
	add("7 nodes, the first one missing", func(n *impl.Net) { n.Nodes = n.Nodes[1:] })
	add("9 nodes", func(n *impl.Net) {
		n.Nodes = append(n.Nodes, impl.Node{Id: nodeCount, Secret: ownSecret(n.Seed, nodeCount)})
	})
	add("9 nodes, one twice", func(n *impl.Net) { n.Nodes = append(n.Nodes, n.Nodes[nodeCount-1]) })
	add("many nodes", func(n *impl.Net) { n.Nodes = slices.Repeat(n.Nodes, 1000) })
	for at := range nodeCount {
		other := (at + 3) % nodeCount
		add(fmt.Sprintf("node %d twice", at), func(n *impl.Net) { n.Nodes[other] = n.Nodes[at] })
		add(fmt.Sprintf("the Id of node %d twice", at), func(n *impl.Net) { n.Nodes[other].Id = at })
		add(fmt.Sprintf("the Secret of node %d twice", at), func(n *impl.Net) { n.Nodes[other].Secret = n.Nodes[at].Secret })
		add(fmt.Sprintf("node %d in another's place", at), func(n *impl.Net) {
			n.Nodes[at], n.Nodes[other] = n.Nodes[other], n.Nodes[at]
		})
		for _, secret := range []int{1000 + at, ownSecret(5, at) + 1, ownSecret(5, at) - 1, ownSecret(6, at), ownSecret(5, at) + prime - 1} {
			add(fmt.Sprintf("the Secret %d of node %d", secret, at), func(n *impl.Net) { n.Nodes[at].Secret = secret })
		}
	}
	addBadLists(add)
	return list
}

// badNumbersOfNets has nodes that fit a wrong Seed, and nothing seen that a wrong Now could contradict.
func badNumbersOfNets() map[string]impl.Net {
	list := map[string]impl.Net{"no contents": {}, "no contents, but nodes without Secrets": {Nodes: make([]impl.Node, nodeCount)}}
	for _, now := range append([]int{-1, lastTime + 1, lastTime + 2, lastNow, lastDue}, farNumbers...) {
		list[fmt.Sprintf("the Now %d", now)] = netWith(func(n *impl.Net) { n.Now, n.Seen = now, nil })
	}
	for _, seed := range append([]int{-1, -2, lastSeed + 1, lastSeed + 2, 2 * lastSeed}, farNumbers...) {
		n := emptyNet(seed)
		n.Now, n.Bag = 300, goodNet().Bag
		list[fmt.Sprintf("the Seed %d", seed)] = n
	}
	for _, seed := range []int{0, 4, 6, lastSeed} {
		list[fmt.Sprintf("nodes of the Seed 5, not of %d", seed)] = netWith(func(n *impl.Net) { n.Seed = seed })
	}
	for _, count := range append([]int{-1, -2, lastCount + 1, lastCount + 2}, farNumbers...) {
		list[fmt.Sprintf("the Count %d", count)] = netWith(func(n *impl.Net) { n.Count = count })
	}
	return list
}

// addBadLists adds networks with a fault in Bag, Sent or Seen.
func addBadLists(add func(what string, change func(n *impl.Net))) {
	for _, count := range []int{1, 2, 200} {
		add(fmt.Sprintf("%d cells too many", count), func(n *impl.Net) { n.Bag = mails(mostBag + count) })
		add(fmt.Sprintf("%d messages too many", count), func(n *impl.Net) { n.Sent = sents(mostSent + count) })
		add(fmt.Sprintf("%d glances too many", count), func(n *impl.Net) { n.Seen = glances(mostSeen+count, 9) })
	}
	add("many messages of one Id", func(n *impl.Net) { n.Sent = make([]impl.Sent, 100000) })
	for _, to := range append([]int{-1, nodeCount, nodeCount + 1, exit, 256}, farNumbers...) {
		for at := range 3 {
			add(fmt.Sprintf("cell %d to %d", at, to), func(n *impl.Net) { n.Bag[at+at/2].To = to })
			add(fmt.Sprintf("message %d to %d", at, to), func(n *impl.Net) { n.Sent[at].To = to })
			add(fmt.Sprintf("glance %d at %d", at, to), func(n *impl.Net) { n.Seen[2*at].To = to })
		}
	}
	for at := range 3 {
		for _, length := range []int{0, 1, 79, 81, 160, 336} {
			add(fmt.Sprintf("cell %d of %d bytes", at, length), func(n *impl.Net) { n.Bag[at+at/2].Cell.B = data(length) })
		}
		for _, length := range []int{mostMsg + 1, mostMsg + 2, 256, 70000} {
			add(fmt.Sprintf("message %d of %d bytes", at, length), func(n *impl.Net) { n.Sent[at].B = data(length) })
		}
		for _, id := range append([]int{-1, lastId + 1, lastId + 10}, farNumbers...) {
			add(fmt.Sprintf("the Id %d of message %d", id, at), func(n *impl.Net) { n.Sent[at].Id = id })
		}
		for _, now := range append([]int{-1, 301, lastTime, lastTime + 1}, farNumbers...) {
			add(fmt.Sprintf("glance %d at the time %d", at, now), func(n *impl.Net) { n.Seen[2*at].Now = now })
		}
		add(fmt.Sprintf("the Id of message %d twice", at), func(n *impl.Net) { n.Sent[(at+1)%3].Id = n.Sent[at].Id })
		add(fmt.Sprintf("message %d twice", at), func(n *impl.Net) { n.Sent = append(n.Sent, n.Sent[at]) })
	}
	add("20 messages, two of one Id", func(n *impl.Net) { n.Sent = append(sents(mostSent-1), sents(3)[1]) })
}

func TestNetConstants(t *testing.T) {
	check(t, "MaxBag", impl.MaxBag, mostBag)
	check(t, "MaxSent", impl.MaxSent, mostSent)
}

func TestNetOk(t *testing.T) {
	for i, n := range goodNets() {
		checkFlag(t, fmt.Sprintf("NetOk of the good network %d", i), impl.NetOk(n), true)
	}
	for what, n := range badNets() {
		checkFlag(t, "NetOk with "+what, impl.NetOk(n), false)
	}
	for count := range 2 * mostBag {
		checkFlag(t, "NetOk of a number of cells", impl.NetOk(countedNet(count, 1, 1)), count <= mostBag)
	}
	for count := range 2 * mostSent {
		checkFlag(t, "NetOk of a number of messages", impl.NetOk(countedNet(1, count, 1)), count <= mostSent)
	}
	for count := mostSeen - 20; count < mostSeen+20; count++ {
		checkFlag(t, "NetOk of a number of glances", impl.NetOk(countedNet(1, 1, count)), count <= mostSeen)
	}
	for seed := -20; seed < lastSeed+20; seed++ {
		checkFlag(t, "NetOk of a Seed", impl.NetOk(emptyNet(seed)), 0 <= seed && seed <= lastSeed)
	}
}

// What a node holds does not have to fit what was sent or seen.
func TestNetOkOfNodes(t *testing.T) {
	for i, node := range goodNodes() {
		checkFlag(t, "NetOk with a node", impl.NetOk(withNode(goodNet(), i%nodeCount, node)), true)
	}
	n := emptyNet(5)
	for at := range nodeCount {
		n = withNode(n, at, fullNode())
	}
	checkFlag(t, "NetOk of full nodes", impl.NetOk(n), true)
}

func TestNetNew(t *testing.T) {
	secrets := map[int][]int{
		0:        {12346, 20265, 28184, 36103, 44022, 51941, 59860, 67779},
		5:        {17391, 25310, 33229, 41148, 49067, 56986, 64905, 72824},
		lastSeed: {1021346, 1029265, 1037184, 1045103, 1053022, 1060941, 1068860, 1076779},
	}
	for seed, list := range secrets {
		n, ok := impl.NetNew(seed)
		checkFlag(t, "NetNew", ok, true)
		for i, node := range n.Nodes {
			check(t, "the Secret of a node", node.Secret, list[i])
		}
	}
	for seed := range lastSeed + 1 {
		n, ok := impl.NetNew(seed)
		checkFlag(t, "NetNew", ok, true)
		checkNet(t, "NetNew", n, emptyNet(seed))
		checkFlag(t, "Resting of a new network", impl.Resting(n), true)
	}
	for _, seed := range append([]int{-1, -2, -lastSeed, lastSeed + 1, lastSeed + 2, 2 * lastSeed}, farNumbers...) {
		n, ok := impl.NetNew(seed)
		checkFlag(t, "NetNew of an invalid seed", ok, false)
		checkNoNet(t, "NetNew of an invalid seed", n)
	}
}

// checkNothingOfNet wants the fixed values of everything that takes a network.
func checkNothingOfNet(t *testing.T, what string, n impl.Net) {
	t.Helper()
	checkNotSent(t, what, n, posting{[]int{3, 6}, 400, 1, []byte("a letter")})
	checkNotSent(t, what, n, posting{[]int{3}, 400, 9, nil})
	for _, i := range []int{-1, 0, 1, 3, 4} {
		checkNoElement(t, what, n, i)
	}
	checkNoTick(t, what, n)
	for _, node := range []int{-1, 0, 1, 2, nodeCount} {
		checkNoFlushAt(t, what, n, node, 1, drawn(100, 1))
		checkNoFlushAt(t, what, n, node, mostHeld, nil)
		checkNotForged(t, what, n, node, drawn(cellBytes, 1))
		checkNotRestarted(t, what, n, node)
		check(t, what+": OnWay", impl.OnWay(n, node), -1)
	}
	checkNodes(t, what+": SentIds", impl.SentIds(n))
	checkFlag(t, what+": Resting", impl.Resting(n), false)
	for _, now := range []int{-1, 0, 300, lastTime} {
		checkNodes(t, what+": SeenAt", impl.SeenAt(n, now))
	}
}

func TestInvalidNets(t *testing.T) {
	for what, n := range badNets() {
		checkNothingOfNet(t, what, n)
	}
}

// checkNetShown compares what the smaller functions tell of a valid network with what it holds.
func checkNetShown(t *testing.T, n impl.Net) {
	t.Helper()
	isResting := len(n.Bag) == 0
	for at, node := range n.Nodes {
		count := 0
		for _, m := range n.Bag {
			if m.To == at {
				count++
			}
		}
		check(t, "OnWay", impl.OnWay(n, at), count)
		isResting = isResting && len(node.Pool.L) == 0 && len(node.Desk.Open) == 0
	}
	var ids []int
	for _, s := range n.Sent {
		ids = append(ids, s.Id)
	}
	checkNodes(t, "SentIds", impl.SentIds(n), ids...)
	checkFlag(t, "Resting", impl.Resting(n), isResting)
	for _, now := range []int{math.MinInt, -1, 0, 1, 7, 9, n.Now - 1, n.Now, n.Now + 1, math.MaxInt} {
		counts := make([]int, nodeCount)
		for _, g := range n.Seen {
			if g.Now == now {
				counts[g.To]++
			}
		}
		checkNodes(t, "SeenAt", impl.SeenAt(n, now), counts...)
	}
}

func TestWhatNetsShow(t *testing.T) {
	n := goodNet()
	for to, count := range []int{1, 0, 0, 2, 0, 0, 0, 1} {
		check(t, "OnWay", impl.OnWay(n, to), count)
	}
	for _, to := range append([]int{-1, -2, nodeCount, nodeCount + 1, exit, 256}, farNumbers...) {
		for _, n := range goodNets() {
			check(t, "OnWay to no node", impl.OnWay(n, to), -1)
		}
	}
	checkNodes(t, "SentIds", impl.SentIds(n), 9, 255, 0)
	checkNodes(t, "SentIds of nothing", impl.SentIds(emptyNet(5)))
	checkNodes(t, "SeenAt 300", impl.SeenAt(n, 300), 0, 0, 0, 2, 0, 0, 0, 0)
	checkNodes(t, "SeenAt 299", impl.SeenAt(n, 299), 1, 0, 0, 0, 0, 0, 0, 0)
	checkNodes(t, "SeenAt 0", impl.SeenAt(n, 0), 0, 0, 0, 0, 0, 0, 0, 1)
	for _, now := range []int{1, 301, lastTime, lastTime + 1, -1, math.MinInt, math.MaxInt} {
		checkNodes(t, "SeenAt a time without glances", impl.SeenAt(n, now), 0, 0, 0, 0, 0, 0, 0, 0)
	}
	check(t, "SeenAt", len(impl.SeenAt(emptyNet(5), 0)), nodeCount)
	for _, n := range goodNets() {
		checkNetShown(t, n)
	}
}

// Neither tags, received and sent messages, nor glances keep a network from resting.
func TestResting(t *testing.T) {
	n := emptyNet(5)
	n.Sent, n.Seen = sents(mostSent), glances(mostSeen, 0)
	checkFlag(t, "Resting of no cells", impl.Resting(n), true)
	for at := range nodeCount {
		n = withNode(n, at, nodeOf(impl.Pool{Tags: tagsOf(mostTags)}, impl.Desk{Done: []int{at, 9}}))
		checkFlag(t, "Resting of nodes that are idle", impl.Resting(n), true)
	}
	for at := range nodeCount {
		checkFlag(t, "Resting of a cell in a pool", impl.Resting(withNode(n, at, nodeOf(poolOf(1, 0), impl.Desk{}))), false)
		open := impl.Desk{Open: []impl.Whole{partial(7, 2, 9, 1)}}
		checkFlag(t, "Resting of a fragment", impl.Resting(withNode(n, at, nodeOf(impl.Pool{}, open))), false)
		moving := n
		moving.Bag = []impl.Mail{mail(at, 1)}
		checkFlag(t, "Resting of a cell in transit", impl.Resting(moving), false)
	}
}
