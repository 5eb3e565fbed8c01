package tests

import (
	"fmt"
	"slices"
	"strings"
	"testing"

	"loop.example/g00611/impl"
)

// The signatures that chapter 8 gives for reports.
var (
	_ func(impl.Net) bool      = impl.Honest
	_ func(impl.Net, int) bool = impl.Arrived
	_ func(impl.Net) []int     = impl.Flows
	_ func(impl.Net) []byte    = impl.NetText
	_ func(int) []byte         = impl.CodeText
)

// withGot returns the network with messages that nodes have Got: of each its To,
// whatever was sent.
func withGot(n impl.Net, got ...impl.Sent) impl.Net {
	for _, s := range got {
		node := n.Nodes[s.To]
		node.Got = append(slices.Clone(node.Got), impl.Letter{Id: s.Id, B: s.B})
		node.Desk.Done = append(slices.Clone(node.Desk.Done), s.Id)
		slices.Sort(node.Desk.Done)
		n = withNode(n, s.To, node)
	}
	return n
}

// sentNet has the most sent messages, and no node has Got one.
func sentNet() impl.Net {
	n := emptyNet(5)
	n.Now, n.Count, n.Bag, n.Sent, n.Seen = 300, 70, mails(4), sents(mostSent), glances(9, 300)
	return n
}

func checkReceived(t *testing.T, what string, n impl.Net, isHonest bool, arrived ...int) {
	t.Helper()
	checkFlag(t, what+": NetOk", impl.NetOk(n), true)
	checkFlag(t, what+": Honest", impl.Honest(n), isHonest)
	for id := -2; id <= lastId+2; id++ {
		checkFlag(t, fmt.Sprintf("%s: Arrived of %d", what, id), impl.Arrived(n, id), slices.Contains(arrived, id))
	}
	for _, id := range farNumbers {
		checkFlag(t, fmt.Sprintf("%s: Arrived of %d", what, id), impl.Arrived(n, id), false)
	}
}

func TestHonestAndArrived(t *testing.T) {
	checkReceived(t, "nothing sent", emptyNet(5), true)
	n := sentNet()
	checkReceived(t, "nothing received", n, true)
	var ids []int
	for i, s := range sentNet().Sent {
		checkReceived(t, fmt.Sprintf("only message %d received", i), withGot(sentNet(), s), true, s.Id)
		n = withGot(n, s)
		ids = append(ids, s.Id)
		checkReceived(t, fmt.Sprintf("message %d received, too", i), n, true, ids...)
	}
	n = sentNet()
	for _, s := range slices.Backward(n.Sent) {
		n = withGot(n, s)
	}
	checkReceived(t, "all received in another order", n, true, ids...)
	n.Sent = slices.Concat(n.Sent[7:], n.Sent[:7])
	checkReceived(t, "all received and sent in another order", n, true, ids...)
	n.Sent = n.Sent[1:]
	checkReceived(t, "one received that was not sent", n, false, idsOf(n.Sent)...)
}

// idsOf returns the Ids of sent messages.
func idsOf(list []impl.Sent) []int {
	var ids []int
	for _, s := range list {
		ids = append(ids, s.Id)
	}
	return ids
}

// otherContents differ from some bytes a little.
func otherContents(b []byte) [][]byte {
	list := [][]byte{append(slices.Clone(b), 0), append(slices.Clone(b), 7)}
	if len(b) > 0 {
		list = append(list, nil, b[1:], b[:len(b)-1])
	}
	for _, at := range []int{0, len(b) / 2, len(b) - 1} {
		if len(b) > 0 {
			other := slices.Clone(b)
			other[at]++
			list = append(list, other)
		}
	}
	return slices.DeleteFunc(list, func(b []byte) bool { return len(b) > mostMsg })
}

// Whichever message it is, and whatever else was received as it was sent.
func TestHonestAndArrivedOfOtherContents(t *testing.T) {
	for i, s := range sentNet().Sent {
		others := slices.Delete(slices.Clone(sentNet().Sent), i, i+1)
		for _, b := range otherContents(s.B) {
			wrong := impl.Sent{Id: s.Id, To: s.To, B: b}
			checkReceived(t, "other contents", withGot(sentNet(), wrong), false)
			checkReceived(t, "other contents of one", withGot(withGot(sentNet(), wrong), others...), false, idsOf(others)...)
			checkReceived(t, "other contents of the last one", withGot(withGot(sentNet(), others...), wrong), false, idsOf(others)...)
		}
	}
}

func TestHonestAndArrivedOfOtherReceivers(t *testing.T) {
	for i, s := range sentNet().Sent {
		others := slices.Delete(slices.Clone(sentNet().Sent), i, i+1)
		for to := range nodeCount {
			wrong := impl.Sent{Id: s.Id, To: to, B: s.B}
			if to == s.To {
				continue
			}
			checkReceived(t, "another receiver", withGot(sentNet(), wrong), false)
			checkReceived(t, "another receiver, too", withGot(sentNet(), s, wrong), false, s.Id)
			checkReceived(t, "another receiver of one", withGot(withGot(sentNet(), others...), wrong), false, idsOf(others)...)
		}
	}
}

func TestHonestAndArrivedOfMessagesThatWereNotSent(t *testing.T) {
	for to := range nodeCount {
		for _, id := range []int{0, 1, 9, 254, lastId} {
			wrong := sent(id, to, 5)
			checkReceived(t, "nothing was sent", withGot(emptyNet(5), wrong), false)
			n := sentNet()
			n.Sent = slices.DeleteFunc(n.Sent, func(s impl.Sent) bool { return s.Id == id })
			checkReceived(t, "others were sent", withGot(withGot(n, n.Sent...), wrong), false, idsOf(n.Sent)...)
		}
	}
	// Two messages have the same contents and receiver, but not the same Id.
	n := emptyNet(5)
	n.Sent = []impl.Sent{{Id: 3, To: 6, B: []byte("same")}, {Id: 4, To: 6, B: []byte("same")}}
	checkReceived(t, "one of two", withGot(n, n.Sent[1]), true, 4)
	checkReceived(t, "a third one", withGot(n, n.Sent[0], impl.Sent{Id: 5, To: 6, B: []byte("same")}), false, 3)
	// Two messages have exchanged their contents, or their receivers.
	n.Sent = []impl.Sent{{Id: 3, To: 6, B: []byte("one")}, {Id: 4, To: 2, B: []byte("two")}}
	checkReceived(t, "exchanged contents", withGot(n, impl.Sent{Id: 3, To: 6, B: []byte("two")}, impl.Sent{Id: 4, To: 2, B: []byte("one")}), false)
	checkReceived(t, "exchanged receivers", withGot(n, impl.Sent{Id: 3, To: 2, B: []byte("one")}, impl.Sent{Id: 4, To: 6, B: []byte("two")}), false)
	checkReceived(t, "exchanged Ids", withGot(n, impl.Sent{Id: 4, To: 6, B: []byte("one")}, impl.Sent{Id: 3, To: 2, B: []byte("two")}), false)
}

// What is only open or on its way has not arrived, and is not dishonest.
func TestHonestAndArrivedOfUnfinishedMessages(t *testing.T) {
	checkReceived(t, "only cells and fragments", unfinishedNet(), true)
	n := busyNet()
	for i := range busyCodes {
		got, _ := impl.Deliver(n, i)
		checkFlag(t, "Arrived", impl.Arrived(got, 4), i == 6 || i == 13)
		checkFlag(t, "Arrived", impl.Arrived(got, 6), i == 12)
	}
}

// unfinishedNet has sent messages of which there are fragments everywhere.
func unfinishedNet() impl.Net {
	n := sentNet()
	for at := range nodeCount {
		n = withNode(n, at, nodeOf(poolOf(3, 5), impl.Desk{Open: []impl.Whole{partial(0, 2, 400, 1), partial(84, 3, 400, 0, 2)}}))
	}
	return n
}

// badReports would be honest and have messages that arrived, but for one fault.
func badReports() map[string]impl.Net {
	list := map[string]impl.Net{}
	with := func(what string, change func(n *impl.Net)) {
		n := withGot(sentNet(), sentNet().Sent...)
		change(&n)
		list[what] = n
	}
	with("the Now -1", func(n *impl.Net) { n.Now, n.Seen = -1, nil })
	with("the Now 50001", func(n *impl.Net) { n.Now = lastTime + 1 })
	with("another Seed", func(n *impl.Net) { n.Seed = 6 })
	with("the Count -1", func(n *impl.Net) { n.Count = -1 })
	with("the Count 20001", func(n *impl.Net) { n.Count = lastCount + 1 })
	with("61 cells", func(n *impl.Net) { n.Bag = mails(mostBag + 1) })
	with("a cell of 79 bytes", func(n *impl.Net) { n.Bag[1].Cell.B = data(79) })
	with("a cell to no node", func(n *impl.Net) { n.Bag[1].To = nodeCount })
	with("21 messages", func(n *impl.Net) { n.Sent = sents(mostSent + 1) })
	with("an Id twice", func(n *impl.Net) { n.Sent[3] = n.Sent[4] })
	with("an Id that is none", func(n *impl.Net) { n.Sent[3].Id = lastId + 1 })
	with("a message to no node", func(n *impl.Net) { n.Sent[3].To = nodeCount })
	with("a message of 161 bytes", func(n *impl.Net) { n.Sent[3].B = data(mostMsg + 1) })
	with("501 glances", func(n *impl.Net) { n.Seen = glances(mostSeen+1, 300) })
	with("a glance at no node", func(n *impl.Net) { n.Seen[3].To = -1 })
	with("a glance at a later time", func(n *impl.Net) { n.Seen[3].Now = 301 })
	with("7 nodes", func(n *impl.Net) { n.Nodes = n.Nodes[:nodeCount-1] })
	with("9 nodes", func(n *impl.Net) { n.Nodes = append(n.Nodes, n.Nodes[3]) })
	with("exchanged nodes", func(n *impl.Net) { n.Nodes[2], n.Nodes[3] = n.Nodes[3], n.Nodes[2] })
	with("another Secret", func(n *impl.Net) { n.Nodes[2].Secret++ })
	with("too little Done", func(n *impl.Net) { n.Nodes[2].Desk.Done = nil })
	return list
}

func TestReportsOfInvalidNets(t *testing.T) {
	list := badReports()
	for what, n := range badNets() {
		list["in a good network, "+what] = n
	}
	for what, n := range list {
		checkFlag(t, what+": NetOk", impl.NetOk(n), false)
		checkFlag(t, what+": Honest", impl.Honest(n), false)
		for _, s := range n.Sent[:min(len(n.Sent), mostSent)] {
			checkFlag(t, what+": Arrived", impl.Arrived(n, s.Id), false)
		}
		for _, id := range []int{-1, 0, 9, lastId, lastId + 1} {
			checkFlag(t, what+": Arrived", impl.Arrived(n, id), false)
		}
		checkNodes(t, what+": Flows", impl.Flows(n))
		checkNothing(t, what+": NetText", impl.NetText(n))
	}
}

// Promise 11, its first part.
func TestFlows(t *testing.T) {
	checkNodes(t, "Flows of nothing seen", impl.Flows(emptyNet(5)), 0, 0, 0, 0, 0, 0, 0, 0)
	checkNodes(t, "Flows of cells that nobody saw", impl.Flows(countedNet(mostBag, 3, 0)), 0, 0, 0, 0, 0, 0, 0, 0)
	checkNodes(t, "Flows", impl.Flows(goodNet()), 1, 0, 0, 3, 0, 0, 0, 1)
	for to := range nodeCount {
		n := emptyNet(5)
		n.Now, n.Seen = 7, slices.Repeat([]impl.Glance{{Now: 7, To: to}, {To: to}}, mostSeen/2)
		want := make([]int, nodeCount)
		want[to] = mostSeen
		checkNodes(t, "Flows to one node", impl.Flows(n), want...)
		n.Seen = n.Seen[:1]
		want[to] = 1
		checkNodes(t, "Flows of one glance", impl.Flows(n), want...)
	}
	for count := range mostSeen + 1 {
		n := countedNet(0, 0, count)
		want := make([]int, nodeCount)
		for _, g := range n.Seen {
			want[g.To]++
		}
		checkNodes(t, "Flows", impl.Flows(n), want...)
	}
}

// Promise 11: the flows are what is seen at all times together, and grow by the cells that are transmitted.
func TestFlowsOfCommands(t *testing.T) {
	for start := range 16 {
		n, _ := impl.NetNew(start * 61)
		for _, h := range happenings(150, start+700, append(honestKinds(), forges)...) {
			c := h.command(n)
			got, _ := impl.Do(n, c)
			want := impl.Flows(n)
			isSeen := c.Kind == sends || c.Kind == doubles || c.Kind == flushes || c.Kind == forges
			if isSeen {
				for _, m := range got.Bag[len(n.Bag):] {
					want[m.To]++
				}
			}
			checkNodes(t, fmt.Sprintf("Flows after the Kind %d", c.Kind), impl.Flows(got), want...)
			n = got
		}
		all := make([]int, nodeCount)
		for now := range n.Now + 1 {
			for to, count := range impl.SeenAt(n, now) {
				all[to] += count
			}
		}
		checkNodes(t, "Flows", impl.Flows(n), all...)
	}
}

func wantedText(n impl.Net) string {
	text := fmt.Sprintf("now %d sent %d way %d\n", n.Now, len(n.Sent), len(n.Bag))
	for i, node := range n.Nodes {
		text += fmt.Sprintf("node %d waits %d open %d got %d\n", i, len(node.Pool.L), len(node.Desk.Open), len(node.Got))
	}
	return text
}

// checkText wants the wanted text, and one line for each part.
func checkText(t *testing.T, n impl.Net) {
	t.Helper()
	text := impl.NetText(n)
	checkBytes(t, "NetText", text, []byte(wantedText(n)))
	check(t, "the lines of NetText", strings.Count(string(text), "\n"), 1+nodeCount)
}

func TestNetText(t *testing.T) {
	n := emptyNet(5)
	checkBytes(t, "NetText of nothing", impl.NetText(n), []byte("now 0 sent 0 way 0\n"+
		"node 0 waits 0 open 0 got 0\nnode 1 waits 0 open 0 got 0\nnode 2 waits 0 open 0 got 0\nnode 3 waits 0 open 0 got 0\n"+
		"node 4 waits 0 open 0 got 0\nnode 5 waits 0 open 0 got 0\nnode 6 waits 0 open 0 got 0\nnode 7 waits 0 open 0 got 0\n"))
	n = fullNet()
	n = withNode(n, 0, nodeOf(poolOf(9, 5), impl.Desk{Done: numbersFrom(0, 8)}))
	n = withNode(n, 1, nodeOf(poolOf(10, 5), impl.Desk{Done: numbersFrom(10, 19)}))
	n = withNode(n, 2, nodeOf(poolOf(mostHeld, mostTags), impl.Desk{Done: numbersFrom(0, lastId)}))
	n = withNode(n, 3, nodeOf(impl.Pool{Tags: tagsOf(30)}, fullDesk()))
	n = withNode(n, 5, nodeOf(impl.Pool{}, impl.Desk{Open: []impl.Whole{partial(7, 8, 9, 0, 1, 2, 3)}}))
	n = withNode(n, 7, nodeOf(poolOf(1, 0), impl.Desk{Done: numbersFrom(100, 198)}))
	checkBytes(t, "NetText of much", impl.NetText(n), []byte("now 50000 sent 20 way 60\n"+
		"node 0 waits 9 open 0 got 9\nnode 1 waits 10 open 0 got 10\nnode 2 waits 12 open 0 got 256\n"+
		fmt.Sprintf("node 3 waits 0 open 6 got %d\n", len(fullDesk().Done))+
		"node 4 waits 0 open 0 got 0\nnode 5 waits 0 open 1 got 0\nnode 6 waits 0 open 0 got 0\nnode 7 waits 1 open 0 got 99\n"))
	for _, n := range append(goodNets(), busyNet(), dueNet(9), unfinishedNet(), n) {
		checkText(t, n)
	}
}

func TestNetTextOfAllNumbers(t *testing.T) {
	for _, now := range []int{0, 1, 9, 10, 11, 99, 100, 101, 999, 1000, 9999, 10000, lastTime - 1, lastTime} {
		checkText(t, netWith(func(n *impl.Net) { n.Now, n.Seen = now, nil }))
	}
	for count := range mostBag + 1 {
		checkText(t, countedNet(count, count/3, count/7))
		checkText(t, countedNet(count/7, 3, count))
	}
	for count := range mostHeld + 1 {
		checkText(t, withNode(goodNet(), count%nodeCount, nodeOf(poolOf(count, 30), goodDesk())))
	}
	for count := range lastId + 1 {
		checkText(t, withNode(goodNet(), count%nodeCount, nodeOf(impl.Pool{}, impl.Desk{Done: numbersFrom(0, count)})))
	}
	for count := range 6 + 1 {
		d := fullDesk()
		d.Open = d.Open[:count]
		checkText(t, withNode(goodNet(), count, nodeOf(goodPool(), d)))
	}
}

func TestCodeText(t *testing.T) {
	names := []string{
		isHeld: "held", isPart: "piece", isWhole: "whole", isSeen: "seen", isBad: "bad", isOld: "old", isFull: "full", isOdd: "odd",
	}
	for code := -300; code < 300; code++ {
		want := ""
		if 0 <= code && code < len(names) {
			want = names[code]
		}
		checkBytes(t, fmt.Sprintf("CodeText(%d)", code), impl.CodeText(code), []byte(want))
	}
	for _, code := range append([]int{1 << 32, 1<<32 + 3, -1 << 32}, farNumbers...) {
		checkNothing(t, fmt.Sprintf("CodeText(%d)", code), impl.CodeText(code))
	}
}
