package tests

import (
	"fmt"
	"reflect"
	"runtime"
	"testing"

	"loop.example/g00611/impl"
)

// NetInput has the arguments of one call; its fields are exported so that
// reflect can set them.
type NetInput struct {
	Net   impl.Net
	Route []int
	Bytes []byte
}

// netCall calls one function with the slices of an input.
type netCall struct {
	name string
	call func(in NetInput) netted
}

// memoryCalls has every function that returns a network, with arguments for each of its results.
func memoryCalls() []netCall {
	var list []netCall
	add := func(name string, call func(in NetInput) netted) { list = append(list, netCall{name, call}) }
	for _, id := range []int{1, 9, 256} {
		add(fmt.Sprintf("Send of %d", id), func(in NetInput) netted {
			return netFlag(impl.Send(in.Net, in.Route, 400, id, in.Bytes))
		})
	}
	for _, i := range []int{-1, 0, 1, 3} {
		add(fmt.Sprintf("Deliver of %d", i), func(in NetInput) netted { return netNumber(impl.Deliver(in.Net, i)) })
		add(fmt.Sprintf("Lose of %d", i), func(in NetInput) netted { return netFlag(impl.Lose(in.Net, i)) })
		add(fmt.Sprintf("Twice of %d", i), func(in NetInput) netted { return netFlag(impl.Twice(in.Net, i)) })
	}
	add("TickNet", func(in NetInput) netted { return netFlag(impl.TickNet(in.Net)) })
	for _, node := range []int{-1, 0, 2, 3} {
		for _, need := range []int{0, 1, 5} {
			add(fmt.Sprintf("FlushAt %d of %d", node, need), func(in NetInput) netted {
				return netNumber(impl.FlushAt(in.Net, node, need, in.Bytes))
			})
		}
		add(fmt.Sprintf("Forge to %d", node), func(in NetInput) netted { return netFlag(impl.Forge(in.Net, node, in.Bytes)) })
		add(fmt.Sprintf("Restart of %d", node), func(in NetInput) netted { return netFlag(impl.Restart(in.Net, node)) })
	}
	return list
}

// memoryNets are few, with and without contents, full and not valid ones.
func memoryNets() []impl.Net {
	full := countedNet(mostBag, mostSent, mostSeen)
	small := withNode(busyNet(), 7, impl.Node{})
	small = withNode(small, 2, goodNode())
	busy := anew(small)
	busy.Bag = busy.Bag[3:]
	list := []impl.Net{{}, emptyNet(5), small, busy, full, withNode(countedNet(4, 2, mostSeen), 3, fullNode())}
	for _, change := range []func(n *impl.Net){
		func(n *impl.Net) { n.Now = -1 },
		func(n *impl.Net) { n.Count = lastCount },
		func(n *impl.Net) { n.Now = lastTime },
		func(n *impl.Net) { n.Bag[1].To = nodeCount },
		func(n *impl.Net) { n.Nodes[2].Got = nil },
	} {
		n := anew(small)
		change(&n)
		list = append(list, n)
	}
	return list
}

func TestNetsAreNewMemory(t *testing.T) {
	results := map[string]map[int]int{}
	for _, n := range memoryNets() {
		for _, c := range memoryCalls() {
			in := NetInput{n, []int{2, 5, 2}, drawn(cellBytes, 3)}
			checkNested(t, c.name, in, c.call)
			name := c.name[:4]
			if results[name] == nil {
				results[name] = map[int]int{}
			}
			results[name][min(1, c.call(in).N)]++
		}
	}
	for name, wanted := range map[string][]int{
		"Send": {0, 1}, "Deli": {-1, 0, 1}, "Lose": {0, 1}, "Twic": {0, 1}, "Tick": {0, 1}, "Flus": {-2, -1, 1}, "Forg": {0, 1}, "Rest": {0, 1},
	} {
		for _, number := range wanted {
			checkFlag(t, fmt.Sprintf("whether %s.. gave %d", name, number), results[name][number] > 0, true)
		}
	}
}

// The arguments beside the network may be empty, too long or too short.
func TestOtherArgumentsOfNetsAreKept(t *testing.T) {
	for _, route := range [][]int{nil, {3}, {4, 4}, {0, 1, 2, 3}, {0, 1, 2, 3, 4}} {
		for _, length := range []int{0, 1, fullPart, 45, 79, cellBytes, mostMsg, mostMsg + 1} {
			in := NetInput{withNode(countedNet(2, 2, 2), 3, goodNode()), route, drawn(length, 3)}
			for _, c := range memoryCalls() {
				if c.name == "Send of 1" || c.name == "FlushAt 3 of 1" || c.name == "Forge to 3" {
					checkNested(t, c.name, in, c.call)
				}
			}
		}
	}
}

func TestWhatNetsShowIsNewMemory(t *testing.T) {
	for _, n := range memoryNets() {
		checkNested(t, "NetOk", n, impl.NetOk)
		checkNested(t, "Resting", n, impl.Resting)
		checkNested(t, "SentIds", n, impl.SentIds)
		for _, number := range []int{-1, 0, 3, 300} {
			checkNested(t, "OnWay", n, func(n impl.Net) int { return impl.OnWay(n, number) })
			checkNested(t, "SeenAt", n, func(n impl.Net) []int { return impl.SeenAt(n, number) })
		}
	}
	for _, seed := range []int{-1, 0, 5, lastSeed, lastSeed + 1} {
		checkNested(t, "NetNew", seed, func(seed int) netted { return netFlag(impl.NetNew(seed)) })
	}
}

// sharingNet has the same memory more than once: the results may not.
func sharingNet() NetInput {
	in := sharingNode()
	c := impl.Cell{B: in.Bytes[:cellBytes]}
	n := emptyNet(5)
	for at := range nodeCount {
		n = withNode(n, at, in.Node)
	}
	n.Now = 9
	m := impl.Mail{To: 2, Cell: c}
	n.Bag = []impl.Mail{m, m, {To: 5, Cell: c}, m}
	n.Sent = []impl.Sent{{Id: 3, To: 1, B: in.Bytes}, {Id: 9, To: 1, B: in.Bytes[:cellBytes]}}
	n.Seen = []impl.Glance{{Now: 9, To: 2}}
	return NetInput{n, []int{2, 5}, in.Bytes[:cellBytes]}
}

func TestNetsThatShareMemoryAreSeparated(t *testing.T) {
	in := sharingNet()
	checkFlag(t, "NetOk", impl.NetOk(in.Net), true)
	for _, c := range memoryCalls() {
		result := c.call(in)
		if overlap(regions(reflect.ValueOf(&result).Elem())) {
			t.Errorf("%s: two slices of the result share memory", c.name)
		}
		runtime.KeepAlive(&result)
	}
}
