package tests

import (
	"fmt"
	"math"
	"reflect"
	"runtime"
	"slices"
	"testing"

	"loop.example/g00611/impl"
)

// The signatures that chapter 6 gives for nodes and what they show.
var (
	_ func(impl.Node) bool                = impl.NodeOk
	_ func(int, int) (impl.Node, bool)    = impl.NodeNew
	_ func(impl.Node, int) ([]byte, bool) = impl.LetterOf
	_ func(impl.Node) []int               = impl.GotIds
	_ func(impl.Node) int                 = impl.Load
	_ func(impl.Node) bool                = impl.Idle
)

const lastNow = 60000

// letter has contents of its own for each Id.
func letter(id int, length int) impl.Letter {
	return impl.Letter{Id: id, B: drawn(length, id)}
}

// lettersFor has a received message for each Id, of any valid length, the last Id first.
func lettersFor(ids []int) []impl.Letter {
	var list []impl.Letter
	for _, id := range slices.Backward(ids) {
		list = append(list, letter(id, (id*37+mostMsg)%(mostMsg+1)))
	}
	return list
}

// nodeOf has the received messages that its desk asks for.
func nodeOf(p impl.Pool, d impl.Desk) impl.Node {
	return impl.Node{Id: 2, Secret: 1002, Pool: p, Desk: d, Got: lettersFor(d.Done)}
}

func goodNode() impl.Node { return nodeOf(goodPool(), goodDesk()) }

// fullNode has no room for a cell, nor for a tag, nor for an Open message.
func fullNode() impl.Node { return nodeOf(poolOf(mostHeld, mostTags), fullDesk()) }

// nodeWith has a Done and a Got of its own, and no Open message that any of them could be.
func nodeWith(done []int, got ...impl.Letter) impl.Node {
	n := goodNode()
	n.Desk, n.Got = impl.Desk{Done: done}, got
	return n
}

func goodNodes() []impl.Node {
	all := impl.Desk{Done: counted(mostDone)}
	list := []impl.Node{
		{Id: 2, Secret: 1002}, {Id: 0, Secret: 1}, {Id: nodeCount - 1, Secret: prime - 2},
		{Id: 3, Secret: 1, Pool: impl.Pool{L: []impl.Held{}, Tags: []int{}}, Desk: impl.Desk{Open: []impl.Whole{}, Done: []int{}}, Got: []impl.Letter{}},
		goodNode(), fullNode(), nodeOf(impl.Pool{}, all), nodeOf(poolOf(mostHeld, mostTags), all),
		nodeWith([]int{7}, letter(7, 0)), nodeWith([]int{7}, letter(7, mostMsg)), nodeWith([]int{7}, impl.Letter{Id: 7}),
		nodeWith([]int{0, 7}, letter(0, 0), letter(7, 1)), nodeWith([]int{0, 7}, letter(7, 0), letter(0, 1)),
		nodeWith([]int{1, 4, 7, 255}, letter(4, 1), letter(255, mostMsg), letter(1, 0), letter(7, 9)),
	}
	for id := range nodeCount {
		n := goodNode()
		n.Id = id
		list = append(list, n)
	}
	for _, secret := range append(secretKeys(), halfSecret, 1000) {
		n := goodNode()
		n.Secret = secret
		list = append(list, n)
	}
	for _, d := range goodDesks() {
		list = append(list, nodeOf(goodPool(), d))
	}
	for _, p := range goodPools() {
		list = append(list, nodeOf(p, goodDesk()))
	}
	for _, length := range numbersFrom(0, mostMsg) {
		list = append(list, nodeWith([]int{7, 9}, letter(9, length), letter(7, mostMsg-length)))
	}
	return list
}

// badNodes has one fault each, beside the faults that follow from it.
func badNodes() map[string]impl.Node {
	list := badLetters()
	for _, id := range append([]int{-1, nodeCount, nodeCount + 1, exit, 256, 256 + 2}, farNumbers...) {
		n := goodNode()
		n.Id = id
		list[fmt.Sprintf("the Id %d", id)] = n
	}
	for _, secret := range append(notSecrets(), 1002-(prime-1), 1002+prime-1, 1<<32+1002) {
		n := goodNode()
		n.Secret = secret
		list[fmt.Sprintf("the Secret %d", secret)] = n
	}
	list["no contents"] = impl.Node{}
	list["the Secret 0 and nothing else"] = impl.Node{Id: 2}
	for what, p := range badPools() {
		list[what] = nodeOf(p, goodDesk())
	}
	for what, d := range badDesks() {
		n := nodeOf(goodPool(), d)
		if len(d.Done) > 1000 {
			n.Got = n.Got[:3]
		}
		list[what] = n
	}
	return list
}

// badLetters has nodes whose received messages are too long or do not fit Done.
func badLetters() map[string]impl.Node {
	a, b, c := letter(3, 4), letter(5, 6), letter(9, 8)
	list := map[string]impl.Node{
		"no Got for a Done":              nodeWith([]int{3}),
		"no Got for the first Done":      nodeWith([]int{3, 5, 9}, b, c),
		"no Got for the second Done":     nodeWith([]int{3, 5, 9}, a, c),
		"no Got for the last Done":       nodeWith([]int{3, 5, 9}, a, b),
		"no Got for many Done":           nodeWith(counted(mostDone)),
		"255 Got for 256 Done":           nodeWith(counted(mostDone), lettersFor(counted(mostDone-1))...),
		"no Done for a Got":              nodeWith(nil, a),
		"no Done for the first Got":      nodeWith([]int{5, 9}, a, b, c),
		"no Done for the second Got":     nodeWith([]int{3, 9}, a, b, c),
		"no Done for the last Got":       nodeWith([]int{3, 5}, a, b, c),
		"255 Done for 256 Got":           nodeWith(counted(mostDone-1), lettersFor(counted(mostDone))...),
		"a Got of another Id":            nodeWith([]int{3, 5}, a, c),
		"one Id twice":                   nodeWith([]int{3}, a, a),
		"one Id twice, other contents":   nodeWith([]int{3, 5}, a, b, letter(3, 9)),
		"one Id twice, another missing":  nodeWith([]int{3, 5}, a, a),
		"one Id twice, the last missing": nodeWith([]int{3, 5, 9}, b, a, a),
		"257 Got":                        nodeWith(counted(mostDone), append(lettersFor(counted(mostDone)), a)...),
		"many Got":                       nodeWith([]int{3}, slices.Repeat([]impl.Letter{a}, 1000)...),
		"the Id -1":                      nodeWith([]int{3}, a, letter(-1, 4)),
		"the Id 256":                     nodeWith([]int{3}, a, letter(256, 4)),
		"an Id that becomes Done":        nodeWith([]int{3, 5}, a, letter(5+256, 6)),
		"a long message":                 nodeWith([]int{3, 5, 9}, a, b, letter(9, mostMsg+1)),
		"a long message before others":   nodeWith([]int{3, 5, 9}, letter(9, mostMsg+1), b, a),
		"a message of 256 bytes":         nodeWith([]int{3}, letter(3, 256)),
		"a message of 260 bytes":         nodeWith([]int{3}, letter(3, 260)),
		"a very long message":            nodeWith([]int{3}, letter(3, 70000)),
		"an empty message for no Done":   nodeWith(nil, impl.Letter{}),
	}
	for what, done := range map[string][]int{"a Got of an Open Id": {5}, "a Got and a Done of an Open Id": {5, 200}} {
		n := nodeWith(done, b, letter(200, 4))
		n.Desk.Open = goodDesk().Open
		list[what] = n
	}
	return list
}

func checkNoNode(t *testing.T, what string, got impl.Node) {
	t.Helper()
	checkSame(t, what+": the node", got, impl.Node{})
}

func checkNoLetter(t *testing.T, what string, n impl.Node, id int) {
	t.Helper()
	if b, ok := impl.LetterOf(n, id); ok || len(b) != 0 {
		t.Errorf("%s: LetterOf(%d) = %v %t, want nil and false", what, id, b, ok)
	}
}

func TestNodeConstants(t *testing.T) {
	codes := []int{impl.NdHeld, impl.NdPiece, impl.NdWhole, impl.NdSeen, impl.NdBad, impl.NdOld, impl.NdFull, impl.NdOdd}
	checkNodes(t, "the codes", codes, 0, 1, 2, 3, 4, 5, 6, 7)
}

func TestNodeOk(t *testing.T) {
	for _, n := range goodNodes() {
		checkFlag(t, fmt.Sprintf("NodeOk(%v)", n), impl.NodeOk(n), true)
	}
	for what, n := range badNodes() {
		checkFlag(t, "NodeOk with "+what, impl.NodeOk(n), false)
	}
	for id := -300; id <= 300; id++ {
		checkFlag(t, "NodeOk of an Id", impl.NodeOk(impl.Node{Id: id, Secret: 1}), 0 <= id && id < nodeCount)
	}
	for length := range 600 {
		checkFlag(t, "NodeOk of a length", impl.NodeOk(nodeWith([]int{7}, letter(7, length))), length <= mostMsg)
	}
}

// Any order of Got is valid, and any difference between Done and Got is not.
func TestNodeOkOfDoneAndGot(t *testing.T) {
	ids := []int{0, 1, 100, 255}
	for order := range permutations(len(ids)) {
		n := nodeWith(ids)
		for _, i := range order {
			n.Got = append(n.Got, letter(ids[i], i))
		}
		checkFlag(t, fmt.Sprintf("NodeOk of the order %v", order), impl.NodeOk(n), true)
		n.Got[2].Id = n.Got[0].Id
		checkFlag(t, "NodeOk with one Id twice", impl.NodeOk(n), false)
	}
	for done := range 1 << len(ids) {
		for got := range 1 << len(ids) {
			n := nodeWith(nil)
			for i, id := range ids {
				if done>>i%2 == 1 {
					n.Desk.Done = append(n.Desk.Done, id)
				}
				if got>>i%2 == 1 {
					n.Got = append(n.Got, letter(id, i))
				}
			}
			checkFlag(t, fmt.Sprintf("NodeOk of %v and %v", n.Desk.Done, n.Got), impl.NodeOk(n), done == got)
		}
	}
}

func TestNodeNew(t *testing.T) {
	for id := range nodeCount {
		for _, secret := range append(secretKeys(), halfSecret, 1000) {
			n, ok := impl.NodeNew(id, secret)
			checkFlag(t, "NodeNew", ok, true)
			checkSame(t, "NodeNew", n, impl.Node{Id: id, Secret: secret})
			checkFlag(t, "NodeOk of a new node", impl.NodeOk(n), true)
			checkFlag(t, "Idle of a new node", impl.Idle(n), true)
		}
	}
	for _, id := range append([]int{-1, -8, nodeCount, nodeCount + 1, exit, 256}, farNumbers...) {
		for _, secret := range []int{1, 1002, prime - 2, 0, prime - 1} {
			n, ok := impl.NodeNew(id, secret)
			checkFlag(t, "NodeNew of no node", ok, false)
			checkNoNode(t, "NodeNew of no node", n)
		}
	}
	for _, secret := range notSecrets() {
		for _, id := range []int{0, 2, nodeCount - 1, nodeCount} {
			n, ok := impl.NodeNew(id, secret)
			checkFlag(t, "NodeNew with no secret key", ok, false)
			checkNoNode(t, "NodeNew with no secret key", n)
		}
	}
}

// Everything else that takes a node has a fixed value for one that is not valid.
func TestInvalidNodes(t *testing.T) {
	cells := []impl.Cell{{}, {B: zeroPad()}, carried(11, onlyPiece(7), 300).cellFor(goodNode()), relayed(11, 3, 300).cellFor(goodNode())}
	for what, n := range badNodes() {
		for _, c := range cells {
			for _, now := range []int{0, 9, lastNow, lastNow + 1, -1} {
				checkNotHeard(t, what, n, now, c, zeroPad())
			}
		}
		for _, now := range []int{math.MinInt, -1, 0, 9, 300, lastNow, lastNow + 1, math.MaxInt} {
			checkNotTicked(t, what, n, now)
		}
		for _, need := range []int{-1, 0, 1, 2, mostHeld, mostHeld + 1} {
			checkNodeNotFlushed(t, what, n, need, nil)
			checkNodeNotFlushed(t, what, n, need, make([]byte, 100))
		}
		checkNoNodeBytes(t, what, n)
		for _, id := range []int{-1, 0, 3, 5, 7, 9, 200, lastId, 256, 256 + 5} {
			checkNoLetter(t, what, n, id)
		}
		checkNodes(t, what+": GotIds", impl.GotIds(n))
		check(t, what+": Load", impl.Load(n), -1)
		checkFlag(t, what+": Idle", impl.Idle(n), false)
	}
}

// checkNodeShown compares what the smaller functions tell of a valid node with what it holds.
func checkNodeShown(t *testing.T, n impl.Node) {
	t.Helper()
	for id := -2; id <= lastId+2; id++ {
		at := slices.IndexFunc(n.Got, func(l impl.Letter) bool { return l.Id == id })
		if at < 0 {
			checkNoLetter(t, "a node", n, id)
			continue
		}
		b, ok := impl.LetterOf(n, id)
		checkFlag(t, "LetterOf", ok, true)
		checkBytes(t, "LetterOf", b, n.Got[at].B)
	}
	for _, id := range farNumbers {
		checkNoLetter(t, "a far Id", n, id)
	}
	load := len(n.Pool.L)
	for _, w := range n.Desk.Open {
		load += len(w.Got)
	}
	checkNodes(t, "GotIds", impl.GotIds(n), n.Desk.Done...)
	check(t, "Load", impl.Load(n), load)
	checkFlag(t, "Idle", impl.Idle(n), len(n.Pool.L) == 0 && len(n.Desk.Open) == 0)
}

func TestWhatNodesShow(t *testing.T) {
	n := goodNode()
	checkNodes(t, "GotIds", impl.GotIds(n), 0, 5, 255)
	check(t, "Load", impl.Load(n), 8)
	checkFlag(t, "Idle", impl.Idle(n), false)
	b, ok := impl.LetterOf(nodeWith([]int{5, 7}, impl.Letter{Id: 7, B: []byte("seven")}, impl.Letter{Id: 5, B: []byte("five")}), 5)
	checkFlag(t, "LetterOf", ok, true)
	checkBytes(t, "LetterOf", b, []byte("five"))
	b, ok = impl.LetterOf(nodeWith([]int{7}, impl.Letter{Id: 7}), 7)
	checkFlag(t, "LetterOf of the empty message", ok, true)
	checkBytes(t, "LetterOf of the empty message", b, nil)
	// Neither tags nor received messages keep a node from being idle.
	n.Pool.L, n.Desk.Open = nil, nil
	check(t, "Load of no cells", impl.Load(n), 0)
	checkFlag(t, "Idle of no cells", impl.Idle(n), true)
	checkFlag(t, "Idle of a cell", impl.Idle(nodeOf(poolOf(1, 0), impl.Desk{})), false)
	checkFlag(t, "Idle of a fragment", impl.Idle(nodeOf(impl.Pool{}, impl.Desk{Open: []impl.Whole{partial(7, 2, 9, 1)}})), false)
	check(t, "Load of a full node", impl.Load(fullNode()), mostHeld+15)
	for i, n := range goodNodes() {
		if i%5 == 0 || len(n.Got) != 3 {
			checkNodeShown(t, n)
		}
	}
}

// NodeInput has the arguments of one call; its fields are exported so that
// reflect can set them.
type NodeInput struct {
	Node  impl.Node
	Cell  impl.Cell
	Bytes []byte
}

type noded struct {
	Node  impl.Node
	Cells []impl.Held
	Bytes []byte
	N     int
}

// memoryNodes are few, with and without contents, full and not valid ones.
func memoryNodes() []impl.Node {
	list := []impl.Node{
		{}, {Id: 2, Secret: 1002}, goodNode(), fullNode(), {Id: 2, Secret: 1002, Got: []impl.Letter{{}}},
		nodeOf(poolOf(mostHeld, 5), impl.Desk{}), nodeOf(poolOf(1, mostTags), impl.Desk{}), nodeOf(poolOf(1, 1), fullDesk()),
		nodeOf(impl.Pool{}, impl.Desk{Done: []int{7}}), nodeOf(impl.Pool{}, impl.Desk{Open: []impl.Whole{partial(7, 2, 300, 1)}}),
		nodeOf(poolOf(mostHeld+1, 5), goodDesk()), nodeOf(goodPool(), impl.Desk{Done: []int{4, 4}}),
		nodeWith([]int{7, 9}, letter(9, 0), letter(7, 4)), nodeWith([]int{7}, letter(9, 3)), nodeWith([]int{7}, letter(7, mostMsg+1)),
	}
	return list
}

// sharingNode has the same memory more than once: the results may not.
func sharingNode() NodeInput {
	memory := drawn(mostMsg, 3)
	h := impl.Held{Next: 1, Due: 300, Cell: impl.Cell{B: memory[:cellBytes]}}
	p := impl.Piece{Id: 3, At: 0, Total: 3, Data: memory[:fullPart]}
	q := impl.Piece{Id: 3, At: 1, Total: 3, Data: memory[:fullPart]}
	other := impl.Piece{Id: 4, At: 0, Total: 3, Data: memory[:fullPart]}
	open := []impl.Whole{{Id: 3, Total: 3, Due: 300, Got: []impl.Piece{p, q}}, {Id: 4, Total: 3, Due: 300, Got: []impl.Piece{other}}}
	numbers := []int{5, 6}
	n := impl.Node{
		Id: 2, Secret: 1002,
		Pool: impl.Pool{L: []impl.Held{h, h, h}, Tags: numbers},
		Desk: impl.Desk{Open: open, Done: numbers},
		Got:  []impl.Letter{{Id: 6, B: memory}, {Id: 5, B: memory[:9]}},
	}
	return NodeInput{n, impl.Cell{B: memory[:cellBytes]}, memory}
}

func checkSeparate(t *testing.T, what string, result noded) {
	t.Helper()
	checkFlag(t, "NodeOk after "+what, impl.NodeOk(result.Node), true)
	if overlap(regions(reflect.ValueOf(&result).Elem())) {
		t.Errorf("%s: two slices of the result share memory", what)
	}
	runtime.KeepAlive(&result)
}

func TestNodesAreNewMemory(t *testing.T) {
	for _, n := range memoryNodes() {
		checkNested(t, "NodeOk", n, impl.NodeOk)
		checkNested(t, "GotIds", n, impl.GotIds)
		checkNested(t, "Load", n, impl.Load)
		checkNested(t, "Idle", n, impl.Idle)
		for _, id := range []int{-1, 0, 3, 5, 7, 9, lastId} {
			checkNested(t, "LetterOf", n, func(n impl.Node) noded {
				b, ok := impl.LetterOf(n, id)
				return noded{Bytes: b, N: len(flagged(ok))}
			})
		}
	}
}
