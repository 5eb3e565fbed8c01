package tests

import (
	"bytes"
	"slices"
	"testing"

	"loop.example/g00611/impl"
)

// The signatures that chapter 6 gives for the bytes of a node.
var (
	_ func(impl.Node) ([]byte, bool) = impl.NodeBytes
	_ func([]byte) (impl.Node, bool) = impl.NodeRead
)

// wantedNodeBytes encodes any node whose numbers fit their bytes, also one that is not valid.
func wantedNodeBytes(n impl.Node) []byte {
	b := append(withCode(n.Secret, nil), wantedPoolBytes(n.Pool)...)
	b = append([]byte{byte(n.Id)}, append(b, byte(len(n.Desk.Open)))...)
	for _, w := range n.Desk.Open {
		b = append(b, byte(w.Due/256), byte(w.Due%256), byte(len(w.Got)))
		for _, p := range w.Got {
			b = append(b, byte(3+len(p.Data)), byte(p.Id), byte(p.At), byte(p.Total))
			b = append(b, p.Data...)
		}
	}
	b = append(b, byte(len(n.Got)/256), byte(len(n.Got)%256))
	for _, l := range n.Got {
		b = append(b, byte(l.Id), byte(len(l.B)))
		b = append(b, l.B...)
	}
	return b
}

func (r *bytesTaker) open() impl.Whole {
	w := impl.Whole{Due: r.two()}
	at := -1
	for i := range r.one() {
		b := r.take(r.one())
		if len(b) < 3 {
			r.ok = false
			return w
		}
		p := impl.Piece{Id: int(b[0]), At: int(b[1]), Total: int(b[2]), Data: b[3:]}
		if i == 0 {
			w.Id, w.Total = p.Id, p.Total
		}
		r.ok = r.ok && isPiece(p) && p.Id == w.Id && p.Total == w.Total && p.At > at
		at = p.At
		w.Got = append(w.Got, p)
	}
	r.ok = r.ok && 0 < len(w.Got) && len(w.Got) < w.Total
	return w
}

// wantedNodeRead reads byte by byte, and looks for faults on the way.
func wantedNodeRead(b []byte) (impl.Node, bool) {
	r := &bytesTaker{b, true}
	n := impl.Node{Id: r.one()}
	n.Secret = r.four()
	cells, tags := r.one(), r.one()
	p, ok := wantedPoolRead(append([]byte{byte(cells), byte(tags)}, r.take(83*cells+4*tags)...))
	n.Pool = p
	r.ok = r.ok && ok && n.Id < nodeCount && 1 <= n.Secret && n.Secret <= prime-2
	last := -1
	for range r.one() {
		w := r.open()
		r.ok = r.ok && w.Id > last && len(n.Desk.Open) < mostOpen
		last = w.Id
		if r.ok {
			n.Desk.Open = append(n.Desk.Open, w)
		}
	}
	isOpenOrDone := map[int]bool{}
	for _, w := range n.Desk.Open {
		isOpenOrDone[w.Id] = true
	}
	for range r.two() {
		l := impl.Letter{Id: r.one()}
		l.B = r.take(r.one())
		r.ok = r.ok && len(l.B) <= mostMsg && !isOpenOrDone[l.Id]
		isOpenOrDone[l.Id] = true
		n.Got = append(n.Got, l)
		n.Desk.Done = append(n.Desk.Done, l.Id)
	}
	slices.Sort(n.Desk.Done)
	if !r.ok || len(r.b) > 0 {
		return impl.Node{}, false
	}
	return n, true
}

func checkNoNodeBytes(t *testing.T, what string, n impl.Node) {
	t.Helper()
	nodeCoding().checkNotWritten(t, what, n)
}

func checkNodeRead(t *testing.T, b []byte) bool {
	t.Helper()
	got, ok := impl.NodeRead(b)
	checkFlag(t, "NodeOk of what was read", impl.NodeOk(got), ok)
	return nodeCoding().checkRead(t, b)
}

func checkNotANode(t *testing.T, what string, b []byte) {
	t.Helper()
	nodeCoding().checkNotRead(t, what, b)
}

func TestNodeBytes(t *testing.T) {
	b, ok := impl.NodeBytes(impl.Node{Id: 7, Secret: prime - 2})
	checkFlag(t, "NodeBytes of a node with no contents", ok, true)
	checkBytes(t, "NodeBytes of a node with no contents", b, []byte{7, 0x7f, 0xff, 0xff, 0xfd, 0, 0, 0, 0, 0})
	c := countedBytes(100, cellBytes)
	n := impl.Node{Id: 2, Secret: 0x01020304}
	n.Pool = impl.Pool{L: []impl.Held{{Next: 7, Due: 0x1234, Cell: impl.Cell{B: c}}}, Tags: []int{0x0a0b0c0d}}
	a, z := impl.Piece{Id: 200, At: 0, Total: 3, Data: data(fullPart)}, impl.Piece{Id: 200, At: 2, Total: 3, Data: []byte("end")}
	n.Desk = impl.Desk{Open: []impl.Whole{{Id: 200, Total: 3, Due: 0x5678, Got: []impl.Piece{a, z}}}, Done: []int{5, 9}}
	n.Got = []impl.Letter{{Id: 9, B: []byte("nine")}, {Id: 5}}
	b, ok = impl.NodeBytes(n)
	checkFlag(t, "NodeBytes", ok, true)
	checkBytes(t, "NodeBytes", b, slices.Concat(
		[]byte{2, 1, 2, 3, 4, 1, 1, 7, 0x12, 0x34}, c, []byte{0x0a, 0x0b, 0x0c, 0x0d},
		[]byte{1, 0x56, 0x78, 2, 23, 200, 0, 3}, data(fullPart), []byte{6, 200, 2, 3, 'e', 'n', 'd'},
		[]byte{0, 2, 9, 4, 'n', 'i', 'n', 'e', 5, 0},
	))
	got, ok := impl.NodeRead(b)
	checkFlag(t, "NodeRead", ok, true)
	checkSame(t, "NodeRead", got, n)
	for _, n := range goodNodes() {
		b, ok := impl.NodeBytes(n)
		checkFlag(t, "NodeBytes", ok, true)
		checkBytes(t, "NodeBytes", b, wantedNodeBytes(n))
	}
	for what, n := range badNodes() {
		checkNoNodeBytes(t, what, n)
	}
}

func TestNodesAreRecoveredFromTheirBytes(t *testing.T) {
	for _, n := range goodNodes() {
		b, _ := impl.NodeBytes(n)
		got, ok := impl.NodeRead(b)
		checkFlag(t, "NodeRead", ok, true)
		checkSame(t, "NodeRead", got, n)
		checkFlag(t, "NodeRead of the bytes", checkNodeRead(t, b), true)
	}
	for count := range mostDone + 1 {
		n := nodeOf(impl.Pool{}, impl.Desk{Done: counted(count)})
		got, ok := impl.NodeRead(wantedNodeBytes(n))
		checkFlag(t, "NodeRead", ok, true)
		checkSame(t, "NodeRead of some messages", got, n)
	}
	// Got is recovered in its order, and Done in the order of the numbers.
	for order := range permutations(5) {
		n := nodeWith([]int{0, 50, 100, 150, 250})
		for _, i := range order {
			n.Got = append(n.Got, letter(50*i+i/4*50, i))
		}
		got, ok := impl.NodeRead(wantedNodeBytes(n))
		checkFlag(t, "NodeRead", ok, true)
		checkSame(t, "NodeRead of another order", got, n)
	}
}

// fits reports whether the numbers of a node fit the bytes that they are
// encoded in, so that its encoding says what is wrong with it.
func fits(n impl.Node) bool {
	ok := 0 <= n.Id && n.Id <= 255 && 0 <= n.Secret && n.Secret < 1<<32
	ok = ok && len(n.Pool.L) < 256 && len(n.Pool.Tags) < 256 && len(n.Desk.Open) < 256
	for _, h := range n.Pool.L {
		ok = ok && 0 <= h.Next && h.Next < 256 && 0 <= h.Due && h.Due <= lastDue
	}
	for _, tag := range n.Pool.Tags {
		ok = ok && 0 <= tag && tag < 1<<32
	}
	for _, w := range n.Desk.Open {
		ok = ok && 0 <= w.Due && w.Due <= lastDue
		for _, p := range w.Got {
			ok = ok && 0 <= p.At && p.At < 256 && 0 <= p.Id && p.Id < 256
		}
	}
	for _, l := range n.Got {
		ok = ok && 0 <= l.Id && l.Id < 256 && len(l.B) < 256
	}
	return ok
}

func TestNodeReadOfInvalidNodes(t *testing.T) {
	// Done, and what an Open message says beside its fragments, are not in the bytes.
	for what, n := range badNodes() {
		b := wantedNodeBytes(n)
		checkNodeRead(t, b)
		if got, ok := impl.NodeRead(b); ok && fits(n) {
			checkSame(t, what+": the pool", got.Pool, n.Pool)
			checkSame(t, what+": the received messages", got.Got, n.Got)
		}
	}
	for id := nodeCount; id <= 255; id++ {
		checkNotANode(t, "an Id of no node", wantedNodeBytes(impl.Node{Id: id, Secret: 1002}))
	}
	for _, secret := range []int{0, prime - 1, prime, prime + 1, prime + 1002, 1 << 31, 1<<32 - 1} {
		n := goodNode()
		n.Secret = secret
		checkNotANode(t, "no secret key", wantedNodeBytes(n))
	}
	for what, p := range badPools() {
		if n := nodeOf(p, goodDesk()); fits(n) {
			checkNotANode(t, what, wantedNodeBytes(n))
		}
	}
	a, b := letter(7, 4), letter(9, 5)
	for what, got := range map[string][]impl.Letter{
		"one Id twice":               {a, a},
		"one Id twice, far":          {a, b, letter(7, 9)},
		"a message of 161 bytes":     {a, letter(9, mostMsg+1)},
		"a message of 255 bytes":     {letter(9, 255), a},
		"257 messages":               append(lettersFor(counted(mostDone)), a),
		"256 messages and one twice": append(lettersFor(counted(mostDone-1)), a),
	} {
		checkNotANode(t, what, wantedNodeBytes(nodeWith(nil, got...)))
	}
	n := goodNode()
	n.Got = []impl.Letter{a, letter(200, 4)}
	checkNotANode(t, "a message of an Open Id", wantedNodeBytes(n))
}

// Each of these has a fault in the order or the number of its fragments.
func TestNodeReadOfInvalidDesks(t *testing.T) {
	one := func(got ...impl.Piece) []impl.Whole { return []impl.Whole{{Due: 9, Got: got}} }
	first, second := partial(7, 3, 9, 1), partial(8, 3, 9, 0, 2)
	list := map[string][]impl.Whole{
		"no fragment":                   one(),
		"no fragment beside others":     {first, {Due: 9}, second},
		"all fragments":                 one(someOf(7, 3, 0, 1, 2)...),
		"the only fragment":             one(onlyPiece(7)),
		"the empty only fragment":       one(impl.Piece{Id: 7, Total: 1}),
		"descending fragments":          one(someOf(7, 3, 1, 0)...),
		"a late descent":                one(someOf(7, 4, 0, 2, 1)...),
		"one fragment twice":            one(someOf(7, 3, 1, 1)...),
		"fragments of other Ids":        one(someOf(7, 3, 0)[0], someOf(8, 3, 1)[0]),
		"fragments of other Totals":     one(someOf(7, 3, 0)[0], someOf(7, 4, 1)[0]),
		"a fragment that is not full":   one(impl.Piece{Id: 7, At: 0, Total: 3, Data: data(19)}),
		"a fragment that is too long":   one(impl.Piece{Id: 7, At: 0, Total: 3, Data: data(21)}),
		"an empty last fragment":        one(impl.Piece{Id: 7, At: 2, Total: 3}),
		"a fragment of nine":            one(impl.Piece{Id: 7, At: 2, Total: 9, Data: data(fullPart)}),
		"a fragment behind the last":    one(impl.Piece{Id: 7, At: 3, Total: 3, Data: data(fullPart)}),
		"a long fragment":               one(impl.Piece{Id: 7, At: 0, Total: 3, Data: data(252)}),
		"one message twice":             {first, first},
		"two messages of one Id":        {first, partial(7, 3, 9, 2)},
		"descending messages":           {second, first},
		"a late descent of messages":    {partial(1, 2, 9, 1), second, first},
		"seven messages":                append(fullDesk().Open[:5], partial(101, 3, 9, 0), partial(102, 3, 9, 0)),
		"a message that is Done":        {first, partial(9, 3, 9, 0), partial(200, 3, 9, 0)},
		"a message that is Done, alone": {partial(9, 3, 9, 0)},
	}
	for what, open := range list {
		n := nodeOf(goodPool(), impl.Desk{Open: open, Done: []int{5, 9}})
		checkNotANode(t, what, wantedNodeBytes(n))
		checkNodeRead(t, wantedNodeBytes(n))
	}
	n := nodeOf(goodPool(), impl.Desk{Open: []impl.Whole{first, second}, Done: []int{5, 9}})
	checkFlag(t, "NodeRead without a fault", checkNodeRead(t, wantedNodeBytes(n)), true)
}

func TestNodeReadOfOtherLengths(t *testing.T) {
	// The whole node lies behind the bytes that are too short.
	list := []impl.Node{
		{Id: 2, Secret: 1002}, goodNode(), nodeOf(poolOf(1, 1), impl.Desk{Done: []int{7}}), nodeWith([]int{7}, letter(7, 0)),
		nodeOf(impl.Pool{}, impl.Desk{Open: []impl.Whole{partial(7, 2, 9, 1)}}), fullNode(),
	}
	for _, n := range list {
		b := wantedNodeBytes(n)
		for length := range b {
			checkNotANode(t, "bytes that are too short", b[:length])
			checkNotANode(t, "bytes that are too short", bytes.Clone(b[:length]))
		}
		for _, extra := range []int{1, 2, 3, 4, 5, 10, 83, 84, 160} {
			checkNotANode(t, "bytes that are too long", append(bytes.Clone(b), make([]byte, extra)...))
			checkNotANode(t, "bytes that are too long", append(bytes.Clone(b), drawn(extra, 1)...))
		}
	}
	checkNotANode(t, "no bytes", nil)
	for _, length := range []int{1, 2, 5, 6, 7, 8, 9, 10, 11, 12, 20, 100, 1000, 70000, 140000} {
		for _, filler := range []byte{0, 1, 2, 7, 12, 255} {
			checkNodeRead(t, bytes.Repeat([]byte{filler}, length))
		}
	}
	// As many messages as the two bytes can tell, all of them empty.
	b := append([]byte{2, 0, 0, 3, 234, 0, 0, 0, 255, 255}, make([]byte, 2*65535)...)
	checkNotANode(t, "65535 messages", b)
}

// A length that is not the fragment's own shifts all that follows.
func TestNodeReadOfLengthsThatDoNotFit(t *testing.T) {
	n := nodeOf(impl.Pool{}, impl.Desk{Open: []impl.Whole{partial(7, 3, 9, 0, 2)}, Done: []int{9}})
	b := wantedNodeBytes(n)
	const firstLength, secondLength = 11, 35
	check(t, "the length of the first fragment", int(b[firstLength]), 23)
	check(t, "the length of the second fragment", int(b[secondLength]), 16)
	for at := range b {
		for value := range 256 {
			changed := bytes.Clone(b)
			changed[at] = byte(value)
			isNode := checkNodeRead(t, changed)
			if at == firstLength || at == secondLength {
				checkFlag(t, "NodeRead of another length", isNode, changed[at] == b[at])
			}
		}
	}
	for length := range 60 {
		changed := slices.Concat(b[:secondLength], []byte{byte(length)}, drawn(length, 3), b[secondLength+17:])
		if length >= 3 {
			copy(changed[secondLength+1:], []byte{7, 2, 3})
		}
		checkFlag(t, "NodeRead of a last fragment", checkNodeRead(t, changed), 4 <= length && length <= 23)
	}
}

func TestNodeReadOfChangedBytes(t *testing.T) {
	valid := 0
	for _, n := range []impl.Node{goodNode(), nodeOf(poolOf(2, 3), impl.Desk{Open: fullDesk().Open[:2], Done: []int{4}})} {
		b := wantedNodeBytes(n)
		for i := range b {
			for _, value := range []byte{0, 1, 3, 7, 8, 23, 127, 128, 255, b[i] ^ 1, b[i] + 1} {
				changed := bytes.Clone(b)
				changed[i] = value
				if checkNodeRead(t, changed) {
					valid++
				}
			}
		}
	}
	checkFlag(t, "that some changes give another node", valid > 100, true)
	for start := range 2000 {
		checkNodeRead(t, drawn(start%60, start))
		b := append([]byte{byte(start % 9), 0, 0, 1, byte(start), 0, 0}, drawn(start%40, start)...)
		for i := range b[7:] {
			b[7+i] %= 4
		}
		checkNodeRead(t, b)
	}
}

func TestNodeBytesAreNewMemory(t *testing.T) {
	for _, n := range append(memoryNodes(), nodeOf(impl.Pool{}, impl.Desk{Done: counted(mostDone)})) {
		checkNested(t, "NodeBytes", n, func(n impl.Node) []byte {
			b, _ := impl.NodeBytes(n)
			return b
		})
		b := wantedNodeBytes(n)
		for _, b := range [][]byte{b, b[:1], b[:len(b)-1], append(bytes.Clone(b), 0)} {
			checkNested(t, "NodeRead", b, func(b []byte) impl.Node {
				n, _ := impl.NodeRead(b)
				return n
			})
		}
	}
}
