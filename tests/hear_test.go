package tests

import (
	"bytes"
	"fmt"
	"slices"
	"testing"

	"loop.example/g00611/impl"
)

// The signature that chapter 6 gives.
var _ func(impl.Node, int, impl.Cell, []byte) (impl.Node, int) = impl.Hear

// The codes are written out here so that a wrong constant is found.
const (
	isHeld  = 0
	isPart  = 1
	isWhole = 2
	isSeen  = 3
	isBad   = 4
	isOld   = 5
	isFull  = 6
	isOdd   = 7
)

// hearPad has bytes that occur in no other padding.
func hearPad() []byte { return countedBytes(100, cellBytes) }

// sending is what the outermost layer of a cell says, and the secret it is sealed with.
type sending struct {
	secret  int
	next    int
	due     int
	content []byte
}

func relayed(secret int, next int, due int) sending {
	return sending{secret, next, due, drawn(20, secret)}
}

// carried takes any fragment, also one that is not valid.
func carried(secret int, p impl.Piece, due int) sending {
	return sending{secret, exit, due, append([]byte{byte(p.Id), byte(p.At), byte(p.Total)}, p.Data...)}
}

func loaded(secret int, due int, load ...byte) sending { return sending{secret, exit, due, load} }

func onlyPiece(id int) impl.Piece { return impl.Piece{Id: id, Total: 1, Data: drawn(5, id)} }

func (s sending) cellFor(n impl.Node) impl.Cell {
	return cellOf(layerFor(n.Secret, s.secret, s.next, s.due, s.content))
}

func (s sending) tagFor(n impl.Node) int { return wantedTag(n.Secret, s.cellFor(n)) }

// piece returns the fragment in the content if there is one.
func (s sending) piece() (impl.Piece, bool) {
	if len(s.content) < 3 {
		return impl.Piece{}, false
	}
	p := impl.Piece{Id: int(s.content[0]), At: int(s.content[1]), Total: int(s.content[2]), Data: s.content[3:]}
	return p, isPiece(p)
}

// wantedHear takes valid arguments only.
func wantedHear(n impl.Node, now int, s sending, pad []byte) (impl.Node, int) {
	isLoad := s.next == exit && len(s.content) <= mostLoad
	isLayer := 0 <= s.next && s.next < nodeCount && leastContent <= len(s.content) && len(s.content) <= mostContent
	if !isLoad && !isLayer {
		return n, isBad
	}
	if s.due <= now {
		return n, isOld
	}
	if isLoad {
		return wantedExit(n, s)
	}
	inner := impl.Cell{B: slices.Concat(s.content, pad[:cellBytes-len(s.content)])}
	p, result := wantedAdmit(n.Pool, impl.Held{Next: s.next, Due: s.due, Cell: inner}, s.tagFor(n))
	n.Pool = p
	return n, map[int]int{0: isHeld, -1: isSeen, -2: isFull}[result]
}

func wantedExit(n impl.Node, s sending) (impl.Node, int) {
	p, ok := s.piece()
	if !ok {
		return n, isOdd
	}
	tag := s.tagFor(n)
	if slices.Contains(n.Pool.Tags, tag) {
		return n, isSeen
	}
	if len(n.Pool.Tags) == mostTags {
		return n, isFull
	}
	d, msg, result := wantedTake(n.Desk, p, s.due)
	if result == -2 {
		return n, isFull
	}
	n = anew(n)
	n.Pool.Tags = append(n.Pool.Tags, tag)
	n.Desk = d
	if result == 1 {
		n.Got = append(n.Got, impl.Letter{Id: p.Id, B: msg})
	}
	return n, map[int]int{1: isWhole, 0: isPart, -1: isSeen}[result]
}

// hear calls Hear and compares its results with the wanted ones.
func hear(t *testing.T, n impl.Node, now int, s sending) (impl.Node, int) {
	t.Helper()
	want, wantCode := wantedHear(n, now, s, hearPad())
	got, code := impl.Hear(n, now, s.cellFor(n), hearPad())
	what := fmt.Sprintf("Hear of %v at %d", s, now)
	checkSame(t, what, got, want)
	check(t, what, code, wantCode)
	checkFlag(t, "NodeOk after "+what, impl.NodeOk(got), true)
	return got, code
}

// checkHeard wants one code, and for a cell that is rejected the node as it was.
func checkHeard(t *testing.T, what string, n impl.Node, now int, s sending, want int) impl.Node {
	t.Helper()
	got, code := hear(t, n, now, s)
	check(t, what, code, want)
	if want == isBad || want == isOld || want == isFull || want == isOdd {
		checkSame(t, what+": the node", got, n)
	}
	return got
}

func checkNotHeard(t *testing.T, what string, n impl.Node, now int, c impl.Cell, pad []byte) {
	t.Helper()
	got, code := impl.Hear(n, now, c, pad)
	checkNoNode(t, what+": Hear", got)
	check(t, what+": the code of Hear", code, -1)
}

func TestHear(t *testing.T) {
	n := impl.Node{Id: 2, Secret: 1002}
	p := goodPlan()
	x, code := impl.Hear(n, 299, p.wrapped(t), p.pad)
	check(t, "the code of a cell for another node", code, 0)
	wanted := impl.Pool{L: []impl.Held{{Next: 5, Due: 300, Cell: p.rest().wrapped(t)}}, Tags: []int{922701769}}
	checkSame(t, "the node with a cell for another node", x, impl.Node{Id: 2, Secret: 1002, Pool: wanted})
	y, code := impl.Hear(x, 299, p.wrapped(t), p.pad)
	check(t, "the code of the same cell", code, 3)
	checkSame(t, "the node after the same cell", y, x)
	_, code = impl.Hear(x, 299, p.rest().wrapped(t), p.pad)
	check(t, "the code of a cell for node 5", code, 4)
	_, code = impl.Hear(x, 300, p.wrapped(t), p.pad)
	check(t, "the code of a late cell", code, 5)
	_, code = impl.Hear(x, 299, p.rest().rest().wrapped(t), p.pad)
	check(t, "the code of a load that is no fragment", code, 7)
	last := p.rest().rest()
	last.load = []byte{7, 0, 1, 'h', 'e', 'l', 'l', 'o'}
	z, code := impl.Hear(x, 299, last.wrapped(t), p.pad)
	check(t, "the code of the only fragment", code, 2)
	wanted.Tags = append(wanted.Tags, 1938112366)
	checkSame(t, "the node with a message", z, impl.Node{Id: 2, Secret: 1002, Pool: wanted, Desk: impl.Desk{Done: []int{7}}, Got: []impl.Letter{{Id: 7, B: []byte("hello")}}})
	y, code = impl.Hear(z, 299, last.wrapped(t), p.pad)
	check(t, "the code of the same fragment", code, 3)
	checkSame(t, "the node after the same fragment", y, z)
	last.load = append([]byte{9, 0, 2}, data(fullPart)...)
	last.secrets = []int{14}
	z, code = impl.Hear(n, 299, last.wrapped(t), p.pad)
	check(t, "the code of a first fragment", code, 1)
	wanted = impl.Pool{Tags: []int{wantedTag(1002, last.wrapped(t))}}
	open := []impl.Whole{{Id: 9, Total: 2, Due: 300, Got: []impl.Piece{{Id: 9, At: 0, Total: 2, Data: data(fullPart)}}}}
	checkSame(t, "the node with a first fragment", z, impl.Node{Id: 2, Secret: 1002, Pool: wanted, Desk: impl.Desk{Open: open}})
}

func TestHearAtTheEdgesOfTime(t *testing.T) {
	n := goodNode()
	kinds := []func(due int) sending{
		func(due int) sending { return relayed(11, 3, due) },
		func(due int) sending { return carried(11, onlyPiece(7), due) },
		func(due int) sending { return carried(11, someOf(200, 4, 3)[0], due) },
	}
	for i, kind := range kinds {
		accepted := []int{isHeld, isWhole, isPart}[i]
		for _, now := range []int{0, 1, 9, 255, 256, 300, lastNow - 1, lastNow} {
			for _, due := range []int{0, 1, now - 1, now} {
				if 0 <= due && due <= now {
					checkHeard(t, "a late cell", n, now, kind(due), isOld)
				}
			}
			for _, due := range []int{now + 1, now + 2, lastNow + 1, lastDue} {
				checkHeard(t, "a cell that is not late", n, now, kind(due), accepted)
			}
		}
		for _, now := range append([]int{-1, -2, lastNow + 1, lastNow + 2, lastDue - 1, lastDue, lastDue + 1}, farNumbers...) {
			for _, due := range []int{0, 300, lastNow + 3, lastDue} {
				checkNotHeard(t, fmt.Sprintf("the time %d", now), n, now, kind(due).cellFor(n), hearPad())
			}
			checkNotHeard(t, "a time and a cell", n, now, impl.Cell{B: zeroPad()}, hearPad())
			checkNotHeard(t, "a time and no node", impl.Node{}, now, kind(lastDue).cellFor(n), hearPad())
		}
	}
}

func TestHearOfOtherSizes(t *testing.T) {
	n := goodNode()
	list := []sending{relayed(11, 3, 300), carried(11, onlyPiece(7), 300), relayed(11, 3, 5), relayed(11, 8, 300), loaded(11, 300)}
	for _, s := range list {
		c := s.cellFor(n)
		for _, length := range []int{0, 1, 12, 36, 78, 79, 81, 82, 160} {
			whole := append(bytes.Clone(c.B), drawn(100, 1)...)
			checkNotHeard(t, "a cell of another size", n, 9, impl.Cell{B: whole[:length]}, hearPad())
			checkNotHeard(t, "a cell of another size", n, 9, impl.Cell{B: bytes.Clone(whole[:length])}, hearPad())
		}
		for _, length := range []int{0, 1, 60, 78, 79} {
			checkNotHeard(t, "a pad too short", n, 9, c, hearPad()[:length])
			checkNotHeard(t, "a pad too short", n, 9, c, bytes.Clone(hearPad()[:length]))
		}
		for _, length := range []int{80, 81, 160, 400, 1000} {
			pad := countedBytes(9, length)
			want, wantCode := wantedHear(n, 9, s, pad)
			got, code := impl.Hear(n, 9, c, pad)
			checkSame(t, "the node with a pad", got, want)
			check(t, "the code with a pad", code, wantCode)
		}
	}
	checkNotHeard(t, "no cell", n, 9, impl.Cell{}, hearPad())
	checkNotHeard(t, "no pad", n, 9, list[0].cellFor(n), nil)
}

// Whatever Peel refuses is bad, also if it is late, seen, or odd, or there is no room for it.
func TestHearOfCellsThatCannotBePeeled(t *testing.T) {
	for _, n := range []impl.Node{{Id: 2, Secret: 1002}, goodNode(), fullNode(), nodeOf(poolOf(1, mostTags), fullDesk())} {
		for _, due := range []int{0, 9, 10, lastDue} {
			for _, now := range []int{0, 9, lastNow} {
				list := []sending{
					{11, nodeCount, due, data(20)}, {11, 254, due, data(20)}, {11, 3, due, data(11)}, {11, 3, due, nil},
					{11, exit, due, data(mostLoad + 1)}, {11, exit, due, data(mostContent)}, {11, 100, due, nil},
				}
				for _, s := range list {
					checkHeard(t, "a layer that cannot be", n, now, s, isBad)
					checkHeard(t, "a layer that cannot be, of a known tag", knows(n, s), now, s, isBad)
				}
			}
		}
		good := carried(11, onlyPiece(7), 300).cellFor(n)
		for at := range 20 {
			c := impl.Cell{B: bytes.Clone(good.B)}
			c.B[at] ^= 129
			got, code := impl.Hear(n, 3, c, hearPad())
			check(t, "the code of a changed cell", code, isBad)
			checkSame(t, "the node after a changed cell", got, n)
		}
		for start := range 20 {
			got, code := impl.Hear(n, 3, impl.Cell{B: drawn(cellBytes, start)}, hearPad())
			check(t, "the code of any bytes", code, isBad)
			checkSame(t, "the node after any bytes", got, n)
		}
	}
}

func TestHearOfOddLoads(t *testing.T) {
	n := goodNode()
	loads := [][]byte{
		nil, {7}, {7, 0}, {7, 0, 0}, {7, 1, 1}, {7, 0, 2}, {7, 0, 2, 1}, {7, 1, 2}, {7, 0, 9}, {7, 8, 9}, {5, 0, 0}, {3, 3, 3, 1},
		append([]byte{7, 0, 2}, data(19)...), append([]byte{7, 0, 1}, data(21)...), append([]byte{7, 1, 2}, data(21)...),
		append([]byte{7, 0, 9}, data(fullPart)...), data(mostLoad),
	}
	for _, load := range loads {
		for _, due := range []int{9, 10, lastNow} {
			s := loaded(11, due, load...)
			for _, n := range []impl.Node{n, fullNode(), knows(n, s), knows(fullNode(), s)} {
				checkHeard(t, "an odd load", n, due-1, s, isOdd)
				checkHeard(t, "a late odd load", n, due, s, isOld)
			}
		}
	}
	for _, p := range goodPieces() {
		_, code := hear(t, n, 9, carried(11, p, 300))
		checkFlag(t, "whether a fragment is odd", code == isOdd, false)
	}
	for _, p := range badPieces() {
		if len(p.Data)+3 <= mostLoad && p.Id>>8 == 0 && p.At>>8 == 0 && p.Total>>8 == 0 {
			checkHeard(t, "a fragment that is not valid", n, 9, carried(11, p, 300), isOdd)
		}
	}
}

// knows returns the node with the tag of a cell among its tags, one of which gives way if there is no room.
func knows(n impl.Node, s sending) impl.Node {
	n = anew(n)
	n.Pool.Tags = append(n.Pool.Tags[:min(len(n.Pool.Tags), mostTags-1)], s.tagFor(n))
	return n
}

// Of the reasons that hold at once, the one that the chapter checks first gives the code.
func TestTheOrderOfTheChecksAtTheExit(t *testing.T) {
	room := nodeOf(poolOf(1, 5), fullDesk())
	noTag := nodeOf(poolOf(1, mostTags), fullDesk())
	seventh, only, completing := carried(11, someOf(50, 3, 1)[0], 10), carried(11, onlyPiece(50), 10), carried(11, someOf(7, 8, 7)[0], 10)
	adding, done, there := carried(11, someOf(100, 5, 1)[0], 10), carried(11, onlyPiece(9), 10), carried(11, someOf(100, 5, 2)[0], 10)
	other := carried(11, someOf(100, 4, 1)[0], 10)
	for _, s := range []sending{seventh, only, completing, adding, done, there, other} {
		for _, n := range []impl.Node{room, noTag} {
			checkHeard(t, "late", n, 10, s, isOld)
			checkHeard(t, "late and seen", knows(n, s), 10, s, isOld)
			got := checkHeard(t, "seen", knows(n, s), 9, s, isSeen)
			checkSame(t, "the node after a known tag", got, knows(n, s))
		}
		// No room for the tag decides whatever the desk would say.
		checkHeard(t, "no room for the tag", noTag, 9, s, isFull)
	}
	checkHeard(t, "no room for the message", room, 9, seventh, isFull)
	for _, s := range []sending{done, there, other} {
		got := checkHeard(t, "a new tag that brings nothing new", room, 9, s, isSeen)
		checkSame(t, "the desk after it", got.Desk, room.Desk)
		checkSame(t, "the letters after it", got.Got, room.Got)
		checkNodes(t, "the tags after it", got.Pool.Tags, append(tagsOf(5), s.tagFor(room))...)
	}
	accepted := map[int]sending{isWhole: completing, isPart: adding}
	for code, s := range accepted {
		got := checkHeard(t, "a fragment beside six messages", room, 9, s, code)
		checkNodes(t, "the tags after it", got.Pool.Tags, append(tagsOf(5), s.tagFor(room))...)
	}
	checkHeard(t, "the only fragment beside six messages", room, 9, only, isWhole)
	// How many cells wait does not matter at the exit.
	for cells := range mostHeld + 1 {
		checkHeard(t, "the only fragment beside some cells", nodeOf(poolOf(cells, 3), impl.Desk{}), 9, only, isWhole)
		checkHeard(t, "the only fragment and the last tag", nodeOf(poolOf(cells, mostTags-1), impl.Desk{}), 9, only, isWhole)
	}
}

func TestTheOrderOfTheChecksForOtherNodes(t *testing.T) {
	s := relayed(11, 3, 10)
	room, noTag := nodeOf(poolOf(mostHeld-1, 5), fullDesk()), nodeOf(poolOf(mostHeld-1, mostTags), fullDesk())
	fullPool, nothing := nodeOf(poolOf(mostHeld, 5), fullDesk()), fullNode()
	for _, n := range []impl.Node{room, noTag, fullPool, nothing} {
		checkHeard(t, "late", n, 10, s, isOld)
		checkHeard(t, "late and seen", knows(n, s), 10, s, isOld)
	}
	got := checkHeard(t, "a cell for another node", room, 9, s, isHeld)
	check(t, "the number of cells", len(got.Pool.L), mostHeld)
	checkSame(t, "the desk", got.Desk, room.Desk)
	checkHeard(t, "a full pool", fullPool, 9, s, isFull)
	checkHeard(t, "a full pool and seen", knows(fullPool, s), 9, s, isFull)
	checkHeard(t, "no room for the tag", noTag, 9, s, isFull)
	checkHeard(t, "no room for cell and tag", nothing, 9, s, isFull)
	checkHeard(t, "no room for cell and tag, and seen", knows(nothing, s), 9, s, isFull)
	for _, n := range []impl.Node{room, noTag} {
		got := checkHeard(t, "seen", knows(n, s), 9, s, isSeen)
		checkSame(t, "the node after a known tag", got, knows(n, s))
	}
	for next := range nodeCount {
		got := checkHeard(t, "a cell for any node", room, 9, relayed(11, next, 300), isHeld)
		check(t, "the next hop", got.Pool.L[mostHeld-1].Next, next)
	}
	for _, length := range []int{12, 13, 24, 25, 48, 67, 68} {
		checkHeard(t, "a cell with any content", room, 9, sending{11, 3, 300, data(length)}, isHeld)
	}
}

// hearings are for nodes with a good, a full or no desk.
func hearings(due int) []sending {
	list := []sending{
		relayed(11, 0, due), relayed(11, 7, due), {11, 3, due, data(12)}, {11, 3, due, data(mostContent)},
		{11, 3, due, data(11)}, {11, nodeCount, due, data(20)}, {11, exit, due, data(25)}, {11, exit, due, data(24)},
		loaded(11, due), loaded(11, due, 7, 0, 1), loaded(11, due, 5, 0, 1), loaded(11, due, 7, 1, 2), loaded(11, due, 7, 0, 9, 1),
	}
	pieces := []impl.Piece{
		onlyPiece(7), onlyPiece(50), onlyPiece(9), onlyPiece(5), onlyPiece(0), onlyPiece(lastId), {Id: 101, Total: 1, Data: data(fullPart)},
	}
	pieces = append(pieces, someOf(3, 3, 0, 1, 2)...)
	pieces = append(pieces, someOf(200, 4, 0, 1, 3)...)
	pieces = append(pieces, someOf(7, 8, 0, 7)...)
	pieces = append(pieces, someOf(50, 3, 1)...)
	pieces = append(pieces, someOf(3, 4, 1)...)
	pieces = append(pieces, someOf(0, 2, 0, 1)...)
	for _, p := range pieces {
		list = append(list, carried(11, p, due))
	}
	return list
}

func TestHearInEveryState(t *testing.T) {
	codes := map[int]int{}
	desks := []impl.Desk{{}, goodDesk(), fullDesk(), {Done: counted(mostDone)}}
	for _, cells := range []int{0, mostHeld - 1, mostHeld} {
		for _, tags := range []int{0, mostTags - 1, mostTags} {
			for _, d := range desks {
				n := nodeOf(poolOf(cells, tags), d)
				for i, s := range hearings(10) {
					for _, n := range []impl.Node{n, knows(n, s)} {
						_, code := hear(t, n, 9, s)
						codes[code]++
						if i%4 == 0 {
							_, code = hear(t, n, 10, s)
							codes[code]++
						}
					}
				}
			}
		}
	}
	for code := isHeld; code <= isOdd; code++ {
		if codes[code] == 0 {
			t.Errorf("no call with the code %d", code)
		}
	}
}

func TestHearOfAnyNode(t *testing.T) {
	for i, n := range goodNodes() {
		for j, s := range hearings(300) {
			if (i+j)%7 == 0 {
				hear(t, n, 299, s)
			}
		}
	}
	for i, secret := range goodSecrets() {
		n := goodNode()
		n.Secret = receivers()[i]
		s := relayed(secret, i%nodeCount, 300+i)
		got := checkHeard(t, "a cell", n, 9, s, isHeld)
		checkHeard(t, "a cell again", got, 9, s, isSeen)
		s = carried(secret, onlyPiece(100+i), 300+i)
		got = checkHeard(t, "a fragment", n, 9, s, isWhole)
		checkHeard(t, "a fragment again", got, 9, s, isSeen)
	}
}

// A cell that found no room on the desk has left no tag, so that it may come again.
func TestACellWithoutRoomMayComeAgain(t *testing.T) {
	s := carried(11, someOf(50, 3, 1)[0], lastDue)
	n := checkHeard(t, "a seventh message", nodeOf(goodPool(), fullDesk()), 0, s, isFull)
	n, gone := impl.NodeTick(n, 9)
	checkFlag(t, "that messages are gone", gone > 0, true)
	n = checkHeard(t, "the seventh message again", n, 9, s, isPart)
	checkHeard(t, "the seventh message once more", n, 9, s, isSeen)
	s = relayed(11, 3, lastDue)
	n = checkHeard(t, "a thirteenth cell", nodeOf(poolOf(mostHeld, 5), impl.Desk{}), 0, s, isFull)
	n, _, _ = impl.NodeFlush(n, 1, make([]byte, mostHeld))
	n = checkHeard(t, "the thirteenth cell again", n, 9, s, isHeld)
	checkHeard(t, "the thirteenth cell once more", n, 9, s, isSeen)
}

// The messages are kept in the order in which they were completed.
func TestTheOrderOfReceivedMessages(t *testing.T) {
	n := impl.Node{Id: 2, Secret: 1002}
	var ids []int
	secret := 20
	for _, id := range []int{200, 3, 255, 0, 100} {
		for at, p := range piecesOf(id, drawn(id*3%mostMsg, id)) {
			secret++
			n, _ = hear(t, n, 9, carried(secret, p, 300-at))
		}
		ids = append(ids, id)
		check(t, "the number of messages", len(n.Got), len(ids))
		for i, l := range n.Got {
			check(t, "the Id of a message", l.Id, ids[i])
			checkBytes(t, "a message", l.B, drawn(l.Id*3%mostMsg, l.Id))
		}
	}
	checkNodes(t, "Done", n.Desk.Done, 0, 3, 100, 200, 255)
}

func TestHearIsNewMemory(t *testing.T) {
	codes := map[int]int{}
	for _, n := range memoryNodes() {
		for i, s := range hearings(300) {
			for _, now := range []int{9, 300, -1} {
				if now != 9 && i%9 != 0 {
					continue
				}
				call := func(in NodeInput) noded {
					got, code := impl.Hear(in.Node, now, in.Cell, in.Bytes)
					return noded{Node: got, N: code}
				}
				for _, n := range []impl.Node{n, knows(n, s)} {
					in := NodeInput{n, s.cellFor(goodNode()), hearPad()}
					checkNested(t, "Hear", in, call)
					codes[call(in).N]++
				}
			}
		}
	}
	for code := -1; code <= isOdd; code++ {
		if codes[code] == 0 {
			t.Errorf("no call with the code %d", code)
		}
	}
	in := sharingNode()
	for i, s := range append(hearings(300), carried(11, someOf(4, 3, 1)[0], 300)) {
		got, code := impl.Hear(in.Node, []int{9, 300}[i%2], s.cellFor(in.Node), in.Bytes)
		checkSeparate(t, fmt.Sprintf("Hear with the code %d", code), noded{Node: got})
	}
}
