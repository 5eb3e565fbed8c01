package tests

import (
	"fmt"
	"slices"
	"testing"

	"loop.example/g00611/impl"
)

// The signature that chapter 8 gives.
var _ func(impl.Net, []impl.Cmd) (impl.Net, int, bool) = impl.Run

const mostCmds = 200

// run calls Run with a valid network and valid commands, and compares its
// results with those of the commands one by one.
func run(t *testing.T, n impl.Net, l []impl.Cmd) (impl.Net, int) {
	t.Helper()
	want, number := n, 0
	for _, c := range l {
		after, ok := wantedDo(want, c)
		if ok {
			want = after
			number++
		}
	}
	got, done, ok := impl.Run(n, l)
	what := fmt.Sprintf("Run of %d commands", len(l))
	checkNet(t, what, got, want)
	check(t, what+": the number", done, number)
	checkFlag(t, what, ok, true)
	return got, done
}

func checkNotRun(t *testing.T, what string, n impl.Net, l []impl.Cmd) {
	t.Helper()
	got, done, ok := impl.Run(n, l)
	checkNoNet(t, what+": Run", got)
	check(t, what+": the number of Run", done, 0)
	checkFlag(t, what+": Run", ok, false)
}

// command is the happening as a command; an element that is not there is one behind the last.
func (h happening) command(n impl.Net) impl.Cmd {
	switch h.kind {
	case sends:
		return h.posting(n).command()
	case delivers, loses, doubles:
		at := h.place(n)
		if at < 0 {
			at = len(n.Bag) + h.n
		}
		return impl.Cmd{Kind: h.kind, At: at}
	case flushes:
		return impl.Cmd{Kind: flushes, At: h.at % nodeCount, N: 1 + h.n%3, B: h.b}
	case forges:
		return impl.Cmd{Kind: forges, At: h.at % nodeCount, B: h.forged(n)}
	case restarts:
		return impl.Cmd{Kind: restarts, At: h.at % nodeCount}
	}
	return impl.Cmd{Kind: h.kind}
}

// commandsFor makes commands of happenings, each for the network after the ones before it.
func commandsFor(n impl.Net, list []happening) []impl.Cmd {
	var l []impl.Cmd
	for _, h := range list {
		c := h.command(n)
		l = append(l, c)
		n, _ = impl.Do(n, c)
	}
	return l
}

// startNet is where a long list of commands begins: a new network, or one with
// little room, time or Count left.
func startNet(start int) impl.Net {
	n, _ := impl.NetNew(start * 37 % (lastSeed + 1))
	switch start % 4 {
	case 1:
		n = withNode(n, 3, fullNode())
		n = withNode(n, 5, nodeOf(poolOf(mostHeld-2, 5), fullDesk()))
	case 2:
		n.Now, n.Count = lastTime-5, lastCount-40
	case 3:
		n.Bag, n.Seen = mails(mostBag-4), glances(mostSeen-60, 0)
	}
	return n
}

func TestRun(t *testing.T) {
	n := emptyNet(5)
	l := []impl.Cmd{
		posting{[]int{3, 6}, 400, 33, []byte("a letter of two pieces")}.command(),
		{Kind: doubles, At: 1},
		{Kind: delivers, At: 3}, // There are three cells.
		{Kind: delivers, At: 2},
		{Kind: flushes, At: 3, N: 2}, // There is one of two cells.
		{Kind: delivers},
		{Kind: delivers},                       // The copy is recognized, and that is something, too.
		{Kind: flushes, At: 3, N: 2},           // There is no draw.
		{Kind: sends, At: 33, Route: []int{3}}, // The id is known.
		{Kind: flushes, At: 3, N: 2, B: []byte{0}},
		{Kind: ticks},
		{Kind: restarts, At: 6},
		{Kind: delivers, At: 1},
		{Kind: delivers},
		{Kind: loses}, // There is no cell.
	}
	got, done := run(t, n, l)
	check(t, "the number of Run", done, 10)
	check(t, "Now", got.Now, 1)
	check(t, "Count", got.Count, 6+5)
	check(t, "the cells", len(got.Bag), 0)
	checkSame(t, "Sent", got.Sent, []impl.Sent{{Id: 33, To: 6, B: l[0].B}})
	checkSame(t, "what node 6 has Got", got.Nodes[6].Got, []impl.Letter{{Id: 33, B: l[0].B}})
	checkSame(t, "Seen", got.Seen, []impl.Glance{{To: 3}, {To: 3}, {To: 3}, {To: 6}, {To: 6}})
}

func TestRunOfNoCommands(t *testing.T) {
	for _, n := range append(goodNets(), busyNet()) {
		for _, l := range [][]impl.Cmd{nil, {}, goodCmds()[:0]} {
			got, done := run(t, n, l)
			checkNet(t, "Run of no commands", got, n)
			check(t, "the number of Run", done, 0)
		}
	}
}

func TestRunOfOneCommand(t *testing.T) {
	for _, n := range []impl.Net{goodNet(), busyNet(), fullNet(), flushNet(4, mostBag-2, 0)} {
		for _, c := range append(goodCmds(), usualCmds()...) {
			got, done := run(t, n, []impl.Cmd{c})
			after, ok := impl.Do(n, c)
			checkLong(t, "Run of one command", got, after)
			check(t, "the number of Run", done, len(flagged(ok)))
		}
	}
}

func TestRunOfTheMostCommands(t *testing.T) {
	for kind, c := range usualCmds() {
		for _, n := range []impl.Net{goodNet(), busyNet(), countedNet(mostBag, 0, 0), netWith(func(n *impl.Net) { n.Now = lastTime - 9 })} {
			for _, count := range []int{mostCmds - 1, mostCmds} {
				run(t, n, slices.Repeat([]impl.Cmd{c}, count))
			}
			for _, count := range []int{mostCmds + 1, mostCmds + 2, 2 * mostCmds, 256 + 1, 70000} {
				checkNotRun(t, fmt.Sprintf("%d of the Kind %d", count, kind), n, slices.Repeat([]impl.Cmd{c}, count))
			}
		}
	}
	// The number does not count what does nothing, and the limit does.
	n := netWith(func(n *impl.Net) { n.Now = lastTime - 9 })
	_, done := run(t, n, slices.Repeat([]impl.Cmd{{Kind: ticks}}, mostCmds))
	check(t, "the number of ticks", done, 9)
	_, done = run(t, goodNet(), slices.Repeat([]impl.Cmd{{Kind: restarts}}, mostCmds))
	check(t, "the number of restarts", done, mostCmds)
	_, done = run(t, goodNet(), slices.Repeat([]impl.Cmd{{Kind: loses, At: 4}}, mostCmds))
	check(t, "the number of losses", done, 0)
	checkNotRun(t, "nothing to do", goodNet(), slices.Repeat([]impl.Cmd{{Kind: loses, At: 4}}, mostCmds+1))
}

// One invalid command is enough, wherever it stands.
func TestRunOfInvalidCommands(t *testing.T) {
	usual := usualCmds()
	idle := slices.Repeat([]impl.Cmd{{Kind: loses, At: mostBag}}, 5)
	for fault, c := range badCmds() {
		for _, l := range [][]impl.Cmd{nil, usual, idle} {
			for _, at := range []int{0, len(l) / 2, len(l)} {
				checkNotRun(t, fmt.Sprintf("%s at %d", fault, at), goodNet(), slices.Insert(slices.Clone(l), at, c))
			}
		}
	}
	most := slices.Repeat(usual, mostCmds/len(usual))
	for _, at := range []int{0, 1, mostCmds / 2, mostCmds - 2, mostCmds - 1} {
		l := slices.Clone(most)
		run(t, goodNet(), l)
		l[at].N += mostHeld
		l[at].Route = []int{3, 3}
		checkNotRun(t, fmt.Sprintf("an invalid one at %d", at), goodNet(), l)
		checkNotRun(t, fmt.Sprintf("an invalid one at %d", at), fullNet(), l)
		checkNotRun(t, fmt.Sprintf("an invalid one at %d, and too many", at), goodNet(), append(l, l...))
	}
	checkNotRun(t, "all invalid", goodNet(), make([]impl.Cmd, 3))
}

func TestRunOnInvalidNets(t *testing.T) {
	lists := [][]impl.Cmd{nil, {{Kind: ticks}}, usualCmds(), {{Kind: loses, At: mostBag}}, {{}}, make([]impl.Cmd, mostCmds+1)}
	lists = append(lists, slices.Repeat([]impl.Cmd{{Kind: ticks}}, mostCmds), slices.Repeat([]impl.Cmd{{Kind: ticks}}, mostCmds+1))
	for what, n := range badNets() {
		for _, l := range lists {
			checkNotRun(t, what, n, l)
		}
	}
}

// Promise 11, its second part: with every command, forged cells, too.
func TestRunIsDoOneByOne(t *testing.T) {
	numbers := map[[2]int]int{}
	for start := range 24 {
		n := startNet(start)
		l := commandsFor(n, happenings(mostCmds, start+400, append(honestKinds(), forges)...))
		one, number := n, 0
		for i, c := range l {
			before := one
			after, ok := do(t, one, c)
			one, number = after, number+len(flagged(ok))
			numbers[[2]int{c.Kind, len(flagged(ok))}]++
			checkTraffic(t, "Do", before, after, c.Kind)
			if i%40 == 0 {
				got, done := run(t, n, l[:i+1])
				checkLong(t, "Run of the first commands", got, one)
				check(t, "the number of Run", done, number)
			}
		}
		got, done := run(t, n, l)
		checkLong(t, "Run of all commands", got, one)
		check(t, "the number of Run", done, number)
		// In two parts they come to the same.
		first, some, ok := impl.Run(n, l[:start*8])
		checkFlag(t, "Run", ok, true)
		second, others, ok := impl.Run(first, l[start*8:])
		checkFlag(t, "Run", ok, true)
		checkLong(t, "Run in two parts", second, one)
		check(t, "the numbers of Run", some+others, number)
	}
	for kind := sends; kind <= restarts; kind++ {
		checkFlag(t, fmt.Sprintf("whether the Kind %d did something", kind), numbers[[2]int{kind, 1}] > 3, true)
		checkFlag(t, fmt.Sprintf("whether the Kind %d did nothing", kind), numbers[[2]int{kind, 0}] > 0, kind != restarts)
	}
}

// Promise 9: cells are doubled, delayed and lost, and nodes flushed and
// restarted, as a network goes on from one Run to the next.
func TestOnlyWhatWasSentArrives(t *testing.T) {
	received, copies, lost := 0, 0, 0
	for start := range 30 {
		n, _ := impl.NetNew(start * 29)
		for part := range 3 {
			l := commandsFor(n, happenings(mostCmds, 3*start+part+500, honestKinds()...))
			for i := 0; i <= len(l); i += 25 {
				some, _, ok := impl.Run(n, l[:i])
				checkFlag(t, "Run", ok, true)
				checkHonest(t, some)
				checkFlag(t, "Honest after Run", impl.Honest(some), true)
			}
			n, _ = run(t, n, l)
			for _, c := range l {
				copies += len(flagged(c.Kind == doubles))
				lost += len(flagged(c.Kind == loses))
			}
		}
		received += checkHonest(t, n)
		checkArrivals(t, n)
	}
	checkFlag(t, "that enough of it happened", received > 100 && copies > 1000 && lost > 500, true)
}

// checkArrivals wants Arrived of the ids whose message its receiver has Got, and of no others.
func checkArrivals(t *testing.T, n impl.Net) {
	t.Helper()
	for id := -1; id <= lastId+1; id++ {
		want := false
		for _, s := range n.Sent {
			_, ok := impl.LetterOf(n.Nodes[s.To], id)
			want = want || s.Id == id && ok
		}
		checkFlag(t, fmt.Sprintf("Arrived of %d", id), impl.Arrived(n, id), want)
	}
}

// deliveries are as many commands as it takes to deliver all cells in transit,
// in a drawn order.
func deliveries(cells int, draws []byte) []impl.Cmd {
	var l []impl.Cmd
	for left := cells; left > 0; left-- {
		l = append(l, impl.Cmd{Kind: delivers, At: int(draws[left]) % left})
	}
	return l
}

// journey has the commands for one message by a route, each node of which
// passes the cells on in a drawn order.
func journey(p posting, start int) []impl.Cmd {
	l := []impl.Cmd{p.command()}
	cells := len(piecesOf(p.id, p.msg))
	for i, node := range p.route {
		draws := drawn(100, start+i)
		l = append(l, deliveries(cells, draws)...)
		if draws[0] < 60 {
			l = append(l, impl.Cmd{Kind: restarts, At: node})
		}
		if draws[1] < 60 {
			l = append(l, impl.Cmd{Kind: ticks})
		}
		if i < len(p.route)-1 {
			l = append(l, impl.Cmd{Kind: flushes, At: node, N: cells, B: draws[20:]})
		}
	}
	return l
}

// Promise 10: by every route.
func TestCommandsBringAMessageByEveryRoute(t *testing.T) {
	number := 0
	for hops := 1; hops <= mostHops; hops++ {
		for route := range routesOf(hops) {
			n, _ := impl.NetNew(number * 3 % (lastSeed + 1))
			p := posting{route, 9, number % 256, drawn(number%(mostMsg+1), number)}
			l := journey(p, number)
			got, done, ok := impl.Run(n, l)
			what := fmt.Sprintf("the route %v", route)
			checkFlag(t, what+": Run", ok, true)
			check(t, what+": the number of Run", done, len(l))
			checkFlag(t, what+": Arrived", impl.Arrived(got, p.id), true)
			checkFlag(t, what+": Arrived of another id", impl.Arrived(got, (p.id+1)%256), false)
			checkFlag(t, what+": Honest", impl.Honest(got), true)
			checkFlag(t, what+": Resting", impl.Resting(got), true)
			checkArrived(t, what, got)
			number++
		}
	}
	check(t, "the number of routes", number, 8+8*7+8*7*7+8*7*7*7)
}

// Promise 10: however the nodes shuffle the fragments of a message, and in
// whatever order these arrive.
func TestCommandsBringAMessageInEveryOrder(t *testing.T) {
	const pieces = 4
	msg := drawn(pieces*fullPart-3, 9)
	sendOff := []impl.Cmd{
		posting{[]int{1, 4, 1}, lastDue, 200, msg}.command(),
		{Kind: delivers}, {Kind: delivers}, {Kind: delivers}, {Kind: delivers},
	}
	for first := range 24 {
		draws := []byte{byte(first % 4), byte(first / 4 % 3), byte(first / 12)}
		for second := range 24 {
			l := append(slices.Clone(sendOff), impl.Cmd{Kind: flushes, At: 1, N: pieces, B: draws})
			l = append(l, impl.Cmd{Kind: delivers, At: second % 4}, impl.Cmd{Kind: delivers, At: second / 4 % 3})
			l = append(l, impl.Cmd{Kind: delivers, At: second / 12}, impl.Cmd{Kind: delivers})
			l = append(l, impl.Cmd{Kind: flushes, At: 4, N: 1, B: []byte{255, byte(second), 3, byte(first), 0, 0}})
			for left := pieces; left > 0; left-- {
				l = append(l, impl.Cmd{Kind: delivers, At: (first + second) % left})
			}
			got, done, ok := impl.Run(emptyNet(first*24+second), l)
			checkFlag(t, "Run", ok, true)
			check(t, "the number of Run", done, len(l))
			checkFlag(t, "Arrived", impl.Arrived(got, 200), true)
			checkArrived(t, "in some order", got)
		}
	}
}

// nodeThatHolds is the first node, from some one on, with a cell in its pool, or -1.
func nodeThatHolds(n impl.Net, from int) int {
	for i := range nodeCount {
		if node := (from + i) % nodeCount; len(n.Nodes[node].Pool.L) > 0 {
			return node
		}
	}
	return -1
}

// together makes commands that send messages and bring all their cells to the
// end, in a drawn order, with no pool ever having more than it can hold.
func together(t *testing.T, n impl.Net, list []happening, start int) []impl.Cmd {
	t.Helper()
	var l []impl.Cmd
	add := func(c impl.Cmd) {
		n = does(t, "together", n, c)
		l = append(l, c)
	}
	for i, h := range list {
		add(posting{h.route, lastDue, i, drawn(int(h.at)%(3*fullPart+1), i)}.command())
	}
	draws := drawn(2000, start)
	for i := 0; !impl.Resting(n) && i < 1900; i++ {
		d := int(draws[i])
		at, node := d%max(1, len(n.Bag)), nodeThatHolds(n, d)
		isBlocked := len(n.Bag) == 0 || len(n.Nodes[n.Bag[at].To].Pool.L) == mostHeld
		switch {
		case d%9 == 0:
			add(impl.Cmd{Kind: restarts, At: d % nodeCount})
		case d%7 == 0:
			add(impl.Cmd{Kind: ticks})
		case node >= 0 && (isBlocked || d%3 == 0):
			add(impl.Cmd{Kind: flushes, At: node, N: 1, B: draws[i+1 : i+60]})
		case !isBlocked:
			add(impl.Cmd{Kind: delivers, At: at})
		}
	}
	return l
}

// Promise 10: several messages at once.
func TestCommandsBringMessagesTogether(t *testing.T) {
	for start := range 40 {
		n, _ := impl.NetNew(start * 23)
		list := happenings(6, start+600, sends)
		l := together(t, n, list, start)
		got, done := run(t, n, l)
		check(t, "the number of Run", done, len(l))
		for i := range list {
			checkFlag(t, "Arrived", impl.Arrived(got, i), true)
		}
		checkFlag(t, "Arrived of another id", impl.Arrived(got, len(list)), false)
		checkFlag(t, "Honest", impl.Honest(got), true)
		checkArrived(t, "together", got)
	}
}
