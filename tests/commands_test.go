package tests

import (
	"fmt"
	"math"
	"testing"

	"loop.example/g00611/impl"
)

// The signatures that chapter 8 gives for one command.
var (
	_ func(impl.Cmd) bool                       = impl.CmdOk
	_ func(impl.Net, impl.Cmd) (impl.Net, bool) = impl.Do
)

// The fields of a command have the types that the chapter gives.
var _ = impl.Cmd{Kind: int(0), At: int(0), N: int(0), Route: []int(nil), B: []byte(nil)}

// limits are what the fields of a command of one Kind may be, and how long.
type limits struct {
	at       [2]int
	n        [2]int
	hasRoute bool
	b        [2]int
}

func limitsOf(kind int) (limits, bool) {
	list := map[int]limits{
		sends:    {[2]int{0, lastId}, [2]int{0, lastDue}, true, [2]int{0, mostMsg}},
		delivers: {at: [2]int{0, math.MaxInt}},
		loses:    {at: [2]int{0, math.MaxInt}},
		doubles:  {at: [2]int{0, math.MaxInt}},
		ticks:    {},
		flushes:  {at: [2]int{0, nodeCount - 1}, n: [2]int{1, mostHeld}, b: [2]int{0, mostMsg}},
		forges:   {at: [2]int{0, nodeCount - 1}, b: [2]int{cellBytes, cellBytes}},
		restarts: {at: [2]int{0, nodeCount - 1}},
	}
	l, ok := list[kind]
	return l, ok
}

func isIn(number int, ends [2]int) bool { return ends[0] <= number && number <= ends[1] }

func isCmd(c impl.Cmd) bool {
	l, ok := limitsOf(c.Kind)
	isRouted := len(c.Route) == 0
	if l.hasRoute {
		isRouted = isRoute(c.Route)
	}
	return ok && isIn(c.At, l.at) && isIn(c.N, l.n) && isRouted && isIn(len(c.B), l.b)
}

func (p posting) command() impl.Cmd {
	return impl.Cmd{Kind: sends, At: p.id, N: p.due, Route: p.route, B: p.msg}
}

// goodCmds has the ends of what each field may be.
func goodCmds() []impl.Cmd {
	list := []impl.Cmd{goodPosting().command(), longestPosting().command(), {Kind: ticks}}
	for i, route := range sendRoutes() {
		list = append(list, impl.Cmd{Kind: sends, At: i, N: i, Route: route, B: drawn(i, i)})
	}
	for _, id := range []int{0, 1, 7, 8, 60, 254, lastId} {
		list = append(list, impl.Cmd{Kind: sends, At: id, Route: []int{3}})
	}
	for _, due := range []int{0, 1, 12, 13, 255, 256, lastTime, lastNow, lastDue - 1, lastDue} {
		list = append(list, impl.Cmd{Kind: sends, At: 9, N: due, Route: []int{3, 6}})
	}
	for _, length := range []int{0, 1, 79, cellBytes, 81, mostMsg - 1, mostMsg} {
		list = append(list, impl.Cmd{Kind: sends, At: 9, N: 9, Route: []int{3}, B: drawn(length, 1)})
		list = append(list, impl.Cmd{Kind: flushes, At: 3, N: 1, B: drawn(length, 1)})
	}
	for _, kind := range []int{delivers, loses, doubles} {
		for _, at := range []int{0, 1, 3, 4, nodeCount, mostBag - 1, mostBag, 255, 256, lastDue + 1, 1 << 32, math.MaxInt} {
			list = append(list, impl.Cmd{Kind: kind, At: at})
		}
	}
	for node := range nodeCount {
		list = append(list, impl.Cmd{Kind: flushes, At: node, N: 1}, impl.Cmd{Kind: restarts, At: node})
		list = append(list, impl.Cmd{Kind: forges, At: node, B: drawn(cellBytes, node)})
	}
	for need := 1; need <= mostHeld; need++ {
		list = append(list, impl.Cmd{Kind: flushes, At: 2, N: need, B: drawn(40, need)})
	}
	return list
}

// usualCmds has one command of each Kind, at its place.
func usualCmds() []impl.Cmd {
	return []impl.Cmd{
		sends:    goodPosting().command(),
		delivers: {Kind: delivers, At: 1},
		loses:    {Kind: loses, At: 1},
		doubles:  {Kind: doubles, At: 1},
		ticks:    {Kind: ticks},
		flushes:  {Kind: flushes, At: 3, N: 3, B: drawn(20, 3)},
		forges:   {Kind: forges, At: 3, B: drawn(cellBytes, 3)},
		restarts: {Kind: restarts, At: 3},
	}
}

// badCmds has one fault each.
func badCmds() map[string]impl.Cmd {
	list := map[string]impl.Cmd{}
	for kind, usual := range usualCmds() {
		with := func(what string, change func(c *impl.Cmd)) {
			c := anew(usual)
			change(&c)
			list[fmt.Sprintf("the Kind %d and %s", kind, what)] = c
		}
		for _, number := range append([]int{-1, -2, restarts + 1, restarts + 2, 255}, farNumbers...) {
			with(fmt.Sprintf("another Kind, %d", number), func(c *impl.Cmd) { c.Kind = number })
			if number < 0 {
				with(fmt.Sprintf("the At %d", number), func(c *impl.Cmd) { c.At = number })
				with(fmt.Sprintf("the N %d", number), func(c *impl.Cmd) { c.N = number })
				with(fmt.Sprintf("the Route [%d]", number), func(c *impl.Cmd) { c.Route = []int{number} })
			}
		}
		for _, length := range []int{mostMsg + 1, mostMsg + 2, 256, 336, 1000, 70000} {
			with(fmt.Sprintf("%d bytes", length), func(c *impl.Cmd) { c.B = data(length) })
		}
		addFieldFaults(kind, with)
	}
	return list
}

// addFieldFaults adds commands with a field beyond its limits for the Kind, or with one that it has not.
func addFieldFaults(kind int, with func(what string, change func(c *impl.Cmd))) {
	l, _ := limitsOf(kind)
	if l.at[1] < math.MaxInt {
		for _, at := range []int{l.at[1] + 1, l.at[1] + 2, l.at[1] + 256, math.MaxInt} {
			with(fmt.Sprintf("the At %d", at), func(c *impl.Cmd) { c.At = at })
		}
	}
	for _, n := range []int{l.n[0] - 1, l.n[1] + 1, l.n[1] + 2, math.MaxInt} {
		with(fmt.Sprintf("the N %d", n), func(c *impl.Cmd) { c.N = n })
	}
	for length := range mostMsg + 1 {
		if !isIn(length, l.b) {
			with(fmt.Sprintf("%d bytes", length), func(c *impl.Cmd) { c.B = data(length) })
		}
	}
	routes := badRoutes()
	if !l.hasRoute {
		routes = append(sendRoutes(), []int{0, 0}, []int{nodeCount}, make([]int, 5))
	}
	for _, route := range routes {
		with(fmt.Sprintf("the Route %v", route), func(c *impl.Cmd) { c.Route = route })
	}
}

func TestCommandConstants(t *testing.T) {
	for kind, number := range []int{
		impl.CmSend, impl.CmDeliver, impl.CmLose, impl.CmTwice, impl.CmTick, impl.CmFlush, impl.CmForge, impl.CmRestart,
	} {
		check(t, "the number of a Kind", number, kind)
	}
}

func TestCmdOk(t *testing.T) {
	for _, c := range append(goodCmds(), usualCmds()...) {
		checkFlag(t, fmt.Sprintf("CmdOk(%v)", c), impl.CmdOk(c), true)
		checkFlag(t, fmt.Sprintf("whether the wanted ones have %v", c), isCmd(c), true)
	}
	for what, c := range badCmds() {
		checkFlag(t, "CmdOk with "+what, impl.CmdOk(c), false)
		checkFlag(t, "whether the wanted ones have "+what, isCmd(c), false)
	}
	checkFlag(t, "CmdOk of the zero value", impl.CmdOk(impl.Cmd{}), false)
	checkFlag(t, "CmdOk with empty lists", impl.CmdOk(impl.Cmd{Kind: ticks, Route: []int{}, B: []byte{}}), true)
	checkFlag(t, "CmdOk with a long route", impl.CmdOk(impl.Cmd{Route: make([]int, 100000)}), false)
}

// Every Kind with numbers and lists that other Kinds may have.
func TestCmdOkOfAllFieldsTogether(t *testing.T) {
	numbers := []int{math.MinInt, -1, 0, 1, 7, 8, 12, 13, 255, 256, lastDue, lastDue + 1, math.MaxInt}
	routes := [][]int{nil, {}, {3}, {3, 6}, {0, 7, 0, 7}, {3, 3}, {8}, {-1}, {0, 1, 2, 3, 4}}
	times := map[bool]int{}
	for _, kind := range append([]int{math.MinInt, -1, restarts + 1, math.MaxInt}, counted(restarts+1)...) {
		for _, at := range numbers {
			for _, n := range numbers {
				for _, route := range routes {
					for _, length := range []int{0, 1, 79, cellBytes, 81, mostMsg, mostMsg + 1} {
						c := impl.Cmd{Kind: kind, At: at, N: n, Route: route, B: data(length)}
						want := isCmd(c)
						times[want]++
						if impl.CmdOk(c) != want {
							t.Errorf("CmdOk(%v) = %v", c, !want)
						}
					}
				}
			}
		}
	}
	checkFlag(t, "that enough of them are valid", times[true] > 1000 && times[false] > 1000, true)
}

// wantedDo takes a valid network and a valid command only.
func wantedDo(n impl.Net, c impl.Cmd) (impl.Net, bool) {
	takes := c.Kind == delivers || c.Kind == loses || c.Kind == doubles
	switch {
	case takes && c.At >= len(n.Bag), c.Kind == delivers && n.Count == lastCount, c.Kind == ticks && n.Now == lastTime:
		return n, false
	case c.Kind == sends:
		return posting{c.Route, c.N, c.At, c.B}.wanted(n)
	case c.Kind == delivers:
		after, _ := wantedDeliver(n, c.At)
		return after, true
	case c.Kind == loses:
		return wantedLose(n, c.At), true
	case c.Kind == doubles:
		return wantedTransmit(n, n.Bag[c.At].To, n.Bag[c.At].Cell.B)
	case c.Kind == ticks:
		return wantedTickNet(n), true
	case c.Kind == flushes:
		after, cells := wantedFlushAt(n, c.At, c.N, c.B)
		return after, cells >= 0
	case c.Kind == forges:
		return wantedTransmit(n, c.At, c.B)
	}
	return n, true
}

// do calls Do with a valid network and a valid command, and compares its results with the wanted ones.
func do(t *testing.T, n impl.Net, c impl.Cmd) (impl.Net, bool) {
	t.Helper()
	want, wantOk := wantedDo(n, c)
	got, ok := impl.Do(n, c)
	what := fmt.Sprintf("Do(%v)", c)
	checkNet(t, what, got, want)
	checkFlag(t, what, ok, wantOk)
	return got, ok
}

// doesNothing wants the same network and false.
func doesNothing(t *testing.T, what string, n impl.Net, c impl.Cmd) {
	t.Helper()
	got, ok := do(t, n, c)
	checkNet(t, what+": Do", got, n)
	checkFlag(t, what+": Do", ok, false)
}

func does(t *testing.T, what string, n impl.Net, c impl.Cmd) impl.Net {
	t.Helper()
	got, ok := do(t, n, c)
	checkFlag(t, what+": Do", ok, true)
	return got
}

func checkNotDone(t *testing.T, what string, n impl.Net, c impl.Cmd) {
	t.Helper()
	got, ok := impl.Do(n, c)
	checkNoNet(t, what+": Do", got)
	checkFlag(t, what+": Do", ok, false)
}

// Each command is the operation whose name it has.
func TestDoIsTheOperation(t *testing.T) {
	p := goodPosting()
	draws, cell := drawn(20, 3), drawn(cellBytes, 3)
	for _, n := range []impl.Net{goodNet(), busyNet(), countedNet(3, 3, 3), flushNet(5, 3, 3), fullNet()} {
		want := []netted{
			sends:    netFlag(p.send(n)),
			delivers: netNumber(impl.Deliver(n, 1)),
			loses:    netFlag(impl.Lose(n, 1)),
			doubles:  netFlag(impl.Twice(n, 1)),
			ticks:    netFlag(impl.TickNet(n)),
			flushes:  netNumber(impl.FlushAt(n, 3, 3, draws)),
			forges:   netFlag(impl.Forge(n, 3, cell)),
			restarts: netFlag(impl.Restart(n, 3)),
		}
		for kind, c := range usualCmds() {
			got, ok := do(t, n, c)
			if !ok {
				want[kind].Net = n
			}
			checkLong(t, fmt.Sprintf("the network after the Kind %d", kind), got, want[kind].Net)
			isCode := kind == delivers && want[kind].N == isHeld
			checkFlag(t, fmt.Sprintf("Do of the Kind %d", kind), ok, want[kind].N > 0 || isCode)
		}
	}
}

func TestDo(t *testing.T) {
	numbers := map[[2]int]int{}
	nets := append(goodNets(), busyNet(), dueNet(300), flushNet(3, mostBag-2, 0), flushNet(mostHeld, 0, 0))
	for _, n := range nets {
		for _, c := range append(goodCmds(), usualCmds()...) {
			_, ok := do(t, n, c)
			numbers[[2]int{c.Kind, len(flagged(ok))}]++
		}
	}
	for kind := sends; kind <= restarts; kind++ {
		checkFlag(t, fmt.Sprintf("whether the Kind %d did something", kind), numbers[[2]int{kind, 1}] > 0, true)
		checkFlag(t, fmt.Sprintf("whether the Kind %d did nothing", kind), numbers[[2]int{kind, 0}] > 0, kind != restarts)
	}
}

// A cell that a node does not accept is delivered all the same.
func TestDoOfEveryCode(t *testing.T) {
	n := busyNet()
	for i, code := range busyCodes {
		got := does(t, fmt.Sprintf("a cell with the code %d", code), n, impl.Cmd{Kind: delivers, At: i})
		check(t, "Count", got.Count, n.Count+1)
		check(t, "the cells", len(got.Bag), len(n.Bag)-1)
	}
}

// A command does nothing for one of the reasons that the chapter names.
func TestDoOfElementsThatAreNotThere(t *testing.T) {
	for i, n := range append(goodNets(), busyNet()) {
		for _, kind := range []int{delivers, loses, doubles} {
			for _, at := range []int{len(n.Bag), len(n.Bag) + 1, mostBag, 256, 1 << 32, math.MaxInt} {
				doesNothing(t, fmt.Sprintf("network %d", i), n, impl.Cmd{Kind: kind, At: at})
			}
			for at := range len(n.Bag) {
				_, ok := do(t, n, impl.Cmd{Kind: kind, At: at})
				isFull := len(n.Bag) == mostBag || len(n.Seen) == mostSeen
				checkFlag(t, "Do", ok, kind == loses || kind == doubles && !isFull || kind == delivers && n.Count < lastCount)
			}
		}
	}
}

func TestDoAtTheLastCount(t *testing.T) {
	n := busyNet()
	for _, count := range []int{0, 70, sendCount, lastCount - 1, lastCount} {
		n.Count = count
		for _, at := range []int{0, 5, len(n.Bag) - 1, len(n.Bag), len(n.Bag) + 1} {
			_, ok := do(t, n, impl.Cmd{Kind: delivers, At: at})
			checkFlag(t, "Do of CmDeliver", ok, count < lastCount && at < len(n.Bag))
		}
		// Neither of these draws anything.
		for _, kind := range []int{loses, doubles, ticks, forges, restarts} {
			does(t, fmt.Sprintf("the Kind %d", kind), n, usualCmds()[kind])
		}
		_, ok := do(t, n, impl.Cmd{Kind: sends, At: 9, N: 400, Route: []int{3}})
		checkFlag(t, "Do of CmSend", ok, count <= sendCount)
	}
}

func TestDoAtTheLastTime(t *testing.T) {
	for _, now := range []int{0, 255, lastTime - 1} {
		n := netWith(func(n *impl.Net) { n.Now, n.Seen = now, nil })
		check(t, "Now", does(t, "a time", n, impl.Cmd{Kind: ticks}).Now, now+1)
	}
	n := netWith(func(n *impl.Net) { n.Now = lastTime })
	doesNothing(t, "the last time", n, impl.Cmd{Kind: ticks})
	doesNothing(t, "the last time", fullNet(), impl.Cmd{Kind: ticks})
	for _, kind := range []int{sends, delivers, loses, doubles, flushes, forges, restarts} {
		does(t, fmt.Sprintf("the Kind %d", kind), n, usualCmds()[kind])
	}
}

func TestDoOfMessagesThatAreRefused(t *testing.T) {
	for what, n := range refusingNets() {
		for _, p := range []posting{goodPosting(), {[]int{3}, 0, 33, nil}, {[]int{0, 1, 2, 3}, lastDue, 33, drawn(mostMsg, 1)}} {
			doesNothing(t, what, n, p.command())
		}
	}
}

func TestDoOfFlushes(t *testing.T) {
	for cells := range mostHeld + 1 {
		for _, counts := range [][2]int{{0, 0}, {mostBag - 4, 0}, {0, mostSeen - 4}, {mostBag, mostSeen}} {
			n := flushNet(cells, counts[0], counts[1])
			for _, need := range []int{1, 4, mostHeld} {
				for _, draws := range [][]byte{nil, make([]byte, max(0, cells-2)), make([]byte, max(0, cells-1)), drawn(mostMsg, 1)} {
					_, ok := do(t, n, impl.Cmd{Kind: flushes, At: 3, N: need, B: draws})
					hasRoom := counts[0]+cells <= mostBag && counts[1]+cells <= mostSeen
					checkFlag(t, "Do of CmFlush", ok, cells >= need && len(draws) >= cells-1 && hasRoom)
				}
			}
			doesNothing(t, "an empty pool", n, impl.Cmd{Kind: flushes, At: 2, N: 1, B: drawn(mostMsg, 1)})
		}
	}
}

func TestDoOfCellsWithoutRoom(t *testing.T) {
	for hasRoom, list := range roomy() {
		for _, counts := range list {
			n := countedNet(counts[0], mostSent, counts[1])
			for _, at := range []int{0, len(n.Bag) - 1, len(n.Bag)} {
				_, ok := do(t, n, impl.Cmd{Kind: doubles, At: at})
				checkFlag(t, "Do of CmTwice", ok, hasRoom && at < len(n.Bag))
			}
			for to := range nodeCount {
				_, ok := do(t, n, impl.Cmd{Kind: forges, At: to, B: drawn(cellBytes, to)})
				checkFlag(t, "Do of CmForge", ok, hasRoom)
			}
		}
	}
}

// That a command is not valid comes before any reason to do nothing.
func TestDoOfInvalidCommands(t *testing.T) {
	nets := refusingNets()
	for i, n := range []impl.Net{goodNet(), busyNet(), emptyNet(0), countedNet(mostBag, 0, mostSeen), flushNet(mostHeld, 0, 0)} {
		nets[fmt.Sprintf("network %d", i)] = n
	}
	for what, n := range nets {
		for fault, c := range badCmds() {
			checkNotDone(t, what+" and "+fault, n, c)
		}
		for _, c := range []impl.Cmd{
			{Kind: delivers, At: mostBag, N: 1}, {Kind: delivers, At: mostBag, Route: []int{3}}, {Kind: delivers, At: -1},
			{Kind: loses, At: mostBag, B: []byte{0}}, {Kind: doubles, At: mostBag, N: 1}, {Kind: ticks, At: 1}, {Kind: ticks, N: 1},
			{Kind: flushes, At: 1}, {Kind: flushes, At: 1, N: 1, Route: []int{3}}, {Kind: forges, At: 3}, {},
		} {
			checkNotDone(t, what, n, c)
		}
	}
}

// That a network is not valid comes first, whatever the command is.
func TestDoOfInvalidNets(t *testing.T) {
	list := usualCmds()
	for _, kind := range []int{delivers, loses, doubles} {
		list = append(list, impl.Cmd{Kind: kind, At: mostBag}, impl.Cmd{Kind: kind})
	}
	list = append(list, impl.Cmd{Kind: flushes, N: mostHeld}, impl.Cmd{Kind: sends, At: 9, Route: []int{3}})
	list = append(list, impl.Cmd{}, impl.Cmd{Kind: -1}, impl.Cmd{Kind: delivers, N: 1}, impl.Cmd{Kind: ticks, At: 1})
	for what, n := range badNets() {
		for _, c := range list {
			checkNotDone(t, fmt.Sprintf("%s and %v", what, c), n, c)
		}
	}
}
