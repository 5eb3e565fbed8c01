package tests

import (
	"bytes"
	"math"
	"slices"
	"testing"

	"loop.example/g00611/impl"
)

// The signatures that chapter 3 gives for cells and routes.
var (
	_ func(impl.Cell) bool                                             = impl.CellOk
	_ func([]int) bool                                                 = impl.RouteOk
	_ func(int, int) int                                               = impl.LayerSize
	_ func([]int, []int, []int, int, []byte, []byte) (impl.Cell, bool) = impl.Wrap
	_ func([]byte) (impl.Cell, bool)                                   = impl.Dummy
)

// The limits are written out here so that a wrong constant is found.
const (
	cellBytes = 80
	mostHops  = 4
	nodeCount = 8
	mostLoad  = 24
	exit      = 255
	lastDue   = 65535
)

// halfSecret is the one secret key with a power, P - 1, that is no public key.
const halfSecret = (prime - 1) / 2

// farNumbers are limits of nothing; some of them become small if they are cut to fewer bits.
var farNumbers = []int{math.MinInt, math.MinInt + 3, -1 << 32, -65536, -256, 1 << 16, 1 << 32, 1<<32 + 3, prime, math.MaxInt}

func nodeSecrets() []int {
	var list []int
	for node := range nodeCount {
		list = append(list, 1000+node)
	}
	return list
}

func publicsOf(secrets []int) []int {
	var list []int
	for _, secret := range secrets {
		list = append(list, wantedPower(7, secret))
	}
	return list
}

// countedBytes returns bytes that count on from a first one.
func countedBytes(first byte, length int) []byte {
	b := make([]byte, length)
	for i := range b {
		b[i] = first + byte(i)
	}
	return b
}

func zeroPad() []byte { return make([]byte, cellBytes) }

// wantedLayer follows the chapter word for word, but takes the number for the
// first four bytes and the length that the layer states, so that it can be
// wrong, too.
func wantedLayer(number int, shared int, next int, due int, stated int, content []byte) []byte {
	open := append([]byte{byte(next), byte(due >> 8), byte(due), byte(stated)}, content...)
	return withCode(number, wantedSeal(wantedKey(shared, 5), open))
}

// layerFor returns a layer without a fault for the node with a secret key.
func layerFor(receiver int, secret int, next int, due int, content []byte) []byte {
	number := wantedPower(7, secret)
	return wantedLayer(number, wantedPower(number, receiver), next, due, len(content), content)
}

// cellOf pads with bytes that are not zero, so that a test notices which padding is used.
func cellOf(b []byte) impl.Cell {
	return impl.Cell{B: append(bytes.Clone(b), countedBytes(200, cellBytes)[:cellBytes-len(b)]...)}
}

// plan is what Wrap takes.
type plan struct {
	route   []int
	pubs    []int
	secrets []int
	due     int
	load    []byte
	pad     []byte
}

func (p plan) wrap() (impl.Cell, bool) {
	return impl.Wrap(p.route, p.pubs, p.secrets, p.due, p.load, p.pad)
}

func (p plan) wrapped(t *testing.T) impl.Cell {
	t.Helper()
	c, ok := p.wrap()
	if !ok || len(c.B) != cellBytes {
		t.Fatalf("Wrap of %v returned %v and %t", p, c, ok)
	}
	return c
}

func (p plan) size() int { return 12*len(p.route) + len(p.load) }

func (p plan) want() []byte {
	b, next := p.load, exit
	for i := len(p.route) - 1; i >= 0; i-- {
		shared := wantedPower(p.pubs[p.route[i]], p.secrets[i])
		b = wantedLayer(wantedPower(7, p.secrets[i]), shared, next, p.due, len(b), b)
		next = p.route[i]
	}
	return append(bytes.Clone(b), p.pad[:cellBytes-len(b)]...)
}

// rest is the plan for the nodes after the first one.
func (p plan) rest() plan {
	p.route, p.secrets = p.route[1:], p.secrets[1:]
	return p
}

func goodPlan() plan {
	return plan{[]int{2, 5, 2}, publicsOf(nodeSecrets()), []int{11, 12, 13}, 300, []byte("load"), countedBytes(100, cellBytes)}
}

// goodSecrets are all that a layer may be made with, the edges among them.
func goodSecrets() []int {
	return slices.DeleteFunc(secretKeys(), func(secret int) bool { return secret == halfSecret })
}

// plans has routes of each length with loads, due times and secrets up to their limits.
func plans() []plan {
	routes := [][]int{
		{0}, {7}, {3}, {0, 7}, {7, 0}, {4, 5}, {0, 1, 0}, {2, 5, 2}, {7, 6, 5}, {1, 2, 3}, {0, 7, 0, 7}, {3, 1, 4, 1}, {7, 6, 5, 4}, {0, 1, 2, 3},
	}
	dues := []int{0, 1, 255, 256, 300, 32768, lastDue - 1, lastDue}
	secrets := goodSecrets()
	var list []plan
	for i, route := range routes {
		for j, length := range []int{0, 1, 2, 4, 11, 12, 23, 24} {
			p := goodPlan()
			p.route, p.due, p.load, p.pad = route, dues[(i+j)%len(dues)], data(length), drawn(cellBytes+i*j, i+j)
			p.secrets = nil
			for k := range route {
				p.secrets = append(p.secrets, secrets[(7*i+5*j+3*k)%len(secrets)])
			}
			list = append(list, p)
		}
	}
	return list
}

func checkFlag(t *testing.T, what string, got bool, want bool) {
	t.Helper()
	if got != want {
		t.Errorf("%s = %t, want %t", what, got, want)
	}
}

// flagged makes a result of a flag that checkMemory can compare.
func flagged(flag bool) []byte {
	if flag {
		return []byte{1}
	}
	return nil
}

func TestCellConstants(t *testing.T) {
	check(t, "CellSize", impl.CellSize, cellBytes)
	check(t, "MaxHops", impl.MaxHops, mostHops)
	check(t, "MaxNodes", impl.MaxNodes, nodeCount)
	check(t, "MaxLoad", impl.MaxLoad, mostLoad)
	check(t, "Exit", impl.Exit, exit)
}

func TestCellOk(t *testing.T) {
	checkFlag(t, "CellOk of no bytes", impl.CellOk(impl.Cell{}), false)
	for length := range 700 {
		checkFlag(t, "CellOk", impl.CellOk(impl.Cell{B: data(length)}), length == cellBytes)
		checkFlag(t, "CellOk of a part", impl.CellOk(impl.Cell{B: data(700)[:length]}), length == cellBytes)
	}
}

func TestRouteOk(t *testing.T) {
	for _, route := range [][]int{{0}, {7}, {0, 7}, {2, 5, 2}, {0, 1, 0, 1}, {7, 6, 5, 4}} {
		checkFlag(t, "RouteOk", impl.RouteOk(route), true)
	}
	for _, route := range badRoutes() {
		if impl.RouteOk(route) {
			t.Errorf("RouteOk(%v) = true", route)
		}
	}
	good := 0
	for length := range 5 {
		for list := range lists(length) {
			// The lists reach from -1 to length + 1; twice that reaches beyond the last node.
			for scale := range 3 {
				route := slices.Clone(list)
				for i := range route {
					route[i] *= scale + 1
				}
				if impl.RouteOk(route) != isRoute(route) {
					t.Errorf("RouteOk(%v) = %t", route, !isRoute(route))
				}
				if isRoute(route) {
					good++
				}
			}
		}
	}
	if good < 500 {
		t.Errorf("only %d routes are valid", good)
	}
}

func isRoute(route []int) bool {
	before := -1
	for _, node := range route {
		if node < 0 || node > 7 || node == before {
			return false
		}
		before = node
	}
	return len(route) >= 1 && len(route) <= 4
}

// badRoutes has one fault each.
func badRoutes() [][]int {
	list := [][]int{
		nil, {}, {0, 1, 2, 3, 4}, {0, 1, 0, 1, 0}, counted(nodeCount), slices.Repeat([]int{0, 1}, 100),
		{1, 1}, {0, 0}, {7, 7, 1}, {1, 7, 7}, {0, 1, 2, 2}, {2, 2, 1, 0}, {3, 1, 1, 3}, {3, 3, 3}, {5, 5, 5, 5},
		{-1}, {8}, {exit}, {0, 8}, {8, 0}, {-1, 0}, {0, 1, 2, -1}, {0, 1, 2, 8}, {0, exit}, {256}, {0, 257, 0},
	}
	for _, node := range farNumbers {
		list = append(list, []int{node}, []int{0, node}, []int{node, 1, 2, 3})
	}
	return list
}

func TestLayerSize(t *testing.T) {
	check(t, "LayerSize(1, 0)", impl.LayerSize(1, 0), 12)
	check(t, "LayerSize(3, 4)", impl.LayerSize(3, 4), 40)
	check(t, "LayerSize(4, 24)", impl.LayerSize(4, 24), 72)
	check(t, "LayerSize(4, 0)", impl.LayerSize(4, 0), 48)
	check(t, "LayerSize(1, 24)", impl.LayerSize(1, 24), 36)
	for hops := 1; hops <= mostHops; hops++ {
		for load := range mostLoad + 1 {
			check(t, "LayerSize", impl.LayerSize(hops, load), 12*hops+load)
		}
		for _, load := range append([]int{-1, -12, mostLoad + 1, mostLoad + 2}, farNumbers...) {
			check(t, "LayerSize of an invalid load", impl.LayerSize(hops, load), -1)
		}
	}
	for _, hops := range append([]int{0, -1, mostHops + 1, mostHops + 2}, farNumbers...) {
		for _, load := range []int{0, 1, mostLoad, -1, mostLoad + 1, math.MinInt, math.MaxInt} {
			check(t, "LayerSize of invalid hops", impl.LayerSize(hops, load), -1)
		}
	}
}

func TestWrap(t *testing.T) {
	pad := countedBytes(100, cellBytes)
	pubs := publicsOf(nodeSecrets())
	fixed := []struct {
		p      plan
		layers []byte
	}{
		{goodPlan(), []byte{
			117, 219, 156, 151, 18, 51, 138, 41, 164, 112, 108, 12, 230, 174, 54, 105, 113, 79, 212, 223,
			12, 15, 34, 26, 5, 2, 243, 18, 97, 161, 126, 50, 66, 77, 112, 239, 150, 229, 252, 77,
		}},
		{goodPlan().rest(), []byte{
			57, 1, 72, 39, 108, 163, 104, 84, 87, 37, 216, 211, 156, 106, 203, 21, 182, 7, 8, 119, 87, 169, 196, 108, 197, 199, 14, 140,
		}},
		{plan{[]int{7}, pubs, []int{prime - 2}, lastDue, nil, pad}, []byte{109, 182, 219, 109, 106, 179, 102, 170, 114, 163, 211, 251}},
		{plan{[]int{0, 7, 0, 7}, pubs, []int{1, prime - 2, 123456789, prime - 3}, 0, countedBytes(0, mostLoad), pad}, []byte{
			0, 0, 0, 7, 102, 38, 34, 206, 252, 202, 154, 85, 84, 190, 3, 202, 76, 216, 192, 241, 56, 216, 120, 232,
			38, 52, 60, 249, 27, 207, 216, 74, 200, 158, 110, 25, 102, 198, 179, 35, 65, 190, 71, 229, 218, 35, 99, 245,
			109, 46, 45, 110, 233, 38, 34, 226, 109, 46, 45, 110, 233, 46, 93, 242, 77, 46, 205, 110, 201, 54, 53, 242,
		}},
	}
	for _, f := range fixed {
		check(t, "LayerSize", impl.LayerSize(len(f.p.route), len(f.p.load)), len(f.layers))
		checkBytes(t, "a fixed cell", f.p.wrapped(t).B, append(f.layers, pad[:cellBytes-len(f.layers)]...))
	}
	for _, p := range plans() {
		checkBytes(t, "Wrap", p.wrapped(t).B, p.want())
	}
}

func TestAllCellsHaveTheSameSize(t *testing.T) {
	for _, p := range plans() {
		c := p.wrapped(t)
		check(t, "the size of a cell", len(c.B), cellBytes)
		checkFlag(t, "CellOk of a cell", impl.CellOk(c), true)
		checkBytes(t, "the padding of a cell", c.B[p.size():], p.pad[:cellBytes-p.size()])
	}
	for hops := 1; hops <= mostHops; hops++ {
		for length := range mostLoad + 1 {
			p := goodPlan()
			p.route, p.secrets, p.load = []int{1, 2, 1, 2}[:hops], []int{11, 12, 13, 14}[:hops], data(length)
			checkBytes(t, "Wrap", p.wrapped(t).B, p.want())
		}
	}
}

func TestWrapWithTheEdgesOfItsArguments(t *testing.T) {
	edges := map[string]func(p *plan){
		"the least due":              func(p *plan) { p.due = 0 },
		"the greatest due":           func(p *plan) { p.due = lastDue },
		"an empty load":              func(p *plan) { p.load = []byte{} },
		"no load":                    func(p *plan) { p.load = nil },
		"the longest load":           func(p *plan) { p.load = data(mostLoad) },
		"a longer pad":               func(p *plan) { p.pad = data(cellBytes + 1) },
		"a long pad":                 func(p *plan) { p.pad = data(1000) },
		"the least public key":       func(p *plan) { p.pubs[5] = 2 },
		"the greatest public key":    func(p *plan) { p.pubs[2] = prime - 2 },
		"the least secret":           func(p *plan) { p.secrets[0] = 1 },
		"the greatest secret":        func(p *plan) { p.secrets[2] = prime - 2 },
		"secrets beside the half":    func(p *plan) { p.secrets = []int{halfSecret - 1, halfSecret + 1, halfSecret + 2} },
		"equal secrets":              func(p *plan) { p.secrets = []int{11, 11, 11} },
		"equal public keys":          func(p *plan) { p.pubs = slices.Repeat([]int{49}, nodeCount) },
		"the secret of its own node": func(p *plan) { p.secrets = []int{1002, 1005, 1002} },
	}
	for what, edge := range edges {
		p := goodPlan()
		edge(&p)
		checkBytes(t, "Wrap with "+what, p.wrapped(t).B, p.want())
	}
}

func checkNotWrapped(t *testing.T, what string, p plan) {
	t.Helper()
	if c, ok := p.wrap(); ok || len(c.B) != 0 {
		t.Errorf("Wrap with %s = %v %t, want the zero value and false", what, c, ok)
	}
}

func TestWrapOfInvalidArguments(t *testing.T) {
	faults := map[string]func(p *plan){
		"no public keys":            func(p *plan) { p.pubs = nil },
		"a public key too few":      func(p *plan) { p.pubs = p.pubs[:7] },
		"a public key too many":     func(p *plan) { p.pubs = append(p.pubs, 49) },
		"no secrets":                func(p *plan) { p.secrets = nil },
		"a secret too few":          func(p *plan) { p.secrets = p.secrets[:2] },
		"a secret too many":         func(p *plan) { p.secrets = append(p.secrets, 14) },
		"a secret for each node":    func(p *plan) { p.secrets = nodeSecrets() },
		"a node too few":            func(p *plan) { p.route = p.route[:2] },
		"a negative due":            func(p *plan) { p.due = -1 },
		"a due too great":           func(p *plan) { p.due = lastDue + 1 },
		"a load too long":           func(p *plan) { p.load = data(mostLoad + 1) },
		"a load of a cell":          func(p *plan) { p.load = data(cellBytes) },
		"a load of more than 256":   func(p *plan) { p.load = data(256 + 4) },
		"no pad":                    func(p *plan) { p.pad = nil },
		"an empty pad":              func(p *plan) { p.pad = []byte{} },
		"a pad too short":           func(p *plan) { p.pad = p.pad[:cellBytes-1] },
		"a pad just for this route": func(p *plan) { p.pad = p.pad[:cellBytes-40] },
	}
	for what, fault := range faults {
		p := goodPlan()
		fault(&p)
		checkNotWrapped(t, what, p)
	}
	for _, due := range farNumbers {
		p := goodPlan()
		p.due = due
		checkNotWrapped(t, "a far due", p)
	}
}

func TestWrapForInvalidRoutes(t *testing.T) {
	for _, route := range badRoutes() {
		p := goodPlan()
		p.route, p.secrets = route, slices.Repeat([]int{11}, len(route))
		checkNotWrapped(t, "an invalid route", p)
	}
}

func TestWrapWithOtherNumbersThanKeys(t *testing.T) {
	for _, number := range notPublics() {
		// Nodes that are not on the route need a public key, too.
		for node := range nodeCount {
			p := goodPlan()
			p.pubs[node] = number
			checkNotWrapped(t, "no public key", p)
		}
	}
	for _, number := range append(notSecrets(), halfSecret) {
		for i := range 3 {
			p := goodPlan()
			p.secrets[i] = number
			checkNotWrapped(t, "no secret of a public key", p)
		}
	}
}

func TestDummy(t *testing.T) {
	for length := range 400 {
		c, ok := impl.Dummy(data(length))
		if length < cellBytes {
			if ok || len(c.B) != 0 {
				t.Errorf("Dummy of %d bytes = %v %t", length, c, ok)
			}
		} else if !ok || !bytes.Equal(c.B, data(cellBytes)) {
			t.Errorf("Dummy of %d bytes = %v %t", length, c, ok)
		}
	}
	if c, ok := impl.Dummy(nil); ok || len(c.B) != 0 {
		t.Errorf("Dummy of nil = %v %t", c, ok)
	}
}

func TestCellsAreNewMemory(t *testing.T) {
	for _, length := range []int{0, 79, 80, 81, 400} {
		checkMemory(t, "CellOk", data(length), func(b []byte) []byte { return flagged(impl.CellOk(impl.Cell{B: b})) })
		checkMemory(t, "Dummy", data(length), func(pad []byte) []byte {
			c, _ := impl.Dummy(pad)
			return c.B
		})
	}
	for _, route := range append(badRoutes(), []int{2, 5, 2}, []int{0, 1, 2, 3}, []int{7}) {
		checkMemory(t, "RouteOk", route, func(l []int) []byte { return flagged(impl.RouteOk(l)) })
	}
}

func TestWrapKeepsItsArguments(t *testing.T) {
	bad := goodPlan()
	bad.due = -1
	list := append(plans(), bad)
	for _, load := range [][]byte{nil, {}, data(mostLoad), data(mostLoad + 1)} {
		p := goodPlan()
		p.load = load
		list = append(list, p)
	}
	for _, p := range list {
		bytesOf := func(p plan) []byte {
			c, _ := p.wrap()
			return c.B
		}
		checkMemory(t, "Wrap, its route", p.route, func(l []int) []byte { q := p; q.route = l; return bytesOf(q) })
		checkMemory(t, "Wrap, its public keys", p.pubs, func(l []int) []byte { q := p; q.pubs = l; return bytesOf(q) })
		checkMemory(t, "Wrap, its secrets", p.secrets, func(l []int) []byte { q := p; q.secrets = l; return bytesOf(q) })
		checkMemory(t, "Wrap, its load", p.load, func(b []byte) []byte { q := p; q.load = b; return bytesOf(q) })
		checkMemory(t, "Wrap, its pad", p.pad, func(b []byte) []byte { q := p; q.pad = b; return bytesOf(q) })
	}
}
