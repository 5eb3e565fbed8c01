package tests

import (
	"fmt"
	"slices"
	"testing"

	"loop.example/g00611/impl"
)

// The signature that chapter 7 gives.
var _ func(impl.Net, []int, int, int, []byte) (impl.Net, bool) = impl.Send

func goodPosting() posting {
	return posting{[]int{3, 6}, 400, 33, []byte("a letter of two pieces")}
}

// longestPosting needs the most cells and the most secrets.
func longestPosting() posting {
	return posting{[]int{7, 0, 7, 1}, lastDue, 77, drawn(mostMsg, 1)}
}

// sendRoutes has every length of a route.
func sendRoutes() [][]int {
	return [][]int{{0}, {7}, {3, 6}, {7, 0}, {2, 5, 2}, {7, 6, 5}, {0, 7, 0, 7}, {1, 2, 3, 4}}
}

// badPostings has one fault each.
func badPostings() map[string]posting {
	list := map[string]posting{}
	with := func(what string, change func(p *posting)) {
		p := goodPosting()
		change(&p)
		list[what] = p
	}
	for _, route := range badRoutes() {
		with(fmt.Sprintf("the route %v", route), func(p *posting) { p.route = route })
	}
	for _, due := range append([]int{-1, -2, lastDue + 1, lastDue + 2}, farNumbers...) {
		with(fmt.Sprintf("the due time %d", due), func(p *posting) { p.due = due })
	}
	for _, id := range append([]int{-1, -2, lastId + 1, lastId + 2, 512}, farNumbers...) {
		with(fmt.Sprintf("the id %d", id), func(p *posting) { p.id = id })
	}
	for _, length := range []int{mostMsg + 1, mostMsg + 2, 256, 1000, 70000} {
		with(fmt.Sprintf("a message of %d bytes", length), func(p *posting) { p.msg = data(length) })
	}
	return list
}

// refusingNets have one reason each, and several ones, for which a posting with the id 33 is not sent.
func refusingNets() map[string]impl.Net {
	list := map[string]impl.Net{}
	for reasons := 1; reasons < 32; reasons++ {
		n := countedNet(sendBag, mostSent-1, sendSeen)
		n.Count = sendCount
		has := func(reason int) bool { return reasons>>reason%2 == 1 }
		if has(0) {
			n.Sent[11].Id = 33
		}
		if has(1) {
			n.Sent = append(n.Sent, sent(34, 3, 4))
		}
		if has(2) {
			n.Bag = mails(sendBag + 1)
		}
		if has(3) {
			n.Seen = glances(sendSeen+1, 0)
		}
		if has(4) {
			n.Count++
		}
		list[fmt.Sprintf("the reasons %05b", reasons)] = n
	}
	for at := range 3 {
		list[fmt.Sprintf("the id of message %d", at)] = netWith(func(n *impl.Net) { n.Sent[at].Id = 33 })
	}
	list["a full bag"] = countedNet(mostBag, 0, 0)
	list["a full network"] = fullNet()
	list["the most glances"] = countedNet(0, 0, mostSeen)
	for _, count := range []int{sendCount + 2, sendCount + 50, lastCount - 1, lastCount} {
		list[fmt.Sprintf("the Count %d", count)] = netWith(func(n *impl.Net) { n.Count = count })
	}
	return list
}

func TestSend(t *testing.T) {
	n := netWith(func(n *impl.Net) { n.Count = 0 })
	p := goodPosting()
	got, ok := p.send(n)
	checkFlag(t, "Send", ok, true)
	// Two fragments, each with a secret for both nodes, and a padding.
	check(t, "Count", got.Count, 6)
	check(t, "the cells", len(got.Bag), 6)
	pubs := publicsOf([]int{17391, 25310, 33229, 41148, 49067, 56986, 64905, 72824})
	loads := []string{"\x21\x00\x02a letter of two piec", "\x21\x01\x02es"}
	secrets := [][]int{{1182774117, 1564452914}, {180326861, 562005658}}
	for i, load := range loads {
		cell := plan{p.route, pubs, secrets[i], 400, []byte(load), wantedFreshPad(5, 3+3*i)}.want()
		check(t, "To", got.Bag[4+i].To, 3)
		checkBytes(t, "a cell", got.Bag[4+i].Cell.B, cell)
	}
	checkSame(t, "the cells before", got.Bag[:4], n.Bag)
	checkSame(t, "Sent", got.Sent, append(slices.Clone(n.Sent), impl.Sent{Id: 33, To: 6, B: p.msg}))
	checkSame(t, "Seen", got.Seen, append(slices.Clone(n.Seen), impl.Glance{Now: 300, To: 3}, impl.Glance{Now: 300, To: 3}))
	checkSame(t, "the nodes", got.Nodes, n.Nodes)
	check(t, "Now", got.Now, 300)
	check(t, "Seed", got.Seed, 5)
}

// What Send draws is what the chapter says, and all of it: Count tells how much.
func TestTheDrawsOfSend(t *testing.T) {
	pieces := map[int]int{0: 1, 1: 1, 19: 1, fullPart: 1, fullPart + 1: 2, 39: 2, 40: 2, 41: 3, 100: 5, 140: 7, 141: 8, mostMsg - 1: 8, mostMsg: 8}
	for length, count := range pieces {
		for i, route := range sendRoutes() {
			for _, n := range []impl.Net{emptyNet(i), goodNet(), countedNet(sendBag, 0, 0)} {
				p := posting{route, 301 + i, 100 + i, drawn(length, i)}
				got, ok := send(t, n, p)
				checkFlag(t, "Send", ok, true)
				check(t, "Count", got.Count, n.Count+count*(len(route)+1))
				check(t, "the cells", len(got.Bag), len(n.Bag)+count)
				check(t, "the glances", len(got.Seen), len(n.Seen)+count)
				check(t, "the messages", len(got.Sent), len(n.Sent)+1)
			}
		}
	}
}

// A draw of its own belongs to each Seed and each Count.
func TestTheDrawsOfEachNet(t *testing.T) {
	for i, seed := range []int{0, 1, 5, 500, lastSeed - 1, lastSeed} {
		for j, count := range []int{0, 1, 70, 9999, sendCount - 1, sendCount} {
			n := emptyNet(seed)
			n.Count = count
			_, ok := send(t, n, posting{sendRoutes()[(i+j)%8], 9, i, drawn(50, j)})
			checkFlag(t, "Send", ok, true)
		}
	}
}

// Wrap refuses one secret key, which no network draws.
func TestWrapTakesEveryFreshSecret(t *testing.T) {
	for seed := range lastSeed + 1 {
		for count := range lastCount + 1 {
			if secret := wantedFreshSecret(seed, count); secret < 1 || secret > prime-2 || secret == halfSecret {
				t.Fatalf("the secret for %d and %d is %d", seed, count, secret)
			}
		}
	}
}

func TestSendAtTheLimits(t *testing.T) {
	for _, due := range []int{0, 1, 255, 256, 299, 300, 301, lastTime, lastNow, lastDue} {
		p := goodPosting()
		p.due = due
		send(t, goodNet(), p)
	}
	for _, id := range []int{0, 1, 2, 254, lastId} {
		p := goodPosting()
		p.id = id
		_, ok := send(t, emptyNet(5), p)
		checkFlag(t, "Send of an id", ok, true)
		_, ok = send(t, goodNet(), p)
		checkFlag(t, "Send of an id that may be there", ok, id != 0 && id != lastId)
	}
	n := countedNet(sendBag, mostSent-1, sendSeen)
	n.Count = sendCount
	got, ok := send(t, n, longestPosting())
	checkFlag(t, "Send of the most", ok, true)
	check(t, "the most cells", len(got.Bag), mostBag)
	check(t, "the most messages", len(got.Sent), mostSent)
	check(t, "the most glances", len(got.Seen), mostSeen)
	check(t, "Count", got.Count, sendCount+40)
	for _, now := range []int{0, 1, lastTime} {
		n.Now = now
		_, ok := send(t, n, longestPosting())
		checkFlag(t, "Send at a time", ok, true)
	}
}

// A message that needs no more room than there is may be refused, too.
func TestSendRefuses(t *testing.T) {
	short := posting{[]int{3}, 400, 33, nil}
	for what, n := range refusingNets() {
		for _, p := range []posting{short, goodPosting(), {[]int{0, 1, 2, 3}, 0, 33, drawn(mostMsg, 1)}} {
			got, ok := send(t, n, p)
			checkNet(t, "Send with "+what, got, n)
			checkFlag(t, "Send with "+what, ok, false)
		}
	}
}

// That a posting is not valid comes before any reason to refuse it.
func TestSendOfInvalidPostings(t *testing.T) {
	nets := refusingNets()
	nets["a good network"] = goodNet()
	nets["an empty network"] = emptyNet(0)
	for what, n := range nets {
		for fault, p := range badPostings() {
			checkNotSent(t, what+" and "+fault, n, p)
		}
		if len(n.Sent) == 0 {
			continue
		}
		for _, p := range []posting{
			{[]int{1, 1}, 400, n.Sent[0].Id, nil}, {nil, 400, n.Sent[0].Id, nil}, {[]int{8}, 400, n.Sent[0].Id, nil},
			{[]int{3}, -1, n.Sent[0].Id, nil}, {[]int{3}, lastDue + 1, n.Sent[0].Id, nil}, {[]int{3}, 400, n.Sent[0].Id, data(mostMsg + 1)},
		} {
			checkNotSent(t, what+" and a known id", n, p)
		}
	}
}

// One message after another, until there is no room for more.
func TestSendUntilTheBagIsFull(t *testing.T) {
	n := emptyNet(9)
	number := 0
	for id := range lastId {
		p := posting{sendRoutes()[id%8], 9, id, drawn(id*41%(mostMsg+1), id)}
		got, ok := send(t, n, p)
		if ok {
			number++
		}
		n = got
	}
	check(t, "the messages", number, len(n.Sent))
	checkFlag(t, "that the bag is nearly full", len(n.Bag) > sendBag, true)
	n = emptyNet(9)
	for id := range lastId {
		n, _ = send(t, n, posting{sendRoutes()[id%8], 9, lastId - id, nil})
	}
	check(t, "the messages", len(n.Sent), mostSent)
}

// Two messages of one id in different networks do not hinder each other.
func TestSendOfTheSameInTwoNets(t *testing.T) {
	p := goodPosting()
	first, ok := send(t, emptyNet(5), p)
	checkFlag(t, "Send", ok, true)
	second, ok := send(t, emptyNet(5), p)
	checkFlag(t, "Send", ok, true)
	checkSame(t, "the same network", second, first)
	third, ok := send(t, emptyNet(6), p)
	checkFlag(t, "Send", ok, true)
	checkFlag(t, "that another Seed gives another cell", slices.Equal(third.Bag[0].Cell.B, first.Bag[0].Cell.B), false)
}
