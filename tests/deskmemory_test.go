package tests

import (
	"fmt"
	"reflect"
	"runtime"
	"slices"
	"testing"

	"loop.example/g00611/impl"
)

// DeskInput has the arguments of Run, or of Do for one command; its fields are
// exported so that reflect can set them.
type DeskInput struct {
	Net  impl.Net
	Cmds []impl.Cmd
}

func doInput(in DeskInput) netted { return netFlag(impl.Do(in.Net, in.Cmds[0])) }

// runInput tells -1 where Run returns false.
func runInput(in DeskInput) netted {
	n, done, ok := impl.Run(in.Net, in.Cmds)
	if !ok {
		done--
	}
	return netted{n, done}
}

// memoryCmds has commands that do something, that do nothing, and that are not valid.
func memoryCmds() []impl.Cmd {
	list := append(usualCmds(), longestPosting().command())
	for _, kind := range []int{delivers, loses, doubles} {
		list = append(list, impl.Cmd{Kind: kind}, impl.Cmd{Kind: kind, At: mostBag})
	}
	return append(list,
		impl.Cmd{Kind: sends, At: 1, Route: []int{3, 6}, B: []byte{7}},
		impl.Cmd{Kind: sends, Route: []int{3}},
		impl.Cmd{Kind: flushes, At: 2, N: 1, B: drawn(mostMsg, 1)},
		impl.Cmd{Kind: flushes, At: 3, N: mostHeld, B: drawn(mostMsg, 1)},
		impl.Cmd{Kind: flushes, At: 3, N: 1},
		impl.Cmd{Kind: restarts, At: 2},
		impl.Cmd{Kind: sends, At: 1, Route: []int{3, 3}, B: drawn(20, 1)},
		impl.Cmd{Kind: forges, At: 3, B: drawn(cellBytes-1, 1)},
		impl.Cmd{Kind: ticks, Route: []int{3}, B: drawn(20, 1)},
	)
}

func TestDoIsNewMemory(t *testing.T) {
	numbers := map[[2]int]int{}
	for _, n := range memoryNets() {
		for _, c := range memoryCmds() {
			in := DeskInput{n, []impl.Cmd{c}}
			checkNested(t, fmt.Sprintf("Do(%v)", c), in, doInput)
			numbers[[2]int{c.Kind, doInput(in).N}]++
		}
	}
	for kind := sends; kind <= restarts; kind++ {
		for ok := range 2 {
			checkFlag(t, fmt.Sprintf("whether the Kind %d gave %d", kind, ok), numbers[[2]int{kind, ok}] > 0, true)
		}
	}
}

func TestRunIsNewMemory(t *testing.T) {
	good := memoryCmds()[:len(memoryCmds())-3]
	idle := []impl.Cmd{{Kind: loses, At: mostBag}, {Kind: doubles, At: mostBag}}
	lists := [][]impl.Cmd{
		nil, {}, good, memoryCmds(), idle, good[:1], slices.Repeat(good[1:2], 9), slices.Repeat(good[5:8], 3),
		slices.Repeat(idle, mostCmds/2), slices.Repeat(idle, mostCmds/2+1),
	}
	numbers := map[int]int{}
	for _, n := range append(memoryNets(), withGot(sentNet(), sentNet().Sent...)) {
		for _, l := range lists {
			in := DeskInput{n, l}
			checkNested(t, fmt.Sprintf("Run of %d commands", len(l)), in, runInput)
			numbers[runInput(in).N]++
		}
	}
	for _, number := range []int{-1, 0, 1, 9} {
		checkFlag(t, fmt.Sprintf("whether Run gave %d", number), numbers[number] > 0, true)
	}
}

func TestReportsAreNewMemory(t *testing.T) {
	for _, n := range append(memoryNets(), withGot(sentNet(), sentNet().Sent...)) {
		checkNested(t, "Honest", n, impl.Honest)
		checkNested(t, "Flows", n, impl.Flows)
		checkNested(t, "NetText", n, impl.NetText)
		for _, id := range []int{-1, 0, 1, 255} {
			checkNested(t, "Arrived", n, func(n impl.Net) bool { return impl.Arrived(n, id) })
		}
	}
	for _, c := range append(memoryCmds(), goodCmds()...) {
		checkNested(t, "CmdOk", c, impl.CmdOk)
	}
	for code := -1; code <= isOdd+1; code++ {
		checkNested(t, "CodeText", code, impl.CodeText)
	}
}

// A caller may write into a text: the next one is as it was.
func TestTextsMayBeWrittenInto(t *testing.T) {
	for code := isHeld; code <= isOdd; code++ {
		want := string(impl.CodeText(code))
		overwrite(impl.CodeText(code))
		checkBytes(t, "CodeText", impl.CodeText(code), []byte(want))
	}
	overwrite(impl.NetText(goodNet()))
	checkText(t, goodNet())
}

// The network and the commands have the same memory more than once: the results may not.
func TestCommandsThatShareMemoryAreSeparated(t *testing.T) {
	in := sharingNet()
	cell := in.Bytes
	route := in.Route
	list := []impl.Cmd{
		{Kind: forges, At: 2, B: cell}, {Kind: forges, At: 3, B: cell},
		{Kind: sends, At: 100, N: 99, Route: route, B: cell}, {Kind: sends, At: 101, N: 99, Route: route, B: cell},
		{Kind: doubles}, {Kind: doubles, At: 1}, {Kind: delivers}, {Kind: loses},
		{Kind: flushes, At: 2, N: 1, B: cell}, {Kind: flushes, At: 5, N: 1, B: cell},
		{Kind: restarts, At: 2}, {Kind: ticks}, {Kind: loses, At: mostBag}, {Kind: flushes, At: 7, N: mostHeld},
	}
	checkSeparated := func(what string, result netted) {
		if overlap(regions(reflect.ValueOf(&result).Elem())) {
			t.Errorf("%s: two slices of the result share memory", what)
		}
		runtime.KeepAlive(&result)
	}
	checkSeparated("Run of no commands", runInput(DeskInput{in.Net, nil}))
	for i, c := range list {
		one := DeskInput{in.Net, []impl.Cmd{c}}
		checkSeparated(fmt.Sprintf("Do(%v)", c), doInput(one))
		checkSeparated(fmt.Sprintf("Run of %v", c), runInput(one))
		all := DeskInput{in.Net, list[:i+1]}
		checkSeparated(fmt.Sprintf("Run of %d commands", i+1), runInput(all))
		checkFlag(t, "Run", runInput(all).N >= 0, true)
	}
}
