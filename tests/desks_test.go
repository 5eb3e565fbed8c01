package tests

import (
	"fmt"
	"math"
	"slices"
	"testing"

	"loop.example/g00611/impl"
)

// The signatures that chapter 4 gives for desks.
var (
	_ func(impl.Desk) bool                                      = impl.DeskOk
	_ func(impl.Desk, int) []int                                = impl.Missing
	_ func(impl.Desk) int                                       = impl.Lacking
	_ func(impl.Desk) []int                                     = impl.OpenIds
	_ func(impl.Desk, int) bool                                 = impl.IsDone
	_ func(impl.Desk, impl.Piece) bool                          = impl.Has
	_ func(impl.Desk, impl.Piece, int) (impl.Desk, []byte, int) = impl.TakePiece
	_ func(impl.Desk, int) (impl.Desk, int)                     = impl.LetGo
)

// The limits are written out here; the program keeps them to itself.
const (
	mostOpen = 6
	mostDone = 256
)

// numbersFrom returns a range of numbers, both inclusive.
func numbersFrom(first int, last int) []int {
	var list []int
	for n := first; n <= last; n++ {
		list = append(list, n)
	}
	return list
}

// someOf returns the fragments at some indices of a message that has total of them.
func someOf(id int, total int, at ...int) []impl.Piece {
	all := piecesOf(id, drawn(fullPart*total-7, id))
	var list []impl.Piece
	for _, i := range at {
		list = append(list, all[i])
	}
	return list
}

func partial(id int, total int, due int, at ...int) impl.Whole {
	return impl.Whole{Id: id, Total: total, Due: due, Got: someOf(id, total, at...)}
}

func goodDesk() impl.Desk {
	return impl.Desk{
		Open: []impl.Whole{partial(3, 3, 300, 0, 2), partial(200, 4, 20, 1, 2)},
		Done: []int{0, 5, 255},
	}
}

// fullDesk has as many Open messages as there may be.
func fullDesk() impl.Desk {
	return impl.Desk{
		Open: []impl.Whole{
			partial(0, 2, 0, 0), partial(1, 2, lastDue, 1), partial(7, 8, 1, 0, 1, 2, 3, 4, 5, 6),
			partial(8, 8, 9, 7), partial(100, 5, 300, 0, 2, 4), partial(lastId, 3, 9, 1, 2),
		},
		Done: []int{2, 9, 254},
	}
}

func goodDesks() []impl.Desk {
	one := func(w impl.Whole) impl.Desk { return impl.Desk{Open: []impl.Whole{w}} }
	list := []impl.Desk{
		{}, {Open: []impl.Whole{}, Done: []int{}}, goodDesk(), fullDesk(),
		{Done: []int{0}}, {Done: []int{lastId}}, {Done: []int{0, lastId}}, {Done: counted(mostDone)},
		{Done: counted(mostDone - 1)}, {Done: numbersFrom(1, lastId)},
		{Open: []impl.Whole{partial(7, 2, 9, 0)}, Done: append(counted(7), numbersFrom(8, lastId)...)},
		{Open: []impl.Whole{partial(lastId, 2, 9, 1)}, Done: counted(mostDone - 1)},
		{Open: fullDesk().Open[:5]}, {Open: fullDesk().Open},
		one(partial(0, 2, 0, 0)), one(partial(lastId, 8, lastDue, 1, 3, 5, 7)), one(partial(7, 3, 1, 2)),
	}
	for total := 2; total <= mostParts; total++ {
		list = append(list, one(partial(7, total, 300, counted(total-1)...)), one(partial(7, total, 300, total-1)))
	}
	for _, length := range []int{1, 2, 19, fullPart} {
		list = append(list, one(impl.Whole{Id: 7, Total: 8, Due: 9, Got: []impl.Piece{{Id: 7, At: 7, Total: 8, Data: data(length)}}}))
	}
	return list
}

// badDesks has one fault each, beside the faults that follow from it.
func badDesks() map[string]impl.Desk {
	list := map[string]impl.Desk{
		"a Done number below 0":          {Done: []int{-1, 4}},
		"a Done number above 255":        {Done: []int{4, 256}},
		"equal Done numbers":             {Done: []int{4, 4}},
		"descending Done numbers":        {Done: []int{5, 4}},
		"an early descent of Done":       {Done: []int{5, 4, 6}},
		"257 Done numbers":               {Done: counted(mostDone + 1)},
		"257 Done numbers, two equal":    {Done: append(counted(mostDone), lastId)},
		"many Done numbers":              {Done: make([]int, 100000)},
		"seven Open messages":            {Open: append(fullDesk().Open[:5], partial(101, 3, 9, 0), partial(102, 3, 9, 0))},
		"many Open messages":             {Open: slices.Repeat([]impl.Whole{partial(7, 3, 9, 0)}, 1000)},
		"equal Open messages":            {Open: []impl.Whole{partial(7, 3, 9, 0), partial(7, 3, 9, 0)}},
		"Open messages of one Id":        {Open: []impl.Whole{partial(7, 3, 9, 0), partial(7, 4, 9, 1)}},
		"descending Open messages":       {Open: []impl.Whole{partial(8, 3, 9, 0), partial(7, 3, 9, 0)}},
		"an empty Open message":          {Open: []impl.Whole{{}}},
		"a complete message of one part": {Open: []impl.Whole{partial(7, 1, 9, 0)}},
		"an empty complete message":      {Open: []impl.Whole{{Id: 7, Total: 1, Due: 9, Got: []impl.Piece{{Id: 7, Total: 1}}}}},
	}
	faults := map[string]func(d *impl.Desk, w *impl.Whole){
		"an Open message that is Done":       func(d *impl.Desk, w *impl.Whole) { d.Done = []int{0, 100, 200} },
		"a Due below 0":                      func(_ *impl.Desk, w *impl.Whole) { w.Due = -1 },
		"a Due above 65535":                  func(_ *impl.Desk, w *impl.Whole) { w.Due = lastDue + 1 },
		"a far Due":                          func(_ *impl.Desk, w *impl.Whole) { w.Due = 1 << 32 },
		"a far negative Due":                 func(_ *impl.Desk, w *impl.Whole) { w.Due = math.MinInt },
		"no fragment":                        func(_ *impl.Desk, w *impl.Whole) { w.Got = nil },
		"all fragments":                      func(_ *impl.Desk, w *impl.Whole) { w.Got = someOf(200, 4, 0, 1, 2, 3) },
		"more than all fragments":            func(_ *impl.Desk, w *impl.Whole) { w.Got = append(someOf(200, 4, 0, 1, 2, 3), someOf(200, 5, 4)...) },
		"equal fragments":                    func(_ *impl.Desk, w *impl.Whole) { w.Got = someOf(200, 4, 1, 1) },
		"fragments of one index":             func(_ *impl.Desk, w *impl.Whole) { w.Got[1].At = 1 },
		"descending fragments":               func(_ *impl.Desk, w *impl.Whole) { w.Got = someOf(200, 4, 2, 1) },
		"a late descent of fragments":        func(_ *impl.Desk, w *impl.Whole) { w.Got = someOf(200, 4, 0, 3, 2) },
		"fragments of another Id":            func(_ *impl.Desk, w *impl.Whole) { w.Got = someOf(201, 4, 1, 2) },
		"a fragment of another Id":           func(_ *impl.Desk, w *impl.Whole) { w.Got[1].Id = 201 },
		"a fragment of a Done Id":            func(_ *impl.Desk, w *impl.Whole) { w.Got[0].Id = 5 },
		"another Id":                         func(_ *impl.Desk, w *impl.Whole) { w.Id = 201 },
		"fragments of another Total":         func(_ *impl.Desk, w *impl.Whole) { w.Got = someOf(200, 5, 1, 2) },
		"a fragment of another Total":        func(_ *impl.Desk, w *impl.Whole) { w.Got[0].Total = 5 },
		"another Total":                      func(_ *impl.Desk, w *impl.Whole) { w.Total = 5 },
		"a Total of 0":                       func(_ *impl.Desk, w *impl.Whole) { w.Total = 0 },
		"a Total that becomes positive":      func(_ *impl.Desk, w *impl.Whole) { w.Total = math.MinInt },
		"a fragment that is not full":        func(_ *impl.Desk, w *impl.Whole) { w.Got[0].Data = data(19) },
		"a fragment that is too long":        func(_ *impl.Desk, w *impl.Whole) { w.Got[0].Data = data(21) },
		"a last fragment that is empty":      func(_ *impl.Desk, w *impl.Whole) { w.Got = []impl.Piece{{Id: 200, At: 3, Total: 4}} },
		"a fragment whose index is negative": func(_ *impl.Desk, w *impl.Whole) { w.Got[0].At = -1 },
		"a fragment whose index is Total":    func(_ *impl.Desk, w *impl.Whole) { w.Got[1].At = 4 },
		"numbers of messages below 0":        func(_ *impl.Desk, w *impl.Whole) { w.Id, w.Got[0].Id, w.Got[1].Id = -1, -1, -1 },
		"numbers of messages above 255":      func(_ *impl.Desk, w *impl.Whole) { w.Id, w.Got[0].Id, w.Got[1].Id = 256, 256, 256 },
		"fragments of nine":                  func(_ *impl.Desk, w *impl.Whole) { w.Total, w.Got[0].Total, w.Got[1].Total = 9, 9, 9 },
	}
	for what, fault := range faults {
		d := goodDesk()
		if what == "numbers of messages below 0" {
			d.Open = d.Open[1:]
		}
		fault(&d, &d.Open[len(d.Open)-1])
		list[what] = d
	}
	return list
}

// wantedTake follows the chapter: it works on lists and sorts nothing, but
// looks for the place of what it inserts.
func wantedTake(d impl.Desk, p impl.Piece, due int) (impl.Desk, []byte, int) {
	d = anew(d)
	if slices.Contains(d.Done, p.Id) {
		return d, nil, -1
	}
	at := 0
	for at < len(d.Open) && d.Open[at].Id < p.Id {
		at++
	}
	isNew := at == len(d.Open) || d.Open[at].Id != p.Id
	w := impl.Whole{Id: p.Id, Total: p.Total, Due: due}
	if !isNew {
		w = d.Open[at]
	}
	place := 0
	for _, q := range w.Got {
		if q.At == p.At {
			return d, nil, -1
		}
		if q.At < p.At {
			place++
		}
	}
	if w.Total != p.Total {
		return d, nil, -1
	}
	got := slices.Insert(slices.Clone(w.Got), place, p)
	if len(got) == p.Total {
		var msg []byte
		for _, q := range got {
			msg = append(msg, q.Data...)
		}
		if !isNew {
			d.Open = slices.Delete(d.Open, at, at+1)
		}
		before := 0
		for before < len(d.Done) && d.Done[before] < p.Id {
			before++
		}
		d.Done = slices.Insert(d.Done, before, p.Id)
		return d, msg, 1
	}
	w.Got = got
	if !isNew {
		d.Open[at] = w
		return d, nil, 0
	}
	if len(d.Open) == mostOpen {
		return d, nil, -2
	}
	d.Open = slices.Insert(d.Open, at, w)
	return d, nil, 0
}

// take calls TakePiece and compares its results with the wanted ones.
func take(t *testing.T, d impl.Desk, p impl.Piece, due int) (impl.Desk, []byte, int) {
	t.Helper()
	want, wantMsg, wantCode := wantedTake(d, p, due)
	got, msg, code := impl.TakePiece(d, p, due)
	what := fmt.Sprintf("TakePiece(%v, %v, %d)", d, p, due)
	checkSame(t, what, got, want)
	checkBytes(t, what, msg, wantMsg)
	check(t, what, code, wantCode)
	if !impl.DeskOk(got) {
		t.Errorf("%s left no valid desk: %v", what, got)
	}
	return got, msg, code
}

func checkNotTaken(t *testing.T, what string, d impl.Desk, p impl.Piece, due int) {
	t.Helper()
	got, msg, code := impl.TakePiece(d, p, due)
	checkSame(t, what+": the desk of TakePiece", got, impl.Desk{})
	checkBytes(t, what+": the message of TakePiece", msg, nil)
	check(t, what+": the code of TakePiece", code, -3)
}

func TestDeskOk(t *testing.T) {
	for _, d := range goodDesks() {
		checkFlag(t, fmt.Sprintf("DeskOk(%v)", d), impl.DeskOk(d), true)
	}
	for what, d := range badDesks() {
		checkFlag(t, "DeskOk with "+what, impl.DeskOk(d), false)
	}
}

// Everything else that takes a desk has a fixed value for one that is not valid.
func TestInvalidDesks(t *testing.T) {
	for what, d := range badDesks() {
		pieces := append(goodPieces()[:40], someOf(7, 3, 0, 1, 2)...)
		for _, w := range d.Open[:min(10, len(d.Open))] {
			pieces = append(pieces, w.Got...)
		}
		for _, p := range pieces {
			checkFlag(t, what+": Has", impl.Has(d, p), false)
			checkNotTaken(t, what, d, p, 9)
		}
		for _, now := range []int{math.MinInt, -1, 0, 9, 300, lastDue, math.MaxInt} {
			got, n := impl.LetGo(d, now)
			checkSame(t, what+": the desk of LetGo", got, impl.Desk{})
			check(t, what+": the number of LetGo", n, -1)
		}
		for _, id := range []int{-1, 0, 4, 5, 7, 8, 100, 200, 201, lastId, 256} {
			checkNodes(t, what+": Missing", impl.Missing(d, id))
			checkFlag(t, what+": IsDone", impl.IsDone(d, id), false)
		}
		checkNodes(t, what+": OpenIds", impl.OpenIds(d))
		check(t, what+": Lacking", impl.Lacking(d), -1)
	}
}

func TestTakePiece(t *testing.T) {
	msg := data(52)
	l := piecesOf(7, msg)
	d, got, code := impl.TakePiece(impl.Desk{}, l[2], 9)
	checkSame(t, "a first fragment", d, impl.Desk{Open: []impl.Whole{{Id: 7, Total: 3, Due: 9, Got: l[2:]}}})
	check(t, "a first fragment", code, 0)
	checkBytes(t, "a first fragment", got, nil)
	// The later fragments do not change when the message expires.
	e, got, code := impl.TakePiece(d, l[0], 10)
	checkSame(t, "a second fragment", e, impl.Desk{Open: []impl.Whole{{Id: 7, Total: 3, Due: 9, Got: []impl.Piece{l[0], l[2]}}}})
	check(t, "a second fragment", code, 0)
	checkBytes(t, "a second fragment", got, nil)
	f, got, code := impl.TakePiece(e, l[1], 0)
	checkSame(t, "the last fragment", f, impl.Desk{Done: []int{7}})
	check(t, "the last fragment", code, 1)
	checkBytes(t, "the message", got, msg)
	for _, p := range l {
		g, got, code := impl.TakePiece(f, p, 9)
		checkSame(t, "a late fragment", g, f)
		check(t, "a late fragment", code, -1)
		checkBytes(t, "a late fragment", got, nil)
	}
}

func TestMessagesOfOneFragment(t *testing.T) {
	for length := range fullPart + 1 {
		for _, id := range []int{0, 4, 100, 254, lastId} {
			for _, p := range piecesOf(id, data(length)) {
				d, msg, code := take(t, impl.Desk{Done: []int{3, 5}}, p, lastDue)
				check(t, "the only fragment", code, 1)
				checkBytes(t, "the message", msg, data(length))
				_, _, code = take(t, d, p, lastDue)
				check(t, "the only fragment again", code, -1)
			}
		}
	}
}

// permutations gives every order of 0 .. n - 1.
func permutations(n int) func(yield func([]int) bool) {
	return func(yield func([]int) bool) {
		order := counted(n)
		var from func(int) bool
		from = func(first int) bool {
			if first == n {
				return yield(order)
			}
			for i := first; i < n; i++ {
				order[first], order[i] = order[i], order[first]
				goOn := from(first + 1)
				order[first], order[i] = order[i], order[first]
				if !goOn {
					return false
				}
			}
			return true
		}
		from(0)
	}
}

// arrives takes fragments in an order, which counts on from the last one to
// the first one again, and checks that they yield the message, once.
func arrives(t *testing.T, msg []byte, order []int) {
	t.Helper()
	l := piecesOf(7, msg)
	d := goodDesk()
	present := map[int]bool{}
	times := 0
	for _, i := range order {
		at := i % len(l)
		after, got, code := impl.TakePiece(d, l[at], 300)
		wanted := 0
		if present[at] || len(present) == len(l) {
			wanted = -1
			checkSame(t, "the desk after a fragment again", after, d)
		} else if len(present) == len(l)-1 {
			wanted = 1
		}
		check(t, "the code of a fragment", code, wanted)
		if code == 1 {
			times++
			checkBytes(t, "the message", got, msg)
		} else {
			checkBytes(t, "no message yet", got, nil)
		}
		present[at] = true
		d = after
	}
	check(t, "the times of the message", times, 1)
	done := goodDesk()
	done.Done = []int{0, 5, 7, 255}
	checkSame(t, "the desk at the end", d, done)
}

func TestFragmentsInEveryOrderYieldTheMessage(t *testing.T) {
	for total := 1; total <= mostParts; total++ {
		lengths := []int{1, 19, fullPart}
		if total > 6 {
			lengths = lengths[:1]
		}
		for _, last := range lengths {
			for order := range permutations(total) {
				arrives(t, drawn(fullPart*(total-1)+last, total), order)
				if t.Failed() {
					return
				}
			}
		}
	}
	arrives(t, nil, []int{0})
}

// isFirstTwice reports whether each of the first numbers of an order comes
// before its double; any other order is the same one with two of them exchanged.
func isFirstTwice(order []int) bool {
	half := len(order) / 2
	for n := range half {
		if slices.Index(order, n) > slices.Index(order, n+half) {
			return false
		}
	}
	return true
}

func TestFragmentsTwiceInEveryOrderYieldTheMessageOnce(t *testing.T) {
	for total := 1; total <= 4; total++ {
		for _, last := range []int{1, fullPart} {
			for order := range permutations(2 * total) {
				if isFirstTwice(order) {
					arrives(t, drawn(fullPart*(total-1)+last, total), order)
				}
				if t.Failed() {
					return
				}
			}
		}
	}
	for total := 5; total <= mostParts; total++ {
		for start := range 50 {
			order, _ := wantedShuffle(drawn(200, start), 2*total)
			arrives(t, drawn(fullPart*total, total), order)
		}
	}
	arrives(t, nil, []int{0, 1})
}

func TestTakePieceOfAnOpenMessage(t *testing.T) {
	d := goodDesk()
	refused := []impl.Piece{
		someOf(3, 3, 0)[0], someOf(3, 3, 2)[0], someOf(3, 4, 1)[0], someOf(3, 2, 1)[0], someOf(3, 8, 7)[0],
		{Id: 3, At: 0, Total: 3, Data: data(fullPart)}, {Id: 3, At: 2, Total: 3, Data: data(1)},
		{Id: 3, At: 0, Total: 1}, {Id: 3, At: 0, Total: 1, Data: data(fullPart)}, {Id: 200, At: 0, Total: 1},
		someOf(200, 3, 0)[0], someOf(200, 5, 4)[0], someOf(0, 3, 0)[0], someOf(5, 3, 1)[0], someOf(lastId, 8, 7)[0],
		{Id: 0, At: 0, Total: 1}, {Id: 5, At: 0, Total: 1, Data: data(3)},
	}
	for _, p := range refused {
		e, _, code := take(t, d, p, 9)
		check(t, "the code of a fragment that is refused", code, -1)
		checkSame(t, "the desk", e, d)
	}
	for _, p := range someOf(200, 4, 0, 3) {
		_, _, code := take(t, d, p, 9)
		check(t, "the code of a fragment that is added", code, 0)
	}
	other := impl.Piece{Id: 3, At: 1, Total: 3, Data: data(fullPart)}
	_, _, code := take(t, d, other, 9)
	check(t, "the code of a fragment that completes", code, 1)
}

func TestTheSeventhOpenMessage(t *testing.T) {
	d := fullDesk()
	five := anew(d)
	five.Open = slices.Delete(five.Open, 3, 4)
	for _, id := range []int{3, 6, 50, 101, 253} {
		sixth, _, code := take(t, five, someOf(id, 3, 1)[0], 9)
		check(t, "the code of the sixth message", code, 0)
		check(t, "the number of Open messages", len(sixth.Open), mostOpen)
		for _, p := range append(someOf(id, 3, 0, 1, 2), someOf(id, 8, 0, 7)...) {
			e, msg, code := take(t, d, p, 9)
			check(t, "the code of the seventh message", code, -2)
			checkSame(t, "the desk without the seventh message", e, d)
			checkBytes(t, "the seventh message", msg, nil)
		}
		for _, length := range []int{0, 1, fullPart} {
			p := impl.Piece{Id: id, At: 0, Total: 1, Data: data(length)}
			e, msg, code := take(t, d, p, 9)
			check(t, "the code of a seventh message that is complete", code, 1)
			checkBytes(t, "a seventh message that is complete", msg, data(length))
			check(t, "the number of Open messages", len(e.Open), mostOpen)
		}
	}
	for _, p := range append(someOf(7, 8, 7), someOf(0, 2, 1)...) {
		_, _, code := take(t, d, p, 9)
		check(t, "the code of the last fragment of one of six", code, 1)
	}
	for _, p := range append(someOf(8, 8, 0), someOf(100, 5, 1, 3)...) {
		_, _, code := take(t, d, p, 9)
		check(t, "the code of another fragment of one of six", code, 0)
	}
	// A message that is Done is refused before it is counted.
	for _, p := range append(someOf(2, 3, 0), someOf(254, 3, 0)...) {
		_, _, code := take(t, d, p, 9)
		check(t, "the code of a Done message beside six", code, -1)
	}
	_, _, code := take(t, d, someOf(8, 7, 0)[0], 9)
	check(t, "the code of another Total beside six", code, -1)
}

func TestTakePieceWithAllMessagesDone(t *testing.T) {
	d := impl.Desk{}
	for i := range mostDone {
		id := i * 77 % mostDone
		after, msg, code := take(t, d, impl.Piece{Id: id, At: 0, Total: 1, Data: data(id % 21)}, 9)
		check(t, "the code of a message", code, 1)
		checkBytes(t, "a message", msg, data(id%21))
		checkFlag(t, "IsDone", impl.IsDone(after, id), true)
		check(t, "the number of Done", len(after.Done), i+1)
		d = after
	}
	checkNodes(t, "Done", d.Done, counted(mostDone)...)
	for id := range mostDone {
		for _, p := range []impl.Piece{{Id: id, At: 0, Total: 1}, someOf(id, 3, 1)[0]} {
			e, _, code := take(t, d, p, 9)
			check(t, "the code when all are Done", code, -1)
			checkSame(t, "the desk when all are Done", e, d)
		}
	}
}

func TestTakePieceOfDueTimes(t *testing.T) {
	for _, due := range []int{0, 1, 255, 256, lastDue - 1, lastDue} {
		d, _, code := take(t, goodDesk(), someOf(7, 3, 1)[0], due)
		check(t, "the code", code, 0)
		check(t, "Due", d.Open[1].Due, due)
		_, _, code = take(t, goodDesk(), impl.Piece{Id: 7, At: 0, Total: 1}, due)
		check(t, "the code of the empty message", code, 1)
	}
	for _, due := range append([]int{-1, -2, lastDue + 1, lastDue + 2}, farNumbers...) {
		for _, p := range []impl.Piece{someOf(7, 3, 1)[0], {Id: 7, At: 0, Total: 1}, someOf(3, 3, 0)[0], someOf(3, 3, 1)[0], someOf(5, 3, 1)[0]} {
			checkNotTaken(t, "an invalid due", goodDesk(), p, due)
			checkNotTaken(t, "an invalid due", fullDesk(), p, due)
		}
	}
}

func TestTakePieceOfInvalidFragments(t *testing.T) {
	for _, p := range badPieces() {
		for _, d := range []impl.Desk{{}, goodDesk(), fullDesk(), {Done: counted(mostDone)}} {
			checkNotTaken(t, "an invalid fragment", d, p, 9)
		}
		// Ids of an Open and of a Done message.
		for _, id := range []int{3, 5} {
			q := p
			if q.Id == 7 {
				q.Id = id
				checkNotTaken(t, "an invalid fragment", goodDesk(), q, 9)
			}
		}
	}
}

func checkLetGo(t *testing.T, d impl.Desk, now int) {
	t.Helper()
	want := impl.Desk{Done: d.Done}
	for _, w := range d.Open {
		if w.Due > now {
			want.Open = append(want.Open, w)
		}
	}
	got, n := impl.LetGo(d, now)
	what := fmt.Sprintf("LetGo(%v, %d)", d, now)
	checkSame(t, what, got, want)
	check(t, what, n, len(d.Open)-len(want.Open))
	checkFlag(t, "DeskOk of what is left", impl.DeskOk(got), true)
}

func TestLetGo(t *testing.T) {
	d, n := impl.LetGo(goodDesk(), 20)
	check(t, "LetGo at the time of Due", n, 1)
	checkSame(t, "LetGo at the time of Due", d, impl.Desk{Open: goodDesk().Open[:1], Done: goodDesk().Done})
	d, n = impl.LetGo(goodDesk(), 19)
	check(t, "LetGo before the time of Due", n, 0)
	checkSame(t, "LetGo before the time of Due", d, goodDesk())
	d, n = impl.LetGo(goodDesk(), 300)
	check(t, "LetGo of all", n, 2)
	checkSame(t, "LetGo of all", d, impl.Desk{Done: goodDesk().Done})
	for _, d := range goodDesks() {
		nows := append([]int{-2, -1, 0, 1, 2, 8, 9, 10, 19, 20, 21, 299, 300, 301, lastDue - 1, lastDue, lastDue + 1}, farNumbers...)
		for _, now := range nows {
			checkLetGo(t, d, now)
		}
	}
}

func TestAMessageThatWasLetGoMayArriveAgain(t *testing.T) {
	msg := data(52)
	l := piecesOf(7, msg)
	d, _, _ := take(t, impl.Desk{}, l[0], 9)
	d, n := impl.LetGo(d, 9)
	check(t, "LetGo", n, 1)
	d, _, code := take(t, d, l[1], 20)
	check(t, "a fragment after LetGo", code, 0)
	d, _, code = take(t, d, l[2], 20)
	check(t, "the next fragment after LetGo", code, 0)
	_, got, code := take(t, d, l[0], 20)
	check(t, "the first fragment again", code, 1)
	checkBytes(t, "the message", got, msg)
}

// checkShown compares what the smaller functions tell of a valid desk with what it holds.
func checkShown(t *testing.T, d impl.Desk) {
	t.Helper()
	lacking := 0
	var ids []int
	present := map[string]bool{}
	wanted := map[int][]int{}
	for _, w := range d.Open {
		ids = append(ids, w.Id)
		has := map[int]bool{}
		for _, p := range w.Got {
			has[p.At] = true
			present[fmt.Sprint(p)] = true
			checkFlag(t, "Has of a fragment", impl.Has(d, p), true)
		}
		for at := range w.Total {
			if !has[at] {
				wanted[w.Id] = append(wanted[w.Id], at)
				lacking++
			}
		}
	}
	checkNodes(t, "OpenIds", impl.OpenIds(d), ids...)
	check(t, "Lacking", impl.Lacking(d), lacking)
	for id := -2; id <= lastId+2; id++ {
		checkNodes(t, "Missing", impl.Missing(d, id), wanted[id]...)
		checkFlag(t, "IsDone", impl.IsDone(d, id), slices.Contains(d.Done, id))
	}
	for _, n := range farNumbers {
		checkNodes(t, "Missing of a far Id", impl.Missing(d, n))
		checkFlag(t, "IsDone of a far Id", impl.IsDone(d, n), false)
	}
	for _, p := range append(goodPieces(), badPieces()...) {
		checkFlag(t, "Has", impl.Has(d, p), present[fmt.Sprint(p)])
	}
}

func TestWhatDesksShow(t *testing.T) {
	checkNodes(t, "Missing", impl.Missing(goodDesk(), 3), 1)
	checkNodes(t, "Missing", impl.Missing(goodDesk(), 200), 0, 3)
	checkNodes(t, "Missing of a Done message", impl.Missing(goodDesk(), 5))
	checkNodes(t, "OpenIds", impl.OpenIds(goodDesk()), 3, 200)
	check(t, "Lacking", impl.Lacking(goodDesk()), 3)
	check(t, "Lacking of nothing", impl.Lacking(impl.Desk{}), 0)
	for _, d := range goodDesks() {
		checkShown(t, d)
	}
}

func TestMissingAndPresentFragmentsAreAll(t *testing.T) {
	for total := 2; total <= mostParts; total++ {
		l := someOf(7, total, counted(total)...)
		for subset := 1; subset < 1<<total-1; subset++ {
			d := impl.Desk{Open: []impl.Whole{partial(3, 2, 9, 1)}}
			var missing []int
			for at := range total {
				if subset>>at%2 == 1 {
					d, _, _ = impl.TakePiece(d, l[at], 9)
				} else {
					missing = append(missing, at)
				}
			}
			checkNodes(t, "Missing", impl.Missing(d, 7), missing...)
			checkNodes(t, "OpenIds", impl.OpenIds(d), 3, 7)
			check(t, "Lacking", impl.Lacking(d), len(missing)+1)
			for at := range total {
				checkFlag(t, "Has", impl.Has(d, l[at]), !slices.Contains(missing, at))
			}
		}
	}
}

func TestHasOfOtherFragments(t *testing.T) {
	d := goodDesk()
	for _, w := range d.Open {
		for _, p := range w.Got {
			others := []impl.Piece{p, p, p, p, p, p, p}
			others[0].Id++
			others[1].Id = 5
			others[2].At++
			others[3].Total++
			others[4].Data = slices.Clone(p.Data)
			others[4].Data[len(p.Data)-1] ^= 1
			others[5].Data = p.Data[:len(p.Data)-1]
			others[6].Data = append(slices.Clone(p.Data), 0)
			for _, other := range others {
				checkFlag(t, "Has of another fragment", impl.Has(d, other), false)
			}
			p.Data = append(slices.Clone(p.Data), 1, 2)[:len(p.Data)]
			checkFlag(t, "Has of an equal fragment", impl.Has(d, p), true)
		}
	}
}

// Many messages arrive at once, and some fragments never, twice or late.
func TestManyMessagesAtOnce(t *testing.T) {
	for start := range 60 {
		draws := drawn(1500, start)
		d := impl.Desk{}
		received := map[int]int{}
		for i := 0; i+4 < len(draws); i += 5 {
			id := int(draws[i]) % 12
			msg := drawn(id*17%(mostMsg+1), id)
			l := piecesOf(id, msg)
			p := l[int(draws[i+1])%len(l)]
			if draws[i+2] < 12 {
				p.Total = 1 + int(draws[i+3])%mostParts
			}
			if !isPiece(p) {
				checkNotTaken(t, "an invalid fragment", d, p, 9)
				continue
			}
			after, got, code := take(t, d, p, int(draws[i+3]))
			if code == 1 {
				received[id]++
				checkFlag(t, "IsDone", impl.IsDone(after, id), true)
				checkFlag(t, "whether it was Done", impl.IsDone(d, id), false)
				if p.Total == len(l) {
					checkBytes(t, "a message", got, msg)
				}
			}
			d = after
			if draws[i+4] < 16 {
				checkLetGo(t, d, int(draws[i+4])*8)
				d, _ = impl.LetGo(d, int(draws[i+4])*8)
			}
		}
		for id, times := range received {
			check(t, fmt.Sprintf("the times that message %d is received", id), times, 1)
		}
		check(t, "the number of Done", len(d.Done), len(received))
		checkShown(t, d)
	}
}

// TakeInput has the arguments of one call; its fields are exported so that
// reflect can set them.
type TakeInput struct {
	Desk  impl.Desk
	Piece impl.Piece
	Due   int
}

type taken struct {
	Desk impl.Desk
	Msg  []byte
	Code int
}

func takeInput(in TakeInput) taken {
	d, msg, code := impl.TakePiece(in.Desk, in.Piece, in.Due)
	return taken{d, msg, code}
}

func TestTakePieceIsNewMemory(t *testing.T) {
	pieces := []impl.Piece{
		{Id: 7, At: 0, Total: 1}, {Id: 7, At: 0, Total: 1, Data: data(fullPart)}, {Id: 101, At: 0, Total: 1, Data: data(3)},
		someOf(3, 3, 1)[0], someOf(3, 3, 0)[0], someOf(3, 4, 1)[0], someOf(5, 3, 0)[0], someOf(200, 4, 0)[0], someOf(200, 4, 3)[0],
		someOf(7, 8, 7)[0], someOf(0, 2, 1)[0], someOf(101, 3, 2)[0], someOf(lastId, 3, 0)[0], someOf(2, 8, 0)[0], someOf(lastId, 2, 0)[0],
		{Id: 7, At: 0, Total: 2, Data: data(3)}, {Id: -1, At: 0, Total: 1},
	}
	codes := map[int]int{}
	desks := append(goodDesks(), impl.Desk{Done: []int{4, 4}}, impl.Desk{Open: []impl.Whole{{}}})
	for _, d := range desks {
		for _, p := range pieces {
			for _, due := range []int{9, -1} {
				in := TakeInput{d, p, due}
				checkNested(t, "TakePiece", in, takeInput)
				codes[takeInput(in).Code]++
			}
		}
	}
	for code := -3; code <= 1; code++ {
		if codes[code] == 0 {
			t.Errorf("no call with the code %d", code)
		}
	}
}

func TestDesksAreNewMemory(t *testing.T) {
	desks := goodDesks()
	for _, d := range badDesks() {
		if len(d.Done) < 1000 && len(d.Open) < 100 {
			desks = append(desks, d)
		}
	}
	for _, d := range desks {
		checkNested(t, "DeskOk", d, impl.DeskOk)
		checkNested(t, "OpenIds", d, impl.OpenIds)
		checkNested(t, "Lacking", d, impl.Lacking)
		for _, now := range []int{-1, 0, 1, 9, 20, 300, lastDue} {
			checkNested(t, "LetGo", d, func(d impl.Desk) taken {
				left, n := impl.LetGo(d, now)
				return taken{Desk: left, Code: n}
			})
		}
		for _, id := range []int{-1, 0, 3, 7, 100, 200, lastId} {
			checkNested(t, "Missing", d, func(d impl.Desk) []int { return impl.Missing(d, id) })
			checkNested(t, "IsDone", d, func(d impl.Desk) bool { return impl.IsDone(d, id) })
			for _, p := range someOf(max(id, 0), 4, 1, 3) {
				checkNested(t, "Has", TakeInput{d, p, 0}, func(in TakeInput) bool { return impl.Has(in.Desk, in.Piece) })
			}
		}
	}
}
