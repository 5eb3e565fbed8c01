package tests

import (
	"bytes"
	"fmt"
	"testing"

	"loop.example/g00611/impl"
)

// The signatures that chapter 4 gives for fragments.
var (
	_ func(impl.Piece) bool                  = impl.PieceOk
	_ func(int, []byte) ([]impl.Piece, bool) = impl.Split
	_ func(impl.Piece) ([]byte, bool)        = impl.PieceBytes
	_ func([]byte) (impl.Piece, bool)        = impl.PieceRead
	_ func(int) int                          = impl.PiecesFor
)

// The limits are written out here so that a wrong constant is found.
const (
	fullPart  = 20
	mostParts = 8
	mostMsg   = 160
	lastId    = 255
)

// isPiece follows the chapter, but lists the lengths that are valid.
func isPiece(p impl.Piece) bool {
	if p.Id < 0 || p.Id > lastId {
		return false
	}
	for total := 1; total <= mostParts; total++ {
		for at := range total {
			least, most := fullPart, fullPart
			if at == total-1 {
				least = 1
			}
			if total == 1 {
				least = 0
			}
			if p.Total == total && p.At == at {
				return least <= len(p.Data) && len(p.Data) <= most
			}
		}
	}
	return false
}

// goodPieces has fragments at every index of every total, with lengths and
// ids up to their limits.
func goodPieces() []impl.Piece {
	var list []impl.Piece
	for total := 1; total <= mostParts; total++ {
		for at := range total {
			for _, id := range []int{0, 1, 7, 127, 128, 254, lastId} {
				for _, length := range []int{0, 1, 2, 19, fullPart} {
					if p := (impl.Piece{Id: id, At: at, Total: total, Data: data(length)}); isPiece(p) {
						list = append(list, p)
					}
				}
			}
		}
	}
	return list
}

// badPieces has one fault each.
func badPieces() []impl.Piece {
	full := data(fullPart)
	list := []impl.Piece{
		{Id: 7, At: 0, Total: 0}, {Id: 7, At: 0, Total: 0, Data: full}, {Id: 7, At: 0, Total: 9, Data: full},
		{Id: 7, At: 0, Total: -1, Data: full}, {Id: 7, At: -1, Total: 0, Data: full}, {Id: 7, At: -2, Total: -1, Data: full},
		{Id: 7, At: -1, Total: 3, Data: full}, {Id: 7, At: 3, Total: 3, Data: full}, {Id: 7, At: 4, Total: 3, Data: full},
		{Id: 7, At: 1, Total: 1}, {Id: 7, At: 8, Total: 8, Data: full}, {Id: 7, At: 8, Total: 9, Data: full},
		{Id: 7, At: 0, Total: 3}, {Id: 7, At: 0, Total: 3, Data: data(19)}, {Id: 7, At: 1, Total: 3, Data: data(21)},
		{Id: 7, At: 1, Total: 3, Data: data(1)}, {Id: 7, At: 1, Total: 3, Data: data(40)}, {Id: 7, At: 6, Total: 8, Data: data(12)},
		{Id: 7, At: 2, Total: 3}, {Id: 7, At: 2, Total: 3, Data: []byte{}}, {Id: 7, At: 2, Total: 3, Data: data(21)},
		{Id: 7, At: 7, Total: 8}, {Id: 7, At: 7, Total: 8, Data: data(21)}, {Id: 7, At: 1, Total: 2},
		{Id: 7, At: 0, Total: 1, Data: data(21)}, {Id: 7, At: 0, Total: 1, Data: data(mostMsg)}, {Id: 7, At: 0, Total: 1, Data: data(276)},
		{Id: -1, At: 0, Total: 1}, {Id: -1, At: 0, Total: 3, Data: full}, {Id: 256, At: 0, Total: 1}, {Id: 256, At: 0, Total: 3, Data: full},
	}
	for _, n := range farNumbers {
		list = append(list,
			impl.Piece{Id: n, At: 0, Total: 3, Data: full}, impl.Piece{Id: 7, At: n, Total: 3, Data: full}, impl.Piece{Id: 7, At: 0, Total: n, Data: full},
			impl.Piece{Id: 7, At: n, Total: n, Data: full}, impl.Piece{Id: 7, At: n - 1, Total: n, Data: full})
	}
	return list
}

// piecesOf splits as the chapter says, by counting off bytes.
func piecesOf(id int, msg []byte) []impl.Piece {
	parts := [][]byte{nil}
	for _, c := range msg {
		if len(parts[len(parts)-1]) == fullPart {
			parts = append(parts, nil)
		}
		parts[len(parts)-1] = append(parts[len(parts)-1], c)
	}
	var list []impl.Piece
	for at, part := range parts {
		list = append(list, impl.Piece{Id: id, At: at, Total: len(parts), Data: part})
	}
	return list
}

// checkSame compares two values by their contents: nil and an empty slice are the same.
func checkSame(t *testing.T, what string, got any, want any) {
	t.Helper()
	if fmt.Sprint(got) != fmt.Sprint(want) {
		t.Errorf("%s = %v, want %v", what, got, want)
	}
}

func TestPieceConstants(t *testing.T) {
	check(t, "PartSize", impl.PartSize, fullPart)
	check(t, "MaxParts", impl.MaxParts, mostParts)
	check(t, "MaxMsg", impl.MaxMsg, mostMsg)
}

func TestPieceOk(t *testing.T) {
	for _, p := range goodPieces() {
		if !impl.PieceOk(p) {
			t.Errorf("PieceOk(%v) = false", p)
		}
	}
	for _, p := range badPieces() {
		if impl.PieceOk(p) {
			t.Errorf("PieceOk(%v) = true", p)
		}
	}
	for _, id := range []int{-1, 0, 100, lastId, 256} {
		for total := -2; total <= mostParts+2; total++ {
			for at := -2; at <= total+2; at++ {
				for length := range 2*fullPart + 5 {
					p := impl.Piece{Id: id, At: at, Total: total, Data: data(length)}
					if impl.PieceOk(p) != isPiece(p) {
						t.Errorf("PieceOk(%v) = %t", p, !isPiece(p))
					}
				}
			}
		}
	}
}

func TestSplit(t *testing.T) {
	l, ok := impl.Split(7, []byte("a message of more than twenty bytes, in three pieces"))
	checkFlag(t, "Split", ok, true)
	checkSame(t, "Split", l, []impl.Piece{
		{Id: 7, At: 0, Total: 3, Data: []byte("a message of more th")},
		{Id: 7, At: 1, Total: 3, Data: []byte("an twenty bytes, in ")},
		{Id: 7, At: 2, Total: 3, Data: []byte("three pieces")},
	})
	for length := range mostMsg + 1 {
		for _, id := range []int{0, 1, 100, 254, lastId} {
			l, ok := impl.Split(id, data(length))
			checkFlag(t, "Split", ok, true)
			checkSame(t, "Split", l, piecesOf(id, data(length)))
			check(t, "PiecesFor", impl.PiecesFor(length), len(l))
			var joined []byte
			for i, p := range l {
				checkFlag(t, "PieceOk of a part", impl.PieceOk(p), true)
				checkFlag(t, "whether a part is full", len(p.Data) == fullPart, i < len(l)-1 || length > 0 && length%fullPart == 0)
				joined = append(joined, p.Data...)
			}
			checkBytes(t, "the parts together", joined, data(length))
		}
	}
}

func TestSplitAtTheEdges(t *testing.T) {
	for _, empty := range [][]byte{nil, {}} {
		l, ok := impl.Split(0, empty)
		checkFlag(t, "Split of the empty message", ok, true)
		checkSame(t, "Split of the empty message", l, []impl.Piece{{Id: 0, At: 0, Total: 1}})
	}
	edges := []struct{ length, total, last int }{
		{1, 1, 1}, {19, 1, 19}, {20, 1, 20}, {21, 2, 1}, {40, 2, 20}, {41, 3, 1}, {140, 7, 20}, {141, 8, 1}, {159, 8, 19}, {160, 8, 20},
	}
	for _, e := range edges {
		l, ok := impl.Split(lastId, data(e.length))
		if !ok || len(l) != e.total {
			t.Errorf("Split of %d bytes = %v %t", e.length, l, ok)
			continue
		}
		check(t, "the last part's length", len(l[e.total-1].Data), e.last)
	}
}

func TestSplitOfInvalidArguments(t *testing.T) {
	for _, id := range append([]int{-1, -2, 256, 257}, farNumbers...) {
		for _, length := range []int{0, 1, fullPart, mostMsg, mostMsg + 1} {
			l, ok := impl.Split(id, data(length))
			if ok || len(l) != 0 {
				t.Errorf("Split(%d, %d bytes) = %v %t", id, length, l, ok)
			}
		}
	}
	for _, length := range []int{mostMsg + 1, mostMsg + 2, mostMsg + fullPart, 256, 256 + 20, 1 << 16} {
		l, ok := impl.Split(7, data(length))
		if ok || len(l) != 0 {
			t.Errorf("Split of %d bytes = %v %t", length, l, ok)
		}
	}
}

func TestPieceBytes(t *testing.T) {
	b, ok := impl.PieceBytes(impl.Piece{Id: 7, At: 2, Total: 3, Data: []byte("abc")})
	checkFlag(t, "PieceBytes", ok, true)
	checkBytes(t, "PieceBytes", b, []byte{7, 2, 3, 'a', 'b', 'c'})
	b, ok = impl.PieceBytes(impl.Piece{Id: 255, At: 0, Total: 1})
	checkFlag(t, "PieceBytes of the empty message", ok, true)
	checkBytes(t, "PieceBytes of the empty message", b, []byte{255, 0, 1})
	for _, p := range goodPieces() {
		b, ok := impl.PieceBytes(p)
		checkFlag(t, "PieceBytes", ok, true)
		checkBytes(t, "PieceBytes", b, append([]byte{byte(p.Id), byte(p.At), byte(p.Total)}, p.Data...))
	}
	for _, p := range badPieces() {
		if b, ok := impl.PieceBytes(p); ok || len(b) != 0 {
			t.Errorf("PieceBytes(%v) = %v %t, want nil and false", p, b, ok)
		}
	}
}

func TestPiecesAreRecoveredFromTheirBytes(t *testing.T) {
	list := goodPieces()
	for length := range mostMsg + 1 {
		list = append(list, piecesOf(length, data(length))...)
	}
	for _, p := range list {
		b, _ := impl.PieceBytes(p)
		got, ok := impl.PieceRead(b)
		checkFlag(t, "PieceRead", ok, true)
		checkSame(t, "PieceRead", got, p)
	}
}

func checkRead(t *testing.T, b []byte) {
	t.Helper()
	want := impl.Piece{}
	valid := false
	if len(b) >= 3 {
		p := impl.Piece{Id: int(b[0]), At: int(b[1]), Total: int(b[2]), Data: b[3:]}
		if isPiece(p) {
			want, valid = p, true
		}
	}
	got, ok := impl.PieceRead(b)
	if ok != valid || got.Id != want.Id || got.At != want.At || got.Total != want.Total || !bytes.Equal(got.Data, want.Data) {
		t.Errorf("PieceRead(%v) = %v %t, want %v %t", b, got, ok, want, valid)
	}
	if again, _ := impl.PieceBytes(got); ok && !bytes.Equal(again, b) {
		t.Errorf("PieceBytes of PieceRead(%v) = %v", b, again)
	}
}

func TestPieceRead(t *testing.T) {
	got, ok := impl.PieceRead([]byte{7, 2, 3, 'a', 'b', 'c'})
	checkFlag(t, "PieceRead", ok, true)
	checkSame(t, "PieceRead", got, impl.Piece{Id: 7, At: 2, Total: 3, Data: []byte("abc")})
	for _, id := range []int{0, 1, 127, 128, lastId} {
		for at := range 12 {
			for total := range 12 {
				for length := range 2*fullPart + 5 {
					checkRead(t, append([]byte{byte(id), byte(at), byte(total)}, data(length)...))
				}
			}
		}
	}
}

func TestPieceReadOfOtherBytes(t *testing.T) {
	checkRead(t, nil)
	checkRead(t, []byte{})
	for _, length := range []int{0, 1, 2, 3, 4, 22, 23, 24, 80, 255, 259, 1000} {
		checkRead(t, make([]byte, length))
		checkRead(t, bytes.Repeat([]byte{1}, length))
		checkRead(t, bytes.Repeat([]byte{255}, length))
	}
	for at := range 256 {
		for total := range 256 {
			checkRead(t, append([]byte{7, byte(at), byte(total)}, data(fullPart)...))
			checkRead(t, []byte{7, byte(at), byte(total)})
		}
	}
	for _, b := range [][]byte{{7, 0}, {7}, {0, 1}} {
		// The third byte behind the length would make it a fragment.
		whole := append(bytes.Clone(b), 1, 1, 1)
		checkRead(t, whole[:len(b)])
	}
}

func TestPiecesFor(t *testing.T) {
	fixed := map[int]int{0: 1, 1: 1, 19: 1, 20: 1, 21: 2, 40: 2, 41: 3, 139: 7, 140: 7, 141: 8, 159: 8, 160: 8}
	for n, want := range fixed {
		check(t, "PiecesFor", impl.PiecesFor(n), want)
	}
	for n := range mostMsg + 1 {
		check(t, "PiecesFor", impl.PiecesFor(n), len(piecesOf(7, data(n))))
	}
	for _, n := range append([]int{-1, -19, -20, -21, -160, mostMsg + 1, mostMsg + 2, mostMsg + fullPart, 256, 276}, farNumbers...) {
		check(t, "PiecesFor", impl.PiecesFor(n), -1)
	}
}

func TestPiecesAreNewMemory(t *testing.T) {
	type flaggedPieces struct {
		L  []impl.Piece
		Ok bool
	}
	for _, length := range []int{0, 1, 19, 20, 21, 52, 140, 159, 160, 161} {
		for _, id := range []int{-1, 0, 7, lastId, 256} {
			checkNested(t, "Split", data(length), func(msg []byte) flaggedPieces {
				l, ok := impl.Split(id, msg)
				return flaggedPieces{l, ok}
			})
		}
	}
	for _, p := range append(goodPieces(), badPieces()...) {
		checkNested(t, "PieceOk", p, impl.PieceOk)
		checkNested(t, "PieceBytes", p, func(p impl.Piece) []byte {
			b, _ := impl.PieceBytes(p)
			return b
		})
		b := append([]byte{byte(p.Id), byte(p.At), byte(p.Total)}, p.Data...)
		for _, b := range [][]byte{b, b[:2], b[:3]} {
			checkNested(t, "PieceRead", b, func(b []byte) impl.Piece {
				p, _ := impl.PieceRead(b)
				return p
			})
		}
	}
}
