package tests

import (
	"bytes"
	"math"
	"testing"

	"loop.example/g00611/impl"
)

// The signatures that chapter 2 gives for its ciphers.
var (
	_ func(int, int) int               = impl.StreamAt
	_ func(int, []byte) []byte         = impl.XorWith
	_ func(int, []byte) int            = impl.Mac
	_ func(int, []byte) []byte         = impl.Seal
	_ func(int, []byte) ([]byte, bool) = impl.Open
)

// The limits are written out here so that a wrong constant is found.
const (
	mostData   = 400
	mostSealed = 396
)

var phrase = []byte("a few bytes")

// data returns bytes without an obvious order.
func data(length int) []byte {
	b := make([]byte, length)
	for i := range b {
		b[i] = byte(i * 37)
	}
	return b
}

// lengths has the edges of the lengths that the ciphers accept.
var lengths = []int{0, 1, 2, 3, 4, 5, 20, 80, 255, 256, 257, 395, 396}

// The wanted values follow the formulas of the chapter word for word; no
// intermediate value exceeds an int there.

func wantedByte(key int, i int) byte {
	x := (key + 7919*i + 3) * 48271 % prime
	y := (x + key + i + 1) * 16807 % prime
	return byte(y / 256 % 256)
}

func wantedXor(key int, b []byte) []byte {
	var list []byte
	for i := range b {
		list = append(list, b[i]^wantedByte(key, i))
	}
	return list
}

func wantedMac(key int, b []byte) int {
	r := 1 + wantedKey(key, 71)%(prime-1)
	n := len(b) + 1
	for _, c := range b {
		n = (n*r + int(c) + 1) % prime
	}
	return (n*r + wantedKey(key, 72)) % prime
}

func withCode(code int, rest []byte) []byte {
	return append([]byte{byte(code >> 24), byte(code >> 16), byte(code >> 8), byte(code)}, rest...)
}

func wantedSeal(key int, b []byte) []byte {
	x := wantedXor(wantedKey(key, 1), b)
	return withCode(wantedMac(wantedKey(key, 2), x), x)
}

func checkBytes(t *testing.T, what string, got []byte, want []byte) {
	t.Helper()
	if !bytes.Equal(got, want) {
		t.Errorf("%s = %v, want %v", what, got, want)
	}
}

func checkNothing(t *testing.T, what string, got []byte) {
	t.Helper()
	if len(got) != 0 {
		t.Errorf("%s = %v, want nil", what, got)
	}
}

func checkOpened(t *testing.T, what string, key int, b []byte, want []byte) {
	t.Helper()
	got, ok := impl.Open(key, b)
	if !ok || !bytes.Equal(got, want) {
		t.Errorf("%s: Open = %v %t, want %v", what, got, ok, want)
	}
}

func checkClosed(t *testing.T, what string, key int, b []byte) {
	t.Helper()
	if got, ok := impl.Open(key, b); ok || len(got) != 0 {
		t.Errorf("%s: Open = %v %t, want nil and false", what, got, ok)
	}
}

func TestMaxData(t *testing.T) {
	check(t, "MaxData", impl.MaxData, mostData)
}

func TestStreamAt(t *testing.T) {
	fixed := []struct{ key, i, want int }{
		{0, 0, 50}, {0, 1, 2}, {0, 399, 151}, {1, 0, 196}, {77, 3, 134}, {1234567890, 17, 118},
		{prime - 1, 0, 160}, {prime - 1, 399, 5}, {prime - 2, 200, 40},
	}
	for _, f := range fixed {
		check(t, "StreamAt", impl.StreamAt(f.key, f.i), f.want)
	}
	for _, key := range elements() {
		for i := range mostData {
			check(t, "StreamAt", impl.StreamAt(key, i), int(wantedByte(key, i)))
		}
	}
}

func TestStreamAtOfOtherNumbers(t *testing.T) {
	indices := []int{-1, -400, math.MinInt, mostData, mostData + 1, 1 << 32, prime, math.MaxInt}
	for _, i := range indices {
		for _, key := range elements() {
			check(t, "StreamAt of an invalid index", impl.StreamAt(key, i), -1)
		}
		for _, key := range notElements {
			check(t, "StreamAt of two invalid numbers", impl.StreamAt(key, i), -1)
		}
	}
	for _, key := range notElements {
		for _, i := range []int{0, 1, mostData - 1} {
			check(t, "StreamAt of an invalid key", impl.StreamAt(key, i), -1)
		}
	}
}

func TestXorWith(t *testing.T) {
	checkBytes(t, "XorWith(0)", impl.XorWith(0, phrase), []byte{83, 34, 183, 197, 7, 31, 109, 167, 218, 24, 62})
	checkBytes(t, "XorWith(77)", impl.XorWith(77, phrase), []byte{118, 199, 208, 227, 34, 5, 150, 189, 231, 6, 65})
	checkBytes(t, "XorWith(P-1)", impl.XorWith(prime-1, phrase), []byte{193, 80, 89, 106, 169, 142, 31, 52, 104, 142, 200})
	checkBytes(t, "the end of XorWith", impl.XorWith(77, data(mostData))[396:], []byte{50, 188, 43, 215})
	for _, key := range elements() {
		for _, length := range append(lengths, 397, mostData) {
			b := data(length)
			x := impl.XorWith(key, b)
			checkBytes(t, "XorWith", x, wantedXor(key, b))
			for i := range x {
				check(t, "a byte of XorWith", int(x[i]^b[i]), impl.StreamAt(key, i))
			}
		}
	}
}

func TestEncryptingTwiceRestores(t *testing.T) {
	for _, key := range elements() {
		for _, length := range append(lengths, 397, mostData) {
			b := data(length)
			checkBytes(t, "XorWith applied twice", impl.XorWith(key, impl.XorWith(key, b)), b)
		}
		if bytes.Equal(impl.XorWith(key, data(80)), data(80)) {
			t.Errorf("XorWith(%d) hides nothing", key)
		}
	}
}

func TestMac(t *testing.T) {
	fixed := []struct {
		key  int
		b    []byte
		want int
	}{
		{0, nil, 1502363386}, {0, []byte{0}, 938402443}, {0, phrase, 459752552},
		{77, nil, 1502799427}, {77, []byte{0}, 1349688622}, {77, phrase, 1566408560},
		{prime - 1, nil, 1223463743}, {prime - 1, []byte{0}, 994252175}, {prime - 1, phrase, 73054404},
		{77, data(mostData), 1156771689}, {prime - 1, data(mostData), 1658837635},
	}
	for _, f := range fixed {
		check(t, "Mac", impl.Mac(f.key, f.b), f.want)
	}
	check(t, "Mac of an empty slice", impl.Mac(77, []byte{}), 1502799427)
	for _, key := range elements() {
		for _, length := range append(lengths, 397, mostData) {
			check(t, "Mac", impl.Mac(key, data(length)), wantedMac(key, data(length)))
		}
	}
}

// For one key the factor would be P, that is 0, if it were not reduced modulo P - 1.
func TestMacWithTheGreatestFactor(t *testing.T) {
	const key = 2006257704
	check(t, "KeyOf(key, 71)", impl.KeyOf(key, 71), prime-1)
	check(t, "Mac", impl.Mac(key, phrase), 1570346482)
	check(t, "Mac of no bytes", impl.Mac(key, nil), 1570345426)
}

func TestSeal(t *testing.T) {
	checkBytes(t, "Seal(0)", impl.Seal(0, phrase), []byte{46, 170, 66, 17, 2, 19, 100, 183, 214, 81, 34, 105, 171, 202, 13})
	checkBytes(t, "Seal(77)", impl.Seal(77, phrase), []byte{25, 124, 231, 211, 221, 171, 61, 79, 141, 233, 251, 17, 76, 98, 164})
	checkBytes(t, "Seal(P-1)", impl.Seal(prime-1, phrase), []byte{3, 36, 70, 31, 109, 251, 205, 31, 61, 57, 139, 193, 252, 50, 84})
	checkBytes(t, "Seal(0) of no bytes", impl.Seal(0, nil), []byte{104, 86, 174, 95})
	checkBytes(t, "Seal(77) of an empty slice", impl.Seal(77, []byte{}), []byte{30, 207, 151, 164})
	most := impl.Seal(77, data(mostSealed))
	check(t, "the length of Seal", len(most), mostData)
	checkBytes(t, "the start of Seal", most[:8], []byte{127, 82, 173, 112, 188, 174, 17, 69})
	checkBytes(t, "the end of Seal", most[396:], []byte{220, 137, 225, 244})
	for _, key := range elements() {
		for _, length := range lengths {
			checkBytes(t, "Seal", impl.Seal(key, data(length)), wantedSeal(key, data(length)))
		}
	}
}

func TestSealedBytesAreOpened(t *testing.T) {
	checkOpened(t, "fixed bytes", 77, []byte{25, 124, 231, 211, 221, 171, 61, 79, 141, 233, 251, 17, 76, 98, 164}, phrase)
	checkOpened(t, "the fixed code of no bytes", 77, []byte{30, 207, 151, 164}, nil)
	for _, key := range elements() {
		for _, length := range lengths {
			checkOpened(t, "sealed bytes", key, impl.Seal(key, data(length)), data(length))
		}
	}
}

func TestOtherKeysDoNotOpen(t *testing.T) {
	for _, key := range elements() {
		for _, length := range lengths {
			sealed := impl.Seal(key, data(length))
			for _, other := range []int{impl.FAdd(key, 1), impl.FSub(key, 1), impl.FAdd(key, 256), impl.FNeg(key)} {
				if other != key {
					checkClosed(t, "another key", other, sealed)
				}
			}
		}
	}
}

func TestChangedBytesAreNotOpened(t *testing.T) {
	for _, key := range []int{0, 1, 77, 2006257704, prime - 1} {
		for _, length := range []int{0, 1, 11, 80} {
			sealed := impl.Seal(key, data(length))
			for i, old := range sealed {
				for change := 1; change < 256; change++ {
					sealed[i] = old ^ byte(change)
					checkClosed(t, "a changed byte", key, sealed)
				}
				sealed[i] = old
			}
			checkOpened(t, "the bytes without a change", key, sealed, data(length))
		}
		sealed := impl.Seal(key, data(mostSealed))
		for i := range sealed {
			sealed[i]++
			checkClosed(t, "a changed byte of the most bytes", key, sealed)
			sealed[i]--
		}
	}
}

func TestBytesThatNothingSealsTo(t *testing.T) {
	for _, key := range elements() {
		for length := range 4 {
			checkClosed(t, "fewer bytes than a code", key, make([]byte, length))
			checkClosed(t, "a part of a code", key, impl.Seal(key, nil)[:length])
		}
		sealed := impl.Seal(key, phrase)
		checkClosed(t, "bytes that lack the last one", key, sealed[:len(sealed)-1])
		checkClosed(t, "bytes with one more", key, append(bytes.Clone(sealed), 0))
		checkClosed(t, "bytes without their code", key, sealed[4:])
		checkClosed(t, "the code behind the bytes", key, append(bytes.Clone(sealed[4:]), sealed[:4]...))
		checkClosed(t, "the code of the open bytes", key, withCode(wantedMac(wantedKey(key, 2), phrase), sealed[4:]))
		checkClosed(t, "the code by the key itself", key, withCode(wantedMac(key, sealed[4:]), sealed[4:]))
		code := wantedMac(wantedKey(key, 2), sealed[4:])
		checkOpened(t, "the code", key, withCode(code, sealed[4:]), phrase)
		checkClosed(t, "the code and P", key, withCode(code+prime, sealed[4:]))
		checkClosed(t, "the code and the highest bit", key, withCode(code+1<<31, sealed[4:]))
		checkClosed(t, "other bytes", key, data(mostData))
	}
}

func TestMoreBytesThanTheCiphersTake(t *testing.T) {
	for _, key := range append(elements(), notElements...) {
		for _, length := range []int{mostData + 1, mostData + 2, 1000, 65536 + 11} {
			checkNothing(t, "XorWith of too many bytes", impl.XorWith(key, data(length)))
			check(t, "Mac of too many bytes", impl.Mac(key, data(length)), -1)
			checkNothing(t, "Seal of too many bytes", impl.Seal(key, data(length)))
			checkClosed(t, "too many bytes", key, data(length))
		}
		for length := mostSealed + 1; length <= mostData; length++ {
			checkNothing(t, "Seal of too many bytes", impl.Seal(key, data(length)))
		}
	}
	for _, key := range elements() {
		checkClosed(t, "too many bytes with their code", key, wantedSeal(key, data(mostSealed+1)))
		checkClosed(t, "far too many bytes with their code", key, wantedSeal(key, data(1000)))
	}
}

func TestCiphersOfInvalidKeys(t *testing.T) {
	for _, key := range notElements {
		for _, length := range append(lengths, mostData) {
			checkNothing(t, "XorWith of an invalid key", impl.XorWith(key, data(length)))
			check(t, "Mac of an invalid key", impl.Mac(key, data(length)), -1)
			checkNothing(t, "Seal of an invalid key", impl.Seal(key, data(length)))
			checkClosed(t, "an invalid key", key, data(length))
		}
	}
	for _, key := range []int{0, 1, 77, prime - 1} {
		for _, same := range []int{key + prime, key - prime, key + 1<<32} {
			checkClosed(t, "a key that is the same modulo P", same, impl.Seal(key, phrase))
		}
	}
}

func TestCiphersKeepTheirArguments(t *testing.T) {
	for _, key := range []int{0, 77, prime - 1, -1, prime} {
		for _, length := range []int{0, 1, 11, mostSealed, mostSealed + 1, mostData, mostData + 1} {
			checkMemory(t, "XorWith", data(length), func(b []byte) []byte { return impl.XorWith(key, b) })
			checkMemory(t, "Mac", data(length), func(b []byte) []int { return []int{impl.Mac(key, b)} })
			checkMemory(t, "Seal", data(length), func(b []byte) []byte { return impl.Seal(key, b) })
			open := func(b []byte) []byte {
				opened, _ := impl.Open(key, b)
				return opened
			}
			checkMemory(t, "Open of other bytes", data(length), open)
			checkMemory(t, "Open", impl.Seal(key, data(length)), open)
		}
	}
}

// A result that equals its argument is new memory all the same.
func TestXorWithOfBytesThatItDoesNotChange(t *testing.T) {
	for key := range 2000 {
		if impl.StreamAt(key, 0) == 0 {
			checkBytes(t, "XorWith with a stream of zero", impl.XorWith(key, []byte{65}), []byte{65})
			checkMemory(t, "XorWith", []byte{65}, func(b []byte) []byte { return impl.XorWith(key, b) })
			return
		}
	}
	t.Error("no key stream begins with zero")
}
