package tests

import (
	"math"
	"math/big"
	"slices"
	"testing"

	"loop.example/g00611/impl"
)

// The signatures that chapter 1 gives: another one would not compile.
var (
	_ func(int) bool       = impl.FOk
	_ func(int, int) int   = impl.FAdd
	_ func(int, int) int   = impl.FMul
	_ func(int, int) int   = impl.FPow
	_ func(int) int        = impl.FInv
	_ func(int) int        = impl.PubOf
	_ func(int, int) int   = impl.Shared
	_ func(int, int) int   = impl.KeyOf
	_ func(int) int        = impl.FNeg
	_ func(int, int) int   = impl.FSub
	_ func(int, int) int   = impl.FDiv
	_ func(int, int) []int = impl.Powers
)

// The modulus is written out here so that a wrong constant is found.
const prime = 2147483647

// notElements lies below 0 or at P and above, with multiples of P and numbers
// that become elements if they are cut to 32 bits or have their sign dropped.
var notElements = []int{
	-1, -2, -7, -prime, -prime - 1, 1 - prime, -1 << 31, -1 << 32, math.MinInt, math.MinInt + 1,
	prime, prime + 1, prime + 7, 2 * prime, 1<<32 + 7, 1 << 32, 1 << 62, math.MaxInt - 1, math.MaxInt,
}

// elements returns the edges of the field and numbers spread over it.
func elements() []int {
	list := []int{
		0, 1, 2, 3, 7, 16807, 48271, 65535, 65536, 69621, 1<<30 - 1, 1 << 30,
		prime / 2, prime/2 + 1, prime - 3, prime - 2, prime - 1,
	}
	x := 12345
	for range 40 {
		x = (x*16807 + 11) % prime
		list = append(list, x)
	}
	return list
}

func exponents() []int {
	list := []int{
		0, 1, 2, 3, 4, 5, 30, 31, 32, 63, 64, 65, 1 << 31, 1 << 32, 1 << 62,
		prime - 2, prime - 1, prime, prime + 1, math.MaxInt - 1, math.MaxInt,
	}
	return append(list, elements()...)
}

// modulo returns n modulo P, computed with unlimited integers.
func modulo(n *big.Int) int {
	return int(new(big.Int).Mod(n, big.NewInt(prime)).Int64())
}

func large(n int) *big.Int { return big.NewInt(int64(n)) }

func wantedPower(a int, n int) int {
	return int(new(big.Int).Exp(large(a), large(n), large(prime)).Int64())
}

// wantedInverse finds the inverse by Euclid's algorithm, not by a power.
func wantedInverse(a int) int {
	if a == 0 {
		return 0
	}
	return int(new(big.Int).ModInverse(large(a), large(prime)).Int64())
}

func wantedKey(shared int, label int) int {
	x := new(big.Int).Mul(large(shared+7919*label+1), large(48271))
	y := new(big.Int).Mul(x.Add(x, large(label+17)), large(69621))
	return modulo(y.Add(y, large(shared)))
}

func check(t *testing.T, what string, got int, want int) {
	t.Helper()
	if got != want {
		t.Errorf("%s = %d, want %d", what, got, want)
	}
}

func TestConstants(t *testing.T) {
	check(t, "P", impl.P, prime)
	check(t, "G", impl.G, 7)
}

func TestFOk(t *testing.T) {
	for _, a := range elements() {
		if !impl.FOk(a) {
			t.Errorf("FOk(%d) = false", a)
		}
	}
	for _, a := range notElements {
		if impl.FOk(a) {
			t.Errorf("FOk(%d) = true", a)
		}
	}
}

func TestFixedArithmetic(t *testing.T) {
	check(t, "FAdd(P-1, 3)", impl.FAdd(prime-1, 3), 2)
	check(t, "FAdd(0, 0)", impl.FAdd(0, 0), 0)
	check(t, "FAdd(P-1, 1)", impl.FAdd(prime-1, 1), 0)
	check(t, "FAdd(P-1, P-1)", impl.FAdd(prime-1, prime-1), prime-2)
	check(t, "FAdd(P-2, 1)", impl.FAdd(prime-2, 1), prime-1)
	check(t, "FMul(P-1, P-1)", impl.FMul(prime-1, prime-1), 1)
	check(t, "FMul(P-2, P-2)", impl.FMul(prime-2, prime-2), 4)
	check(t, "FMul(0, P-1)", impl.FMul(0, prime-1), 0)
	check(t, "FMul(1, P-1)", impl.FMul(1, prime-1), prime-1)
	check(t, "FMul(2^30, 4)", impl.FMul(1<<30, 4), 2)
	check(t, "FNeg(0)", impl.FNeg(0), 0)
	check(t, "FNeg(1)", impl.FNeg(1), prime-1)
	check(t, "FNeg(P-1)", impl.FNeg(prime-1), 1)
	check(t, "FNeg(P-2)", impl.FNeg(prime-2), 2)
	check(t, "FSub(0, 0)", impl.FSub(0, 0), 0)
	check(t, "FSub(0, 1)", impl.FSub(0, 1), prime-1)
	check(t, "FSub(0, P-1)", impl.FSub(0, prime-1), 1)
	check(t, "FSub(P-1, 0)", impl.FSub(prime-1, 0), prime-1)
	check(t, "FSub(P-2, P-1)", impl.FSub(prime-2, prime-1), prime-1)
	check(t, "FDiv(1, 2)", impl.FDiv(1, 2), 1<<30)
	check(t, "FDiv(6, 3)", impl.FDiv(6, 3), 2)
	check(t, "FDiv(0, 5)", impl.FDiv(0, 5), 0)
	check(t, "FDiv(5, 0)", impl.FDiv(5, 0), 0)
	check(t, "FDiv(0, 0)", impl.FDiv(0, 0), 0)
	check(t, "FDiv(1, P-1)", impl.FDiv(1, prime-1), prime-1)
}

func TestFixedPowersAndInverses(t *testing.T) {
	check(t, "FPow(0, 0)", impl.FPow(0, 0), 1)
	check(t, "FPow(0, 1)", impl.FPow(0, 1), 0)
	check(t, "FPow(0, P-1)", impl.FPow(0, prime-1), 0)
	check(t, "FPow(P-1, 0)", impl.FPow(prime-1, 0), 1)
	check(t, "FPow(P-1, P-2)", impl.FPow(prime-1, prime-2), prime-1)
	check(t, "FPow(P-1, P-1)", impl.FPow(prime-1, prime-1), 1)
	check(t, "FPow(2, 31)", impl.FPow(2, 31), 1)
	check(t, "FPow(3, P-1)", impl.FPow(3, prime-1), 1)
	check(t, "FPow(3, P)", impl.FPow(3, prime), 3)
	check(t, "FPow(7, P-2)", impl.FPow(7, prime-2), 1840700269)
	check(t, "FPow(P-1, MaxInt)", impl.FPow(prime-1, math.MaxInt), prime-1)
	check(t, "FPow(3, MaxInt)", impl.FPow(3, math.MaxInt), 2187)
	check(t, "FInv(0)", impl.FInv(0), 0)
	check(t, "FInv(1)", impl.FInv(1), 1)
	check(t, "FInv(2)", impl.FInv(2), 1<<30)
	check(t, "FInv(3)", impl.FInv(3), 1431655765)
	check(t, "FInv(7)", impl.FInv(7), 1840700269)
	check(t, "FInv(P-1)", impl.FInv(prime-1), prime-1)
	check(t, "FInv(P-2)", impl.FInv(prime-2), prime-1<<30)
}

func TestArithmeticIsModuloP(t *testing.T) {
	for _, a := range elements() {
		check(t, "FNeg", impl.FNeg(a), modulo(large(-a)))
		check(t, "FInv", impl.FInv(a), wantedInverse(a))
		for _, b := range elements() {
			check(t, "FAdd", impl.FAdd(a, b), modulo(large(a+b)))
			check(t, "FSub", impl.FSub(a, b), modulo(large(a-b)))
			check(t, "FMul", impl.FMul(a, b), modulo(new(big.Int).Mul(large(a), large(b))))
			check(t, "FDiv", impl.FDiv(a, b), modulo(new(big.Int).Mul(large(a), large(wantedInverse(b)))))
		}
		for _, n := range exponents() {
			check(t, "FPow", impl.FPow(a, n), wantedPower(a, n))
		}
	}
}

func TestSubtractionAndDivisionAreInverted(t *testing.T) {
	for _, a := range elements() {
		check(t, "a + -a", impl.FAdd(a, impl.FNeg(a)), 0)
		check(t, "- -a", impl.FNeg(impl.FNeg(a)), a)
		for _, b := range elements() {
			check(t, "(a - b) + b", impl.FAdd(impl.FSub(a, b), b), a)
			check(t, "(a + b) - b", impl.FSub(impl.FAdd(a, b), b), a)
			if b != 0 {
				check(t, "(a / b) * b", impl.FMul(impl.FDiv(a, b), b), a)
				check(t, "(a * b) / b", impl.FDiv(impl.FMul(a, b), b), a)
			}
		}
	}
}

func TestArithmeticOfOtherNumbers(t *testing.T) {
	pairs := map[string]func(int, int) int{
		"FAdd": impl.FAdd, "FMul": impl.FMul, "FSub": impl.FSub, "FDiv": impl.FDiv,
	}
	for _, a := range notElements {
		check(t, "FInv", impl.FInv(a), -1)
		check(t, "FNeg", impl.FNeg(a), -1)
		for name, function := range pairs {
			for _, b := range elements() {
				check(t, name+" with an invalid first argument", function(a, b), -1)
				check(t, name+" with an invalid second argument", function(b, a), -1)
			}
			for _, b := range notElements {
				check(t, name+" with two invalid arguments", function(a, b), -1)
			}
		}
	}
}

func TestFPowOfOtherNumbers(t *testing.T) {
	for _, a := range notElements {
		for _, n := range []int{0, 1, 2, prime, math.MaxInt, -1, math.MinInt} {
			check(t, "FPow of an invalid base", impl.FPow(a, n), -1)
		}
	}
	for _, a := range elements() {
		for _, n := range []int{-1, -2, 2 - prime, -prime, math.MinInt, math.MinInt + 1} {
			check(t, "FPow with a negative exponent", impl.FPow(a, n), -1)
		}
	}
}

func TestPowers(t *testing.T) {
	for _, a := range elements() {
		for n := range 65 {
			list := impl.Powers(a, n)
			check(t, "the length of Powers", len(list), n)
			for i, power := range list {
				check(t, "an element of Powers", power, wantedPower(a, i))
				check(t, "an element of Powers, by FPow", power, impl.FPow(a, i))
			}
		}
	}
	if got := impl.Powers(0, 3); !slices.Equal(got, []int{1, 0, 0}) {
		t.Errorf("Powers(0, 3) = %v", got)
	}
	if got := impl.Powers(prime-1, 3); !slices.Equal(got, []int{1, prime - 1, 1}) {
		t.Errorf("Powers(P-1, 3) = %v", got)
	}
}

func TestPowersOfOtherNumbers(t *testing.T) {
	for _, n := range []int{-1, -64, math.MinInt, 65, 66, 1 << 32, math.MaxInt} {
		for _, a := range elements() {
			if got := impl.Powers(a, n); got != nil {
				t.Errorf("Powers(%d, %d) = %v, want nil", a, n, got)
			}
		}
	}
	for _, a := range notElements {
		for _, n := range []int{0, 1, 64, -1, 65} {
			if got := impl.Powers(a, n); got != nil {
				t.Errorf("Powers(%d, %d) = %v, want nil", a, n, got)
			}
		}
	}
}

func TestPowersIsNewMemory(t *testing.T) {
	first := impl.Powers(3, 64)
	second := impl.Powers(3, 64)
	for i := range first {
		first[i] = -5
	}
	third := impl.Powers(3, 64)
	for i := range 64 {
		check(t, "a result after another one was changed", second[i], wantedPower(3, i))
		check(t, "a result of a later call", third[i], wantedPower(3, i))
	}
}
