package tests

import (
	"math"
	"testing"

	"loop.example/g00611/impl"
)

// notSecrets holds field elements, too, that are no secret keys.
func notSecrets() []int { return append([]int{0, prime - 1}, notElements...) }

// notPublics holds field elements, too, that are no public keys.
func notPublics() []int { return append([]int{0, 1, prime - 1}, notElements...) }

func secretKeys() []int {
	var list []int
	for _, a := range elements() {
		if a != 0 && a != prime-1 {
			list = append(list, a)
		}
	}
	return list
}

func publicKeys() []int {
	var list []int
	for _, a := range secretKeys() {
		if a != 1 {
			list = append(list, a)
		}
	}
	return list
}

func TestPubOf(t *testing.T) {
	check(t, "PubOf(1)", impl.PubOf(1), 7)
	check(t, "PubOf(2)", impl.PubOf(2), 49)
	check(t, "PubOf(3)", impl.PubOf(3), 343)
	check(t, "PubOf(P-2)", impl.PubOf(prime-2), 1840700269)
	check(t, "PubOf(P-3)", impl.PubOf(prime-3), 1796874072)
	check(t, "PubOf((P-1)/2)", impl.PubOf((prime-1)/2), prime-1)
	for _, secret := range secretKeys() {
		check(t, "PubOf", impl.PubOf(secret), wantedPower(7, secret))
	}
	for _, secret := range notSecrets() {
		check(t, "PubOf of no secret key", impl.PubOf(secret), -1)
	}
}

func TestShared(t *testing.T) {
	check(t, "Shared(2, PubOf(3))", impl.Shared(2, impl.PubOf(3)), 117649)
	check(t, "Shared(3, PubOf(2))", impl.Shared(3, impl.PubOf(2)), 117649)
	check(t, "Shared(1, 2)", impl.Shared(1, 2), 2)
	check(t, "Shared(1, P-2)", impl.Shared(1, prime-2), prime-2)
	check(t, "Shared(2, P-2)", impl.Shared(2, prime-2), 4)
	check(t, "Shared(P-2, 2)", impl.Shared(prime-2, 2), 1<<30)
	check(t, "Shared(P-2, P-2)", impl.Shared(prime-2, prime-2), prime-1<<30)
	for _, secret := range secretKeys() {
		for _, pub := range publicKeys() {
			check(t, "Shared", impl.Shared(secret, pub), wantedPower(pub, secret))
		}
	}
}

func TestSharedOfOtherNumbers(t *testing.T) {
	for _, secret := range secretKeys() {
		for _, pub := range notPublics() {
			check(t, "Shared with no public key", impl.Shared(secret, pub), -1)
		}
	}
	for _, secret := range notSecrets() {
		for _, pub := range publicKeys() {
			check(t, "Shared with no secret key", impl.Shared(secret, pub), -1)
		}
		for _, pub := range notPublics() {
			check(t, "Shared with no key", impl.Shared(secret, pub), -1)
		}
	}
}

func TestTwoPartiesShareTheirSecret(t *testing.T) {
	for _, one := range secretKeys() {
		for _, other := range secretKeys() {
			// The power of G is P - 1 for one secret, and that is no public key.
			if one == (prime-1)/2 || other == (prime-1)/2 {
				continue
			}
			here := impl.Shared(one, impl.PubOf(other))
			there := impl.Shared(other, impl.PubOf(one))
			check(t, "the secret of one party, by the other one", here, there)
			check(t, "the shared secret", here, wantedPower(wantedPower(7, one), other))
		}
	}
	check(t, "Shared(3, PubOf((P-1)/2))", impl.Shared(3, impl.PubOf((prime-1)/2)), -1)
	check(t, "Shared((P-1)/2, PubOf(3))", impl.Shared((prime-1)/2, impl.PubOf(3)), prime-1)
}

func TestKeyOf(t *testing.T) {
	fixed := []struct{ shared, label, want int }{
		{0, 0, 1214375201}, {1, 0, 280083199}, {0, 1, 637236980}, {0, 99, 2059749791},
		{prime - 1, 0, 1183556}, {prime - 1, 99, 846558146}, {prime - 2, 50, 2143335566},
		{117649, 5, 906896140}, {123456789, 71, 796857604}, {1, 2, 1273290404}, {2, 1, 916136623},
	}
	for _, f := range fixed {
		check(t, "KeyOf", impl.KeyOf(f.shared, f.label), f.want)
	}
	for _, shared := range elements() {
		for label := range 100 {
			check(t, "KeyOf", impl.KeyOf(shared, label), wantedKey(shared, label))
		}
	}
}

func TestKeyOfOtherNumbers(t *testing.T) {
	labels := []int{-1, -99, math.MinInt, 100, 101, 255, 1 << 32, prime, math.MaxInt}
	for _, label := range labels {
		for _, shared := range elements() {
			check(t, "KeyOf with an invalid label", impl.KeyOf(shared, label), -1)
		}
		for _, shared := range notElements {
			check(t, "KeyOf with two invalid arguments", impl.KeyOf(shared, label), -1)
		}
	}
	for _, shared := range notElements {
		for label := range 100 {
			check(t, "KeyOf with an invalid secret", impl.KeyOf(shared, label), -1)
		}
	}
}

// Keys differ for different labels of one secret, and for different secrets
// with one label; there are fewer keys than pairs of both.
func TestDifferentInputsDeriveDifferentKeys(t *testing.T) {
	for _, shared := range elements() {
		seen := map[int]int{}
		for label := range 100 {
			key := impl.KeyOf(shared, label)
			if other, ok := seen[key]; ok {
				t.Errorf("KeyOf(%d, %d) = KeyOf(%d, %d)", shared, label, shared, other)
			}
			seen[key] = label
		}
	}
	for _, label := range []int{0, 1, 5, 9, 71, 72, 98, 99} {
		seen := map[int]int{}
		for i := range 3000 {
			for _, shared := range []int{i, prime - 1 - i} {
				key := impl.KeyOf(shared, label)
				if other, ok := seen[key]; ok {
					t.Errorf("KeyOf(%d, %d) = KeyOf(%d, %d)", shared, label, other, label)
				}
				seen[key] = shared
			}
		}
	}
}
