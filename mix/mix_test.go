package mix_test

import (
	"math"
	"math/big"
	"slices"
	"testing"

	"counterpane/mix"
)

// increment is what the definition of 3.1 adds to a key.
const increment = 0x9e3779b97f4a7c15

// samples returns keys at both ends of their range, around every power of two, and some between.
func samples() []uint64 {
	list := []uint64{0, 1, 2, math.MaxUint64 - 1, math.MaxUint64}
	for i := range 64 {
		power := uint64(1) << i
		list = append(list, power-1, power, power+1, ^power)
	}
	k := uint64(88172645463325252)
	for range 1000 {
		k ^= k << 13
		k ^= k >> 7
		k ^= k << 17
		list = append(list, k)
	}
	return list
}

// slowMix follows the definition of 3.1 in numbers without a limit.
func slowMix(k uint64) uint64 {
	modulus := new(big.Int).Lsh(big.NewInt(1), 64)
	number := func(n uint64) *big.Int { return new(big.Int).SetUint64(n) }
	fold := func(z *big.Int, shift uint) *big.Int {
		return new(big.Int).Xor(z, new(big.Int).Rsh(z, shift))
	}
	times := func(z *big.Int, factor uint64) *big.Int {
		z = new(big.Int).Mul(z, number(factor))
		return z.Mod(z, modulus)
	}
	z := new(big.Int).Add(number(k), number(increment))
	z.Mod(z, modulus)
	z = times(fold(z, 30), 0xbf58476d1ce4e5b9)
	z = times(fold(z, 27), 0x94d049bb133111eb)
	return fold(z, 31).Uint64()
}

// bitOf reports whether a bit of the hash of k is set, by division alone.
func bitOf(k uint64, at int) bool {
	x := slowMix(k)
	for range at {
		x /= 2
	}
	return x%2 == 1
}

// 3.1: the chapter's example, and the numbers that others publish for this function.
func TestMixKnown(t *testing.T) {
	cases := []struct {
		seed uint64
		want []uint64
	}{
		{0, []uint64{0xe220a8397b1dcdaf, 0x6e789e6aa1b965f4, 0x06c45d188009454f, 0xf88bb8a8724c81ec, 0x1b39896a51a8749b}},
		{1234567, []uint64{6457827717110365317, 3203168211198807973, 9817491932198370423, 4593380528125082431, 16408922859458223821}},
	}
	for _, c := range cases {
		k := c.seed
		for _, want := range c.want {
			if got := mix.Mix(k); got != want {
				t.Errorf("Mix(%#x) = %#x, want %#x", k, got, want)
			}
			if got := mix.Unmix(want); got != k {
				t.Errorf("Unmix(%#x) = %#x, want %#x", want, got, k)
			}
			k += increment
		}
	}
}

// 3.1: as it is defined, at both ends of the range too.
func TestMixByDefinition(t *testing.T) {
	for _, k := range samples() {
		if got, want := mix.Mix(k), slowMix(k); got != want {
			t.Errorf("Mix(%#x) = %#x, want %#x", k, got, want)
		}
	}
}

// 3.1: the key whose sum with the increment is 0 is the one with the hash 0.
func TestHashZero(t *testing.T) {
	minus := ^uint64(increment) + 1
	if mix.Mix(minus) != 0 || mix.Unmix(0) != minus {
		t.Errorf("Mix(%#x) = %#x, Unmix(0) = %#x", minus, mix.Mix(minus), mix.Unmix(0))
	}
}

// 3.1: there and back, in both orders.
func TestUnmix(t *testing.T) {
	for _, n := range samples() {
		if got := mix.Unmix(mix.Mix(n)); got != n {
			t.Errorf("Unmix(Mix(%#x)) = %#x", n, got)
		}
		if got := mix.Mix(mix.Unmix(n)); got != n {
			t.Errorf("Mix(Unmix(%#x)) = %#x", n, got)
		}
	}
}

// 3.2: the chapter's example, and its hash cut by hand: 0xe220a8397b1dcdaf.
func TestLowKnown(t *testing.T) {
	cases := []struct{ n, want int }{
		{math.MinInt, 0}, {-64, 0}, {-1, 0}, {0, 0},
		{1, 1}, {2, 3}, {4, 0xf}, {5, 0xf}, {6, 0x2f}, {8, 175}, {12, 0xdaf}, {16, 0xcdaf},
		{30, 0x3b1dcdaf}, {31, 0x7b1dcdaf}, {32, 0x7b1dcdaf},
		{33, 0x7b1dcdaf}, {36, 0x7b1dcdaf}, {63, 0x7b1dcdaf}, {64, 0x7b1dcdaf}, {65, 0x7b1dcdaf}, {math.MaxInt, 0x7b1dcdaf},
	}
	for _, c := range cases {
		if got := mix.Low(0, c.n); got != c.want {
			t.Errorf("Low(0, %d) = %#x, want %#x", c.n, got, c.want)
		}
	}
}

// 3.2: 32 bits are a number without a sign.
func TestLowOfOnes(t *testing.T) {
	cases := []struct {
		hash    uint64
		n, want int
	}{
		{math.MaxUint64, 31, 1<<31 - 1},
		{math.MaxUint64, 32, 1<<32 - 1},
		{math.MaxUint64, 33, 1<<32 - 1},
		{1 << 31, 31, 0},
		{1 << 31, 32, 1 << 31},
		{1 << 32, 32, 0},
		{1 << 32, 33, 0},
		{1 << 63, math.MaxInt, 0},
		{math.MaxUint64, 0, 0},
		{math.MaxUint64, 1, 1},
	}
	for _, c := range cases {
		if got := mix.Low(mix.Unmix(c.hash), c.n); got != c.want {
			t.Errorf("Low of the hash %#x, %d bits = %#x, want %#x", c.hash, c.n, got, c.want)
		}
	}
}

// 3.2: every number of bits, by division.
func TestLowByDefinition(t *testing.T) {
	for _, k := range samples() {
		hash := slowMix(k)
		size := uint64(1)
		for n := range 33 {
			if got, want := mix.Low(k, n), int(hash%size); got != want {
				t.Errorf("Low(%#x, %d) = %#x, want %#x", k, n, got, want)
			}
			size *= 2
		}
	}
}

// 3.2: bit 0 is the lowest one; the hash of 0 is 0xe220a8397b1dcdaf.
func TestBitKnown(t *testing.T) {
	ones := []int{0, 1, 2, 3, 5, 7, 8, 61, 62, 63}
	noughts := []int{4, 6, 9, 58, 59, 60}
	for _, at := range ones {
		if !mix.Bit(0, at) {
			t.Errorf("Bit(0, %d) = false", at)
		}
	}
	for _, at := range noughts {
		if mix.Bit(0, at) {
			t.Errorf("Bit(0, %d) = true", at)
		}
	}
}

// outside are places at which a hash has no bit.
func outside() []int {
	return []int{math.MinInt, math.MinInt + 63, -64, -63, -1, 64, 65, 127, 128, 1 << 32, 1<<32 + 1, math.MaxInt}
}

// 3.2: every bit of a hash, and none beside it.
func TestBitByDefinition(t *testing.T) {
	for _, k := range append(samples(), mix.Unmix(0), mix.Unmix(math.MaxUint64), mix.Unmix(1), mix.Unmix(1<<63)) {
		for at := range 64 {
			if got, want := mix.Bit(k, at), bitOf(k, at); got != want {
				t.Errorf("Bit(%#x, %d) = %v, want %v", k, at, got, want)
			}
		}
		for _, at := range outside() {
			if mix.Bit(k, at) {
				t.Errorf("Bit(%#x, %d) = true", k, at)
			}
		}
	}
}

// wantSplit checks what Split returns, and that it leaves l as it is.
func wantSplit(t *testing.T, l []uint64, at int, below, above []uint64) {
	t.Helper()
	kept := slices.Clone(l)
	b, a := mix.Split(l, at)
	if !slices.Equal(b, below) || !slices.Equal(a, above) {
		t.Errorf("Split(%x, %d) = %x, %x, want %x, %x", kept, at, b, a, below, above)
	}
	if !slices.Equal(l, kept) {
		t.Errorf("Split changed %x to %x", kept, l)
	}
}

// 3.2: keys by their hashes, both sides in the order of the list and not of the numbers.
func TestSplitKnown(t *testing.T) {
	var l []uint64
	for _, hash := range []uint64{6, 1, 4, 3, 0, 7, 2, 5} {
		l = append(l, mix.Unmix(hash))
	}
	pick := func(places ...int) []uint64 {
		var out []uint64
		for _, i := range places {
			out = append(out, l[i])
		}
		return out
	}
	wantSplit(t, l, 0, pick(0, 2, 4, 6), pick(1, 3, 5, 7))
	wantSplit(t, l, 1, pick(1, 2, 4, 7), pick(0, 3, 5, 6))
	wantSplit(t, l, 2, pick(1, 3, 4, 6), pick(0, 2, 5, 7))
	wantSplit(t, l, 3, l, nil)
	wantSplit(t, l, 63, l, nil)
}

// 3.2: many keys at every bit, side by side with the definition.
func TestSplitByBit(t *testing.T) {
	l := samples()
	for at := range 64 {
		var below, above []uint64
		for _, k := range l {
			if bitOf(k, at) {
				above = append(above, k)
			} else {
				below = append(below, k)
			}
		}
		wantSplit(t, l, at, below, above)
	}
}

// 3.2: no elements, and one.
func TestSplitOfFew(t *testing.T) {
	for _, at := range append(outside(), 0, 31, 63) {
		wantSplit(t, nil, at, nil, nil)
		wantSplit(t, []uint64{}, at, nil, nil)
	}
	wantSplit(t, []uint64{0}, 0, nil, []uint64{0})
	wantSplit(t, []uint64{0}, 4, []uint64{0}, nil)
	wantSplit(t, []uint64{0}, 63, nil, []uint64{0})
}

// 3.2: equal elements are all returned, each in its place.
func TestSplitOfEqual(t *testing.T) {
	zeros := make([]uint64, 5)
	wantSplit(t, zeros, 0, nil, zeros)
	wantSplit(t, zeros, 4, zeros, nil)
	even, odd, other := mix.Unmix(2), mix.Unmix(1), mix.Unmix(3)
	l := []uint64{odd, even, other, odd, even, odd, other}
	wantSplit(t, l, 0, []uint64{even, even}, []uint64{odd, other, odd, odd, other})
}

// 3.2: where there is no bit, Bit reports false for every key.
func TestSplitOutside(t *testing.T) {
	l := append(samples(), mix.Unmix(math.MaxUint64))
	for _, at := range outside() {
		wantSplit(t, l, at, l, nil)
	}
}

// overwrite writes to all memory of a list, also behind its length.
func overwrite(l []uint64) {
	l = l[:cap(l)]
	for i := range l {
		l[i] = 0xEEEE
	}
}

// 3.2 and R3: the lists share no memory with the argument, nor with each other.
func TestSplitNewMemory(t *testing.T) {
	all := samples()
	l := all[:100]
	for _, at := range []int{-1, 0, 1, 63, 64} {
		kept := slices.Clone(all)
		below, above := mix.Split(l, at)
		want := slices.Clone(above)
		overwrite(below)
		if !slices.Equal(above, want) {
			t.Errorf("at %d: the lists share memory", at)
		}
		overwrite(above)
		if !slices.Equal(all, kept) {
			t.Errorf("at %d: Split shares memory with its argument", at)
		}
	}
}

// wantAlike checks Alike of two keys, in both orders.
func wantAlike(t *testing.T, a, b uint64, want int) {
	t.Helper()
	if got := mix.Alike(a, b); got != want {
		t.Errorf("Alike(%#x, %#x) = %d, want %d", a, b, got, want)
	}
	if got := mix.Alike(b, a); got != want {
		t.Errorf("Alike(%#x, %#x) = %d, want %d", b, a, got, want)
	}
}

// 3.3: equal keys.
func TestAlikeOfEqual(t *testing.T) {
	for _, k := range samples() {
		wantAlike(t, k, k, 64)
	}
}

// 3.3: hashes whose first difference is at each bit, from the lowest to the highest, alone and with others above it.
func TestAlikeAtEveryBit(t *testing.T) {
	for _, k := range samples() {
		hash := slowMix(k)
		for at := range 64 {
			first := uint64(1) << at
			wantAlike(t, k, mix.Unmix(hash^first), at)
			wantAlike(t, k, mix.Unmix(hash^(first|1<<63)), at)
			all := ^uint64(0) << at
			wantAlike(t, k, mix.Unmix(hash^all), at)
		}
	}
}

// 3.3: by comparing the bits one by one.
func TestAlikeByDefinition(t *testing.T) {
	l := samples()
	for i, a := range l {
		b := l[(i*7+1)%len(l)]
		want := 0
		for want < 64 && bitOf(a, want) == bitOf(b, want) {
			want++
		}
		wantAlike(t, a, b, want)
	}
}

// 3.3: hashes, not keys, are compared: keys of hashes that are written out.
func TestAlikeComparesHashes(t *testing.T) {
	wantAlike(t, mix.Unmix(0), mix.Unmix(1), 0)
	wantAlike(t, mix.Unmix(0), mix.Unmix(1<<63), 63)
	wantAlike(t, mix.Unmix(0), mix.Unmix(math.MaxUint64), 0)
	wantAlike(t, mix.Unmix(0b0100), mix.Unmix(0b1100), 3)
	wantAlike(t, mix.Unmix(0b0101), mix.Unmix(0b1111), 1)
}

// 3.4: many keys in a row, at both ends of the range.
func TestHashesOfNeighbours(t *testing.T) {
	seen := map[uint64]uint64{}
	for i := range uint64(100000) {
		for _, k := range []uint64{i, math.MaxUint64 - i, i << 40} {
			before, ok := seen[mix.Mix(k)]
			if ok && before != k {
				t.Fatalf("Mix(%#x) = Mix(%#x)", before, k)
			}
			seen[mix.Mix(k)] = k
		}
	}
}

// 3.4: keys that differ in one bit or in two; no bit of a key goes lost.
func TestHashesOfNearKeys(t *testing.T) {
	for _, k := range samples() {
		hash := mix.Mix(k)
		for i := range 64 {
			for j := range i + 1 {
				near := k ^ 1<<i
				if j < i {
					near ^= 1 << j
				}
				if mix.Mix(near) == hash || mix.Alike(k, near) == 64 {
					t.Fatalf("Mix(%#x) = Mix(%#x)", k, near)
				}
			}
		}
	}
}
