package seal_test

import (
	"bytes"
	"hash/crc32"
	"math"
	"testing"

	"counterpane/seal"
)

// noise returns n bytes that look random and are the same at every run.
func noise(n int, seed uint32) []byte {
	b := make([]byte, n)
	x := seed*2654435761 + 12345
	for i := range b {
		x ^= x << 13
		x ^= x >> 17
		x ^= x << 5
		b[i] = byte(x >> 11)
	}
	return b
}

// slowSum follows the definition of 2.1, bit by bit.
func slowSum(b []byte) uint32 {
	register := uint32(math.MaxUint32)
	for _, c := range b {
		for i := range 8 {
			out := register & 1
			register >>= 1
			if out != uint32(c>>i)&1 {
				register ^= 0x82f63b78
			}
		}
	}
	return ^register
}

// spare returns b with memory of the caller's behind its length, and that memory.
func spare(b []byte) ([]byte, []byte) {
	all := append(bytes.Clone(b), bytes.Repeat([]byte{0xEE}, 64)...)
	return all[:len(b)], all[len(b):]
}

func untouched(t *testing.T, name string, behind []byte) {
	t.Helper()
	if !bytes.Equal(behind, bytes.Repeat([]byte{0xEE}, len(behind))) {
		t.Errorf("%s: memory behind the length of the argument was written", name)
	}
}

// wantNone checks that Get rejects b and returns no bytes beside false.
func wantNone(t *testing.T, name string, b []byte) {
	t.Helper()
	if c, ok := seal.Get(b); ok || c != nil {
		t.Errorf("%s: Get(%x) = %x, %v, want nil, false", name, b, c, ok)
	}
}

// wantSealed checks that Get returns want for b.
func wantSealed(t *testing.T, name string, b, want []byte) {
	t.Helper()
	if c, ok := seal.Get(b); !ok || !bytes.Equal(c, want) {
		t.Errorf("%s: Get(%x) = %x, %v, want %x, true", name, b, c, ok, want)
	}
}

// invert inverts a bit of b, counted as in 2.1: the lowest bit of each byte first.
func invert(b []byte, bit int) {
	b[bit/8] ^= 1 << (bit % 8)
}

// 2.1: the chapter's example, and the checksums that RFC 3720 lists.
func TestSumKnown(t *testing.T) {
	up, down := make([]byte, 32), make([]byte, 32)
	for i := range 32 {
		up[i], down[31-i] = byte(i), byte(i)
	}
	cases := []struct {
		b    []byte
		want uint32
	}{
		{[]byte("123456789"), 0xe3069283},
		{make([]byte, 32), 0x8a9136aa},
		{bytes.Repeat([]byte{0xff}, 32), 0x62a8ab43},
		{up, 0x46dd794e},
		{down, 0x113fdb5c},
		{[]byte("a"), 0xc1d04330},
	}
	for _, c := range cases {
		if got := seal.Sum(c.b); got != c.want {
			t.Errorf("Sum(%x) = %08x, want %08x", c.b, got, c.want)
		}
	}
}

// 2.1: the register is inverted twice if there are no bits between.
func TestSumOfNothing(t *testing.T) {
	if seal.Sum(nil) != 0 || seal.Sum([]byte{}) != 0 {
		t.Errorf("Sum of no bytes = %08x, %08x, want 0", seal.Sum(nil), seal.Sum([]byte{}))
	}
}

// 2.1: zero bytes count, also at the beginning and at the end.
func TestSumCountsZeroBytes(t *testing.T) {
	seen := map[uint32]int{}
	for n := range 300 {
		sum := seal.Sum(make([]byte, n))
		if before, ok := seen[sum]; ok {
			t.Errorf("%d and %d zero bytes have the same checksum", before, n)
		}
		seen[sum] = n
	}
	one := seal.Sum([]byte{1})
	if seal.Sum([]byte{0, 1}) == one || seal.Sum([]byte{1, 0}) == one {
		t.Error("a zero byte beside a byte does not count")
	}
}

// 2.1: every byte at every step of the register, and every length.
func TestSumByDefinition(t *testing.T) {
	table := crc32.MakeTable(crc32.Castagnoli)
	check := func(b []byte) {
		t.Helper()
		kept := bytes.Clone(b)
		got := seal.Sum(b)
		if want := slowSum(kept); got != want || want != crc32.Checksum(kept, table) {
			t.Errorf("Sum(%x) = %08x, want %08x", kept, got, want)
		}
		if !bytes.Equal(b, kept) {
			t.Errorf("Sum changed %x to %x", kept, b)
		}
	}
	for c := range 256 {
		check([]byte{byte(c)})
		check([]byte{byte(c), 0, byte(c)})
		for d := range 256 {
			check([]byte{byte(c), byte(d)})
		}
	}
	for n := range 600 {
		check(noise(n, uint32(n)))
	}
	check(noise(100000, 7))
}

// 2.1 and R3: the memory behind the length does not count.
func TestSumStopsAtLength(t *testing.T) {
	b, behind := spare([]byte("123456789"))
	if got := seal.Sum(b); got != 0xe3069283 {
		t.Errorf("Sum = %08x", got)
	}
	if got := seal.Go(seal.Sum(nil), b); got != 0xe3069283 {
		t.Errorf("Go = %08x", got)
	}
	untouched(t, "Sum and Go", behind)
}

// 2.2: wherever the bytes are cut, ends included.
func TestGoAtEveryCut(t *testing.T) {
	if got := seal.Go(seal.Sum([]byte("1234")), []byte("56789")); got != 0xe3069283 {
		t.Errorf("the example, cut = %08x", got)
	}
	for n := range 70 {
		b := noise(n, uint32(n)+1000)
		want := slowSum(b)
		for cut := range n + 1 {
			if got := seal.Go(seal.Sum(b[:cut]), b[cut:]); got != want {
				t.Errorf("%x cut at %d: %08x, want %08x", b, cut, got, want)
			}
		}
	}
}

// 2.2: in any number of pieces.
func TestGoInPieces(t *testing.T) {
	b := noise(100, 5)
	want := slowSum(b)
	for size := 1; size <= len(b); size++ {
		sum := seal.Sum(nil)
		for from := 0; from < len(b); from += size {
			sum = seal.Go(sum, b[from:min(from+size, len(b))])
		}
		if sum != want {
			t.Errorf("pieces of %d: %08x, want %08x", size, sum, want)
		}
	}
}

// 2.2: no bytes leave a checksum as it is; every number is the checksum of some bytes.
func TestGoByNothing(t *testing.T) {
	for _, sum := range []uint32{0, 1, 0xe3069283, 0x7fffffff, 0x80000000, math.MaxUint32} {
		if seal.Go(sum, nil) != sum || seal.Go(sum, []byte{}) != sum {
			t.Errorf("Go(%08x, nothing) = %08x, %08x", sum, seal.Go(sum, nil), seal.Go(sum, []byte{}))
		}
	}
}

// 2.2: from the numbers at the limits too.
func TestGoFromAnySum(t *testing.T) {
	table := crc32.MakeTable(crc32.Castagnoli)
	for _, sum := range []uint32{0, 1, 0xe3069283, 0x7fffffff, 0x80000000, math.MaxUint32} {
		for n := range 20 {
			b := noise(n, sum)
			kept := bytes.Clone(b)
			if got, want := seal.Go(sum, b), crc32.Update(sum, table, kept); got != want {
				t.Errorf("Go(%08x, %x) = %08x, want %08x", sum, kept, got, want)
			}
			if !bytes.Equal(b, kept) {
				t.Errorf("Go changed %x to %x", kept, b)
			}
		}
	}
}

// 2.3: the bytes, and their checksum with the lowest byte first.
func TestPut(t *testing.T) {
	if b := seal.Put([]byte("123456789")); string(b) != "123456789\x83\x92\x06\xe3" {
		t.Errorf("Put of the example = %x", b)
	}
	for n := range 300 {
		b := noise(n, uint32(n)+2000)
		sum := slowSum(b)
		want := append(bytes.Clone(b), byte(sum), byte(sum>>8), byte(sum>>16), byte(sum>>24))
		if got := seal.Put(b); !bytes.Equal(got, want) {
			t.Errorf("Put(%x) = %x, want %x", b, got, want)
		}
	}
}

// 2.3: no bytes at all, by Put and by Get.
func TestSealedNothing(t *testing.T) {
	for _, b := range [][]byte{nil, {}} {
		if got := seal.Put(b); !bytes.Equal(got, []byte{0, 0, 0, 0}) {
			t.Errorf("Put of no bytes = %x", got)
		}
	}
	wantSealed(t, "no bytes", []byte{0, 0, 0, 0}, nil)
}

// 2.3: Get returns what Put was given, also bytes that are sealed already.
func TestGetOfPut(t *testing.T) {
	for n := range 300 {
		b := noise(n, uint32(n)+3000)
		once := seal.Put(b)
		wantSealed(t, "once", once, b)
		wantSealed(t, "twice", seal.Put(once), once)
	}
	wantSealed(t, "zero bytes", seal.Put(make([]byte, 9)), make([]byte, 9))
}

// 2.3: fewer than four bytes have no room for a checksum.
func TestGetOfFewBytes(t *testing.T) {
	wantNone(t, "nil", nil)
	for n := range 4 {
		wantNone(t, "zero bytes", make([]byte, n))
		wantNone(t, "bytes 255", bytes.Repeat([]byte{255}, n))
		b, behind := spare([]byte{0, 0, 0, 0})
		wantNone(t, "more behind the length", b[:n])
		untouched(t, "Get", behind)
	}
}

// 2.3: bytes that are no result of Put.
func TestGetOfOthers(t *testing.T) {
	sealed := seal.Put([]byte("123456789"))
	for n := range len(sealed) {
		wantNone(t, "cut at the end", sealed[:n])
		if n > 0 {
			wantNone(t, "cut at the beginning", sealed[n:])
		}
	}
	wantNone(t, "longer by a zero byte", append(bytes.Clone(sealed), 0))
	wantNone(t, "longer at the beginning", append([]byte{0}, sealed...))
	wantNone(t, "big-endian", []byte("123456789\xe3\x06\x92\x83"))
	wantNone(t, "not inverted at the end", []byte("123456789\x7c\x6d\xf9\x1c"))
	wantNone(t, "four bytes 255", bytes.Repeat([]byte{255}, 4))
	for n := 5; n < 40; n++ {
		wantNone(t, "zero bytes", make([]byte, n))
		wantNone(t, "noise", noise(n, uint32(n)+4000))
	}
}

// 2.3 and P6: of the bytes with one body, just one checksum is taken.
func TestGetTakesOneSum(t *testing.T) {
	for _, body := range [][]byte{nil, []byte("x"), []byte("counterpane")} {
		sealed := seal.Put(body)
		for place := range 4 {
			for c := range 256 {
				b := bytes.Clone(sealed)
				at := len(body) + place
				b[at] = byte(c)
				if b[at] == sealed[at] {
					wantSealed(t, "the right byte", b, body)
				} else {
					wantNone(t, "another byte", b)
				}
			}
		}
	}
}

// 2.3 and R3: neither the argument nor the memory behind it is changed or shared.
func TestPutNewMemory(t *testing.T) {
	for _, body := range []string{"", "ab", "counterpane"} {
		b, behind := spare([]byte(body))
		out := seal.Put(b)
		for i := range out {
			out[i] ^= 0x55
		}
		untouched(t, "Put", behind)
		if string(b) != body {
			t.Errorf("Put shares %q: now %q", body, b)
		}
	}
}

// 2.3 and R3: what Get returns is the caller's, as is what it was given.
func TestGetNewMemory(t *testing.T) {
	for _, body := range []string{"", "ab", "counterpane"} {
		sealed := seal.Put([]byte(body))
		b, behind := spare(sealed)
		out, ok := seal.Get(b)
		if !ok {
			t.Fatalf("Get of the result of Put(%q) is false", body)
		}
		for i := range out {
			out[i] ^= 0x55
		}
		_ = append(out, 1, 2, 3, 4)
		untouched(t, "Get", behind)
		if !bytes.Equal(b, sealed) {
			t.Errorf("Get shares %x: now %x", sealed, b)
		}
	}
}

// bodies are what the tests of 2.4 seal.
func bodies() [][]byte {
	return [][]byte{nil, {0}, []byte("abc"), []byte("counterpane"), make([]byte, 20), noise(61, 9)}
}

// 2.4: one inverted bit, and two within 32, at every place.
func TestInvertedBits(t *testing.T) {
	for _, body := range bodies() {
		b := seal.Put(body)
		bits := 8 * len(b)
		for first := range bits {
			invert(b, first)
			wantNone(t, "one bit", b)
			for second := first + 1; second < min(first+32, bits); second++ {
				invert(b, second)
				wantNone(t, "two bits", b)
				invert(b, second)
			}
			invert(b, first)
		}
		wantSealed(t, "inverted back", b, body)
	}
}

// 2.4: bursts of every length up to 32 at every place, with all bits inverted and with some.
func TestBursts(t *testing.T) {
	for _, body := range bodies() {
		sealed := seal.Put(body)
		bits := 8 * len(sealed)
		for length := 1; length <= 32; length++ {
			for first := range bits - length + 1 {
				for _, pattern := range patterns(length, first) {
					b := bytes.Clone(sealed)
					for i := range length {
						if pattern>>i&1 == 1 {
							invert(b, first+i)
						}
					}
					wantNone(t, "burst", b)
				}
			}
		}
	}
}

// patterns returns bursts of a length, both ends inverted: whole, alternating, and as noise has it.
func patterns(length, seed int) []uint32 {
	whole := uint32(1<<length - 1)
	ends := 1 | uint32(1)<<(length-1)
	list := []uint32{whole, 0x55555555&whole | ends}
	for i := range 3 {
		b := noise(4, uint32(seed*100+length*10+i))
		n := uint32(b[0]) | uint32(b[1])<<8 | uint32(b[2])<<16 | uint32(b[3])<<24
		list = append(list, n&whole|ends)
	}
	return list
}

// syndrome is what a checksum behind its bytes differs by from the right one.
func syndrome(b []byte) uint32 {
	n := len(b) - 4
	tail := uint32(b[n]) | uint32(b[n+1])<<8 | uint32(b[n+2])<<16 | uint32(b[n+3])<<24
	return seal.Sum(b[:n]) ^ tail
}

// independent reports whether no XOR of one or more of the numbers is 0.
func independent(numbers []uint32) bool {
	var byTop [33]uint32
	for _, n := range numbers {
		for top := 32; top > 0; top-- {
			if n>>(top-1)&1 == 0 {
				continue
			}
			if byTop[top] == 0 {
				byTop[top] = n
				break
			}
			n ^= byTop[top]
		}
		if n == 0 {
			return false
		}
	}
	return true
}

// 2.4: all patterns at once. A checksum is linear in its bits but for a constant, so a pattern goes unseen only if the effects of its bits cancel each other out.
func TestNoBurstCancels(t *testing.T) {
	sealed := seal.Put(noise(224, 11))
	var effects []uint32
	for bit := range 8 * len(sealed) {
		invert(sealed, bit)
		effects = append(effects, syndrome(sealed))
		invert(sealed, bit)
	}
	for first := range len(effects) - 31 {
		if !independent(effects[first : first+32]) {
			t.Errorf("a pattern within the bits %d to %d goes unseen", first, first+31)
		}
	}
}
