package pack_test

import (
	"strings"
	"sync"
	"testing"

	"cambium/pack"
)

// filled is a text of n bytes that look mixed, and are the same in every run.
func filled(n int) string {
	b := make([]byte, n)
	x := uint32(n) + 1
	for i := range b {
		x = x*1664525 + 1013904223
		b[i] = byte(x >> 24)
	}
	return string(b)
}

// divided is the sum by another way: the remainder of the text's bits, and 32 zero bits, divided by the polynomial.
func divided(s string) uint32 {
	const divisor = 1<<32 | 0x814141ab
	var rest uint64
	for _, b := range []byte(s + "\x00\x00\x00\x00") {
		for bit := 7; bit >= 0; bit-- {
			rest = rest<<1 | uint64(b>>bit&1)
			if rest>>32 != 0 {
				rest ^= divisor
			}
		}
	}
	return uint32(rest)
}

func withBitTurned(s string, bit int) string {
	b := []byte(s)
	b[bit/8] ^= 1 << (bit % 8)
	return string(b)
}

// 1.1: texts whose sums are known.
func TestSumOfKnownTexts(t *testing.T) {
	for s, want := range map[string]uint32{
		"":                             0,
		"\x00":                         0,
		strings.Repeat("\x00", 5000):   0,
		"\x01":                         0x814141ab,
		"\x00\x00\x01":                 0x814141ab,
		"\x80":                         divided("\x80"),
		"123456789":                    0x3010bf7f,
		"\x00123456789":                0x3010bf7f,
		strings.Repeat("\xff", 1<<9):   divided(strings.Repeat("\xff", 1<<9)),
		strings.Repeat("\xff", 1<<9+1): divided(strings.Repeat("\xff", 1<<9+1)),
	} {
		if n := pack.Sum(s); n != want {
			t.Errorf("Sum of %d bytes %.20q: %08x, not %08x", len(s), s, n, want)
		}
	}
}

// 1.1: texts of all lengths around those at which a text may be taken in pieces.
func TestSumOfAllLengths(t *testing.T) {
	for n := range 1600 {
		s := filled(n)
		if got, want := pack.Sum(s), divided(s); got != want {
			t.Fatalf("Sum of %d bytes: %08x, not %08x", n, got, want)
		}
	}
	s := filled(1<<20 + 3)
	if got, want := pack.Sum(s), divided(s); got != want {
		t.Errorf("Sum of %d bytes: %08x, not %08x", len(s), got, want)
	}
}

// 1.1: every byte alone.
func TestSumOfEachByte(t *testing.T) {
	for b := range 256 {
		s := string([]byte{byte(b)})
		if got, want := pack.Sum(s), divided(s); got != want {
			t.Errorf("Sum(%q): %08x, not %08x", s, got, want)
		}
	}
}

// 1.3: a sum hangs on its text alone, whatever was summed before or is summed beside it.
func TestSumKeepsNothing(t *testing.T) {
	long, short := filled(3000), "123456789"
	want := pack.Sum(long)
	pack.Sum(short)
	if got := pack.Sum(long); got != want {
		t.Errorf("Sum, asked again: %08x, not %08x", got, want)
	}
	var all sync.WaitGroup
	sums := make([]uint32, 16)
	for i := range sums {
		all.Go(func() { sums[i] = pack.Sum(short) })
	}
	all.Wait()
	for i, got := range sums {
		if got != 0x3010bf7f {
			t.Errorf("Sum, beside others, %d: %08x", i, got)
		}
	}
}

// 1.5: a text with one bit turned has another sum.
func TestSumOfTurnedBits(t *testing.T) {
	for _, s := range []string{"\x00", "\xff", "a", "123456789", strings.Repeat("\x00", 508), strings.Repeat("\xff", 508), filled(508), filled(1025)} {
		was := pack.Sum(s)
		for bit := range 8 * len(s) {
			if pack.Sum(withBitTurned(s, bit)) == was {
				t.Errorf("Sum of %d bytes: bit %d is not seen", len(s), bit)
			}
		}
	}
}
