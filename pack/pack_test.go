package pack_test

import (
	"math"
	"sort"
	"strings"
	"testing"

	"cambium/api"
	"cambium/pack"
)

// wrongWidths are widths that no number has.
var wrongWidths = []int{math.MinInt, -8, -1, 0, 9, 64, 1 << 61, 1<<61 + 1, math.MaxInt}

// numbers are some of each count of bytes, from the least to the greatest.
func numbers() []uint64 {
	l := []uint64{0, 2, 127, 128, 129, 258, 513, 0x0102030405060708, 0x8877665544332211}
	for bit := range 64 {
		l = append(l, 1<<bit-1, 1<<bit, 1<<bit+1)
	}
	return append(l, math.MaxUint64-1, math.MaxUint64)
}

// 1.1: the highest byte stands first.
func TestNumber(t *testing.T) {
	for _, x := range []struct {
		n     uint64
		width int
		want  string
	}{
		{0, 1, "\x00"},
		{255, 1, "\xff"},
		{258, 2, "\x01\x02"},
		{258, 3, "\x00\x01\x02"},
		{258, 8, "\x00\x00\x00\x00\x00\x00\x01\x02"},
		{0x01020304, 4, "\x01\x02\x03\x04"},
		{0x0102030405060708, 8, "\x01\x02\x03\x04\x05\x06\x07\x08"},
		{math.MaxUint64, 8, "\xff\xff\xff\xff\xff\xff\xff\xff"},
		{0, 8, "\x00\x00\x00\x00\x00\x00\x00\x00"},
	} {
		if s, why := pack.Number(x.n, x.width); s != x.want || why != api.OK {
			t.Errorf("Number(%d, %d): %q, error %d", x.n, x.width, s, why)
		}
	}
}

// 1.1: the greatest number of a width is one, the next one is not.
func TestNumberAtTheEdges(t *testing.T) {
	for width := 1; width < 8; width++ {
		over := uint64(1) << (8 * width)
		if s, why := pack.Number(over-1, width); s != strings.Repeat("\xff", width) || why != api.OK {
			t.Errorf("Number(%d, %d): %q, error %d", over-1, width, s, why)
		}
		for _, n := range []uint64{over, over + 1, 1 << 63, math.MaxUint64} {
			if s, why := pack.Number(n, width); s != "" || why != api.ErrRange {
				t.Errorf("Number(%d, %d): %q, error %d", n, width, s, why)
			}
		}
	}
}

// 1.1: a width that is none is answered ahead of all else.
func TestWrongWidths(t *testing.T) {
	for _, width := range wrongWidths {
		for _, n := range []uint64{0, 1, math.MaxUint64} {
			if s, why := pack.Number(n, width); s != "" || why != api.ErrRange {
				t.Errorf("Number(%d, %d): %q, error %d", n, width, s, why)
			}
		}
		for _, s := range []string{"", "a", "0123456789"} {
			if n, rest, why := pack.TakeNumber(s, width); n != 0 || rest != "" || why != api.ErrRange {
				t.Errorf("TakeNumber(%q, %d): %d, %q, error %d", s, width, n, rest, why)
			}
		}
	}
}

// 1.1: a number is taken, and what is behind it is told.
func TestTakeNumber(t *testing.T) {
	for _, x := range []struct {
		s     string
		width int
		n     uint64
		rest  string
	}{
		{"\x00", 1, 0, ""},
		{"\xffab", 1, 255, "ab"},
		{"\x01\x02x", 2, 258, "x"},
		{"\x00\x01\x02", 3, 258, ""},
		{"\x80\x00\x00\x00\x00\x00\x00\x01\x00", 8, 1<<63 + 1, "\x00"},
		{"\xff\xff\xff\xff\xff\xff\xff\xff", 8, math.MaxUint64, ""},
	} {
		if n, rest, why := pack.TakeNumber(x.s, x.width); n != x.n || rest != x.rest || why != api.OK {
			t.Errorf("TakeNumber(%q, %d): %d, %q, error %d", x.s, x.width, n, rest, why)
		}
	}
}

// 1.1: with one byte less than its width there is no number.
func TestTakeNumberOfTooFew(t *testing.T) {
	for width := 1; width <= 8; width++ {
		for have := range width {
			s := strings.Repeat("\x07", have)
			if n, rest, why := pack.TakeNumber(s, width); n != 0 || rest != "" || why != api.ErrMore {
				t.Errorf("TakeNumber(%q, %d): %d, %q, error %d", s, width, n, rest, why)
			}
		}
	}
}

// 1.2: a text's bytes are its length, of width 2, and its own.
func TestText(t *testing.T) {
	for s, want := range map[string]string{
		"":                         "\x00\x00",
		"a":                        "\x00\x01a",
		"\x00":                     "\x00\x01\x00",
		"\xff\xfe":                 "\x00\x02\xff\xfe",
		strings.Repeat("x", 255):   "\x00\xff" + strings.Repeat("x", 255),
		strings.Repeat("x", 256):   "\x01\x00" + strings.Repeat("x", 256),
		strings.Repeat("x", 65534): "\xff\xfe" + strings.Repeat("x", 65534),
		strings.Repeat("x", 65535): "\xff\xff" + strings.Repeat("x", 65535),
	} {
		if got, why := pack.Text(s); got != want || why != api.OK {
			t.Errorf("Text of %d bytes: %d bytes, error %d", len(s), len(got), why)
		}
	}
	for _, n := range []int{65536, 65537, 1 << 20} {
		if got, why := pack.Text(strings.Repeat("x", n)); got != "" || why != api.ErrLong {
			t.Errorf("Text of %d bytes: %d bytes, error %d", n, len(got), why)
		}
	}
}

// 1.2: a text is taken, and what is behind it is told.
func TestTakeText(t *testing.T) {
	for _, x := range []struct{ s, text, rest string }{
		{"\x00\x00", "", ""},
		{"\x00\x00ab", "", "ab"},
		{"\x00\x01ab", "a", "b"},
		{"\x00\x02ab", "ab", ""},
		{"\x00\x02\x00\x00\x00", "\x00\x00", "\x00"},
		{"\x01\x00" + strings.Repeat("y", 257), strings.Repeat("y", 256), "y"},
		{"\xff\xff" + strings.Repeat("y", 65535), strings.Repeat("y", 65535), ""},
	} {
		if text, rest, why := pack.TakeText(x.s); text != x.text || rest != x.rest || why != api.OK {
			t.Errorf("TakeText of %d bytes %.10q: %d bytes, %q, error %d", len(x.s), x.s, len(text), rest, why)
		}
	}
}

// 1.2: bytes that end too soon have no text.
func TestTakeTextOfTooFew(t *testing.T) {
	for _, s := range []string{"", "\x00", "\xff", "\x00\x01", "\x00\x02a", "\x01\x00a", "\xff\xff", "\xff\xff" + strings.Repeat("y", 65534)} {
		if text, rest, why := pack.TakeText(s); text != "" || rest != "" || why != api.ErrMore {
			t.Errorf("TakeText of %d bytes %.10q: %q, %q, error %d", len(s), s, text, rest, why)
		}
	}
}

// 1.3: what was answered stays what it was, and is answered again, whatever is asked between.
func TestNothingIsKept(t *testing.T) {
	number, _ := pack.Number(258, 2)
	text, _ := pack.Text("abc")
	taken, rest, _ := pack.TakeText("\x00\x01ab")
	pack.Number(0xffff, 2)
	pack.Text("xyz")
	pack.TakeText("\x00\x01xy")
	if number != "\x01\x02" || text != "\x00\x03abc" || taken != "a" || rest != "b" {
		t.Errorf("answered once: %q, %q, %q, %q", number, text, taken, rest)
	}
	again, _ := pack.Number(258, 2)
	textAgain, _ := pack.Text("abc")
	if again != number || textAgain != text {
		t.Errorf("answered again: %q, %q", again, textAgain)
	}
}

// 1.4: what is taken of what was made is what it was, and what stood behind it.
func TestNumbersThereAndBack(t *testing.T) {
	for _, n := range numbers() {
		for width := 1; width <= 8; width++ {
			s, why := pack.Number(n, width)
			if why != api.OK {
				continue
			}
			for _, behind := range []string{"", "\x00", "behind"} {
				if got, rest, why := pack.TakeNumber(s+behind, width); got != n || rest != behind || why != api.OK {
					t.Errorf("number %d of width %d: %d, %q, error %d", n, width, got, rest, why)
				}
			}
		}
		if _, why := pack.Number(n, 8); why != api.OK {
			t.Errorf("Number(%d, 8): error %d", n, why)
		}
	}
}

// 1.4: likewise of texts, one behind the other.
func TestTextsThereAndBack(t *testing.T) {
	var all string
	lengths := []int{0, 1, 2, 255, 256, 257, 511, 65534, 65535}
	for _, n := range lengths {
		s, why := pack.Text(filled(n))
		if why != api.OK {
			t.Fatalf("Text of %d bytes: error %d", n, why)
		}
		all += s
	}
	all += "behind"
	for _, n := range lengths {
		text, rest, why := pack.TakeText(all)
		if text != filled(n) || why != api.OK {
			t.Fatalf("text of %d bytes: %d bytes, error %d", n, len(text), why)
		}
		all = rest
	}
	if all != "behind" {
		t.Errorf("behind the texts: %q", all)
	}
}

// 1.6: numbers' bytes of one width stand as the numbers do.
func TestNumbersStandInOrder(t *testing.T) {
	l := numbers()
	sort.Slice(l, func(i, j int) bool { return l[i] < l[j] })
	for width := 1; width <= 8; width++ {
		for i := 1; i < len(l); i++ {
			low, _ := pack.Number(l[i-1], width)
			high, why := pack.Number(l[i], width)
			if why != api.OK {
				break
			}
			if (low < high) != (l[i-1] < l[i]) || (low == high) != (l[i-1] == l[i]) {
				t.Errorf("width %d: %d is %q, and %d is %q", width, l[i-1], low, l[i], high)
			}
		}
	}
}
