package hash_test

import (
	"crypto/sha256"
	"encoding/hex"
	"strings"
	"sync"
	"testing"

	"cambium/api"
	"cambium/hash"
)

const hexOfAbc = "ba7816bf8f01cfea414140de5dae2223b00361a396177a9cb410ff61f20015ad"

// filled is a text of n bytes that look mixed, and are the same in every run.
func filled(n int) string {
	b := make([]byte, n)
	x := uint32(n) + 1
	for i := range b {
		x = x*1664525 + 1013904223
		b[i] = byte(x >> 24)
	}
	return string(b)
}

// 2.1: texts whose hashes the standard tells.
func TestSumOfKnownTexts(t *testing.T) {
	for s, want := range map[string]string{
		"":    "e3b0c44298fc1c149afbf4c8996fb92427ae41e4649b934ca495991b7852b855",
		"abc": hexOfAbc,
		"abcdbcdecdefdefgefghfghighijhijkijkljklmklmnlmnomnopnopq": "248d6a61d20638b8e5c026930c3e6039a33ce45964ff2167f6ecedd419db06c1",
		strings.Repeat("a", 1000000):                               "cdc76e5c9914fb9281a1c7e284d73e67f1809a48a497200e046d39ccc7112cd0",
	} {
		if h := hash.Sum(s); hex.EncodeToString(h[:]) != want {
			t.Errorf("Sum of %d bytes %.10q: %x", len(s), s, h)
		}
	}
}

// 2.1: texts of all lengths around those at which the padding is a piece longer.
func TestSumOfAllLengths(t *testing.T) {
	for n := range 700 {
		for _, s := range []string{filled(n), strings.Repeat("\x00", n), strings.Repeat("\xff", n)} {
			if got, want := hash.Sum(s), sha256.Sum256([]byte(s)); got != want {
				t.Fatalf("Sum of %d bytes %.10q: %x, not %x", n, s, got, want)
			}
		}
	}
}

// 2.1: a text whose length in bits takes more than three bytes.
func TestSumOfALongText(t *testing.T) {
	s := filled(1<<22 + 5)
	if got, want := hash.Sum(s), sha256.Sum256([]byte(s)); got != want {
		t.Errorf("Sum of %d bytes: %x, not %x", len(s), got, want)
	}
}

// 2.1: each byte is two digits, the higher one first.
func TestHex(t *testing.T) {
	var rising [32]byte
	for i := range rising {
		rising[i] = byte(i * 8)
	}
	for _, x := range []struct {
		h    [32]byte
		want string
	}{
		{[32]byte{}, strings.Repeat("0", 64)},
		{[32]byte{0x12, 31: 0xef}, "12" + strings.Repeat("0", 60) + "ef"},
		{rising, "0008101820283038404850586068707880889098a0a8b0b8c0c8d0d8e0e8f0f8"},
		{hash.Sum("abc"), hexOfAbc},
	} {
		if got := hash.Hex(x.h); got != x.want {
			t.Errorf("Hex(%v): %s", x.h, got)
		}
	}
}

// 2.1: each digit, at each place, is what it says.
func TestParse(t *testing.T) {
	for place := range 64 {
		for value, digit := range "0123456789abcdef" {
			s := strings.Repeat("0", place) + string(digit) + strings.Repeat("0", 63-place)
			var want [32]byte
			want[place/2] = byte(value << (4 * (1 - place%2)))
			if got, why := hash.Parse(s); got != want || why != api.OK {
				t.Errorf("Parse(%q): %x, error %d", s, got, why)
			}
		}
	}
}

// 2.1: any other byte, at any place, is no digit.
func TestParseOfWrongDigits(t *testing.T) {
	for place := range 64 {
		for c := range 256 {
			if strings.IndexByte("0123456789abcdef", byte(c)) >= 0 {
				continue
			}
			s := hexOfAbc[:place] + string([]byte{byte(c)}) + hexOfAbc[place+1:]
			if got, why := hash.Parse(s); got != ([32]byte{}) || why != api.ErrForm {
				t.Errorf("Parse(%q): %x, error %d", s, got, why)
			}
		}
	}
}

// 2.1: a text of another length is no hash.
func TestParseOfWrongLengths(t *testing.T) {
	for n := range 200 {
		if n == 64 {
			continue
		}
		if got, why := hash.Parse(strings.Repeat("a", n)); got != ([32]byte{}) || why != api.ErrForm {
			t.Errorf("Parse of %d digits: %x, error %d", n, got, why)
		}
	}
	for _, s := range []string{hexOfAbc + "\x00", " " + hexOfAbc, hexOfAbc + hexOfAbc, "0x" + hexOfAbc[2:], strings.ToUpper(hexOfAbc), strings.Repeat("é", 32)} {
		if got, why := hash.Parse(s); got != ([32]byte{}) || why != api.ErrForm {
			t.Errorf("Parse(%q): %x, error %d", s, got, why)
		}
	}
}

// 2.1: a single digit has the value that Parse takes it for, and what Parse takes for none has none.
func TestDigitValue(t *testing.T) {
	for c := range 256 {
		want := strings.IndexByte("0123456789abcdef", byte(c))
		value, ok := hash.DigitValue(byte(c))
		if ok != (want >= 0) || ok && int(value) != want || !ok && value != 0 {
			t.Errorf("DigitValue(%q): %d, %v", byte(c), value, ok)
		}
		h, why := hash.Parse(strings.Repeat("0", 63) + string([]byte{byte(c)}))
		if (why == api.OK) != ok || h[31] != value {
			t.Errorf("DigitValue(%q): %d, %v, but Parse: %x, error %d", byte(c), value, ok, h, why)
		}
	}
}

// 2.2: what was handed in, and what was answered, stays what it was, whatever is asked behind it.
func TestNothingIsKept(t *testing.T) {
	h := hash.Sum("abc")
	was := h
	text := hash.Hex(h)
	got, _ := hash.Parse(text)
	hash.Sum("another one")
	hash.Hex([32]byte{1})
	hash.Parse(strings.Repeat("f", 64))
	hash.Parse("none")
	if h != was || got != was || text != hexOfAbc {
		t.Errorf("answered once: %x, %x, %s", h, got, text)
	}
	if hash.Sum("abc") != was || hash.Hex(was) != text {
		t.Error("it is answered otherwise, asked again")
	}
}

// 2.2: who asks beside others is answered likewise.
func TestMayBeAskedTogether(t *testing.T) {
	var all sync.WaitGroup
	right := make([]bool, 16)
	for i := range right {
		all.Go(func() {
			h, why := hash.Parse(hexOfAbc)
			value, ok := hash.DigitValue('f')
			right[i] = why == api.OK && h == hash.Sum("abc") && hash.Hex(h) == hexOfAbc && ok && value == 15
		})
	}
	all.Wait()
	for i, ok := range right {
		if !ok {
			t.Errorf("asked together, %d: another answer", i)
		}
	}
}

// 2.3: Parse of Hex is the hash; Hex of what Parse takes is the text.
func TestThereAndBack(t *testing.T) {
	for n := range 300 {
		h := hash.Sum(filled(n))
		text := hash.Hex(h)
		got, why := hash.Parse(text)
		if got != h || why != api.OK {
			t.Errorf("Parse(%q): %x, error %d", text, got, why)
		}
		if hash.Hex(got) != text {
			t.Errorf("Hex of Parse(%q): %s", text, hash.Hex(got))
		}
	}
	for _, text := range []string{strings.Repeat("0", 64), strings.Repeat("f", 64), strings.Repeat("0123456789abcdef", 4), strings.Repeat("f0", 32)} {
		h, why := hash.Parse(text)
		if why != api.OK || hash.Hex(h) != text {
			t.Errorf("Hex of Parse(%q): %s, error %d", text, hash.Hex(h), why)
		}
	}
}
