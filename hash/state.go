package hash

import "math/bits"

const (
	pieceSize  = 64     // bytes of the message that are taken at a time
	firstPad   = "\x80" // what stands right behind a message
	lengthSize = 8      // bytes of the message's length, at the end
)

// state is what goes from one piece of the message to the next one.
type state [8]uint32

// words are what a piece of the message is made into, one a round.
type words [64]uint32

// firstState has the fractions of the square roots of the first eight primes.
var firstState = state{
	0x6a09e667, 0xbb67ae85, 0x3c6ef372, 0xa54ff53a, 0x510e527f, 0x9b05688c, 0x1f83d9ab, 0x5be0cd19,
}

// roundWords has the fractions of the cube roots of the first 64 primes.
var roundWords = words{
	0x428a2f98, 0x71374491, 0xb5c0fbcf, 0xe9b5dba5, 0x3956c25b, 0x59f111f1, 0x923f82a4, 0xab1c5ed5,
	0xd807aa98, 0x12835b01, 0x243185be, 0x550c7dc3, 0x72be5d74, 0x80deb1fe, 0x9bdc06a7, 0xc19bf174,
	0xe49b69c1, 0xefbe4786, 0x0fc19dc6, 0x240ca1cc, 0x2de92c6f, 0x4a7484aa, 0x5cb0a9dc, 0x76f988da,
	0x983e5152, 0xa831c66d, 0xb00327c8, 0xbf597fc7, 0xc6e00bf3, 0xd5a79147, 0x06ca6351, 0x14292967,
	0x27b70a85, 0x2e1b2138, 0x4d2c6dfc, 0x53380d13, 0x650a7354, 0x766a0abb, 0x81c2c92e, 0x92722c85,
	0xa2bfe8a1, 0xa81a664b, 0xc24b8b70, 0xc76c51a3, 0xd192e819, 0xd6990624, 0xf40e3585, 0x106aa070,
	0x19a4c116, 0x1e376c08, 0x2748774c, 0x34b0bcb5, 0x391c0cb3, 0x4ed8aa4a, 0x5b9cca4f, 0x682e6ff3,
	0x748f82ee, 0x78a5636f, 0x84c87814, 0x8cc70208, 0x90befffa, 0xa4506ceb, 0xbef9a3f7, 0xc67178f2,
}

// padding is what stands behind a message of n bytes, so that all of it is whole pieces.
func padding(n int) string {
	zeros := (2*pieceSize - len(firstPad) - lengthSize - n%pieceSize) % pieceSize
	length := uint64(n) * 8
	pad := make([]byte, len(firstPad)+zeros+lengthSize)
	copy(pad, firstPad)
	for i := range lengthSize {
		pad[len(pad)-1-i] = byte(length >> (8 * i))
	}
	return string(pad)
}

// through is the state behind a text of whole pieces.
func through(now state, text string) state {
	for at := 0; at < len(text); at += pieceSize {
		now = state.step(now, wordsOf(text[at:at+pieceSize]))
	}
	return now
}

func wordsOf(piece string) words {
	var w words
	for t := range pieceSize / 4 {
		w[t] = uint32(piece[4*t])<<24 | uint32(piece[4*t+1])<<16 | uint32(piece[4*t+2])<<8 | uint32(piece[4*t+3])
	}
	for t := pieceSize / 4; t < len(w); t++ {
		w[t] = spread1(w[t-2]) + w[t-7] + spread0(w[t-15]) + w[t-16]
	}
	return w
}

// step is the state behind a piece of those words.
func (s state) step(w words) state {
	a, b, c, d, e, f, g, h := s[0], s[1], s[2], s[3], s[4], s[5], s[6], s[7]
	for t := range w {
		t1 := h + mix1(e) + choice(e, f, g) + roundWords[t] + w[t]
		t2 := mix0(a) + majority(a, b, c)
		h, g, f, e, d, c, b, a = g, f, e, d+t1, c, b, a, t1+t2
	}
	return state{s[0] + a, s[1] + b, s[2] + c, s[3] + d, s[4] + e, s[5] + f, s[6] + g, s[7] + h}
}

func (s state) bytes() [32]byte {
	var out [32]byte
	for i := range out {
		out[i] = byte(s[i/4] >> (24 - 8*(i%4)))
	}
	return out
}

// choice has each bit of yes where that of which is set, else that of no.
func choice(which, yes, no uint32) uint32 {
	return which&yes | ^which&no
}

func majority(a, b, c uint32) uint32 {
	return a&b | a&c | b&c
}

// spread0 and spread1 are s0 and s1 of the standard, mix0 and mix1 its S0 and S1.
func spread0(x uint32) uint32 {
	return turned(x, 7) ^ turned(x, 18) ^ x>>3
}

func spread1(x uint32) uint32 {
	return turned(x, 17) ^ turned(x, 19) ^ x>>10
}

func mix0(x uint32) uint32 {
	return turned(x, 2) ^ turned(x, 13) ^ turned(x, 22)
}

func mix1(x uint32) uint32 {
	return turned(x, 6) ^ turned(x, 11) ^ turned(x, 25)
}

// turned is x turned right by k bits.
func turned(x uint32, k int) uint32 {
	return bits.RotateLeft32(x, -k)
}
