package pack

import "sync/atomic"

const (
	polynomial = 2168537515 // of CRC-32Q: 814141ab
	pieceSize  = 1 << 9     // bytes that are taken into a sum at a time
)

// running is a sum on its way through a text: of the bytes taken so far.
type running struct {
	sum   uint32
	taken atomic.Int64
}

// Sum is a check sum.
func Sum(s string) uint32 {
	var r running
	for at := 0; at < len(s); at = int(r.taken.Load()) {
		r.take(s[at:min(at+pieceSize, len(s))])
	}
	return r.sum
}

// take counts a piece as a whole: to count each byte costs as much as to sum it.
func (r *running) take(piece string) {
	sum := r.sum
	for i := range len(piece) {
		sum = withByte(sum, piece[i])
	}
	r.sum = sum
	r.taken.Add(int64(len(piece)))
}

func withByte(sum uint32, b byte) uint32 {
	sum ^= uint32(b) << 24
	for range 8 {
		sum = doubled(sum)
	}
	return sum
}

// doubled leaves no choice to the processor, which would guess every second one wrongly: -(sum >> 31) has all bits or none.
func doubled(sum uint32) uint32 {
	return sum<<1 ^ polynomial&-(sum>>31)
}
