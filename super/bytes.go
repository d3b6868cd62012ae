package super

import (
	"strings"

	"cambium/api"
	"cambium/pack"
)

const (
	mark       = "\x43\x42" // what a superblock's bytes begin with, and no node's
	sumWidth   = 4          // bytes of the sum, ahead of a superblock's bytes
	sizeWidth  = 4
	genWidth   = 8
	tableWidth = 4
	zeroByte   = "\x00" // what a block has where nothing was put
)

// written is a superblock's bytes.
func written(s api.Super) string {
	return mark + number(uint64(s.Size), sizeWidth) + number(s.Gen, genWidth) +
		number(uint64(s.Table), tableWidth) + string(s.Hash[:])
}

// number leaves the error out: a field is never too great for its width.
func number(n uint64, width int) string {
	s, _ := pack.Number(n, width)
	return s
}

// taken is the superblock whose fields stand in data where one's do, be they one's or not.
func taken(data string) api.Super {
	// Whatever data have, there are bytes enough.
	rest := (data + strings.Repeat(zeroByte, api.BlockSize))[sumWidth+len(mark):]
	size, rest := takeNumber(rest, sizeWidth)
	gen, rest := takeNumber(rest, genWidth)
	table, rest := takeNumber(rest, tableWidth)
	s := api.Super{Size: uint32(size), Gen: gen, Table: uint32(table)}
	copy(s.Hash[:], rest)
	return s
}

// takeNumber leaves the error out: there are bytes enough.
func takeNumber(s string, width int) (uint64, string) {
	n, rest, _ := pack.TakeNumber(s, width)
	return n, rest
}
