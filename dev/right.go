package dev

import (
	"strings"

	"cambium/api"
)

const zeroByte = "\x00" // what a block has where nothing was put

// right tells if a device is as the chapter says.
func right(d api.Dev) bool {
	return d.Size >= api.MinBlocks && d.Size <= api.MaxBlocks &&
		rightMedium(d.Blocks, d.Size) && rightWaits(d.Waits, d.Size)
}

func rightMedium(blocks []api.Block, size uint32) bool {
	for i, b := range blocks {
		if i > 0 && b.Num <= blocks[i-1].Num {
			return false
		}
		if b.Data == "" || !rightBlock(b, size) {
			return false
		}
	}
	return true
}

func rightWaits(waits []api.Block, size uint32) bool {
	if len(waits) > api.MaxWaits {
		return false
	}
	for _, b := range waits {
		if !rightBlock(b, size) {
			return false
		}
	}
	return true
}

func rightBlock(b api.Block, size uint32) bool {
	return b.Num < size && len(b.Data) <= api.BlockSize && !strings.HasSuffix(b.Data, zeroByte)
}

// cut is data without the zero bytes at their end.
func cut(data string) string {
	return strings.TrimRight(data, zeroByte)
}
