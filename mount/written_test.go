package mount_test

import (
	"maps"
	"slices"
	"testing"

	"cambium/api"
	"cambium/mount"
)

// 10, Words: a superblock's blocks are its own, its Table's, and all below it, as they were written: of each slot that is Valid, and no other.
func TestWritten(t *testing.T) {
	for i, s := range rightStores() {
		want := map[uint32]string{}
		for slot, valid := range s.Valid {
			if valid {
				want[uint32(slot)] = slotOf(s.Slots[slot]).Data
				maps.Copy(want, below(s.Heap, s.Slots[slot].Table))
			}
		}
		var blocks []api.Block
		for _, num := range slices.Sorted(maps.Keys(want)) {
			blocks = append(blocks, api.Block{Num: num, Data: want[num]})
		}
		was := copied(s)
		if l, why := mount.Written(s); !slices.Equal(l, blocks) || why != api.OK || !like(s, was) {
			t.Errorf("%d: Written: %v, error %d, not %v", i, l, why, blocks)
		}
	}
	l, why := mount.Written(changed())
	if want := []api.Block{slotOf(elder), slotOf(newer), leafA, tableOld, leafB, branchC, branchD, tableNew}; !slices.Equal(l, want) || why != api.OK {
		t.Errorf("Written: %v, error %d", l, why)
	}
}

// 10.3: of a store that is not right nothing is told.
func TestWrittenOfWrongStores(t *testing.T) {
	for i, s := range wrongStores() {
		if l, why := mount.Written(s); l != nil || why != api.ErrState {
			t.Errorf("%d: Written: %v, error %d", i, l, why)
		}
	}
}

// 10.5: a copy has what the store has, be it right or not, and shares nothing with it.
func TestCopied(t *testing.T) {
	for i, want := range append(rightStores(), wrongStores()...) {
		s := roomy(want)
		got := mount.Copied(s)
		overwrite(s)
		if !like(got, want) {
			t.Errorf("%d: Copied: %v, not %v", i, got, want)
		}
	}
}
