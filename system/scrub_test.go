package system_test

import (
	"maps"
	"slices"
	"testing"

	"cambium/api"
	"cambium/dev"
)

var scrubCall = api.Call{Kind: api.CallScrub}

// wantScrub asks for a scrub to tell some blocks, rising, and nothing else.
func wantScrub(t *testing.T, what string, s api.Store, blocks ...uint32) {
	t.Helper()
	asked(s, scrubCall).want(t, what, answer{store: s, heard: api.Heard{Blocks: blocks}})
}

// spoilt is a system of whose medium a block has other data.
func spoilt(t *testing.T, s api.Store, num uint32, data string) api.Store {
	t.Helper()
	d, why := dev.Spoil(s.Dev, num, data)
	if why != api.OK {
		t.Fatalf("Spoil: error %d", why)
	}
	s.Dev = d
	return s
}

// others are data that a block may have in place of some.
func others(was string) []string {
	l := []string{"", "x", was + "x", letters(api.BlockSize)}
	if was != "" {
		turned := []byte(was)
		turned[len(turned)/2] ^= 16
		l = append(l, was[:len(was)-1], string(turned))
	}
	return l
}

// 19.2 and 19.7: of each block that is spoilt a scrub tells, if it is in use, and of no other.
func TestScrubOfEachBlock(t *testing.T) {
	one := after(t, fresh(t, 32), volCall(api.VolOpMake, "m", ""))
	for what, s := range map[string]api.Store{"the sample": sample(t), "one superblock": one, "a new one": fresh(t, 16), "without room": filled(t)} {
		used := inUse(s)
		wantScrub(t, what, s)
		for num := range s.Dev.Size {
			was, _ := dev.Read(s.Dev, num)
			for _, data := range others(was) {
				bad := spoilt(t, s, num, data)
				now, _ := dev.Read(bad.Dev, num)
				if _, use := used[num]; use && now != was {
					wantScrub(t, what+", spoilt", bad, num)
				} else {
					wantScrub(t, what+", spoilt where nothing is", bad)
				}
			}
		}
	}
}

// 19.7: of many blocks that are spoilt a scrub tells those in use, rising.
func TestScrubOfMany(t *testing.T) {
	s := sample(t)
	used := slices.Sorted(maps.Keys(inUse(s)))
	bad := s
	for num := range s.Dev.Size {
		bad = spoilt(t, bad, sampleSize-1-num, "spoilt")
	}
	wantScrub(t, "all", bad, used...)
	if len(used) < 8 || used[0] != 0 || used[1] != 1 {
		t.Errorf("in use: %v", used)
	}
	blank := s
	blank.Dev.Blocks = nil
	wantScrub(t, "a blank device", blank, used...)
	asked(bad, scrubCall).want(t, "by the words", wordedScrub(bad))
	healed := bad
	healed.Dev.Blocks = s.Dev.Blocks
	wantScrub(t, "healed", healed)
}

// 19.2: what waits is what a block is read as.
func TestScrubOfWhatWaits(t *testing.T) {
	s := sample(t)
	table := s.Slots[1].Table
	was, _ := dev.Read(s.Dev, table)
	waits := s
	waits.Dev.Waits = []api.Block{{Num: table, Data: "x"}, {Num: 1}, {Num: 63, Data: "y"}}
	wantScrub(t, "a table and a superblock wait", waits, 1, table)
	waits.Dev.Waits = []api.Block{{Num: table, Data: "x"}, {Num: table, Data: was}}
	wantScrub(t, "the last one is as it was", waits)
	bad := spoilt(t, waits, table, "spoilt")
	wantScrub(t, "what waits lies over what is spoilt", bad)
}

// 19.2: a slot that is not Valid has no blocks, whatever stands there.
func TestScrubOfASlotThatIsNone(t *testing.T) {
	s := sample(t)
	d, _ := dev.Spoil(s.Dev, s.Slots[0].Table, "spoilt")
	again := asked(s, scrubCall)
	again.want(t, "the sample", answer{store: s})
	elder, why := openedOn(d)
	if why != api.OK || elder.Valid[0] {
		t.Fatalf("Open: %v, error %d", elder.Slots, why)
	}
	wantScrub(t, "the newest table is spoilt, and the elder one in use", elder)
	wantScrub(t, "what stands in the other slot", spoilt(t, elder, 0, "x"))
	wantScrub(t, "its own slot", spoilt(t, elder, 1, "x"), 1)
	wantScrub(t, "its own table", spoilt(t, elder, elder.Slots[1].Table, "x"), elder.Slots[1].Table)
}

// 19.2: a block that only what was not synced leads to is none of those in use, till it is synced.
func TestScrubOfWhatIsNotSynced(t *testing.T) {
	s := sample(t)
	if _, use := inUse(s)[s.Table.Num]; use {
		t.Fatal("the sample was synced")
	}
	wantScrub(t, "not synced", spoilt(t, s, s.Table.Num, "spoilt"))
	synced := after(t, s, syncCall)
	wantScrub(t, "synced", synced)
	wantScrub(t, "synced, and spoilt", spoilt(t, synced, s.Table.Num, "spoilt"), s.Table.Num)
}
