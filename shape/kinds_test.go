package shape

import (
	"testing"

	"conduit/api"
)

const allKinds uint32 = 1<<api.NumKinds - 1

// P17.4: each map, and what is none, of each kind alone and of all sets of kinds.
func TestKinds(t *testing.T) {
	for _, op := range anyOps() {
		for kinds := range allKinds + 1 {
			kindsAsSaid(t, op, kinds)
		}
	}
}

// P17.4: what is written, in numbers of its own.
func TestKindsWritten(t *testing.T) {
	for _, c := range []struct {
		op        int
		kinds, to uint32
	}{
		{api.MapDouble, allKinds, 1<<api.KInt | 1<<api.KFloat},
		{api.MapDouble, 1 << api.KFloat, 1 << api.KFloat},
		{api.MapDouble, 1 << api.KKey, 0},
		{api.MapList, 1 << api.KNil, 1 << api.KList},
		{api.MapList, allKinds, 1 << api.KList},
		{api.MapOpen, 1 << api.KPtr, allKinds},
		{api.MapOpen, 1 << api.KNoPtr, 0},
		{api.MapOpen, allKinds &^ (1 << api.KPtr), 0},
		{api.MapSize, allKinds, 1 << api.KInt},
		{api.MapSize, 1 << api.KNoPtr, 1 << api.KInt},
		{api.MapSize, 1<<api.KErr | 1<<api.KNil | 1<<api.KUnit, 0},
		{api.MapName, allKinds, 1 << api.KText},
		{api.MapName, 1 << api.KText, 0},
		{api.MapName, 1 << api.KErr, 1 << api.KText},
		{api.MapNot, allKinds, 1 << api.KBool},
		{api.MapNot, allKinds &^ (1 << api.KBool), 0},
		{api.MapPair, 1 << api.KPair, 1 << api.KPair},
		{api.MapKey, 1<<api.KInt | 1<<api.KText, 1<<api.KKey | 1<<api.KName},
		{api.MapKey, 1<<api.KKey | 1<<api.KNil, 1<<api.KKey | 1<<api.KNil},
		{api.MapKey, allKinds, allKinds &^ (1<<api.KInt | 1<<api.KText)},
		{0, allKinds, 0},
		{api.NumMaps, allKinds, 0},
	} {
		if got := kindsAsSaid(t, c.op, c.kinds); got != c.to {
			t.Errorf("%d of %b: %b", c.op, c.kinds, got)
		}
	}
}

// P17.4: of no kinds there are none, and bits that are no kinds play no part.
func TestOtherBits(t *testing.T) {
	r := newRandom(3)
	for _, op := range anyOps() {
		if Kinds(op, 0) != 0 || Kinds(op, ^allKinds) != 0 {
			t.Errorf("%d of no kinds: %b, %b", op, Kinds(op, 0), Kinds(op, ^allKinds))
		}
		for range 2000 {
			kinds := r.Uint32()
			if got := kindsAsSaid(t, op, kinds); got != Kinds(op, kinds&allKinds) || got&^allKinds != 0 {
				t.Errorf("%d of %b: %b", op, kinds, got)
			}
		}
	}
}
