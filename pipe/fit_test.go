package pipe

import (
	"math"
	"slices"
	"strings"
	"testing"

	"conduit/api"
)

// many is so many of one.
func many[T any](x T, n int) []T { return slices.Repeat([]T{x}, n) }

// sizesFit is whether lists of sizes are fit, of sources and of sinks.
func sizesFit() map[*[]int]bool {
	return map[*[]int]bool{
		{}:                         true,
		{1}:                        true,
		{0, 0, 1}:                  true,
		{0}:                        false,
		{0, 0}:                     false,
		{5, -1}:                    false,
		{-1}:                       false,
		{api.MaxBytes}:             true,
		{api.MaxBytes + 1}:         false,
		{1, math.MaxInt64}:         false,
		{math.MinInt64, 1}:         false,
		at(many(1, 64)):            true,
		at(many(1, 65)):            false,
		at(append(many(0, 63), 1)): true,
		at(many(0, 64)):            false,
	}
}

func at[T any](x T) *T { return &x }

// P36.1: the sizes of sources, of sinks and of sides.
func TestSizes(t *testing.T) {
	for sizes, fits := range sizesFit() {
		inner := api.Sink0{Sizes: *sizes, Room: -1}
		if Source(api.Source{Sizes: *sizes}) != fits || Sink(api.Sink{Inner: inner}) != fits || Source(around(api.Source{}, tee(inner))) != fits {
			t.Error(*sizes)
		}
	}
}

// P36.1: a source's data, and how many wrappers there are.
func TestBounds(t *testing.T) {
	if !Source(api.Source{Data: strings.Repeat("\xff", api.MaxBytes)}) || Source(api.Source{Data: strings.Repeat("a", api.MaxBytes+1)}) {
		t.Error("data")
	}
	if !Source(api.Source{}) || !Source(api.Source{Early: true, Broken: true, Writes: true}) {
		t.Error("a plain source")
	}
	for n, fits := range map[int]bool{0: true, 1: true, 8: true, 9: false, 100: false} {
		if Source(api.Source{Wraps: many(counter, n)}) != fits || Sink(api.Sink{Wraps: many(plain, n)}) != fits {
			t.Error(n)
		}
	}
}

// P36.1: a sink's room, and its bulk, which stands just beside Reads.
func TestRoomAndBulk(t *testing.T) {
	for room, fits := range map[int]bool{-1: true, 0: true, 1: true, api.MaxBytes: true, -2: false, api.MaxBytes + 1: false, math.MinInt64: false, math.MaxInt64: false} {
		if Sink(api.Sink{Inner: api.Sink0{Room: room}}) != fits || Source(around(api.Source{}, tee(api.Sink0{Room: room}))) != fits {
			t.Error(room)
		}
	}
	for bulk, fits := range map[int]bool{1: true, api.MaxBytes: true, 0: false, -1: false, api.MaxBytes + 1: false, math.MaxInt64: false} {
		if Sink(api.Sink{Inner: api.Sink0{Reads: true, Bulk: bulk}}) != fits {
			t.Error(bulk)
		}
		if Sink(api.Sink{Inner: api.Sink0{Bulk: bulk}}) != (bulk == 0) {
			t.Error(bulk, "without Reads")
		}
		if Source(around(api.Source{}, tee(api.Sink0{Reads: true, Bulk: bulk}))) {
			t.Error(bulk, "of a side")
		}
	}
	if Source(around(api.Source{}, tee(api.Sink0{Bulk: 1}))) || !Source(around(api.Source{}, tee(api.Sink0{Over: true}))) {
		t.Error("a side")
	}
}

// P36.1: which wrappers there are of a source and of a sink, and what they bear.
func TestWrappersFit(t *testing.T) {
	for op := -2; op <= api.NumPipes+1; op++ {
		p := api.Pipe{Op: op}
		if Source(around(api.Source{}, p)) != (op >= api.PiPlain && op <= api.PiTee) {
			t.Error(op, "of a source")
		}
		if Sink(aroundTo(anySink, p)) != (op == api.PiPlain || op == api.PiCount) {
			t.Error(op, "of a sink")
		}
		for _, n := range []int64{1, -1, math.MaxInt64, math.MinInt64} {
			p = api.Pipe{Op: op, N: n}
			if Source(around(api.Source{}, p)) != (op == api.PiLimit) || Sink(aroundTo(anySink, p)) {
				t.Error(op, n)
			}
		}
		for _, side := range []api.Sink0{{Sizes: []int{1}}, {Room: 1}, {Room: -1}, {Over: true}} {
			p = api.Pipe{Op: op, Side: side}
			if Source(around(api.Source{}, p)) != (op == api.PiTee) || Sink(aroundTo(anySink, p)) {
				t.Error(op, side)
			}
		}
		for _, side := range []api.Sink0{{Reads: true}, {Bulk: 1}, {Reads: true, Bulk: 1}} {
			p = api.Pipe{Op: op, Side: side}
			if Source(around(api.Source{}, p)) || Sink(aroundTo(anySink, p)) {
				t.Error(op, side)
			}
		}
	}
	if Source(around(api.Source{}, plain, counter, api.Pipe{})) || Sink(aroundTo(anySink, plain, limit(0), counter)) {
		t.Error("one among others")
	}
	if !Source(around(api.Source{}, api.Pipe{Op: api.PiPlain, Side: api.Sink0{Sizes: []int{}}})) {
		t.Error("an empty list in a side that is zero")
	}
}
