package replay

import (
	"bytes"
	"math"
	"slices"
	"strings"
	"testing"

	"conduit/api"
	"conduit/journal"
)

// P28.3: the plan's text, whatever it is, and behind it steps and their events.
func TestRead(t *testing.T) {
	s1, s2, e1, e2 := Step(working(1)), Step(ticking(2)), Event(api.Event{Kind: 1}), Event(api.Event{Kind: 2})
	for _, c := range []struct {
		records [][]byte
		events  []int
	}{
		{[][]byte{planRecord("")}, nil},
		{[][]byte{planRecord("no plan's \xff text")}, nil},
		{[][]byte{planRecord("\x00\x01")}, nil},
		{[][]byte{planRecord("p"), s1}, []int{0}},
		{[][]byte{planRecord("p"), s1, s2, s1}, []int{0, 0, 0}},
		{[][]byte{planRecord("p"), s1, e1, e2, s2, s2, e2}, []int{2, 0, 1}},
	} {
		x := readAsSaid(t, journalOf(t, c.records...))
		if x.e != api.OK || x.text != string(c.records[0][1:]) || len(x.steps) != len(c.events) || len(x.events) != len(c.events) {
			t.Fatalf("%x: %v", c.records, x)
		}
		for i, n := range c.events {
			if len(x.events[i]) != n {
				t.Errorf("%x: %v", c.records, x)
			}
		}
	}
}

// P28.3: bytes that are no journal, or whose records are not such as they must be in their places.
func TestReadPlaces(t *testing.T) {
	p, s, e := planRecord("p"), Step(working(1)), Event(api.Event{Kind: 1})
	for _, b := range [][]byte{
		nil, []byte("CNDJ"), []byte("CNDJ\x02"), []byte("X"), append([]byte{' '}, journalOf(t, p)...),
		journalOf(t), journalOf(t, nil), journalOf(t, nil, p), journalOf(t, s), journalOf(t, s, p), journalOf(t, e), journalOf(t, []byte{3}), journalOf(t, []byte("p"), s),
		journalOf(t, p, e), journalOf(t, p, e, s), journalOf(t, p, p), journalOf(t, p, s, p), journalOf(t, p, s, e, p, s), journalOf(t, p, nil), journalOf(t, p, s, nil, s),
		journalOf(t, p, s, []byte{3}), journalOf(t, p, []byte{0}), journalOf(t, p, s, []byte{255}),
	} {
		if x := readAsSaid(t, b); !sameTold(x, told{e: api.ErrForm}) {
			t.Errorf("% x: %v", b, x)
		}
	}
}

// P28.3: records of steps, of fit ones and others.
func TestReadSteps(t *testing.T) {
	long := strings.Repeat("t", 65000)
	for _, c := range []struct {
		record []byte
		ok     bool
	}{
		{chapterBytes(byte(1), byte(1), "t", number(300), 3, "r", 4, -1), true},
		{chapterBytes(byte(1), byte(1), "t", number(300), api.MaxTick, "", math.MaxInt64, math.MinInt64), true},
		{chapterBytes(byte(1), byte(1), "t", number(1), api.MaxTick+1, "", 0, 0), false},
		{chapterBytes(byte(1), byte(1), "t", number(1), -1, "", 0, 0), false},
		{chapterBytes(byte(1), byte(1), "t", number(1), 0, "", -1, 0), false},
		{chapterBytes(byte(1), byte(1), "", number(1), 0, "", 0, 0), false},
		{chapterBytes(byte(1), byte(1), "#", number(1), 0, "", 0, 0), false},
		{chapterBytes(byte(1), byte(1), "\xff", number(1), 0, "", 0, 0), false},
		{chapterBytes(byte(1), byte(1), "t", number(1), 0, "+", 0, 0), false},
		{chapterBytes(byte(1), byte(1), long, number(1), 0, "", 0, 0), true},
		{chapterBytes(byte(1), byte(1), "t", number(1), 0, long, 0, 0), true},
		{chapterBytes(byte(1), byte(1), "t", byte(14), 0, "", 0, 0), false},
		{chapterBytes(byte(1), byte(1), "t", byte(6), byte(2), 0, "", 0, 0), false},
		{chapterBytes(byte(1), byte(1), "t", number(1), 0, "", 0), false},
		{chapterBytes(byte(1), byte(1), "t", number(1), 0, "", 0, 0, byte(0)), false},
		{chapterBytes(byte(1), byte(2), "t", number(1), 0, "r", 0, 0, 5), true},
		{chapterBytes(byte(1), byte(2), "t", number(1), 0, "", 0, 0, 5), false},
		{chapterBytes(byte(1), byte(2), "t", number(1), 0, "r", 0, 0, -1), false},
		{chapterBytes(byte(1), byte(2), "t", number(1), 0, "r", 0, 0), false},
		{chapterBytes(byte(1), byte(3), api.MaxTick), true},
		{chapterBytes(byte(1), byte(3), api.MaxTick+1), false},
		{chapterBytes(byte(1), byte(3), -1), false},
		{chapterBytes(byte(1), byte(3)), false},
		{chapterBytes(byte(1), byte(3), byte(0x80), byte(0)), false},
		{chapterBytes(byte(1), byte(3), byte(0x80)), false},
		{chapterBytes(byte(1), byte(4), 0), true},
		{chapterBytes(byte(1), byte(4), api.MaxTick+1), false},
		{chapterBytes(byte(1), byte(4), 0, byte(0)), false},
		{chapterBytes(byte(1), byte(5), -9, math.MaxInt64, number(1), true), true},
		{chapterBytes(byte(1), byte(5), 0, 0, number(1), byte(2)), false},
		{chapterBytes(byte(1), byte(5), 0, 0, number(1)), false},
		{chapterBytes(byte(1), byte(5), 0, 0, byte(8), byte(1), true), false},
		{chapterBytes(byte(1), byte(5), 0, 0, false), false},
		{chapterBytes(byte(1), byte(6)), true},
		{chapterBytes(byte(1), byte(6), byte(0)), false},
		{chapterBytes(byte(1), byte(0x86), byte(0)), false},
		{chapterBytes(byte(1), byte(0)), false},
		{chapterBytes(byte(1), byte(7)), false},
		{chapterBytes(byte(1), uint64(1)<<63+6), false},
		{chapterBytes(byte(1), uint64(1<<32+6)), false},
		{chapterBytes(byte(1)), false},
	} {
		x := readAsSaid(t, journalOf(t, planRecord("p"), c.record))
		if (x.e == api.OK) != c.ok || c.ok && !bytes.Equal(Step(x.steps[0]), c.record) {
			t.Errorf("% x: %v", short(c.record), x.e)
		}
	}
}

// P28.3: records of events, such as Event writes, of kinds that no bus tells, too; and others.
func TestReadEvents(t *testing.T) {
	ahead := []byte{2, 7, 2, 4, 6, 8}
	for _, c := range []struct {
		record []byte
		ok     bool
	}{
		{append(ahead, 0, 0, 0, 0, 0), true},
		{append(ahead, 0, 0, 0, 0, 1, 1, 2), true},
		{append(ahead, 0, 0, 0, 0, 1), false},
		{append(ahead, 0, 0, 0, 0, 1, 14), false},
		{append(ahead, 0, 0, 0, 0, 1, 1), false},
		{append(ahead, 0, 0, 0, 0, 1, 6, 2), false},
		{append(ahead, 0, 0, 0, 0, 2), false},
		{append(ahead, 0, 0, 0, 0, 2, 0), false},
		{append(ahead, 0, 0, 0, 0), false},
		{append(ahead, 0, 0, 0, 0, 0, 0), false},
		{append(ahead, 0, 0, 0, 0, 1, 0, 0), false},
		{append(ahead, 0x80, 0, 0, 0, 0, 0), false},
		{append([]byte{2}, bytes.Repeat([]byte{0}, 10)...), true},
		{chapterBytes(byte(2), uint64(math.MaxInt64), -1, math.MinInt64, math.MinInt64, -1, uint64(math.MaxInt64), -1, uint64(math.MaxInt64), -1, false), true},
		{chapterBytes(byte(2), uint64(1<<63), 0, 0, 0, 0, uint64(0), 0, uint64(0), 0, false), false},
		{chapterBytes(byte(2), uint64(1), 0, 0, 0, 0, uint64(1<<63), 0, uint64(0), 0, false), false},
		{chapterBytes(byte(2), uint64(1), 0, 0, 0, 0, uint64(0), 0, uint64(1<<63), 0, false), false},
		{chapterBytes(byte(2), uint64(77), 0, 0, 99, 0, uint64(12345), 0, uint64(99), 0, false), true},
		{[]byte{2}, false},
	} {
		record := slices.Clone(c.record)
		x := readAsSaid(t, journalOf(t, planRecord("p"), Step(closing()), record))
		if (x.e == api.OK) != c.ok || c.ok && !bytes.Equal(Event(x.events[0][0]), record) {
			t.Errorf("% x: %v", record, x)
		}
	}
}

// P28.3: of records that do not stand whole, and of all behind them, nothing is read.
func TestReadWhole(t *testing.T) {
	p, s, e := planRecord("p"), Step(working(1)), Event(api.Event{Kind: 1})
	b := journalOf(t, p, s, e, e)
	for _, behind := range [][]byte{nil, {0}, []byte("CNDJ\x01"), {1, 0, 0xfe, 0xff, 9, 0, 0, 0, 0}, append([]byte{1}, journalOf(t, p)[5:]...)} {
		x := readAsSaid(t, slices.Concat(b, behind))
		if x.e != api.OK || len(x.steps) != 1 || len(x.events[0]) != 2 {
			t.Errorf("% x: %v", behind, x)
		}
	}
	b[len(b)-1] ^= 1
	if x := readAsSaid(t, append(b, journalOf(t, p)[5:]...)); x.e != api.OK || len(x.events[0]) != 1 {
		t.Error(x)
	}
	whole, _, _ := journal.Open(b)
	if len(whole) != 3 {
		t.Error(len(whole))
	}
}

// P28.3: recordings in which records are others, are gone, or come in other places.
func TestReadTurned(t *testing.T) {
	r := newRandom(4)
	good, all := 0, 2500
	for range all {
		p, l := randomPlan(t, r), randomSteps(t, r)
		records := chapterRecords(p, l)
		for range r.IntN(3) {
			at := r.IntN(len(records))
			switch r.IntN(4) {
			case 0:
				records[at] = turned(r, records[at])
			case 1:
				records = slices.Delete(records, at, at+1+r.IntN(min(2, len(records)-at)))
			case 2:
				records = slices.Insert(records, at, pick(r, Step(randomStep(t, r)), Event(randomEvent(t, r)), planRecord("")))
			case 3:
				other := r.IntN(len(records))
				records[at], records[other] = records[other], records[at]
			}
			if len(records) == 0 {
				break
			}
		}
		b := journalOf(t, records...)
		if r.IntN(3) == 0 {
			b = turned(r, b)
		}
		if x := readAsSaid(t, b); x.e == api.OK {
			good++
		}
		playAsSaid(t, p, b)
	}
	if good < all/5 || good > all*4/5 {
		t.Errorf("%d of %d", good, all)
	}
}
