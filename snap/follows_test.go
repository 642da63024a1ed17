package snap

import (
	"bytes"
	"testing"

	"conduit/api"
	"conduit/bus"
	"conduit/check"
	"conduit/shown"
)

func sameEvents(a, b []api.Event) bool {
	if len(a) != len(b) {
		return false
	}
	for i, e := range a {
		x := b[i]
		if e.Kind != x.Kind || e.At != x.At || e.Id != x.Id || e.Handler != x.Handler || e.Corr != x.Corr || !sameResult(e.Result, x.Result) {
			return false
		}
	}
	return true
}

// P29.5: a bus that was saved and loaded goes on as the one that was saved.
func TestGoesOn(t *testing.T) {
	r := newRandom(6)
	for range 600 {
		p := randomPlan(t, r)
		st := randomState(t, r, p)
		for range 12 {
			loaded, e := Load(p, Save(p, st))
			if e != api.OK || !same(loaded, st) {
				t.Fatalf("%s%v: %v, %v", check.Write(p), st, loaded, e)
			}
			s := randomStep(t, r, p)
			next, events := bus.Do(p, st, s)
			again, eventsAgain := bus.Do(p, loaded, s)
			if !same(next, again) || !sameEvents(events, eventsAgain) {
				t.Fatalf("%s%v, %v: %v, %v, then %v, %v", check.Write(p), st, s, next, events, again, eventsAgain)
			}
			st = again
		}
	}
}

// P29.5: a run in the midst of which all is saved and loaded tells what it tells without that.
func TestInTheMidst(t *testing.T) {
	p := plan(t, `handler a = count caps save, load; handler b = store caps flush with buffer 3 5 with limit 3 7 with dedup 4; handler c = fail 2 with breaker 2 4; route "#" -> a; route "#" -> b; route "x" -> c;`)
	var l []api.Step
	for i := range int64(30) {
		l = append(l, publishing("x", number(i)), working(2), ticking(i%3), api.Step{Kind: api.StAsk, Msg: api.Msg{Topic: "y", Reply: "r"}, N: 4})
	}
	_, want := bus.Run(p, append(l, closing()))
	st := bus.New(p)
	for i, s := range append(l, closing()) {
		next, events := bus.Do(p, st, s)
		loaded, e := loadAsSaid(t, p, saveAsSaid(t, p, next))
		if e != api.OK || !sameEvents(events, want[i]) {
			t.Fatalf("%d: %v, %v, not %v", i, e, events, want[i])
		}
		st = loaded
	}
}

// P29.6: what is taken is written so.
func TestOneForm(t *testing.T) {
	r := newRandom(7)
	taken := 0
	for range 3000 {
		p := randomPlan(t, r)
		b := Save(p, randomState(t, r, p))
		if r.IntN(3) > 0 {
			b = enclosed(turned(r, inner(b)))
		}
		st, e := Load(p, b)
		if e != api.OK {
			continue
		}
		taken++
		if again := saveAsSaid(t, p, st); !bytes.Equal(again, b) {
			t.Fatalf("% x, then % x", b, again)
		}
	}
	if taken < 1000 {
		t.Errorf("only %d were taken", taken)
	}
}

// busy is a plan, and the bytes of a state with something in all its parts.
func busy(t testing.TB) (api.Plan, []byte) {
	t.Helper()
	p := plan(t, `handler a = count caps save, load inbox 3; handler b = store with buffer 4 5 with dedup 3 with limit 4 7; route "#" -> a; route "x" -> b;`)
	st := after(p, publishing("x", number(5)), publishing("x", read(t, `[1, "k"]`)), working(3), ticking(3), api.Step{Kind: api.StAsk, Msg: api.Msg{Topic: "x", Reply: "r"}}, working(1), publishing("y", number(6)))
	b := saveAsSaid(t, p, st)
	if _, e := loadAsSaid(t, p, b); e != api.OK || len(st.Posts[1].Held) == 0 || len(st.Posts[0].Inbox.Msgs) == 0 || len(st.Posts[1].Built.Wraps[0].Buffer.Msgs) == 0 {
		t.Fatal(e, st)
	}
	return p, b
}

// P29.7: a stretch of at most 32 bits, behind the first five bytes, each byte's bits from the lowest on.
func TestStretches(t *testing.T) {
	p, b := busy(t)
	r := newRandom(8)
	for first := 40; first < 8*len(b); first++ {
		for range 12 {
			stretch := uint64(r.Uint32()) & (1<<(1+r.IntN(32)) - 1)
			other := bytes.Clone(b)
			for i := range 32 {
				if bit := first + i; (stretch|1)>>i&1 == 1 && bit < 8*len(b) {
					other[bit/8] ^= 1 << (bit % 8)
				}
			}
			if _, e := loadAsSaid(t, p, other); e != api.ErrSum {
				t.Fatalf("from bit %d on %x: %v", first, stretch|1, e)
			}
		}
	}
}

// P29.7: no cut is taken, be its sum right or not; and nothing behind.
func TestCuts(t *testing.T) {
	p, b := busy(t)
	for cut := range b {
		if _, e := loadAsSaid(t, p, b[:cut]); e != api.ErrForm && e != api.ErrSum {
			t.Fatalf("cut off at %d: %v", cut, e)
		}
	}
	for cut := range inner(b) {
		if _, e := loadAsSaid(t, p, enclosed(inner(b)[:cut])); e != api.ErrForm {
			t.Fatalf("cut off at %d, with a sum: %v", cut, e)
		}
	}
	for _, x := range []byte{0, 1, 255} {
		if _, e := loadAsSaid(t, p, append(bytes.Clone(b), x)); e != api.ErrSum {
			t.Fatal(x, e)
		}
		if _, e := loadAsSaid(t, p, enclosed(append(inner(b), x))); e != api.ErrForm {
			t.Fatal(x, e)
		}
	}
}

// P29.8: what is kept, given to the first state, leaves each core as it was, where the core answers both.
func TestByCapability(t *testing.T) {
	r := newRandom(9)
	count, closed := 0, 0
	for range 4000 {
		p := randomPlan(t, r)
		st := randomState(t, r, p)
		l := keepAsSaid(t, p, st)
		next, told := giveAsSaid(t, p, bus.New(p), l)
		for _, d := range l {
			ch := p.Handlers[d.Id].Chain
			if d.Result.Err != api.OK || shown.Who(ch, api.CapSave) != 0 || shown.Who(ch, api.CapLoad) != 0 {
				continue
			}
			core := st.Posts[d.Id].Built.Core
			if got := next.Posts[d.Id].Built.Core; !sameCore(got, core) {
				t.Fatalf("%s%v: %v, not %v", check.Write(p), d, got, core)
			}
			if count++; core.Closed {
				closed++
			}
		}
		for _, d := range told {
			if d.Result.Err != api.OK && d.Result.Err != api.ErrShown {
				t.Fatalf("%s%v: %v", check.Write(p), l, told)
			}
		}
	}
	if count < 1000 || closed < 30 {
		t.Errorf("only %d were kept, %d of them closed", count, closed)
	}
}
