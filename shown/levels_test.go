package shown

import (
	"slices"
	"testing"

	"conduit/api"
)

// P9.1: level 0 shows what the core has.
func TestCoreAlone(t *testing.T) {
	for _, c := range properSets() {
		ch := api.Chain{Core: store(c)}
		fit(t, ch)
		if l := Levels(ch); !slices.Equal(l, []api.Caps{c}) || Shown(ch) != c || Lost(ch) != 0 {
			t.Fatalf("%s: %s", text(c), texts(l))
		}
		asSaid(t, ch)
	}
}

// P9.1: each row of the table, around a core that has all, and one that has none.
func TestRows(t *testing.T) {
	const all = "flush close batch ack ping reset save load name until"
	const unbatched = "flush close ack ping reset save load name until"
	for _, x := range []struct {
		w             api.Wrap
		ofAll, ofNone string
	}{
		{wrap(api.WrThrough, 0, false), all, ""},
		{wrap(api.WrFilter, 0, false), unbatched, ""},
		{wrap(api.WrLimit, 0, false), unbatched, ""},
		{wrap(api.WrRetry, 0, false), unbatched, ""},
		{wrap(api.WrMap, 0, false), unbatched, ""},
		{wrap(api.WrMask, set("batch load"), false), "batch load", ""},
		{wrap(api.WrHide, 0, false), "", ""},
		{wrap(api.WrGive, set("batch load"), false), all, "batch load"},
		{wrap(api.WrBreaker, 0, false), unbatched, "ping"},
		{wrap(api.WrDedup, 0, false), unbatched, "reset"},
		{wrap(api.WrBuffer, 0, false), all, "flush batch"},
		{wrap(api.WrUntil, 0, false), all, "until"},
	} {
		of := func(c string) api.Chain { return api.Chain{Core: store(set(c)), Wraps: []api.Wrap{x.w}} }
		fit(t, of(all))
		if a, b := Levels(of(all)), Levels(of("")); texts(a) != all+"; "+x.ofAll || texts(b) != "; "+x.ofNone {
			t.Errorf("%+v: %s, %s", x.w, texts(a), texts(b))
		}
		x.w.Open = true
		if a, b := Shown(of(all)), Shown(of("")); a != set(x.ofAll+" open") || b != set(x.ofNone+" open") {
			t.Errorf("%+v: %s, %s", x.w, text(a), text(b))
		}
	}
}

// P9.1, P9.3 to P9.5, of one wrapper: all of them around all cores, with all sets around some.
func TestOneWrapper(t *testing.T) {
	var sets []api.Caps
	for c := api.Caps(1); c < 1024; c++ {
		sets = append(sets, c)
	}
	some := []api.Caps{0, 1023, set("flush batch"), set("until save name"), 1023 &^ set("batch load ack reset")}
	for _, c := range some {
		for _, w := range someWraps(sets...) {
			asSaid(t, api.Chain{Core: store(c), Wraps: []api.Wrap{w}})
		}
	}
	for _, c := range properSets() {
		for _, w := range someWraps(append(some[1:], 1, 4, 16, 512)...) {
			ch := api.Chain{Core: store(c), Wraps: []api.Wrap{w}}
			fit(t, ch)
			asSaid(t, ch)
		}
	}
}

// The same of two and of three wrappers, each with each.
func TestMoreWrappers(t *testing.T) {
	wraps := someWraps(set("flush close"), set("batch ping until"))
	for _, c := range []api.Caps{0, 1023, set("flush batch close save")} {
		for _, one := range wraps {
			for _, two := range wraps {
				ch := api.Chain{Core: store(c), Wraps: []api.Wrap{one, two}}
				asSaid(t, ch)
				for i := 0; i < len(wraps); i += 5 {
					asSaid(t, api.Chain{Core: store(c), Wraps: []api.Wrap{one, two, wraps[i]}})
				}
			}
		}
	}
}

// The same of random chains, up to as many wrappers as there may be.
func TestLongChains(t *testing.T) {
	r := newRandom(1)
	for range 10000 {
		asSaid(t, randomChain(t, r, 8))
	}
}

// Of each wrapper eight times.
func TestEightOfOne(t *testing.T) {
	for _, w := range someWraps(1, 4, 1023, set("batch save open")&1023) {
		for _, c := range properSets() {
			ch := api.Chain{Core: store(c), Wraps: slices.Repeat([]api.Wrap{w}, 8)}
			fit(t, ch)
			asSaid(t, ch)
		}
	}
}

// P9.1: being open is not kept, even by one that keeps all, has all in its Caps or gives all.
func TestOpenIsNotKept(t *testing.T) {
	for _, under := range someWraps(1023) {
		under.Open = true
		for _, w := range someWraps(1023) {
			ch := api.Chain{Core: store(1023), Wraps: []api.Wrap{under, w}}
			if got := Shown(ch)&set("open") != 0; got != w.Open {
				t.Errorf("%+v: %v", ch, got)
			}
			want := -1
			if w.Open {
				want = 2
			}
			if got := Who(ch, api.CapOpen); got != want || Reach(ch, api.CapOpen) != want {
				t.Errorf("%+v: %d, not %d", ch, got, want)
			}
		}
	}
}

// P9.2: what a wrapper gives, Open and not.
func TestGives(t *testing.T) {
	for op, want := range map[int]string{
		api.WrThrough: "", api.WrFilter: "", api.WrLimit: "", api.WrRetry: "", api.WrMap: "", api.WrMask: "", api.WrHide: "",
		api.WrBreaker: "ping", api.WrDedup: "reset", api.WrBuffer: "flush batch", api.WrUntil: "until", api.WrGive: "batch load",
	} {
		for _, open := range []bool{false, true} {
			all := want
			if open {
				all += " open"
			}
			if got := Gives(wrap(op, set("batch load"), open)); got != set(all) {
				t.Errorf("%d %v: %s, not %s", op, open, text(got), all)
			}
		}
	}
	for c := api.Caps(1); c < 1024; c++ {
		give, mask := wrap(api.WrGive, c, false), wrap(api.WrMask, c, false)
		if Gives(give) != c || Gives(mask) != 0 {
			t.Errorf("%s: %s, %s", text(c), text(Gives(give)), text(Gives(mask)))
		}
		give.Open, mask.Open = true, true
		if Gives(give) != c|1024 || Gives(mask) != 1024 {
			t.Errorf("%s: %s, %s", text(c), text(Gives(give)), text(Gives(mask)))
		}
	}
}
