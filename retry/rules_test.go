package retry

import (
	"encoding/binary"
	"slices"
	"testing"
	"unsafe"

	"conduit/api"
)

// roomy is a value whose lists, those without places too, stand in memory with spare room behind.
func roomy(d api.Datum) api.Datum {
	out := make([]api.Datum, len(d.List)+2)
	for i, part := range d.List {
		out[i] = roomy(part)
	}
	out[len(d.List)].Text, out[len(d.List)+1].Text = "spare", "spare"
	d.List = out[:len(d.List)]
	return d
}

func roomyRow(l []api.Result) []api.Result {
	out := make([]api.Result, len(l), len(l)+2)
	for i, r := range l {
		r.Body = roomy(r.Body)
		out[i] = r
	}
	// What stands in spare room would be worth its try, if there were one.
	out[:cap(out)][len(l)], out[:cap(out)][len(l)+1] = failed(77), gave(77)
	return out
}

// eachList calls do with each list of some values, inner ones ahead.
func eachList(l []api.Datum, do func([]api.Datum)) {
	for _, d := range l {
		eachList(d.List, do)
	}
	do(l)
}

func spoil(l []api.Datum) {
	for i := range l[:cap(l)] {
		l[:cap(l)][i] = api.Datum{Kind: api.KName, Text: "spoilt"}
	}
}

func untouched(t *testing.T, was, is []api.Result) {
	t.Helper()
	if !slices.EqualFunc(was, is, sameResult) {
		t.Fatal("what was handed in has changed")
	}
	for _, r := range is {
		eachList(r.Body.List, func(l []api.Datum) {
			for _, d := range l[len(l):cap(l)] {
				if !sameValue(d, api.Datum{Text: "spare"}) {
					t.Fatal("spare room of a list has changed")
				}
			}
		})
	}
	room := is[len(is):cap(is)]
	if !sameResult(room[0], failed(77)) || !sameResult(room[1], gave(77)) {
		t.Fatal("spare room has changed")
	}
}

// 0.3, 0.4, 0.8: what is handed in stays as it is, spare room too, plays no part behind its end, and is not kept; what was answered does not hang on it, nor another answer on that.
func TestHandedIn(t *testing.T) {
	r := newRandom(6)
	for range 30000 {
		tries, l := randomTries(r), randomRow(r)
		in := roomyRow(l)
		got, made := runAsSaid(t, tries, in)
		untouched(t, l, in)
		for _, one := range in {
			Again(one)
		}
		untouched(t, l, in)
		for _, one := range in {
			eachList(one.Body.List, spoil)
		}
		clear(in[:cap(in)])
		want, _ := chapterRun(tries, l)
		if !sameResult(got, want) {
			t.Fatal("what was answered changed with what was handed in")
		}
		eachList(got.Body.List, spoil)
		if again, n := Run(tries, l); !sameResult(again, want) || n != made {
			t.Fatal("the same, asked again, is answered otherwise")
		}
	}
}

type memory struct{ begin, end uintptr }

// memories is where the lists of values lie, spare room too.
func memories(l []api.Datum) (out []memory) {
	eachList(l, func(l []api.Datum) {
		if cap(l) > 0 {
			begin := uintptr(unsafe.Pointer(unsafe.SliceData(l)))
			out = append(out, memory{begin, begin + uintptr(cap(l))*unsafe.Sizeof(api.Datum{})})
		}
	})
	return out
}

// 0.4, P12.2: the result's memory is its own: none is that of what was handed in, nor does one list of it lie in another's.
func TestMemoryOfItsOwn(t *testing.T) {
	r := newRandom(7)
	lists := 0
	for range 30000 {
		in := roomyRow(randomRow(r))
		got, _ := Run(randomTries(r), in)
		all := memories(got.Body.List)
		lists += len(all)
		for _, one := range in {
			all = append(all, memories(one.Body.List)...)
		}
		slices.SortFunc(all, func(a, b memory) int { return int(a.begin) - int(b.begin) })
		for i := range max(len(all)-1, 0) {
			if all[i].end > all[i+1].begin {
				t.Fatal("two lists share memory")
			}
		}
	}
	if lists < 1000 {
		t.Errorf("only %d lists were looked at", lists)
	}
}

// P12.2: lists that share memory where they are handed in do not where they are told.
func TestSharedWithin(t *testing.T) {
	shared := []api.Datum{{Kind: api.KInt, Int: 1}, {Kind: api.KInt, Int: 2}}
	list := api.Datum{Kind: api.KList, List: shared}
	pair := api.Datum{Kind: api.KPair, List: []api.Datum{list, list}}
	got, _ := Run(1, []api.Result{{Has: true, Body: pair}})
	got.Body.List[0].List[0].Int = 9
	if got.Body.List[1].List[0].Int != 1 || shared[0].Int != 1 {
		t.Error("two places of the answer share a list")
	}
}

// resultsOf makes results of any bytes, two each: one picks, one is put in.
func resultsOf(b []byte) []api.Result {
	sorts := slices.Concat(asking(), ending())
	var l []api.Result
	for ; len(b) > 1; b = b[2:] {
		r := sorts[int(b[0])%len(sorts)]
		switch n := int64(int8(b[1])); n % 4 {
		case 1:
			r.Code = n / 4
		case 2:
			r.Panic.Kind = int(n / 4)
		case 3:
			r.Body.List = []api.Datum{{Kind: api.KInt, Int: n}}
		}
		l = append(l, r)
	}
	return l
}

// FuzzTries looks for rows of results, and numbers, of which something else comes than the chapter says.
func FuzzTries(f *testing.F) {
	r := newRandom(8)
	f.Add(int64(3), int64(5), int64(100), []byte{1, 0, 2, 0, 20, 0, 3, 0})
	for range 40 {
		b := binary.BigEndian.AppendUint64(nil, r.Uint64())
		f.Add(int64(r.IntN(9)), randomNumber(r), randomNumber(r), b)
	}
	f.Fuzz(func(t *testing.T, n, base, most int64, b []byte) {
		l := resultsOf(b)
		for _, one := range l {
			if Again(one) != chapterAgain(one) {
				t.Fatal(show(one))
			}
		}
		runAsSaid(t, n, l)
		waitAsSaid(t, n, base, most)
	})
}
