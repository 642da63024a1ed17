package shut

import (
	"slices"
	"testing"
	"unsafe"

	"conduit/api"
)

// roomyValue is a value whose lists, those without places too, stand in memory with another one behind.
func roomyValue(d api.Datum) api.Datum {
	var l []api.Datum
	for _, part := range d.List {
		l = append(l, roomyValue(part))
	}
	d.List = append(slices.Clip(l), api.Datum{Text: "spare"})[:len(l)]
	return d
}

func roomyResult(r api.Result) api.Result {
	r.Body = roomyValue(r.Body)
	return r
}

// What stands in spare room: numbers that would change the order, and results that would be errors.
func spareNumbers() []int { return []int{0, 1} }

var (
	spareResult = failed(77)
	spareDone   = api.Done{Id: 77, Result: failed(77)}
)

func roomyAfter(after [][]int) [][]int {
	var out [][]int
	for _, l := range after {
		out = append(out, slices.Concat(l, spareNumbers())[:len(l)])
	}
	return append(slices.Clip(out), spareNumbers())[:len(after)]
}

func roomyOutcomes(l []api.Result) (out []api.Result) {
	for _, r := range l {
		out = append(out, roomyResult(r))
	}
	return append(slices.Clip(out), spareResult)[:len(l)]
}

func roomyDone(l []api.Done) (out []api.Done) {
	for _, d := range l {
		out = append(out, api.Done{Id: d.Id, Result: roomyResult(d.Result)})
	}
	return append(slices.Clip(out), spareDone)[:len(l)]
}

func afterSpared(got, made [][]int) bool {
	for i, l := range got {
		if !slices.Equal(l[len(l):len(l)+2], spareNumbers()) || !slices.Equal(l, made[i]) {
			return false
		}
	}
	return len(got) == len(made) && slices.Equal(got[:len(got)+1][len(got)], spareNumbers())
}

func valueSpared(d api.Datum) bool {
	return d.List[:len(d.List)+1][len(d.List)].Text == "spare" && !slices.ContainsFunc(d.List, func(part api.Datum) bool { return !valueSpared(part) })
}

func resultSpared(r api.Result) bool { return valueSpared(r.Body) }

func outcomesSpared(got, made []api.Result) bool {
	lists := !slices.ContainsFunc(got, func(r api.Result) bool { return !resultSpared(r) })
	return lists && slices.EqualFunc(got, made, sameResult) && sameResult(got[:len(got)+1][len(got)], spareResult)
}

func doneSpared(got, made []api.Done) bool {
	lists := !slices.ContainsFunc(got, func(d api.Done) bool { return !resultSpared(d.Result) })
	return lists && sameAll(got, made) && sameDone(got[:len(got)+1][len(got)], spareDone)
}

func spoilNumbers(l []int) {
	for i := range l[:cap(l)] {
		l[:cap(l)][i] = -77
	}
}

func spoilValues(l []api.Datum) {
	for i := range l[:cap(l)] {
		spoilValues(l[:cap(l)][i].List)
		l[:cap(l)][i] = api.Datum{Kind: api.KName, Text: "spoilt"}
	}
}

func spoilDone(l []api.Done) {
	for i := range l[:cap(l)] {
		spoilValues(l[:cap(l)][i].Result.Body.List)
		l[:cap(l)][i] = api.Done{Id: -77, Result: failed(-77)}
	}
}

func spoilOutcomes(l []api.Result) {
	for i := range l[:cap(l)] {
		spoilValues(l[:cap(l)][i].Body.List)
		l[:cap(l)][i] = failed(-77)
	}
}

// 0.3, 0.4, 0.8: what is handed in stays as it is, spare room too, which plays no part; it is not kept, and what was answered does not hang on it, nor another answer on that.
func TestHandedIn(t *testing.T) {
	r := newRandom(6)
	for range 10000 {
		after := randomAfter(r, 8)
		outcomes := randomOutcomes(r, len(after))
		in, how := roomyAfter(after), roomyOutcomes(outcomes)
		order := orderAsSaid(t, in)
		l, good := closeAsSaid(t, in, how)
		if !afterSpared(in, after) || !outcomesSpared(how, outcomes) {
			t.Fatalf("%v: changed", after)
		}
		for _, one := range in[:cap(in)] {
			spoilNumbers(one)
		}
		clear(in[:cap(in)])
		spoilOutcomes(how)
		want := chapterOrder(after)
		if wantDone, wantGood := chapterClose(want, outcomes); !sameOrder(order, want) || !sameAll(l, wantDone) || good != wantGood {
			t.Fatalf("%v: what was answered changed with what was handed in", after)
		}
		spoilNumbers(order.Order)
		spoilNumbers(order.Cycle)
		spoilDone(l)
		orderAsSaid(t, after)
		closeAsSaid(t, after, outcomes)
	}
}

// 0.3, 0.4, 0.8: likewise of Join.
func TestHandedToJoin(t *testing.T) {
	r := newRandom(7)
	for range 20000 {
		l := randomDone(r)
		in := roomyDone(l)
		got, _ := joinAsSaid(t, in)
		if !doneSpared(in, l) {
			t.Fatalf("%s: changed", show(l))
		}
		spoilDone(in)
		if want, _ := chapterJoin(l); !sameAll(got, want) {
			t.Fatalf("%s: what was answered changed with what was handed in", show(l))
		}
		spoilDone(got)
		joinAsSaid(t, l)
	}
}

type memory struct{ begin, end uintptr }

// memoryOf is where a list lies, spare room too.
func memoryOf[T any](l []T) memory {
	begin := uintptr(unsafe.Pointer(unsafe.SliceData(l)))
	return memory{begin, begin + uintptr(cap(l))*unsafe.Sizeof(*new(T))}
}

// memories is where the lists of values lie.
func memories(l []api.Datum) (out []memory) {
	if cap(l) > 0 {
		out = append(out, memoryOf(l))
	}
	for _, d := range l {
		out = append(out, memories(d.List)...)
	}
	return out
}

func memoriesOfDone(l []api.Done) (out []memory) {
	if cap(l) > 0 {
		out = append(out, memoryOf(l))
	}
	for _, d := range l {
		out = append(out, memories(d.Result.Body.List)...)
	}
	return out
}

func apart(t *testing.T, all []memory) {
	t.Helper()
	slices.SortFunc(all, func(a, b memory) int { return int(a.begin) - int(b.begin) })
	for i := range max(len(all)-1, 0) {
		if all[i].end > all[i+1].begin {
			t.Fatal("two lists share memory")
		}
	}
}

// 0.4: no two lists of an answer share memory, nor one of an answer and one of what was handed in.
func TestMemoryOfItsOwn(t *testing.T) {
	r := newRandom(8)
	for range 10000 {
		after := randomAfter(r, 8)
		outcomes := roomyOutcomes(randomOutcomes(r, len(after)))
		var in []memory
		for _, one := range outcomes {
			in = append(in, memories(one.Body.List)...)
		}
		l, _ := Close(after, outcomes)
		bad, _ := Join(l)
		apart(t, slices.Concat(in, memoriesOfDone(l), memoriesOfDone(bad)))
		if c := Order(after); cap(c.Order) > 0 && cap(c.Cycle) > 0 {
			apart(t, []memory{memoryOf(c.Order), memoryOf(c.Cycle)})
		}
	}
}

// 0.4: lists that share memory where they are handed in do not where they are told.
func TestSharedWithin(t *testing.T) {
	shared := []api.Datum{{Kind: api.KInt, Int: 1}}
	list := api.Datum{Kind: api.KList, List: shared}
	for _, e := range []api.Errno{api.ErrHandler, api.ErrPanic, api.OK} {
		one := api.Result{Err: e, Body: api.Datum{Kind: api.KPair, List: []api.Datum{list, list}}}
		l, _ := Close([][]int{nil, nil}, []api.Result{one, one})
		bad, _ := Join([]api.Done{{Result: one}, {Result: one}})
		apart(t, slices.Concat(memories(shared), memoriesOfDone(l), memoriesOfDone(bad)))
	}
}

// 0.8: lists without places, nil or not, are the same.
func TestNilAndEmpty(t *testing.T) {
	for _, after := range [][][]int{nil, {}, make([][]int, 0, 3), chapterAfter()[:0]} {
		for _, outcomes := range [][]api.Result{nil, {}, badResults()[:0], badResults()} {
			if c := orderAsSaid(t, after); len(c.Order)+len(c.Cycle) > 0 {
				t.Error(c)
			}
			if l, good := closeAsSaid(t, after, outcomes); len(l) > 0 || !good {
				t.Errorf("%s, %t", show(l), good)
			}
		}
	}
	for _, l := range [][]api.Done{nil, {}, make([]api.Done, 0, 3), append([]api.Done{}, spareDone)[:0]} {
		if bad, none := joinAsSaid(t, l); len(bad) > 0 || !none {
			t.Errorf("%s, %t", show(bad), none)
		}
	}
}

// afterOf makes lists of any bytes: those above 'things' end a list, all others are numbers in one.
func afterOf(b []byte) (after [][]int) {
	const things = 24
	var l []int
	for _, c := range b {
		if c > things {
			after, l = append(after, l), nil
		} else {
			l = append(l, int(c)-2)
		}
	}
	return append(after, l)
}

// FuzzThings looks for things of which another order is told, or something else becomes, than the chapter says.
func FuzzThings(f *testing.F) {
	f.Add([]byte{3, 255, 255, 2, 4, 11}, []byte{0, 4, 0})
	r := newRandom(9)
	for range 40 {
		b := make([]byte, r.IntN(40))
		for i := range b {
			b[i] = byte(r.IntN(32))
		}
		f.Add(b, b[len(b)/2:])
	}
	f.Fuzz(func(t *testing.T, b, how []byte) {
		if len(b) > 100 {
			return
		}
		after, bad := afterOf(b), badResults()
		var outcomes []api.Result
		for _, c := range how {
			if c%2 == 0 {
				outcomes = append(outcomes, gave(int64(c)))
			} else {
				outcomes = append(outcomes, bad[int(c/2)%len(bad)])
			}
		}
		orderAsSaid(t, after)
		l, _ := closeAsSaid(t, after, outcomes)
		joinAsSaid(t, l)
	})
}
