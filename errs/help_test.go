package errs

import (
	"errors"
	"math"
	"math/rand/v2"
	"slices"
	"strconv"
	"strings"
	"testing"

	"conduit/api"
	"conduit/datum"
)

func newRandom(seed uint64) *rand.Rand { return rand.New(rand.NewPCG(seed, 35)) }

func pick[T any](r *rand.Rand, l ...T) T { return l[r.IntN(len(l))] }

func read(t testing.TB, text string) api.Datum {
	t.Helper()
	d, e := datum.Parse(text)
	if e != api.OK {
		t.Fatalf("%s: %v", text, e)
	}
	return d
}

// An error of each kind.
var none = api.Err{}

func plainly(code int64, text string) api.Err {
	return api.Err{Kind: api.EkPlain, Code: code, Text: text}
}

func ptr(id int64, text string) api.Err { return api.Err{Kind: api.EkPtr, Id: id, Text: text} }

func wrap(id int64, text string, e api.Err) api.Err {
	return api.Err{Kind: api.EkWrap, Id: id, Text: text, List: []api.Err{e}}
}

func many(id int64, l ...api.Err) api.Err { return api.Err{Kind: api.EkMany, Id: id, List: l} }

func hold(t testing.TB, text string) api.Err {
	t.Helper()
	return api.Err{Kind: api.EkHold, Body: read(t, text)}
}

func list(l ...int64) api.Err { return api.Err{Kind: api.EkList, Codes: l} }

func null() api.Err { return api.Err{Kind: api.EkNoPtr} }

func like(id int64, text string, l []int64, inside ...api.Err) api.Err {
	return api.Err{Kind: api.EkLike, Id: id, Text: text, Codes: l, List: inside}
}

func pose(id int64, text string, code int64) api.Err {
	return api.Err{Kind: api.EkAs, Id: id, Text: text, Code: code}
}

func timely(code int64, text string) api.Err {
	return api.Err{Kind: api.EkTime, Code: code, Text: text}
}

// kinds is one of each kind, in their order.
func kinds(t testing.TB) []api.Err {
	return []api.Err{none, plainly(5, "p"), ptr(1, "a"), wrap(1, "w", plainly(5, "p")), many(1, plainly(5, "p"), none), hold(t, "5"), list(1, 2), null(), like(1, "l", []int64{7}), pose(1, "s", 5), timely(1, "t")}
}

// fit is an error that was found valid.
func fit(t testing.TB, e api.Err) api.Err {
	t.Helper()
	if !Valid(e) {
		t.Fatalf("not valid: %s", show(e))
	}
	return e
}

// bodies are few, so that some are equal, some are not, and some can't be compared.
var bodies = []string{"nil", "1", "#1", "f8000000000000000", "f0000000000000000", "f7ff8000000000001", `"a"`, `@"a"`, "true", "%00", "%00ff", "[]", "[1]", "(1, 2)", "(1, [2])", "(2, [2])", "([2], 1)", `!3"a"`, "&1(5)", "&1([2])", "&2(5)", "&nil", "{}"}

var words = []string{"", "a", "b", ": ", "\n", "\x00\xff"}

// randomErr is at most so deep, with few numbers and texts, so that some of them are equal.
func randomErr(t testing.TB, r *rand.Rand, deep int) api.Err {
	t.Helper()
	kind := pick(r, api.EkPlain, api.EkPtr, api.EkHold, api.EkList, api.EkNoPtr, api.EkLike, api.EkAs, api.EkTime)
	if deep > 1 && r.IntN(3) > 0 {
		kind = pick(r, api.EkWrap, api.EkMany, api.EkMany, api.EkLike)
	}
	id, code, text := 1+r.Int64N(3), r.Int64N(5)-1, pick(r, words...)
	switch kind {
	case api.EkPlain:
		return plainly(code, text)
	case api.EkPtr:
		return ptr(id, text)
	case api.EkWrap:
		return wrap(id, text, randomErr(t, r, deep-1))
	case api.EkMany:
		return many(id, randomList(t, r, deep-1)...)
	case api.EkHold:
		return hold(t, pick(r, bodies...))
	case api.EkList:
		return list(randomCodes(r)...)
	case api.EkNoPtr:
		return null()
	case api.EkLike:
		if deep > 1 && r.IntN(2) == 0 {
			return like(id, text, randomCodes(r), randomErr(t, r, deep-1))
		}
		return like(id, text, randomCodes(r))
	case api.EkAs:
		return pose(id, text, code)
	}
	return timely(1+r.Int64N(3), text)
}

// randomList has EkNil among it too.
func randomList(t testing.TB, r *rand.Rand, deep int) (l []api.Err) {
	for range r.IntN(4) {
		if r.IntN(5) == 0 {
			l = append(l, none)
		} else {
			l = append(l, randomErr(t, r, deep))
		}
	}
	return l
}

func randomCodes(r *rand.Rand) (l []int64) {
	for range r.IntN(3) {
		l = append(l, r.Int64N(5)-1)
	}
	return l
}

// some is a random error or, now and then, none.
func some(t testing.TB, r *rand.Rand) api.Err {
	t.Helper()
	if r.IntN(30) == 0 {
		return none
	}
	return fit(t, randomErr(t, r, 1+r.IntN(5)))
}

// partOf is an error that stands somewhere in e.
func partOf(r *rand.Rand, e api.Err) api.Err { return at(e, pick(r, Walk(e)...)) }

// at is the error to which a way leads.
func at(e api.Err, way []int) api.Err {
	for _, i := range way {
		e = e.List[i]
	}
	return e
}

// show writes an error for people; names hold the place of kinds.
func show(e api.Err) string {
	names := []string{"nil", "plain", "ptr", "wrap", "many", "hold", "list", "noptr", "like", "as", "time"}
	if e.Kind < 0 || e.Kind >= len(names) {
		return "kind " + strconv.Itoa(e.Kind)
	}
	s := names[e.Kind] + " " + strconv.FormatInt(e.Id, 10) + " " + strconv.FormatInt(e.Code, 10) + " " + strconv.Quote(e.Text)
	if e.Kind == api.EkHold {
		s += " " + datum.Print(e.Body)
	}
	for _, c := range e.Codes {
		s += " <" + strconv.FormatInt(c, 10) + ">"
	}
	for _, part := range e.List {
		s += " {" + show(part) + "}"
	}
	return s
}

// From here on the chapter's words stand once more.

// errPanic is a panic of an == or of an Error, in the models.
var errPanic = errors.New("panic")

func chapterText(e api.Err) (string, error) {
	var l []string
	for _, part := range e.List {
		if part.Kind == api.EkNil {
			continue
		}
		s, err := chapterText(part)
		if err != nil {
			return "", err
		}
		l = append(l, s)
	}
	switch e.Kind {
	case api.EkNoPtr:
		return "", errPanic
	case api.EkMany:
		return strings.Join(l, "\n"), nil
	case api.EkHold:
		return datum.Print(e.Body), nil
	case api.EkList:
		var codes []string
		for _, c := range e.Codes {
			codes = append(codes, strconv.FormatInt(c, 10))
		}
		return strings.Join(codes, " "), nil
	}
	return strings.Join(append([]string{e.Text}, l...), ": "), nil
}

// typeOf is a kind, of which EkPtr and EkNoPtr have one.
func typeOf(kind int) int {
	if kind == api.EkNoPtr {
		return api.EkPtr
	}
	return kind
}

func chapterEqual(a, b api.Err) (bool, error) {
	if typeOf(a.Kind) != typeOf(b.Kind) {
		return false, nil
	}
	switch a.Kind {
	case api.EkPlain, api.EkTime:
		return a.Code == b.Code && a.Text == b.Text, nil
	case api.EkHold:
		is, e := datum.Equal(a.Body, b.Body)
		if e != api.OK {
			return false, errPanic
		}
		return is, nil
	case api.EkList:
		return false, errPanic
	case api.EkNil:
		return true, nil
	}
	return a.Kind == b.Kind && a.Id == b.Id, nil
}

func chapterWalk(e api.Err) (ways [][]int) {
	if e.Kind == api.EkNil {
		return nil
	}
	ways = [][]int{{}}
	for i, part := range e.List {
		for _, way := range chapterWalk(part) {
			ways = append(ways, append([]int{i}, way...))
		}
	}
	return ways
}

// walked is the errors in the order of walking.
func walked(e api.Err) (l []api.Err) {
	for _, way := range chapterWalk(e) {
		l = append(l, at(e, way))
	}
	return l
}

func chapterIs(e, t api.Err) (bool, error) {
	if e.Kind == api.EkNil || t.Kind == api.EkNil {
		return e.Kind == t.Kind, nil
	}
	for _, x := range walked(e) {
		if t.Kind != api.EkList {
			if is, err := chapterEqual(x, t); is || err != nil {
				return is, err
			}
		}
		if x.Kind == api.EkLike && (t.Kind == api.EkPlain || t.Kind == api.EkTime) && slices.Contains(x.Codes, t.Code) {
			return true, nil
		}
	}
	return false, nil
}

func chapterAs(e api.Err, kind int) (api.Err, bool) {
	for _, x := range walked(e) {
		if typeOf(x.Kind) == typeOf(kind) {
			return x, true
		}
		if x.Kind == api.EkAs && kind == api.EkPlain {
			return plainly(x.Code, x.Text), true
		}
	}
	return none, false
}

// The chapter's list of interfaces: which kinds have each.
var having = [api.NumEf][]int{
	api.EfTimeout:   {api.EkTime},
	api.EfTemporary: {api.EkTime},
	api.EfNet:       {api.EkTime},
	api.EfCoded:     {api.EkPlain, api.EkTime},
	api.EfUnwrap:    {api.EkWrap, api.EkLike},
	api.EfUnwraps:   {api.EkMany},
	api.EfIs:        {api.EkLike},
	api.EfAs:        {api.EkAs},
}

func chapterHas(kind, face int) bool {
	return face >= 0 && face < api.NumEf && slices.Contains(having[face], kind)
}

func chapterAsFace(e api.Err, face int) (api.Err, bool) {
	for _, x := range walked(e) {
		if chapterHas(x.Kind, face) {
			return x, true
		}
	}
	return none, false
}

func chapterJoin(l []api.Err, id int64) api.Err {
	var parts []api.Err
	for _, e := range l {
		if e.Kind != api.EkNil {
			parts = append(parts, e)
		}
	}
	if parts == nil {
		return none
	}
	return many(id, parts...)
}

func chapterResult(e api.Err) api.Result {
	if e.Kind == api.EkNil {
		return api.Result{}
	}
	if e.Kind == api.EkNoPtr {
		return api.Result{Err: api.ErrTyped}
	}
	if x, ok := chapterAsFace(e, api.EfTimeout); ok && x.Code != 2 {
		return api.Result{Err: api.ErrLate}
	}
	if x, ok := chapterAsFace(e, api.EfCoded); ok {
		return api.Result{Err: api.ErrHandler, Code: x.Code}
	}
	return api.Result{Err: api.ErrHandler, Code: -1}
}

// asSaid holds all that is told of one error against the chapter.
func asSaid(t testing.TB, e api.Err) {
	t.Helper()
	said, err := chapterText(e)
	if got, fault := Text(e); got != said || fault != numberOf(err, api.ErrNilCall) {
		t.Fatalf("%s: text %q, %v, not %q, %v", show(e), got, fault, said, err)
	}
	if ways, said := Walk(e), chapterWalk(e); !slices.EqualFunc(ways, said, slices.Equal) {
		t.Fatalf("%s: ways %v, not %v", show(e), ways, said)
	}
	inside := none
	if e.Kind != api.EkMany && len(e.List) > 0 {
		inside = e.List[0]
	}
	if got := Unwrap(e); !Same(got, inside) {
		t.Fatalf("%s: unwrapped %s", show(e), show(got))
	}
	for kind := -1; kind <= api.NumEk; kind++ {
		x, ok := chapterAs(e, kind)
		if got, found := As(e, kind); found != ok || !Same(got, x) {
			t.Fatalf("%s: as %d %s, %v, not %s", show(e), kind, show(got), found, show(x))
		}
	}
	for face := -1; face <= api.NumEf; face++ {
		x, ok := chapterAsFace(e, face)
		if got, found := AsFace(e, face); found != ok || !Same(got, x) {
			t.Fatalf("%s: as face %d %s, %v, not %s", show(e), face, show(got), found, show(x))
		}
	}
	if got := Result(e); !sameResult(got, chapterResult(e)) {
		t.Fatalf("%s: result %+v", show(e), got)
	}
}

// twoAsSaid holds what is told of two errors against the chapter.
func twoAsSaid(t testing.TB, a, b api.Err) {
	t.Helper()
	is, err := chapterEqual(a, b)
	if got, fault := Equal(a, b); got != is || fault != numberOf(err, api.ErrCompare) {
		t.Fatalf("%s, %s: equal %v, %v", show(a), show(b), got, fault)
	}
	is, err = chapterIs(a, b)
	if got, fault := Is(a, b); got != is || fault != numberOf(err, api.ErrCompare) {
		t.Fatalf("%s, %s: is %v, %v", show(a), show(b), got, fault)
	}
}

func numberOf(err error, number api.Errno) api.Errno {
	if err != nil {
		return number
	}
	return api.OK
}

func sameResult(a, b api.Result) bool {
	return a.Err == b.Err && a.Code == b.Code && a.Panic == b.Panic && a.Has == b.Has && datum.Same(a.Body, b.Body)
}

// chain is so many errors of a kind around one.
func chain(e api.Err, deep int, around func(e api.Err) api.Err) api.Err {
	for range deep {
		e = around(e)
	}
	return e
}

const (
	least    = math.MinInt64
	greatest = math.MaxInt64
)
