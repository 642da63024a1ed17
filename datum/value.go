package datum

import (
	"cmp"
	"math"
	"strconv"

	"conduit/api"
)

// A value is a nil interface or one that holds one of these types; their methods are those of chapter 1's table, so that an assertion tells who has which.
type (
	whole   int64
	key     int64
	float   float64
	text    string
	name    string
	truth   bool
	octets  []byte
	row     []any
	pair    struct{ first, second any }
	failure struct {
		code  int64
		words string
	}
	box struct {
		number int64
		inside any
	}
	unit struct{}
)

type sized interface{ Size() int }

type named interface{ Name() string }

type failing interface{ Error() string }

type opening interface{ Open() any }

type ordered interface {
	Less(other any) (bool, api.Errno)
}

type adding interface {
	Add(other any) (any, api.Errno)
}

// noNumber stands for every sum that is no number, as processors differ in the bits that they give one.
const noNumber = 0x7ff8000000000001

func answers(v any, method int) (ok bool) {
	switch method {
	case api.MSize:
		_, ok = v.(sized)
	case api.MName:
		_, ok = v.(named)
	case api.MError:
		_, ok = v.(failing)
	case api.MOpen:
		_, ok = v.(opening)
	case api.MLess:
		_, ok = v.(ordered)
	case api.MAdd:
		_, ok = v.(adding)
	}
	return ok
}

func (t text) Size() int { return len(t) }

func (n name) Size() int { return len(n) }

func (o octets) Size() int { return len(o) }

func (r row) Size() int { return len(r) }

func (p pair) Size() int { return 2 }

// Size does not look into the box, so that it answers for a nil pointer, too; Error and Open look there, and panic.
func (b *box) Size() int {
	if b == nil {
		return 0
	}
	return 1
}

func (n name) Name() string { return string(n) }

func (k key) Name() string { return "key " + strconv.FormatInt(int64(k), 10) }

func (f failure) Name() string { return f.words }

func (f failure) Error() string {
	if f.words == "" {
		return "error " + strconv.FormatInt(f.code, 10)
	}
	return f.words
}

func (b *box) Error() string { return "box " + strconv.FormatInt(b.number, 10) }

func (b *box) Open() any { return b.inside }

func (w whole) Less(other any) (bool, api.Errno) { return less(w, other) }

func (k key) Less(other any) (bool, api.Errno) { return less(k, other) }

func (f float) Less(other any) (bool, api.Errno) { return less(f, other) }

func (t text) Less(other any) (bool, api.Errno) { return less(t, other) }

func (n name) Less(other any) (bool, api.Errno) { return less(n, other) }

func less[T cmp.Ordered](a T, other any) (bool, api.Errno) {
	b, ok := other.(T)
	if !ok {
		return false, api.ErrNumber
	}
	return a < b, api.OK
}

func (w whole) Add(other any) (any, api.Errno) {
	o, ok := other.(whole)
	if !ok {
		return nil, api.ErrNumber
	}
	return w + o, api.OK
}

func (f float) Add(other any) (any, api.Errno) {
	o, ok := other.(float)
	if !ok {
		return nil, api.ErrNumber
	}
	sum := f + o
	if math.IsNaN(float64(sum)) {
		sum = float(math.Float64frombits(noNumber))
	}
	return sum, api.OK
}
