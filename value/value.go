// Package value is the interface values that stand for plain data inside the program. Their types have the methods of chapter 1's table, so that an assertion tells which kind has which; the layers ask them, compare them and take them for keys as the language does it.
package value

import (
	"cmp"
	"math"
	"strconv"

	"conduit/api"
)

// A value is the nil interface, or one that holds one of these types or a pointer to a Box.
type (
	Whole   int64
	Key     int64
	Float   float64
	Text    string
	Name    string
	Truth   bool
	Octets  []byte
	Row     []any
	Pair    struct{ First, Second any }
	Failure struct {
		Code  int64
		Words string
	}
	Box struct {
		Number int64
		Inside any
	}
	Unit struct{}
)

// Interfaces of one method each.
type (
	Sized   interface{ Size() int }
	Named   interface{ Name() string }
	Failing interface{ Error() string }
	Opening interface{ Open() any }
	Ordered interface {
		Less(other any) (bool, api.Errno)
	}
	Adding interface {
		Add(other any) (any, api.Errno)
	}
)

// noNumber stands for every sum that is no number, as processors differ in the bits that they give one.
const noNumber = 0x7ff8000000000001

func (t Text) Size() int { return len(t) }

func (n Name) Size() int { return len(n) }

func (o Octets) Size() int { return len(o) }

func (r Row) Size() int { return len(r) }

func (p Pair) Size() int { return 2 }

// Size does not look into the box, so that it answers for a nil pointer, too; Error and Open look there, and panic.
func (b *Box) Size() int {
	if b == nil {
		return 0
	}
	return 1
}

func (n Name) Name() string { return string(n) }

func (k Key) Name() string { return "key " + strconv.FormatInt(int64(k), 10) }

func (f Failure) Name() string { return f.Words }

func (f Failure) Error() string {
	if f.Words == "" {
		return "error " + strconv.FormatInt(f.Code, 10)
	}
	return f.Words
}

func (b *Box) Error() string { return "box " + strconv.FormatInt(b.Number, 10) }

func (b *Box) Open() any { return b.Inside }

func (w Whole) Less(other any) (bool, api.Errno) { return less(w, other) }

func (k Key) Less(other any) (bool, api.Errno) { return less(k, other) }

func (f Float) Less(other any) (bool, api.Errno) { return less(f, other) }

func (t Text) Less(other any) (bool, api.Errno) { return less(t, other) }

func (n Name) Less(other any) (bool, api.Errno) { return less(n, other) }

func less[T cmp.Ordered](a T, other any) (bool, api.Errno) {
	b, ok := other.(T)
	if !ok {
		return false, api.ErrNumber
	}
	return a < b, api.OK
}

func (w Whole) Add(other any) (any, api.Errno) {
	o, ok := other.(Whole)
	if !ok {
		return nil, api.ErrNumber
	}
	return w + o, api.OK
}

func (f Float) Add(other any) (any, api.Errno) {
	o, ok := other.(Float)
	if !ok {
		return nil, api.ErrNumber
	}
	sum := f + o
	if math.IsNaN(float64(sum)) {
		sum = Float(math.Float64frombits(noNumber))
	}
	return sum, api.OK
}
