package snap

import (
	"bytes"
	"math"

	"conduit/api"
	"conduit/journal"
	"conduit/packed"
	"conduit/wire"
)

// unsealed is what stands in a snapshot's bytes between their beginning and their sum.
func unsealed(b []byte) ([]byte, api.Errno) {
	last := len(b) - sumBytes
	if last < len(begin) || !bytes.HasPrefix(b, []byte(begin)) {
		return nil, api.ErrForm
	}
	if c := packed.At(b[last:]); c.Fixed(sumBytes) != uint64(journal.Sum(b[:last])) {
		return nil, api.ErrSum
	}
	return b[len(begin):last], api.OK
}

// snapshotIn is the snapshot that bytes are, with nothing behind.
func snapshotIn(b []byte) (s snapshot, fault api.Errno) {
	fault = packed.Caught(func() {
		r := reader{packed.At(b)}
		visitSnapshot(&r, &s)
		packed.Need(r.Left() == 0)
	})
	return s, fault
}

// reader reads what it goes over. It gives the bytes up at the first part that is none.
type reader struct{ packed.Cursor }

func (r *reader) signed(n *int64) {
	*n = r.Signed()
	r.sound()
}

func (r *reader) whole(n *int) {
	*n = int(r.Signed())
	r.sound()
}

func (r *reader) text(s *string) {
	*s = r.Text(math.MaxInt)
	r.sound()
}

func (r *reader) truth(is *bool) {
	*is = r.Truth()
	r.sound()
}

func (r *reader) value(d *api.Datum) {
	read, n, fault := wire.ReadDatum(r.Rest())
	packed.Need(fault == api.OK)
	r.Bytes(n)
	*d = read
}

func (r *reader) length(int) int {
	n := int(r.Number(math.MaxInt))
	r.sound()
	return n
}

// sound gives up, if something could not be read.
func (r *reader) sound() { packed.Need(r.Fault() == api.OK) }
