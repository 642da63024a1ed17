package journal

import (
	"bytes"
	"testing"

	"conduit/api"
)

// The chapter's example 1.
func TestExampleAppend(t *testing.T) {
	want := []byte{0x43, 0x4e, 0x44, 0x4a, 1, 1, 0, 0xfe, 0xff, 0x61, 0x43, 0xbe, 0xb7, 0xe8}
	if b, e := Append(New(), []byte("a")); !bytes.Equal(b, want) || e != api.OK {
		t.Errorf("% x, %v", b, e)
	}
	if sum := Sum([]byte("a")); sum != 0xe8b7be43 {
		t.Errorf("%08x", sum)
	}
	if sum := Sum([]byte("123456789")); sum != 0xcbf43926 {
		t.Errorf("%08x", sum)
	}
}

// The chapter's example 2.
func TestExampleOpen(t *testing.T) {
	b, _ := Append(New(), []byte("a"))
	if l, n, e := Open(b[:len(b)-1]); len(l) != 0 || n != 5 || e != api.OK {
		t.Errorf("%q, %d, %v", l, n, e)
	}
	if l, n, e := Open([]byte("CNDJ")); l != nil || n != 0 || e != api.ErrForm {
		t.Errorf("%q, %d, %v", l, n, e)
	}
}
