package wire

import (
	"math"
	"slices"
	"testing"

	"holloway/api"
)

// P4.6, P6.9
func TestNumber(t *testing.T) {
	for _, c := range []struct {
		size int
		n    uint64
		b    []byte
	}{
		{0, 0, nil},
		{1, 7, []byte{7}},
		{2, 258, []byte{1, 2}},
		{2, 0, []byte{0, 0}},
		{4, 1<<32 - 2, []byte{255, 255, 255, 254}},
		{8, math.MaxUint64 - 256, []byte{255, 255, 255, 255, 255, 255, 254, 255}},
	} {
		got := Number([]byte{9}, c.size, c.n)
		if !slices.Equal(got, append([]byte{9}, c.b...)) {
			t.Errorf("%d in %d bytes: %v", c.n, c.size, got)
		}
		if n := NumberOf(c.b); n != c.n {
			t.Errorf("%v: %d", c.b, n)
		}
	}
	if n := IntOf([]byte{255, 255, 255, 255}); n != 1<<32-1 {
		t.Error(n)
	}
	if b := Number(nil, 1, 258); !slices.Equal(b, []byte{2}) {
		t.Error("only the lowest byte fits:", b)
	}
}

// P4.6, P6.9
func TestAddr(t *testing.T) {
	for _, c := range []struct {
		a api.Addr
		b []byte
	}{
		{api.Addr{Lo: 10<<24 + 1}, []byte{10, 0, 0, 1}},
		{api.Addr{}, []byte{0, 0, 0, 0}},
		{api.Addr{Six: true, Hi: 0x20010db8 << 32, Lo: 1}, []byte{0x20, 1, 0xd, 0xb8, 0, 0, 0, 0, 0, 0, 0, 0, 0, 0, 0, 1}},
		{api.Addr{Six: true, Hi: 0x0102030405060708, Lo: 0xf9fafbfcfdfeff10}, []byte{1, 2, 3, 4, 5, 6, 7, 8, 0xf9, 0xfa, 0xfb, 0xfc, 0xfd, 0xfe, 0xff, 0x10}},
	} {
		if got := Addr([]byte{9}, c.a); !slices.Equal(got, append([]byte{9}, c.b...)) {
			t.Errorf("%v: %v", c.a, got)
		}
		if a := AddrOf(c.b); a != c.a {
			t.Errorf("%v: %v", c.b, a)
		}
	}
}
