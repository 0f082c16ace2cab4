package tests

import (
	"bytes"
	"testing"

	"loop.example/g00792/impl"
)

// guarded is a list with room behind its end, so that a write into that room is seen, too.
type guarded struct {
	room []byte
	size int
	was  []byte
}

func guard(data []byte) guarded {
	room := append(append(make([]byte, 0, len(data)+16), data...), bytes.Repeat([]byte{0xA5}, 16)...)
	return guarded{room: room, size: len(data), was: bytes.Clone(room)}
}

func (g guarded) list() []byte {
	return g.room[:g.size]
}

func (g guarded) checkKept(t *testing.T, what string) {
	t.Helper()
	if !bytes.Equal(g.room, g.was) {
		t.Errorf("%s: the argument %v became %v", what, g.was, g.room)
	}
}

func (g guarded) flip() {
	for i := range g.room {
		g.room[i] = ^g.room[i]
	}
}

// flipAll turns all that can be reached by a list, the room behind its end, too.
func flipAll(list []byte) {
	whole := list[:cap(list)]
	for i := range whole {
		whole[i] = ^whole[i]
	}
}

func wantBytes(t *testing.T, what string, got impl.BytesResult, want []byte) {
	t.Helper()
	if got.Code != impl.OK || !bytes.Equal(got.Bytes, want) {
		t.Errorf("%s: code %d, bytes %v; want code 0, bytes %v", what, got.Code, got.Bytes, want)
	}
}

func wantBytesCode(t *testing.T, what string, got impl.BytesResult, code int64) {
	t.Helper()
	if got.Code != code || len(got.Bytes) != 0 {
		t.Errorf("%s: code %d, bytes %v; want code %d, no bytes", what, got.Code, got.Bytes, code)
	}
}

func wantInt(t *testing.T, what string, got impl.IntResult, want int64) {
	t.Helper()
	if got.Code != impl.OK || got.Value != want {
		t.Errorf("%s: code %d, value %d; want code 0, value %d", what, got.Code, got.Value, want)
	}
}

func wantIntCode(t *testing.T, what string, got impl.IntResult, code int64) {
	t.Helper()
	if got.Code != code || got.Value != 0 {
		t.Errorf("%s: code %d, value %d; want code %d, value 0", what, got.Code, got.Value, code)
	}
}
