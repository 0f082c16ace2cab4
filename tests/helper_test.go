package tests

import (
	"bytes"
	"fmt"
	"slices"
	"sync"
	"testing"

	"loop.example/g00792/impl"
)

// guarded is a list with room behind its end, so that a write into that room is seen, too.
type guarded struct {
	room []byte
	size int
	was  []byte
}

func guard(data []byte) guarded {
	room := append(append(make([]byte, 0, len(data)+16), data...), bytes.Repeat([]byte{0xA5}, 16)...)
	return guarded{room: room, size: len(data), was: bytes.Clone(room)}
}

func (g guarded) list() []byte {
	return g.room[:g.size]
}

func (g guarded) checkKept(t *testing.T, what string) {
	t.Helper()
	if !bytes.Equal(g.room, g.was) {
		t.Errorf("%s: the argument %v became %v", what, g.was, g.room)
	}
}

func (g guarded) flip() {
	for i := range g.room {
		g.room[i] = ^g.room[i]
	}
}

// flipAll turns all that can be reached by a list, the room behind its end, too.
func flipAll(list []byte) {
	whole := list[:cap(list)]
	for i := range whole {
		whole[i] = ^whole[i]
	}
}

func wantBytes(t *testing.T, what string, got impl.BytesResult, want []byte) {
	t.Helper()
	if got.Code != impl.OK || !bytes.Equal(got.Bytes, want) {
		t.Errorf("%s: code %d, bytes %v; want code 0, bytes %v", what, got.Code, got.Bytes, want)
	}
}

func wantBytesCode(t *testing.T, what string, got impl.BytesResult, code int64) {
	t.Helper()
	if got.Code != code || len(got.Bytes) != 0 {
		t.Errorf("%s: code %d, bytes %v; want code %d, no bytes", what, got.Code, got.Bytes, code)
	}
}

func wantInt(t *testing.T, what string, got impl.IntResult, want int64) {
	t.Helper()
	if got.Code != impl.OK || got.Value != want {
		t.Errorf("%s: code %d, value %d; want code 0, value %d", what, got.Code, got.Value, want)
	}
}

func wantIntCode(t *testing.T, what string, got impl.IntResult, code int64) {
	t.Helper()
	if got.Code != code || got.Value != 0 {
		t.Errorf("%s: code %d, value %d; want code %d, value 0", what, got.Code, got.Value, code)
	}
}

// asked is a function of the program, asked with some lists; all lists that it answers with stand one behind the other.
type asked func(lists ...[]byte) [][]byte

func copied(lists [][]byte) [][]byte {
	var out [][]byte
	for _, list := range lists {
		out = append(out, bytes.Clone(list))
	}
	return out
}

func sameLists(a, b [][]byte) bool {
	return slices.EqualFunc(a, b, bytes.Equal)
}

func guardAll(lists [][]byte) (guards []guarded, inside [][]byte) {
	for _, list := range lists {
		g := guard(list)
		guards, inside = append(guards, g), append(inside, g.list())
	}
	return guards, inside
}

// checkArgumentsKept is promise 1: no argument is changed, whether there is an answer or a code.
func checkArgumentsKept(t *testing.T, what string, ask asked, lists ...[]byte) {
	t.Helper()
	guards, inside := guardAll(lists)
	ask(inside...)
	for i, g := range guards {
		g.checkKept(t, fmt.Sprintf("%s, argument %d", what, i))
	}
}

// checkNewMemory is promise 1: an answer shares no memory with an argument, in either direction,
// and none with another list of it.
func checkNewMemory(t *testing.T, what string, ask asked, lists ...[]byte) {
	t.Helper()
	guards, inside := guardAll(lists)
	got := ask(inside...)
	want := copied(got)
	for _, g := range guards {
		g.flip()
	}
	if !sameLists(got, want) {
		t.Errorf("%s: turned with its arguments", what)
	}
	for _, g := range guards {
		g.flip()
	}
	for i, list := range got {
		others := slices.Delete(slices.Clone(got), i, i+1)
		kept := copied(others)
		flipAll(list)
		if !sameLists(others, kept) {
			t.Errorf("%s: another list of the answer turned with its list %d", what, i)
		}
	}
	for i, g := range guards {
		g.checkKept(t, fmt.Sprintf("%s, the answer changed, argument %d", what, i))
	}
	if again := ask(inside...); !sameLists(again, want) {
		t.Errorf("%s: turned with a former answer", what)
	}
}

// checkHangsOnArguments is promise 1: an answer hangs on the arguments alone, not on what was
// asked ahead of it (others) or beside it, nor on the room behind a list.
func checkHangsOnArguments(t *testing.T, what string, ask asked, lists [][]byte, others ...[][]byte) {
	t.Helper()
	want := copied(ask(lists...))
	for _, other := range others {
		ask(other...)
	}
	if !sameLists(ask(lists...), want) {
		t.Errorf("%s: another answer when asked again", what)
	}
	if _, roomy := guardAll(lists); !sameLists(ask(roomy...), want) {
		t.Errorf("%s: another answer with room behind", what)
	}
	var wait sync.WaitGroup
	alike := make([]bool, 8)
	for i := range alike {
		wait.Go(func() {
			alike[i] = true
			for range 20 {
				alike[i] = alike[i] && sameLists(ask(lists...), want)
			}
		})
	}
	wait.Wait()
	if slices.Contains(alike, false) {
		t.Errorf("%s: another answer when asked beside others", what)
	}
}
