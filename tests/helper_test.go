package tests

import (
	"bytes"
	"fmt"
	"iter"
	"reflect"
	"slices"
	"sync"
	"testing"

	"loop.example/g00792/impl"
)

// guarded is a list with room behind its end, so that a write into that room is seen, too.
type guarded struct {
	room []byte
	size int
	was  []byte
}

func guard(data []byte) guarded {
	room := append(append(make([]byte, 0, len(data)+16), data...), bytes.Repeat([]byte{0xA5}, 16)...)
	return guarded{room: room, size: len(data), was: bytes.Clone(room)}
}

func (g guarded) list() []byte {
	return g.room[:g.size]
}

func (g guarded) checkKept(t *testing.T, what string) {
	t.Helper()
	if !bytes.Equal(g.room, g.was) {
		t.Errorf("%s: the argument %v became %v", what, g.was, g.room)
	}
}

func (g guarded) flip() {
	for i := range g.room {
		g.room[i] = ^g.room[i]
	}
}

// flipAll turns all that can be reached by a list, the room behind its end, too.
func flipAll(list []byte) {
	whole := list[:cap(list)]
	for i := range whole {
		whole[i] = ^whole[i]
	}
}

func wantBytes(t *testing.T, what string, got impl.BytesResult, want []byte) {
	t.Helper()
	if got.Code != impl.OK || !bytes.Equal(got.Bytes, want) {
		t.Errorf("%s: code %d, bytes %v; want code 0, bytes %v", what, got.Code, got.Bytes, want)
	}
}

func wantBytesCode(t *testing.T, what string, got impl.BytesResult, code int64) {
	t.Helper()
	if got.Code != code || len(got.Bytes) != 0 {
		t.Errorf("%s: code %d, bytes %v; want code %d, no bytes", what, got.Code, got.Bytes, code)
	}
}

func wantInt(t *testing.T, what string, got impl.IntResult, want int64) {
	t.Helper()
	if got.Code != impl.OK || got.Value != want {
		t.Errorf("%s: code %d, value %d; want code 0, value %d", what, got.Code, got.Value, want)
	}
}

func wantIntCode(t *testing.T, what string, got impl.IntResult, code int64) {
	t.Helper()
	if got.Code != code || got.Value != 0 {
		t.Errorf("%s: code %d, value %d; want code %d, value 0", what, got.Code, got.Value, code)
	}
}

// asked is a function of the program, asked with some lists; all lists that it answers with stand one behind the other.
type asked func(lists ...[]byte) [][]byte

func copied(lists [][]byte) [][]byte {
	var out [][]byte
	for _, list := range lists {
		out = append(out, bytes.Clone(list))
	}
	return out
}

func sameLists(a, b [][]byte) bool {
	return slices.EqualFunc(a, b, bytes.Equal)
}

func guardAll(lists [][]byte) (guards []guarded, inside [][]byte) {
	for _, list := range lists {
		g := guard(list)
		guards, inside = append(guards, g), append(inside, g.list())
	}
	return guards, inside
}

// checkArgumentsKept is promise 1: no argument is changed, whether there is an answer or a code.
func checkArgumentsKept(t *testing.T, what string, ask asked, lists ...[]byte) {
	t.Helper()
	guards, inside := guardAll(lists)
	ask(inside...)
	for i, g := range guards {
		g.checkKept(t, fmt.Sprintf("%s, argument %d", what, i))
	}
}

// checkNewMemory is promise 1: an answer shares no memory with an argument, in either direction,
// and none with another list of it.
func checkNewMemory(t *testing.T, what string, ask asked, lists ...[]byte) {
	t.Helper()
	guards, inside := guardAll(lists)
	got := ask(inside...)
	want := copied(got)
	for _, g := range guards {
		g.flip()
	}
	if !sameLists(got, want) {
		t.Errorf("%s: turned with its arguments", what)
	}
	for _, g := range guards {
		g.flip()
	}
	for i, list := range got {
		others := slices.Delete(slices.Clone(got), i, i+1)
		kept := copied(others)
		flipAll(list)
		if !sameLists(others, kept) {
			t.Errorf("%s: another list of the answer turned with its list %d", what, i)
		}
	}
	for i, g := range guards {
		g.checkKept(t, fmt.Sprintf("%s, the answer changed, argument %d", what, i))
	}
	if again := ask(inside...); !sameLists(again, want) {
		t.Errorf("%s: turned with a former answer", what)
	}
}

// checkHangsOnArguments is promise 1: an answer hangs on the arguments alone, not on what was
// asked ahead of it (others) or beside it, nor on the room behind a list.
func checkHangsOnArguments(t *testing.T, what string, ask asked, lists [][]byte, others ...[][]byte) {
	t.Helper()
	want := copied(ask(lists...))
	for _, other := range others {
		ask(other...)
	}
	if !sameLists(ask(lists...), want) {
		t.Errorf("%s: another answer when asked again", what)
	}
	if _, roomy := guardAll(lists); !sameLists(ask(roomy...), want) {
		t.Errorf("%s: another answer with room behind", what)
	}
	var wait sync.WaitGroup
	alike := make([]bool, 8)
	for i := range alike {
		wait.Go(func() {
			alike[i] = true
			for range 20 {
				alike[i] = alike[i] && sameLists(ask(lists...), want)
			}
		})
	}
	wait.Wait()
	if slices.Contains(alike, false) {
		t.Errorf("%s: another answer when asked beside others", what)
	}
}

// checkFaults asks fault of all that have one, and holds that each of these codes is told of some.
func checkFaults[E any](t *testing.T, faulty iter.Seq2[E, int64], fault func(E) int64, name func(E) string, codes ...int64) {
	t.Helper()
	seen := map[int64]int{}
	for e, want := range faulty {
		if got := fault(e); got != want {
			t.Errorf("the fault of %s: %d; want %d", name(e), got, want)
		}
		seen[want]++
	}
	for _, code := range codes {
		if seen[code] == 0 {
			t.Errorf("the code %d is never told: %v", code, seen)
		}
	}
}

// changesOf has copies of a value by their names: each differs from it in what its turn does alone.
func changesOf[E any](e E, copied func(E) E) (out map[string]E, change func(name string, turn func(e *E))) {
	out = map[string]E{}
	return out, func(name string, turn func(e *E)) {
		other := copied(e)
		turn(&other)
		out[name] = other
	}
}

// The helpers below are for functions of any arguments: values are gone through by what they have, however deep.

// remade copies a value; each list in it becomes what list makes of it.
func remade(v reflect.Value, list func(reflect.Value) reflect.Value) reflect.Value {
	out := reflect.New(v.Type()).Elem()
	out.Set(v)
	switch v.Kind() {
	case reflect.Struct:
		for i := range v.NumField() {
			out.Field(i).Set(remade(v.Field(i), list))
		}
	case reflect.Slice:
		made := list(v)
		whole := made.Slice(0, made.Cap())
		for i := range whole.Len() {
			whole.Index(i).Set(remade(whole.Index(i), list))
		}
		out.Set(made)
	}
	return out
}

// exactList has no room behind, and is nil if it is empty.
func exactList(v reflect.Value) reflect.Value {
	if v.Len() == 0 {
		return reflect.Zero(v.Type())
	}
	out := reflect.MakeSlice(v.Type(), v.Len(), v.Len())
	reflect.Copy(out, v)
	return out
}

// wholeList has all that stood in the room behind, too.
func wholeList(v reflect.Value) reflect.Value {
	return exactList(v.Slice(0, v.Cap()))
}

// roomyList has room behind that is full of marks.
func roomyList(v reflect.Value) reflect.Value {
	const room = 3
	out := reflect.MakeSlice(v.Type(), v.Len()+room, v.Len()+room)
	reflect.Copy(out, v)
	for i := v.Len(); i < out.Len(); i++ {
		turn(out.Index(i))
	}
	return out.Slice(0, v.Len())
}

// turn changes all that can be reached by v, which is a place in a list, the room behind a list, too.
func turn(v reflect.Value) {
	switch v.Kind() {
	case reflect.Uint8:
		v.SetUint(v.Uint() ^ 0xA5)
	case reflect.Int64:
		v.SetInt(^v.Int())
	case reflect.Bool:
		v.SetBool(!v.Bool())
	case reflect.String:
		v.SetString(v.String() + "?")
	case reflect.Struct:
		for i := range v.NumField() {
			turn(v.Field(i))
		}
	case reflect.Slice:
		turnLists(v)
	}
}

// turnLists changes all that is in the lists of v, and not what v has itself.
func turnLists(v reflect.Value) {
	switch v.Kind() {
	case reflect.Struct:
		for i := range v.NumField() {
			turnLists(v.Field(i))
		}
	case reflect.Slice:
		whole := v.Slice(0, v.Cap())
		for i := range whole.Len() {
			turn(whole.Index(i))
		}
	}
}

// stretch is the memory of a list, with the room behind it.
type stretch struct{ from, to uintptr }

func stretchesOf(v reflect.Value) []stretch {
	var out []stretch
	switch v.Kind() {
	case reflect.Struct:
		for i := range v.NumField() {
			out = append(out, stretchesOf(v.Field(i))...)
		}
	case reflect.Slice:
		whole := v.Slice(0, v.Cap())
		if whole.Len() > 0 {
			size := uintptr(whole.Len()) * v.Type().Elem().Size()
			out = append(out, stretch{v.Pointer(), v.Pointer() + size})
		}
		for i := range whole.Len() {
			out = append(out, stretchesOf(whole.Index(i))...)
		}
	}
	return out
}

func haveCommon(a, b []stretch) bool {
	for _, one := range a {
		for _, other := range b {
			if one.from < other.to && other.from < one.to {
				return true
			}
		}
	}
	return false
}

func haveCommonAmong(all []stretch) bool {
	for i, one := range all {
		if haveCommon(all[:i], []stretch{one}) {
			return true
		}
	}
	return false
}

// call is some arguments for a function.
type call []any

func (c call) remade(list func(reflect.Value) reflect.Value) call {
	var out call
	for _, arg := range c {
		out = append(out, remade(reflect.ValueOf(arg), list).Interface())
	}
	return out
}

func (c call) stretches() []stretch {
	var out []stretch
	for _, arg := range c {
		out = append(out, stretchesOf(reflect.ValueOf(arg))...)
	}
	return out
}

func (c call) answer(function any) reflect.Value {
	var args []reflect.Value
	for _, arg := range c {
		args = append(args, reflect.ValueOf(arg))
	}
	return reflect.ValueOf(function).Call(args)[0]
}

// told is an answer that can be compared: all of it is copied, and an empty list is nil.
func (c call) told(function any) any {
	return remade(c.answer(function), exactList).Interface()
}

// checkApart: function changes no argument, what it answers is memory of its own, and it keeps nothing of both.
func checkApart(t *testing.T, what string, function any, args call) {
	t.Helper()
	was := args.remade(wholeList)
	got := args.answer(function)
	if !reflect.DeepEqual(args.remade(wholeList), was) {
		t.Errorf("%s: the arguments %+v became %+v", what, was, args.remade(wholeList))
	}
	if haveCommon(stretchesOf(got), args.stretches()) {
		t.Errorf("%s: the answer shares memory with an argument", what)
	}
	if haveCommonAmong(stretchesOf(got)) {
		t.Errorf("%s: two lists of the answer share memory", what)
	}
	want := remade(got, exactList).Interface()
	turnLists(got)
	if !reflect.DeepEqual(args.remade(wholeList), was) {
		t.Errorf("%s: the arguments turned with the answer", what)
	}
	if again := args.told(function); !reflect.DeepEqual(again, want) {
		t.Errorf("%s: %+v, and when a former answer was changed %+v", what, want, again)
	}
}

// checkFirstPromise is promise 1 of a function at all these calls: with room behind each list and without, in
// another order, and beside one another.
func checkFirstPromise(t *testing.T, name string, function any, calls []call) {
	t.Helper()
	var wants []any
	for i, args := range calls {
		what := fmt.Sprintf("%s, call %d", name, i)
		want := args.told(function)
		wants = append(wants, want)
		checkApart(t, what, function, args)
		roomy := args.remade(roomyList)
		checkApart(t, what+", with room behind", function, roomy)
		if got := roomy.told(function); !reflect.DeepEqual(got, want) {
			t.Errorf("%s: %+v, and with room behind %+v", what, want, got)
		}
		for _, arg := range roomy {
			turnLists(reflect.ValueOf(arg))
		}
	}
	for i, args := range slices.Backward(calls) {
		if got := args.told(function); !reflect.DeepEqual(got, wants[i]) {
			t.Errorf("%s, call %d: %+v, and later %+v", name, i, wants[i], got)
		}
	}
	var wait sync.WaitGroup
	alike := make([]bool, 8)
	for k := range alike {
		wait.Go(func() {
			alike[k] = true
			for i := range calls {
				at := (i + k*len(calls)/len(alike)) % len(calls)
				alike[k] = alike[k] && reflect.DeepEqual(calls[at].told(function), wants[at])
			}
		})
	}
	wait.Wait()
	if slices.Contains(alike, false) {
		t.Errorf("%s: another answer when asked beside others", name)
	}
}
