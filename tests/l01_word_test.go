package tests

import (
	"bytes"
	"fmt"
	"math"
	"math/big"
	"math/bits"
	"slices"
	"sync"
	"testing"

	"loop.example/g00792/impl"
)

// beyond has, for each size from 1 to 7, the first number that does not fit: 256 to the power of size, written out.
var beyond = []int64{0, 256, 65536, 16777216, 4294967296, 1099511627776, 281474976710656, 72057594037927936}

// numbersOf are the numbers of a size that are packed and read back: the ends, and some of no pattern between them.
func numbersOf(size int64) []int64 {
	top := beyond[size] - 1
	out := []int64{0, 1, top / 2, top/2 + 1, top - 1, top}
	n := int64(0x0123456789ABCDEF)
	for range 50 {
		n = n*6364136223846793005 + 1442695040888963407
		out = append(out, (n&math.MaxInt64)%beyond[size])
	}
	return out
}

// highBytes is told by math/big, so that it has nothing in common with the program.
func highBytes(n int64, size int64) []byte {
	return big.NewInt(n).FillBytes(make([]byte, size))
}

func reversed(data []byte) []byte {
	out := bytes.Clone(data)
	slices.Reverse(out)
	return out
}

func listOf(size int, start byte, step byte) []byte {
	out := make([]byte, size)
	for i := range out {
		out[i] = start + byte(i)*step
	}
	return out
}

func TestCodesAndBounds(t *testing.T) {
	codes := []int64{impl.OK, impl.ErrForm, impl.ErrMany, impl.ErrRange, impl.ErrNone, impl.ErrText, impl.ErrSum, impl.ErrFull, impl.ErrState}
	for want, got := range codes {
		if got != int64(want) {
			t.Errorf("code %d has the number %d", want, got)
		}
	}
	if impl.MaxBytes != 1000 {
		t.Errorf("MaxBytes is %d", impl.MaxBytes)
	}
}

func TestPackOrdinary(t *testing.T) {
	for _, c := range []struct {
		n, size int64
		high    []byte
	}{
		{258, 3, []byte{0, 1, 2}},
		{258, 2, []byte{1, 2}},
		{7, 1, []byte{7}},
		{128, 1, []byte{128}},
		{566265752454920, 7, []byte{2, 3, 4, 5, 6, 7, 8}},
		{4294967295, 4, []byte{255, 255, 255, 255}},
		{4294967295, 5, []byte{0, 255, 255, 255, 255}},
		{1099511627776, 6, []byte{1, 0, 0, 0, 0, 0}},
	} {
		what := fmt.Sprintf("of %d in %d", c.n, c.size)
		wantBytes(t, "PackHigh "+what, impl.PackHigh(c.n, c.size), c.high)
		wantBytes(t, "PackLow "+what, impl.PackLow(c.n, c.size), reversed(c.high))
	}
}

func TestPackEdgesOfEachSize(t *testing.T) {
	for size := int64(1); size <= 7; size++ {
		what := fmt.Sprintf("size %d", size)
		full := bytes.Repeat([]byte{255}, int(size))
		wantBytes(t, "PackLow of the greatest, "+what, impl.PackLow(beyond[size]-1, size), full)
		wantBytes(t, "PackHigh of the greatest, "+what, impl.PackHigh(beyond[size]-1, size), full)
		wantBytes(t, "PackLow of 0, "+what, impl.PackLow(0, size), make([]byte, size))
		wantBytes(t, "PackHigh of 0, "+what, impl.PackHigh(0, size), make([]byte, size))
		for _, n := range []int64{beyond[size], beyond[size] + 1, math.MaxInt64, -1, -256, -beyond[size], math.MinInt64} {
			wantBytesCode(t, fmt.Sprintf("PackLow of %d, %s", n, what), impl.PackLow(n, size), impl.ErrRange)
			wantBytesCode(t, fmt.Sprintf("PackHigh of %d, %s", n, what), impl.PackHigh(n, size), impl.ErrRange)
		}
	}
}

func TestPackSizesThatAreNone(t *testing.T) {
	for _, size := range []int64{0, 8, 9, 64, 1 << 61, math.MaxInt64, -1, -7, math.MinInt64} {
		for _, n := range []int64{0, 1, 255, 72057594037927935, 72057594037927936, math.MaxInt64, -1, math.MinInt64} {
			what := fmt.Sprintf("of %d in %d", n, size)
			wantBytesCode(t, "PackLow "+what, impl.PackLow(n, size), impl.ErrRange)
			wantBytesCode(t, "PackHigh "+what, impl.PackHigh(n, size), impl.ErrRange)
		}
	}
}

func TestReadOrdinary(t *testing.T) {
	for _, c := range []struct {
		data      []byte
		low, high int64
	}{
		{[]byte{0}, 0, 0},
		{[]byte{255}, 255, 255},
		{[]byte{1, 0}, 1, 256},
		{[]byte{0, 1, 2}, 131328, 258},
		{[]byte{0, 0, 0, 0}, 0, 0},
		{[]byte{255, 255, 255, 127}, 2147483647, 4294967167},
		{[]byte{1, 2, 3, 4, 5, 6, 7}, 1976943448883713, 283686952306183},
		{[]byte{255, 255, 255, 255, 255, 255, 255}, 72057594037927935, 72057594037927935},
		{[]byte{0, 0, 0, 0, 0, 0, 128}, 36028797018963968, 128},
	} {
		wantInt(t, fmt.Sprint("ReadLow of ", c.data), impl.ReadLow(c.data), c.low)
		wantInt(t, fmt.Sprint("ReadHigh of ", c.data), impl.ReadHigh(c.data), c.high)
	}
}

func TestReadSizesThatAreNone(t *testing.T) {
	for _, data := range [][]byte{nil, {}, make([]byte, 8), bytes.Repeat([]byte{255}, 8), make([]byte, 9), make([]byte, 1001)} {
		what := fmt.Sprintf("of %d bytes", len(data))
		wantIntCode(t, "ReadLow "+what, impl.ReadLow(data), impl.ErrMany)
		wantIntCode(t, "ReadHigh "+what, impl.ReadHigh(data), impl.ErrMany)
	}
}

// Promise 2: numbers are read back from their bytes, whichever end is first.
func TestNumbersAreReadBack(t *testing.T) {
	for size := int64(1); size <= 7; size++ {
		for _, n := range numbersOf(size) {
			what := fmt.Sprintf("of %d in %d", n, size)
			low, high := impl.PackLow(n, size), impl.PackHigh(n, size)
			wantBytes(t, "PackHigh "+what, high, highBytes(n, size))
			wantBytes(t, "PackLow "+what, low, reversed(highBytes(n, size)))
			wantInt(t, "ReadLow of PackLow "+what, impl.ReadLow(low.Bytes), n)
			wantInt(t, "ReadHigh of PackHigh "+what, impl.ReadHigh(high.Bytes), n)
		}
	}
}

// Promise 2, the other way round: bytes come back from the number that was read of them.
func TestBytesAreReadBack(t *testing.T) {
	for size := 1; size <= 7; size++ {
		for step := range 256 {
			data := listOf(size, byte(7*step), byte(step))
			what := fmt.Sprint("of ", data)
			wantBytes(t, "PackLow of ReadLow "+what, impl.PackLow(impl.ReadLow(data).Value, int64(size)), data)
			wantBytes(t, "PackHigh of ReadHigh "+what, impl.PackHigh(impl.ReadHigh(data).Value, int64(size)), data)
		}
	}
}

var someWords = []int64{0, 1, 2, 3, 5, 255, 256, 65535, 65536, 305419896, 2147483647, 2147483648, 2147483649, 2779096485, 4294967294, 4294967295}

func TestTurnOrdinary(t *testing.T) {
	for _, c := range []struct{ word, by, want int64 }{
		{0, 0, 0}, {0, 31, 0},
		{1, 0, 1}, {1, 1, 2}, {1, 31, 2147483648},
		{5, 0, 5}, {2147483649, 1, 3}, {2147483648, 31, 1073741824},
		{4294967295, 0, 4294967295}, {4294967295, 1, 4294967295}, {4294967295, 31, 4294967295},
		{305419896, 8, 878082066}, {305419896, 16, 1450709556}, {305419896, 28, 2166572391},
	} {
		wantInt(t, fmt.Sprintf("TurnWord of %d by %d", c.word, c.by), impl.TurnWord(c.word, c.by), c.want)
	}
	for _, word := range someWords {
		for by := range 32 {
			want := int64(bits.RotateLeft32(uint32(word), by))
			wantInt(t, fmt.Sprintf("TurnWord of %d by %d", word, by), impl.TurnWord(word, int64(by)), want)
		}
	}
}

func TestTurnWhatIsNone(t *testing.T) {
	for _, word := range []int64{4294967296, 4294967297, math.MaxInt64, -1, -4294967296, math.MinInt64} {
		for _, by := range []int64{0, 1, 31, 32, -1} {
			wantIntCode(t, fmt.Sprintf("TurnWord of %d by %d", word, by), impl.TurnWord(word, by), impl.ErrRange)
		}
	}
	for _, by := range []int64{32, 33, 64, math.MaxInt64, -1, -31, -32, math.MinInt64} {
		for _, word := range []int64{0, 1, 5, 4294967295, 4294967296} {
			wantIntCode(t, fmt.Sprintf("TurnWord of %d by %d", word, by), impl.TurnWord(word, by), impl.ErrRange)
		}
	}
}

// Promise 2: what is turned round comes back.
func TestWhatIsTurnedComesBack(t *testing.T) {
	for _, word := range someWords {
		wantInt(t, fmt.Sprintf("TurnWord of %d by nothing", word), impl.TurnWord(word, 0), word)
		for by := int64(1); by < 32; by++ {
			there := impl.TurnWord(word, by)
			wantInt(t, fmt.Sprintf("TurnWord of %d by %d and back", word, by), impl.TurnWord(there.Value, 32-by), word)
		}
		once := word
		for range 32 {
			once = impl.TurnWord(once, 1).Value
		}
		wantInt(t, fmt.Sprintf("%d turned 32 times by 1", word), impl.IntResult{Value: once}, word)
	}
}

func TestXorOrdinary(t *testing.T) {
	for _, c := range []struct{ a, b, want []byte }{
		{[]byte{5, 3}, []byte{1, 3}, []byte{4, 0}},
		{[]byte{0}, []byte{0}, []byte{0}},
		{[]byte{255}, []byte{255}, []byte{0}},
		{[]byte{240, 15, 170}, []byte{15, 240, 255}, []byte{255, 255, 85}},
		{[]byte{1, 2, 4, 8}, []byte{0, 0, 0, 128}, []byte{1, 2, 4, 136}},
		{nil, nil, nil}, {nil, []byte{}, nil}, {[]byte{}, nil, nil}, {[]byte{}, []byte{}, nil},
	} {
		wantBytes(t, fmt.Sprint("XorBytes of ", c.a, c.b), impl.XorBytes(c.a, c.b), c.want)
	}
	a, b := listOf(1000, 3, 7), bytes.Repeat([]byte{255}, 1000)
	wantBytes(t, "XorBytes of 1000 bytes", impl.XorBytes(a, b), listOf(1000, 252, 249))
	wantBytes(t, "XorBytes of a list and itself", impl.XorBytes(a, a), make([]byte, 1000))
}

func TestXorTooManyOrNotAsMany(t *testing.T) {
	for _, c := range []struct{ a, b int }{
		{1, 0}, {0, 1}, {1, 2}, {2, 1}, {999, 1000}, {1000, 999}, {1000, 1001}, {1001, 1000}, {0, 1001}, {1001, 0}, {1001, 1001}, {5000, 5000},
	} {
		got := impl.XorBytes(listOf(c.a, 1, 3), listOf(c.b, 2, 5))
		wantBytesCode(t, fmt.Sprintf("XorBytes of %d and %d bytes", c.a, c.b), got, impl.ErrMany)
	}
	wantBytesCode(t, "XorBytes of a byte and nil", impl.XorBytes([]byte{1}, nil), impl.ErrMany)
	wantBytesCode(t, "XorBytes of nil and a byte", impl.XorBytes(nil, []byte{1}), impl.ErrMany)
}

// Promise 2: what is xored twice is as it was.
func TestWhatIsXoredTwiceIsAsItWas(t *testing.T) {
	for _, size := range []int{0, 1, 2, 7, 8, 64, 999, 1000} {
		for step := range 20 {
			a, b := listOf(size, byte(step), 11), listOf(size, byte(3*step), 29)
			once := impl.XorBytes(a, b)
			what := fmt.Sprintf("XorBytes twice, of %d bytes", size)
			wantBytes(t, what, impl.XorBytes(once.Bytes, b), a)
			wantBytes(t, what+", by the first", impl.XorBytes(a, once.Bytes), b)
		}
	}
}

func TestSameBytes(t *testing.T) {
	long := listOf(1001, 0, 13)
	for _, c := range []struct {
		a, b []byte
		want bool
	}{
		{[]byte{1}, []byte{1}, true},
		{[]byte{1, 2, 3}, []byte{1, 2, 3}, true},
		{nil, nil, true}, {nil, []byte{}, true}, {[]byte{}, nil, true}, {[]byte{}, []byte{}, true},
		{long, bytes.Clone(long), true}, {long, long, true},
		{[]byte{1}, nil, false}, {nil, []byte{1}, false}, {nil, []byte{0}, false}, {[]byte{0}, []byte{}, false},
		{[]byte{1, 2, 3}, []byte{3, 2, 1}, false},
		{[]byte{1, 2, 3}, []byte{0, 2, 3}, false},
		{[]byte{1, 2, 3}, []byte{1, 0, 3}, false},
		{[]byte{1, 2, 3}, []byte{1, 2, 0}, false},
		{[]byte{1, 2, 3}, []byte{1, 2}, false}, {[]byte{1, 2}, []byte{1, 2, 3}, false},
		{[]byte{1, 2}, []byte{1, 2, 0}, false}, {[]byte{0, 1, 2}, []byte{1, 2}, false},
		{[]byte{3, 3}, []byte{5, 5}, false},
		{long, long[:1000], false},
		{long, append(bytes.Clone(long[:1000]), long[1000]+1), false},
	} {
		if got := impl.SameBytes(c.a, c.b); got != c.want {
			t.Errorf("SameBytes of %v and %v is %v", c.a, c.b, got)
		}
	}
}

// Promise 1: no argument is changed, whether there is an answer or a code.
func TestWordArgumentsAreKept(t *testing.T) {
	for _, size := range []int{0, 1, 2, 3, 7, 8, 1000, 1001} {
		a, b, short := guard(listOf(size, 1, 3)), guard(listOf(size, 9, 5)), guard([]byte{1, 2, 3, 4, 5})
		what := fmt.Sprintf("of %d bytes", size)
		impl.ReadLow(a.list())
		a.checkKept(t, "ReadLow "+what)
		impl.ReadHigh(a.list())
		a.checkKept(t, "ReadHigh "+what)
		impl.XorBytes(a.list(), b.list())
		impl.XorBytes(a.list(), short.list())
		a.checkKept(t, "XorBytes, first, "+what)
		b.checkKept(t, "XorBytes, second, "+what)
		short.checkKept(t, "XorBytes, fewer, "+what)
		impl.SameBytes(a.list(), b.list())
		impl.SameBytes(a.list(), a.list())
		a.checkKept(t, "SameBytes, first, "+what)
		b.checkKept(t, "SameBytes, second, "+what)
	}
}

// Promise 1: an answer shares no memory with an argument, in either direction.
func TestXorAnswerIsNewMemory(t *testing.T) {
	for _, size := range []int{1, 2, 7, 8, 64, 1000} {
		for _, zeros := range []bool{false, true} {
			first, second := listOf(size, 1, 3), listOf(size, 9, 5)
			if zeros {
				clear(second)
			}
			checkXorIsNew(t, first, second)
			checkXorIsNew(t, second, first)
		}
	}
	checkXorIsNew(t, nil, nil)
}

func checkXorIsNew(t *testing.T, first, second []byte) {
	t.Helper()
	a, b := guard(first), guard(second)
	got := impl.XorBytes(a.list(), b.list())
	want := bytes.Clone(got.Bytes)
	a.flip()
	b.flip()
	wantBytes(t, "XorBytes, the arguments changed behind it", got, want)
	a.flip()
	b.flip()
	flipAll(got.Bytes)
	a.checkKept(t, "XorBytes, the answer changed, first")
	b.checkKept(t, "XorBytes, the answer changed, second")
}

// Promise 1: two answers share no memory, so what is done with one does not show in a later one.
func TestWordAnswersShareNothing(t *testing.T) {
	list := []byte{1, 2, 3, 4, 5, 6, 7}
	for name, ask := range map[string]func() impl.BytesResult{
		"PackLow":  func() impl.BytesResult { return impl.PackLow(1976943448883713, 7) },
		"PackHigh": func() impl.BytesResult { return impl.PackHigh(283686952306183, 7) },
		"XorBytes": func() impl.BytesResult { return impl.XorBytes(list, make([]byte, 7)) },
	} {
		one := ask()
		wantBytes(t, name, one, list)
		two := ask()
		flipAll(one.Bytes)
		wantBytes(t, name+", a former answer changed", two, list)
		wantBytes(t, name+", asked once more", ask(), list)
	}
}

// Promise 1: an answer hangs on the arguments alone, not on what was asked ahead of it, or beside it.
func TestWordAnswersHangOnArgumentsAlone(t *testing.T) {
	want := askAllWords()
	impl.PackLow(-1, 9)
	impl.ReadHigh(nil)
	impl.XorBytes(make([]byte, 1000), listOf(1000, 77, 1))
	impl.TurnWord(-1, -1)
	if got := askAllWords(); got != want {
		t.Errorf("asked again: %s; want %s", got, want)
	}
	answers := make([]string, 8)
	var wait sync.WaitGroup
	for i := range answers {
		wait.Go(func() {
			for range 50 {
				answers[i] = askAllWords()
			}
		})
	}
	wait.Wait()
	for _, got := range answers {
		if got != want {
			t.Errorf("asked beside others: %s; want %s", got, want)
		}
	}
}

func askAllWords() string {
	a, b := []byte{200, 3, 77}, []byte{1, 250, 9}
	return fmt.Sprint(
		impl.PackLow(258, 3), impl.PackHigh(258, 3), impl.ReadLow(a), impl.ReadHigh(a),
		impl.TurnWord(2147483649, 5), impl.XorBytes(a, b), impl.SameBytes(a, b),
		impl.PackLow(256, 1), impl.PackHigh(0, 8), impl.ReadLow(nil), impl.TurnWord(5, 32), impl.XorBytes(a, nil),
	)
}

// Promise 1: what has room behind its end, or is a piece of something longer, is what its length says.
func TestWordAnswersHangOnNoRoomBehind(t *testing.T) {
	for size := 0; size <= 8; size++ {
		plain := listOf(size, 40, 17)
		roomy := guard(plain).list()
		what := fmt.Sprintf("with room behind, of %d bytes", size)
		if impl.ReadLow(roomy) != impl.ReadLow(plain) || impl.ReadHigh(roomy) != impl.ReadHigh(plain) {
			t.Error("read " + what)
		}
		wantBytes(t, "XorBytes "+what, impl.XorBytes(roomy, plain), make([]byte, size))
		if !impl.SameBytes(roomy, plain) {
			t.Error("SameBytes " + what)
		}
	}
}
