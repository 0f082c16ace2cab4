package impl

import (
	"bytes"
	"slices"
)

const OK = 0
const ErrForm = 1
const ErrMany = 2
const ErrRange = 3
const ErrNone = 4
const ErrText = 5
const ErrSum = 6
const ErrFull = 7
const ErrState = 8
const MaxBytes = 1000

type IntResult struct {
	Code  int64
	Value int64
}
type BytesResult struct {
	Code  int64
	Bytes []byte
}
type WordsResult struct {
	Code  int64
	Words []int64
}

// maxPacked is the most bytes whose number is below the greatest int64, whatever they are.
const maxPacked = 7

const wordBits = 32
const lastWord = 1<<wordBits - 1

// number has the kinds of whole numbers that bytes stand for: those that are compared
// with bounds, words, whose reckoning goes round, and those of 8 bytes that may be
// above the greatest int64.
type number interface {
	int64 | uint32 | uint64
}

func joinHigh[N number](data []byte) N {
	var n N
	for _, b := range data {
		n = n<<8 | N(b)
	}
	return n
}

func joinLow[N number](data []byte) N {
	var n N
	for _, b := range slices.Backward(data) {
		n = n<<8 | N(b)
	}
	return n
}

// spreadLow has no bound of its own: a number from 0 on has its bytes in 8 of them, a word in 4.
func spreadLow[N number](n N, size int64) []byte {
	spread := make([]byte, size)
	for i := range spread {
		spread[i] = byte(n >> (8 * i))
	}
	return spread
}

func spreadHigh[N number](n N, size int64) []byte {
	spread := spreadLow(n, size)
	slices.Reverse(spread)
	return spread
}

// turnLeft by nothing shifts by all 32 bits, too, which leaves 0 in Go.
func turnLeft(word uint32, by int64) uint32 {
	return word<<by | word>>(wordBits-by)
}

func fitsIn(n int64, size int64) bool {
	// size is asked first, because a shift by a size that is not so would panic or lose the bound.
	if size < 1 || size > maxPacked {
		return false
	}
	return n >= 0 && n < int64(1)<<(8*size)
}

func canRead(data []byte) bool {
	return len(data) >= 1 && len(data) <= maxPacked
}

func isWord(word int64) bool {
	return word >= 0 && word <= lastWord
}

func PackLow(n int64, size int64) BytesResult {
	if !fitsIn(n, size) {
		return BytesResult{Code: ErrRange}
	}
	return BytesResult{Bytes: spreadLow(n, size)}
}

func PackHigh(n int64, size int64) BytesResult {
	if !fitsIn(n, size) {
		return BytesResult{Code: ErrRange}
	}
	return BytesResult{Bytes: spreadHigh(n, size)}
}

func ReadLow(data []byte) IntResult {
	if !canRead(data) {
		return IntResult{Code: ErrMany}
	}
	return IntResult{Value: joinLow[int64](data)}
}

func ReadHigh(data []byte) IntResult {
	if !canRead(data) {
		return IntResult{Code: ErrMany}
	}
	return IntResult{Value: joinHigh[int64](data)}
}

func TurnWord(word int64, by int64) IntResult {
	if !isWord(word) || by < 0 || by >= wordBits {
		return IntResult{Code: ErrRange}
	}
	return IntResult{Value: int64(turnLeft(uint32(word), by))}
}

func XorBytes(a []byte, b []byte) BytesResult {
	if len(a) != len(b) || len(a) > MaxBytes {
		return BytesResult{Code: ErrMany}
	}
	mixed := make([]byte, len(a))
	for i := range mixed {
		mixed[i] = a[i] ^ b[i]
	}
	return BytesResult{Bytes: mixed}
}

func SameBytes(a []byte, b []byte) bool {
	return bytes.Equal(a, b)
}
