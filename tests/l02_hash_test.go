package tests

import (
	"bytes"
	"crypto/hkdf"
	"crypto/hmac"
	"crypto/sha256"
	"encoding/hex"
	"fmt"
	"strings"
	"testing"

	"loop.example/g00792/impl"
)

// edgeSizes are the lengths at which a message comes to one block more, or to a bound, and those beside them.
var edgeSizes = []int{0, 1, 3, 31, 32, 33, 54, 55, 56, 57, 63, 64, 65, 118, 119, 120, 127, 128, 129, 936, 937, 999, 1000}

// tooLong are lengths above MaxBytes.
var tooLong = []int{1001, 1002, 1024, 5000}

// fromHex reads bytes from a text, in which blanks count for nothing.
func fromHex(t *testing.T, text string) []byte {
	t.Helper()
	data, err := hex.DecodeString(strings.ReplaceAll(text, " ", ""))
	if err != nil {
		t.Fatal(err)
	}
	return data
}

// macBy is HMAC as Go's own library tells it.
func macBy(key, data []byte) []byte {
	mac := hmac.New(sha256.New, key)
	mac.Write(data)
	return mac.Sum(nil)
}

// keysBy is HKDF as Go's own library tells it: chain is its salt, more what comes in, and there is no info.
func keysBy(t *testing.T, chain, more []byte) (first, other []byte) {
	t.Helper()
	both, err := hkdf.Key(sha256.New, more, chain, "", 64)
	if err != nil {
		t.Fatal(err)
	}
	return both[:32], both[32:]
}

// paddedBy lays the blocks out from their number on, not from the end of data on.
func paddedBy(data []byte) []byte {
	size := 64
	for len(data)+9 > size {
		size += 64
	}
	out := make([]byte, size)
	copy(out, data)
	out[len(data)] = 0x80
	bitCount := len(data) * 8
	out[size-1], out[size-2] = byte(bitCount%256), byte(bitCount/256)
	return out
}

func wantPair(t *testing.T, what string, got impl.PairResult, first, other []byte) {
	t.Helper()
	if got.Code != impl.OK || !bytes.Equal(got.First, first) || !bytes.Equal(got.Other, other) {
		t.Errorf("%s: %v; want code 0, %v, %v", what, got, first, other)
	}
}

func wantPairCode(t *testing.T, what string, got impl.PairResult, code int64) {
	t.Helper()
	if got.Code != code || len(got.First) != 0 || len(got.Other) != 0 {
		t.Errorf("%s: %v; want code %d, no bytes", what, got, code)
	}
}

func TestHashSizes(t *testing.T) {
	if impl.HashSize != 32 || impl.BlockSize != 64 {
		t.Errorf("HashSize is %d, BlockSize is %d", impl.HashSize, impl.BlockSize)
	}
}

func TestPadMessageOrdinary(t *testing.T) {
	abc := make([]byte, 64)
	copy(abc, "abc\x80")
	abc[63] = 24
	wantBytes(t, "PadMessage of abc", impl.PadMessage([]byte("abc")), abc)
	none := make([]byte, 64)
	none[0] = 128
	wantBytes(t, "PadMessage of nil", impl.PadMessage(nil), none)
	wantBytes(t, "PadMessage of no bytes", impl.PadMessage([]byte{}), none)
	for _, size := range edgeSizes {
		data := listOf(size, 1, 7)
		wantBytes(t, fmt.Sprintf("PadMessage of %d bytes", size), impl.PadMessage(data), paddedBy(data))
	}
}

// Promise 3: what is put behind a message makes it whole blocks, as few as there can be.
func TestPadMessageMakesWholeBlocks(t *testing.T) {
	for _, c := range []struct{ size, blocks int }{
		{0, 1}, {55, 1}, {56, 2}, {63, 2}, {64, 2}, {65, 2}, {119, 2}, {120, 3}, {127, 3}, {128, 3}, {1000, 16},
	} {
		got := impl.PadMessage(make([]byte, c.size))
		if got.Code != impl.OK || len(got.Bytes) != 64*c.blocks {
			t.Errorf("PadMessage of %d bytes: code %d, %d bytes; want %d blocks", c.size, got.Code, len(got.Bytes), c.blocks)
		}
	}
	for size := range 1001 {
		data := bytes.Repeat([]byte{255}, size)
		got := impl.PadMessage(data)
		if got.Code != impl.OK || !bytes.Equal(got.Bytes, paddedBy(data)) {
			t.Fatalf("PadMessage of %d bytes: %v", size, got)
		}
		behind := len(got.Bytes) - size
		if len(got.Bytes)%impl.BlockSize != 0 || behind < 9 || behind > 72 {
			t.Errorf("PadMessage of %d bytes has %d bytes", size, len(got.Bytes))
		}
	}
}

func TestHashKnownAnswers(t *testing.T) {
	for _, c := range []struct{ text, want string }{
		{"", "e3b0c44298fc1c149afbf4c8996fb92427ae41e4649b934ca495991b7852b855"},
		{"abc", "ba7816bf8f01cfea414140de5dae2223b00361a396177a9cb410ff61f20015ad"},
		{"abcdbcdecdefdefgefghfghighijhijkijkljklmklmnlmnomnopnopq", "248d6a61d20638b8e5c026930c3e6039a33ce45964ff2167f6ecedd419db06c1"},
		{
			"abcdefghbcdefghicdefghijdefghijkefghijklfghijklmghijklmnhijklmnoijklmnopjklmnopqklmnopqrlmnopqrsmnopqrstnopqrstu",
			"cf5b16a778af8380036ce59e7b0492370b249b11e8f07a51afac45037afee9d1",
		},
		{"The quick brown fox jumps over the lazy dog", "d7a8fbb307d7809469ca9abcb0082e4f8d5651e46d3cdb762d02d0bf37c9e592"},
	} {
		wantBytes(t, fmt.Sprintf("HashOf %q", c.text), impl.HashOf([]byte(c.text)), fromHex(t, c.want))
	}
}

// Promise 3: a hash has one size, whatever it is of.
func TestHashOfEachSize(t *testing.T) {
	for size := range 1001 {
		data := listOf(size, byte(size), 29)
		want := sha256.Sum256(data)
		got := impl.HashOf(data)
		wantBytes(t, fmt.Sprintf("HashOf %d bytes", size), got, want[:])
		if len(got.Bytes) != impl.HashSize {
			t.Errorf("HashOf %d bytes has %d bytes", size, len(got.Bytes))
		}
	}
}

func TestHashOfEdges(t *testing.T) {
	for _, size := range edgeSizes {
		for _, data := range [][]byte{make([]byte, size), bytes.Repeat([]byte{255}, size), bytes.Repeat([]byte{128}, size)} {
			want := sha256.Sum256(data)
			wantBytes(t, fmt.Sprintf("HashOf %d alike bytes", size), impl.HashOf(data), want[:])
		}
	}
	none := sha256.Sum256(nil)
	wantBytes(t, "HashOf nil", impl.HashOf(nil), none[:])
	wantBytes(t, "HashOf no bytes", impl.HashOf([]byte{}), none[:])
}

func TestHashOfTurnsWithEachBit(t *testing.T) {
	seen := map[string]bool{}
	for _, size := range []int{1, 55, 56, 64, 120} {
		for bit := range 8 * size {
			data := make([]byte, size)
			data[bit/8] = 1 << (bit % 8)
			want := sha256.Sum256(data)
			wantBytes(t, fmt.Sprintf("HashOf %d bytes, the bit %d is 1", size, bit), impl.HashOf(data), want[:])
			seen[string(impl.HashOf(data).Bytes)] = true
		}
	}
	if len(seen) != 8*(1+55+56+64+120) {
		t.Errorf("only %d hashes are different", len(seen))
	}
}

// A message longer than MaxBytes has no hash, though one that is used within MacOf may be longer.
func TestHashAndPadTooMany(t *testing.T) {
	for _, size := range tooLong {
		what := fmt.Sprintf("%d bytes", size)
		wantBytesCode(t, "PadMessage of "+what, impl.PadMessage(make([]byte, size)), impl.ErrMany)
		wantBytesCode(t, "HashOf "+what, impl.HashOf(listOf(size, 1, 3)), impl.ErrMany)
	}
}

func TestMacKnownAnswers(t *testing.T) {
	for _, c := range []struct{ name, key, data, want string }{
		{
			"RFC 4231, 1", strings.Repeat("0b", 20), hex.EncodeToString([]byte("Hi There")),
			"b0344c61d8db38535ca8afceaf0bf12b881dc200c9833da726e9376c2e32cff7",
		},
		{
			"RFC 4231, 2", hex.EncodeToString([]byte("Jefe")), hex.EncodeToString([]byte("what do ya want for nothing?")),
			"5bdcc146bf60754e6a042426089575c75a003f089d2739839dec58b964ec3843",
		},
		{
			"RFC 4231, 3", strings.Repeat("aa", 20), strings.Repeat("dd", 50),
			"773ea91e36800e46854db8ebd09181a72959098b3ef8c122d9635514ced565fe",
		},
		{
			"RFC 4231, 4", "0102030405060708090a0b0c0d0e0f10111213141516171819", strings.Repeat("cd", 50),
			"82558a389a443c0ea4cc819899f2083a85f0faa3e578f8077a2e3ff46729665b",
		},
		{"no key, no data", "", "", "b613679a0814d9ec772f95d778c35fc5ff1697c493715653c6c712144292c5ad"},
		{
			"the fox", hex.EncodeToString([]byte("key")), hex.EncodeToString([]byte("The quick brown fox jumps over the lazy dog")),
			"f7bc83f430538424b13298e6aa6fb143ef4d59a14946175997479dbc2d1a3cd8",
		},
	} {
		wantBytes(t, "MacOf, "+c.name, impl.MacOf(fromHex(t, c.key), fromHex(t, c.data)), fromHex(t, c.want))
	}
}

func TestMacOfEdges(t *testing.T) {
	for _, keySize := range []int{0, 1, 31, 32, 33, 55, 56, 63, 64} {
		for _, size := range edgeSizes {
			key, data := listOf(keySize, 200, 11), listOf(size, 3, 5)
			what := fmt.Sprintf("MacOf a key of %d bytes and %d bytes", keySize, size)
			got := impl.MacOf(key, data)
			wantBytes(t, what, got, macBy(key, data))
			if len(got.Bytes) != impl.HashSize {
				t.Errorf("%s has %d bytes", what, len(got.Bytes))
			}
		}
	}
	wantBytes(t, "MacOf nil and nil", impl.MacOf(nil, nil), macBy(nil, nil))
	wantBytes(t, "MacOf no bytes and no bytes", impl.MacOf([]byte{}, []byte{}), macBy(nil, nil))
	wantBytes(t, "MacOf nil and a byte", impl.MacOf(nil, []byte{0}), macBy(nil, []byte{0}))
	wantBytes(t, "MacOf a byte and nil", impl.MacOf([]byte{1}, nil), macBy([]byte{1}, nil))
}

// The bound is for what comes from outside: with the block of the key ahead, more than MaxBytes are hashed within.
func TestMacOfGoesBeyondTheBoundWithin(t *testing.T) {
	key := listOf(64, 9, 3)
	for size := 930; size <= 1000; size++ {
		data := listOf(size, byte(size), 3)
		wantBytes(t, fmt.Sprintf("MacOf %d bytes", size), impl.MacOf(key, data), macBy(key, data))
	}
	wantBytesCode(t, "HashOf 1064 bytes", impl.HashOf(make([]byte, 1064)), impl.ErrMany)
}

func TestMacOfTooMany(t *testing.T) {
	for _, size := range tooLong {
		for _, keySize := range []int{0, 1, 32, 64, 65} {
			got := impl.MacOf(listOf(keySize, 1, 1), make([]byte, size))
			wantBytesCode(t, fmt.Sprintf("MacOf a key of %d bytes and %d bytes", keySize, size), got, impl.ErrMany)
		}
	}
	for _, keySize := range []int{65, 66, 128, 1000, 1001} {
		for _, size := range []int{0, 1, 64, 1000} {
			got := impl.MacOf(listOf(keySize, 1, 1), make([]byte, size))
			wantBytesCode(t, fmt.Sprintf("MacOf a key of %d bytes and %d bytes", keySize, size), got, impl.ErrMany)
		}
	}
}

// RFC 5869 has one test whose salt can be a chain: no salt, which is as many zeros as a hash has bytes.
func TestKeysKnownAnswer(t *testing.T) {
	want := fromHex(t, "8da4e775a563c18f715f802a063c5a31b8a11f5c5ee1879ec3454e5f3c738d2d9d201395faa4b61a96c8")
	got := impl.KeysOf(make([]byte, 32), bytes.Repeat([]byte{0x0b}, 22))
	if got.Code != impl.OK || !bytes.Equal(got.First, want[:32]) || !bytes.HasPrefix(got.Other, want[32:]) {
		t.Errorf("KeysOf, RFC 5869, 3: %v; want %v", got, want)
	}
}

// Promise 3: keys have one size.
func TestKeysOfEdges(t *testing.T) {
	chains := [][]byte{make([]byte, 32), bytes.Repeat([]byte{255}, 32), listOf(32, 7, 31), []byte("Noise_XX_small_ChaChaPoly_SHA256")}
	for _, chain := range chains {
		for _, size := range edgeSizes {
			more := listOf(size, 77, 13)
			first, other := keysBy(t, chain, more)
			what := fmt.Sprintf("KeysOf %v and %d bytes", chain, size)
			got := impl.KeysOf(chain, more)
			wantPair(t, what, got, first, other)
			if len(got.First) != impl.HashSize || len(got.Other) != impl.HashSize || bytes.Equal(got.First, got.Other) {
				t.Errorf("%s: %v", what, got)
			}
		}
		first, other := keysBy(t, chain, nil)
		wantPair(t, "KeysOf a chain and nil", impl.KeysOf(chain, nil), first, other)
		wantPair(t, "KeysOf a chain and no bytes", impl.KeysOf(chain, []byte{}), first, other)
	}
}

func TestKeysOfMacs(t *testing.T) {
	chain, more := listOf(32, 50, 3), []byte("more")
	top := impl.MacOf(chain, more).Bytes
	first := impl.MacOf(top, []byte{1}).Bytes
	other := impl.MacOf(top, append(bytes.Clone(first), 2)).Bytes
	wantPair(t, "KeysOf by MacOf", impl.KeysOf(chain, more), first, other)
}

func TestKeysOfCodes(t *testing.T) {
	for _, chainSize := range []int{0, 1, 31, 33, 63, 64, 65, 1000, 1001} {
		for _, size := range []int{0, 1, 1000, 1001, 5000} {
			got := impl.KeysOf(listOf(chainSize, 1, 1), make([]byte, size))
			wantPairCode(t, fmt.Sprintf("KeysOf a chain of %d bytes and %d bytes", chainSize, size), got, impl.ErrRange)
		}
	}
	wantPairCode(t, "KeysOf nil and nil", impl.KeysOf(nil, nil), impl.ErrRange)
	wantPairCode(t, "KeysOf nil and 1001 bytes", impl.KeysOf(nil, make([]byte, 1001)), impl.ErrRange)
	for _, size := range tooLong {
		got := impl.KeysOf(make([]byte, 32), listOf(size, 1, 1))
		wantPairCode(t, fmt.Sprintf("KeysOf a chain and %d bytes", size), got, impl.ErrMany)
	}
}

// hashAsks are the functions of the chapter, each of two lists.
var hashAsks = map[string]asked{
	"PadMessage": func(lists ...[]byte) [][]byte { return [][]byte{impl.PadMessage(lists[1]).Bytes} },
	"HashOf":     func(lists ...[]byte) [][]byte { return [][]byte{impl.HashOf(lists[1]).Bytes} },
	"MacOf":      func(lists ...[]byte) [][]byte { return [][]byte{impl.MacOf(lists[0], lists[1]).Bytes} },
	"KeysOf": func(lists ...[]byte) [][]byte {
		got := impl.KeysOf(lists[0], lists[1])
		return [][]byte{got.First, got.Other}
	},
}

// Promise 1: no argument is changed, whether there is an answer or a code.
func TestHashArgumentsAreKept(t *testing.T) {
	for name, ask := range hashAsks {
		for _, keySize := range []int{0, 31, 32, 33, 63, 64, 65} {
			for _, size := range []int{0, 1, 32, 55, 56, 63, 64, 128, 1000, 1001} {
				what := fmt.Sprintf("%s of %d and %d bytes", name, keySize, size)
				checkArgumentsKept(t, what, ask, listOf(keySize, 9, 5), listOf(size, 1, 3))
			}
		}
	}
}

// Promise 1: an answer shares no memory with an argument, in either direction.
func TestHashAnswersAreNewMemory(t *testing.T) {
	for name, ask := range hashAsks {
		for _, size := range []int{0, 1, 32, 55, 56, 63, 64, 128, 1000} {
			checkNewMemory(t, fmt.Sprintf("%s of %d bytes", name, size), ask, listOf(32, 9, 5), listOf(size, 1, 3))
		}
	}
}

// Promise 1: no two lists of one answer share any memory, be it behind their ends.
func TestKeysOfSharesNothing(t *testing.T) {
	chain, more := listOf(32, 9, 5), listOf(10, 1, 3)
	first, other := keysBy(t, chain, more)
	got := impl.KeysOf(chain, more)
	flipAll(got.First)
	if !bytes.Equal(got.Other, other) {
		t.Error("KeysOf: Other turned with First")
	}
	got = impl.KeysOf(chain, more)
	flipAll(got.Other)
	if !bytes.Equal(got.First, first) {
		t.Error("KeysOf: First turned with Other")
	}
}

// Promise 1: an answer hangs on the arguments alone, not on what was asked ahead of it, or beside it.
func TestHashAnswersHangOnArgumentsAlone(t *testing.T) {
	key, data := listOf(32, 9, 5), listOf(200, 1, 3)
	for name, ask := range hashAsks {
		checkHangsOnArguments(t, name, ask, [][]byte{key, data},
			[][]byte{nil, nil},
			[][]byte{make([]byte, 65), make([]byte, 1001)},
			[][]byte{data[:32], listOf(1000, 7, 7)},
		)
	}
}
