package tests

import (
	"bytes"
	"encoding/binary"
	"fmt"
	"math"
	"math/big"
	"testing"

	"loop.example/g00792/impl"
)

// prime is 2 to the power of 61, less 1, written out: the tests do not take the program's word for it.
const prime = int64(2305843009213693951)

// outside are numbers that are no factors, on both sides.
var outside = []int64{-1, -2, -prime, math.MinInt64, prime, prime + 1, 2 * prime, 1 << 62, math.MaxInt64}

// edgeFactors are the ends, their neighbours, and those at which a product comes to more bits, or to the prime.
var edgeFactors = []int64{
	0, 1, 2, 3, 4, 7, 8, 1<<30 - 1, 1 << 30, 1 << 31, 1<<32 - 1, 1 << 32, 1<<32 + 1,
	prime / 2, prime/2 + 1, 1 << 59, 1 << 60, prime - 3, prime - 2, prime - 1,
}

// edgePowers have no upper bound but that of int64.
var edgePowers = []int64{
	0, 1, 2, 3, 4, 60, 61, 62, 63, 64, 1 << 32, 1 << 60, prime - 3, prime - 2, prime - 1, prime, prime + 1,
	1 << 61, 2*prime - 2, 1 << 62, 1<<62 + 1, math.MaxInt64 - 1, math.MaxInt64,
}

// madeUp are numbers from 0 to below bound that follow no pattern.
func madeUp(count int, start uint64, bound int64) []int64 {
	out := make([]int64, count)
	for i := range out {
		start = start*6364136223846793005 + 1442695040888963407
		out[i] = int64((start ^ start>>29) % uint64(bound))
	}
	return out
}

// productBy and powerBy reckon by math/big.
func productBy(a, b int64) int64 {
	all := new(big.Int).Mul(big.NewInt(a), big.NewInt(b))
	return all.Mod(all, big.NewInt(prime)).Int64()
}

func powerBy(a, n int64) int64 {
	return new(big.Int).Exp(big.NewInt(a), big.NewInt(n), big.NewInt(prime)).Int64()
}

func eightLow(n uint64) []byte {
	return binary.LittleEndian.AppendUint64(nil, n)
}

func publicBy(secret int64) []byte {
	return eightLow(uint64(powerBy(3, secret)))
}

func TestGroupNumbers(t *testing.T) {
	if impl.Prime != prime || impl.Base != 3 || impl.PublicSize != 8 {
		t.Errorf("Prime is %d, Base is %d, PublicSize is %d", int64(impl.Prime), impl.Base, impl.PublicSize)
	}
	if prime != 1<<61-1 || !big.NewInt(prime).ProbablyPrime(20) {
		t.Errorf("%d is no prime", prime)
	}
}

func TestMulModKnownAnswers(t *testing.T) {
	for _, c := range []struct{ a, b, want int64 }{
		{0, 0, 0}, {0, 1, 0}, {1, 1, 1}, {3, 27, 81}, {1000000, 1000000, 1000000000000},
		{prime - 1, 0, 0}, {prime - 1, 1, prime - 1}, {prime - 1, 2, prime - 2}, {prime - 1, prime - 1, 1},
		{prime - 2, prime - 2, 4}, {1152921504606846976, 2, 1}, {1152921504606846976, 4, 2},
		{1 << 31, 1 << 31, 2}, {1 << 60, 1 << 60, 1 << 59},
		{1234567890123456789, 987654321987654321, 679285111540258702},
	} {
		wantInt(t, fmt.Sprintf("MulMod of %d and %d", c.a, c.b), impl.MulMod(c.a, c.b), c.want)
		wantInt(t, fmt.Sprintf("MulMod of %d and %d", c.b, c.a), impl.MulMod(c.b, c.a), c.want)
	}
}

func TestMulModOfEdges(t *testing.T) {
	factors := append(madeUp(60, 1, prime), edgeFactors...)
	for _, a := range factors {
		for _, b := range factors {
			wantInt(t, fmt.Sprintf("MulMod of %d and %d", a, b), impl.MulMod(a, b), productBy(a, b))
		}
	}
}

func TestMulModOutOfRange(t *testing.T) {
	for _, a := range outside {
		for _, b := range append(edgeFactors, outside...) {
			wantIntCode(t, fmt.Sprintf("MulMod of %d and %d", a, b), impl.MulMod(a, b), impl.ErrRange)
			wantIntCode(t, fmt.Sprintf("MulMod of %d and %d", b, a), impl.MulMod(b, a), impl.ErrRange)
		}
	}
}

func TestPowModKnownAnswers(t *testing.T) {
	for _, c := range []struct{ a, n, want int64 }{
		{3, 4, 81}, {2, 10, 1024}, {10, 18, 1000000000000000000}, {3, 1, 3}, {3, 0, 1},
		{2, 60, 1152921504606846976}, {2, 61, 1}, {2, 62, 2}, {2, math.MaxInt64, 128},
		{prime - 1, 2, 1}, {prime - 1, 3, prime - 1}, {3, prime - 2, 1537228672809129301},
		{3, 1234567, 172941216665031856}, {3, 7654321, 181712716273593725},
		{1234567890123456789, 987654321987654321, 833209941971268496},
		{987654321987654321, 1234567890123456789, 591062778330104512},
	} {
		wantInt(t, fmt.Sprintf("PowMod of %d and %d", c.a, c.n), impl.PowMod(c.a, c.n), c.want)
	}
}

// The power of nought is 1, be it that of nought, and no other power of nought is.
func TestPowModOfNought(t *testing.T) {
	for _, a := range append(madeUp(20, 2, prime), edgeFactors...) {
		wantInt(t, fmt.Sprintf("PowMod of %d and 0", a), impl.PowMod(a, 0), 1)
	}
	for _, n := range edgePowers[1:] {
		wantInt(t, fmt.Sprintf("PowMod of 0 and %d", n), impl.PowMod(0, n), 0)
		wantInt(t, fmt.Sprintf("PowMod of 1 and %d", n), impl.PowMod(1, n), 1)
	}
}

// The powers of a go round: the prime less 1 is the power at which they come to 1 again.
func TestPowModAtThePrime(t *testing.T) {
	for _, a := range append(madeUp(20, 3, prime-1), edgeFactors...) {
		if a == 0 {
			continue
		}
		wantInt(t, fmt.Sprintf("PowMod of %d and Prime - 1", a), impl.PowMod(a, prime-1), 1)
		wantInt(t, fmt.Sprintf("PowMod of %d and Prime", a), impl.PowMod(a, prime), a)
		back := impl.PowMod(a, prime-2)
		wantInt(t, fmt.Sprintf("%d times PowMod of it and Prime - 2", a), impl.MulMod(back.Value, a), 1)
	}
}

func TestPowModOfEdges(t *testing.T) {
	for _, a := range append(madeUp(30, 4, prime), edgeFactors...) {
		for _, n := range append(madeUp(30, 5, math.MaxInt64), edgePowers...) {
			wantInt(t, fmt.Sprintf("PowMod of %d and %d", a, n), impl.PowMod(a, n), powerBy(a, n))
		}
	}
}

func TestPowModIsMulModAgainAndAgain(t *testing.T) {
	for _, a := range append(madeUp(10, 6, prime), edgeFactors...) {
		want := int64(1)
		for n := range int64(200) {
			wantInt(t, fmt.Sprintf("PowMod of %d and %d", a, n), impl.PowMod(a, n), want)
			want = impl.MulMod(want, a).Value
		}
	}
}

func TestPowModOutOfRange(t *testing.T) {
	negative := []int64{-1, -2, 1 - prime, -prime, math.MinInt64}
	for _, a := range outside {
		for _, n := range append(edgePowers, negative...) {
			wantIntCode(t, fmt.Sprintf("PowMod of %d and %d", a, n), impl.PowMod(a, n), impl.ErrRange)
		}
	}
	for _, a := range edgeFactors {
		for _, n := range negative {
			wantIntCode(t, fmt.Sprintf("PowMod of %d and %d", a, n), impl.PowMod(a, n), impl.ErrRange)
		}
	}
}

// Promise 5: powers go together as they should.
func TestPowersGoTogether(t *testing.T) {
	factors := append(madeUp(8, 7, prime), edgeFactors...)
	powers := append(madeUp(8, 8, 1<<62), 0, 1, 2, 3, prime-2, prime-1, prime, 1<<62-1)
	for i, a := range factors {
		b := factors[len(factors)-1-i]
		both := impl.MulMod(a, b).Value
		for _, n := range powers {
			an, bn := impl.PowMod(a, n).Value, impl.PowMod(b, n).Value
			what := fmt.Sprintf("powers of %d and %d at %d", a, b, n)
			wantInt(t, what+", of the product", impl.PowMod(both, n), impl.MulMod(an, bn).Value)
			for _, m := range powers {
				am := impl.PowMod(a, m).Value
				what := fmt.Sprintf("powers of %d at %d and %d", a, n, m)
				wantInt(t, what+", together", impl.PowMod(a, n+m), impl.MulMod(an, am).Value)
				wantInt(t, what+", one of the other", impl.PowMod(an, m), impl.PowMod(am, n).Value)
			}
		}
	}
	for _, a := range factors {
		for n := range int64(30) {
			for m := range int64(30) {
				what := fmt.Sprintf("the power %d of the power %d of %d", m, n, a)
				wantInt(t, what, impl.PowMod(impl.PowMod(a, n).Value, m), impl.PowMod(a, n*m).Value)
			}
		}
	}
}

// noSecrets are numbers below the secrets, and above them.
var noSecrets = []int64{0, -1, -2, math.MinInt64, prime - 1, prime, prime + 1, 1 << 61, math.MaxInt64}

// edgeSecrets have publics that can be read.
var edgeSecrets = []int64{1, 2, 3, 4, 40, 61, 1<<32 - 1, 1 << 32, 1 << 60, prime/2 - 1, prime/2 + 1, prime - 4, prime - 3, prime - 2}

func someSecrets() []int64 {
	return append(madeUp(25, 9, prime-2), edgeSecrets...)
}

func TestPublicKnownAnswers(t *testing.T) {
	for _, c := range []struct {
		secret int64
		want   []byte
	}{
		{1, []byte{3, 0, 0, 0, 0, 0, 0, 0}},
		{2, []byte{9, 0, 0, 0, 0, 0, 0, 0}},
		{6, []byte{217, 2, 0, 0, 0, 0, 0, 0}},
		{38, []byte{89, 253, 31, 232, 122, 48, 191, 18}},
		{1234567, eightLow(172941216665031856)},
		{7654321, eightLow(181712716273593725)},
		{1234567890123456789, eightLow(1049267445988448792)},
		{987654321987654321, eightLow(956828760083666342)},
		{prime - 2, eightLow(1537228672809129301)},
	} {
		wantBytes(t, fmt.Sprintf("PublicOf %d", c.secret), impl.PublicOf(c.secret), c.want)
	}
}

func TestPublicOfEdges(t *testing.T) {
	for _, secret := range someSecrets() {
		what := fmt.Sprintf("PublicOf %d", secret)
		got := impl.PublicOf(secret)
		wantBytes(t, what, got, publicBy(secret))
		wantBytes(t, what+", by PowMod", got, eightLow(uint64(impl.PowMod(impl.Base, secret).Value)))
		wantInt(t, "ReadPublic of "+what, impl.ReadPublic(got.Bytes), powerBy(3, secret))
	}
}

func TestPublicOutOfRange(t *testing.T) {
	for _, secret := range noSecrets {
		wantBytesCode(t, fmt.Sprintf("PublicOf %d", secret), impl.PublicOf(secret), impl.ErrRange)
	}
}

// noPublics are the numbers of 8 bytes that are none. Of those above the greatest int64, and of those
// with a bit of 61 or more, some have low bits that alone would be a public.
var noPublics = []uint64{
	0, 1, uint64(prime) - 1, uint64(prime), uint64(prime) + 1, uint64(prime) + 5, 1<<61 + 3, 1 << 62, 1<<62 + 3,
	math.MaxInt64 - 1, math.MaxInt64, 1 << 63, 1<<63 + 1, 1<<63 + 2, 1<<63 + 3, 1<<63 + 1<<60,
	1<<63 + uint64(prime) - 2, math.MaxUint64 - uint64(prime), math.MaxUint64 - 2, math.MaxUint64 - 1, math.MaxUint64,
}

// somePublics are numbers that are read.
func somePublics() []int64 {
	return append(madeUp(25, 10, prime-2), 2, 3, 4, 255, 256, 1<<32-1, 1<<32, 1<<53+1, 1<<60, 1<<60+1, prime-3, prime-2)
}

func TestReadPublicOrdinary(t *testing.T) {
	wantInt(t, "ReadPublic of 3", impl.ReadPublic([]byte{3, 0, 0, 0, 0, 0, 0, 0}), 3)
	wantInt(t, "ReadPublic of 1 to 8", impl.ReadPublic([]byte{1, 2, 3, 4, 5, 6, 7, 8}), 578437695752307201)
	wantInt(t, "ReadPublic of the greatest", impl.ReadPublic([]byte{253, 255, 255, 255, 255, 255, 255, 31}), prime-2)
	for _, n := range somePublics() {
		wantInt(t, fmt.Sprintf("ReadPublic of %d", n), impl.ReadPublic(eightLow(uint64(n))), n)
	}
}

func TestReadPublicOfEachBit(t *testing.T) {
	for bit := range 64 {
		what, data := fmt.Sprintf("ReadPublic of the bit %d", bit), eightLow(1<<bit)
		if bit >= 1 && bit <= 60 {
			wantInt(t, what, impl.ReadPublic(data), 1<<bit)
		} else {
			wantIntCode(t, what, impl.ReadPublic(data), impl.ErrText)
		}
	}
}

func TestReadPublicOfWhatIsNone(t *testing.T) {
	for _, n := range noPublics {
		wantIntCode(t, fmt.Sprintf("ReadPublic of %d", n), impl.ReadPublic(eightLow(n)), impl.ErrText)
	}
}

// notEightBytes are lists that are no publics, whatever number is in them.
func notEightBytes() [][]byte {
	out := [][]byte{nil, {}, listOf(1000, 1, 1), listOf(1001, 1, 1)}
	for _, n := range []uint64{0, 1, 2, 3, uint64(prime) - 2, uint64(prime) - 1, uint64(prime), math.MaxUint64} {
		whole := eightLow(n)
		out = append(out, whole[:1], whole[:7], append([]byte{0}, whole...), append(bytes.Clone(whole), 0), append(bytes.Clone(whole), whole...))
	}
	return out
}

// ErrMany is asked ahead of ErrText.
func TestReadPublicOfNotEightBytes(t *testing.T) {
	for _, data := range notEightBytes() {
		wantIntCode(t, fmt.Sprint("ReadPublic of ", data), impl.ReadPublic(data), impl.ErrMany)
	}
}

func TestSharedKnownAnswers(t *testing.T) {
	for _, c := range []struct{ one, other, want int64 }{
		{1234567, 7654321, 815387612063925135},
		{1234567890123456789, 987654321987654321, 353977957242698711},
		{1, 1, 3}, {1, 2, 9}, {2, 3, 729}, {prime - 2, prime - 2, 3},
	} {
		want := eightLow(uint64(c.want))
		wantBytes(t, fmt.Sprintf("SharedOf %d and %d", c.one, c.other), impl.SharedOf(c.one, publicBy(c.other)), want)
		wantBytes(t, fmt.Sprintf("SharedOf %d and %d", c.other, c.one), impl.SharedOf(c.other, publicBy(c.one)), want)
	}
}

// A public need not be a power of Base, nor has what is shared to be a public.
func TestSharedOfEdges(t *testing.T) {
	for _, secret := range someSecrets() {
		for _, public := range somePublics() {
			got := impl.SharedOf(secret, eightLow(uint64(public)))
			what := fmt.Sprintf("SharedOf %d and the public %d", secret, public)
			wantBytes(t, what, got, eightLow(uint64(powerBy(public, secret))))
			wantBytes(t, what+", by PowMod", got, eightLow(uint64(impl.PowMod(public, secret).Value)))
		}
	}
	wantBytes(t, "SharedOf 61 and the public 2", impl.SharedOf(61, eightLow(2)), []byte{1, 0, 0, 0, 0, 0, 0, 0})
}

// Promise 5: two who have each other's public share one secret.
func TestTwoShareOneSecret(t *testing.T) {
	secrets := someSecrets()
	for _, one := range secrets {
		for _, other := range secrets {
			what := fmt.Sprintf("what %d and %d share", one, other)
			here := impl.SharedOf(one, impl.PublicOf(other).Bytes)
			there := impl.SharedOf(other, impl.PublicOf(one).Bytes)
			wantBytes(t, what, here, eightLow(uint64(powerBy(powerBy(3, one), other))))
			wantBytes(t, what+", from the other side", there, here.Bytes)
		}
	}
}

// The powers of Base come to 1 at a third of Prime - 1 already, and to Prime - 1 at a sixth: such a
// secret has a public, as any other one, but nobody can read it.
func TestSecretsWhosePublicCannotBeRead(t *testing.T) {
	sixth := (prime - 1) / 6
	for times := range int64(5) {
		secret, want := sixth*(times+1), uint64(prime-1)
		if times%2 == 1 {
			want = 1
		}
		got := impl.PublicOf(secret)
		wantBytes(t, fmt.Sprintf("PublicOf %d", secret), got, eightLow(want))
		wantIntCode(t, fmt.Sprintf("ReadPublic of the public of %d", secret), impl.ReadPublic(got.Bytes), impl.ErrText)
		wantBytesCode(t, fmt.Sprintf("SharedOf 5 and the public of %d", secret), impl.SharedOf(5, got.Bytes), impl.ErrText)
		wantBytes(t, fmt.Sprintf("SharedOf %d and a public", secret), impl.SharedOf(secret, eightLow(3)), eightLow(want))
	}
}

// ErrRange is asked ahead of ErrMany, and that ahead of ErrText.
func TestSharedCodes(t *testing.T) {
	good := eightLow(3)
	for _, secret := range noSecrets {
		what := fmt.Sprintf("SharedOf %d", secret)
		wantBytesCode(t, what+" and a public", impl.SharedOf(secret, good), impl.ErrRange)
		for _, n := range noPublics {
			wantBytesCode(t, fmt.Sprintf("%s and %d", what, n), impl.SharedOf(secret, eightLow(n)), impl.ErrRange)
		}
		for _, data := range notEightBytes() {
			wantBytesCode(t, fmt.Sprint(what, " and ", data), impl.SharedOf(secret, data), impl.ErrRange)
		}
	}
	for _, secret := range edgeSecrets {
		what := fmt.Sprintf("SharedOf %d", secret)
		for _, n := range noPublics {
			wantBytesCode(t, fmt.Sprintf("%s and %d", what, n), impl.SharedOf(secret, eightLow(n)), impl.ErrText)
		}
		for _, data := range notEightBytes() {
			wantBytesCode(t, fmt.Sprint(what, " and ", data), impl.SharedOf(secret, data), impl.ErrMany)
		}
	}
}

// groupAsks are the functions of the chapter, each of one list, be it that it asks for none; numbers are answered as their bytes.
var groupAsks = map[string]asked{
	"MulMod": func(...[]byte) [][]byte {
		return [][]byte{eightLow(uint64(impl.MulMod(prime-1, 1234567890123456789).Value))}
	},
	"PowMod": func(...[]byte) [][]byte { return [][]byte{eightLow(uint64(impl.PowMod(7, math.MaxInt64).Value))} },
	"PublicOf": func(...[]byte) [][]byte {
		return [][]byte{impl.PublicOf(1234567).Bytes, impl.PublicOf(1234567).Bytes, impl.PublicOf(0).Bytes}
	},
	"ReadPublic": func(lists ...[]byte) [][]byte {
		got := impl.ReadPublic(lists[0])
		return [][]byte{eightLow(uint64(got.Value)), {byte(got.Code)}}
	},
	"SharedOf": func(lists ...[]byte) [][]byte {
		first, other := impl.SharedOf(1, lists[0]), impl.SharedOf(prime-2, lists[0])
		return [][]byte{first.Bytes, other.Bytes, impl.SharedOf(0, lists[0]).Bytes, {byte(first.Code)}}
	},
}

func groupLists() [][]byte {
	out := notEightBytes()
	for _, n := range noPublics {
		out = append(out, eightLow(n))
	}
	for _, n := range somePublics() {
		out = append(out, eightLow(uint64(n)))
	}
	return out
}

// Promise 1: no argument is changed, whether there is an answer or a code.
func TestGroupArgumentsAreKept(t *testing.T) {
	for name, ask := range groupAsks {
		for _, list := range groupLists() {
			checkArgumentsKept(t, fmt.Sprint(name, " of ", list), ask, list)
		}
	}
}

// Promise 1: an answer shares no memory with an argument, in either direction. What the secret 1
// shares has the bytes of the public itself.
func TestGroupAnswersAreNewMemory(t *testing.T) {
	for name, ask := range groupAsks {
		for _, list := range groupLists() {
			checkNewMemory(t, fmt.Sprint(name, " of ", list), ask, list)
		}
	}
}

// Promise 1: an answer hangs on the arguments alone, not on what was asked ahead of it, or beside it.
func TestGroupAnswersHangOnArgumentsAlone(t *testing.T) {
	for name, ask := range groupAsks {
		for _, list := range [][]byte{eightLow(2), eightLow(uint64(prime) - 2), eightLow(1), eightLow(math.MaxUint64), nil} {
			checkHangsOnArguments(t, fmt.Sprint(name, " of ", list), ask, [][]byte{list},
				[][]byte{nil}, [][]byte{listOf(9, 255, 0)}, [][]byte{eightLow(1 << 60)},
			)
		}
	}
}
