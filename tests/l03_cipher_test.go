package tests

import (
	"bytes"
	"encoding/binary"
	"encoding/hex"
	"fmt"
	"math"
	"math/big"
	"math/bits"
	"strings"
	"testing"

	"loop.example/g00792/impl"
)

const sunscreen = "Ladies and Gentlemen of the class of '99: If I could offer you only one tip for the future, sunscreen would be it."

const jabberwocky = "'Twas brillig, and the slithy toves\nDid gyre and gimble in the wabe:\nAll mimsy were the borogoves,\nAnd the mome raths outgrabe."

const jabberwockyKey = "1c9240a5eb55d38af333888604f6b5f0473917c1402b80099dca5cbc207075c0"

const contribution = "Any submission to the IETF intended by the Contributor for publication as all or part of an IETF Internet-Draft or RFC and any statement made within the context of an IETF activity is considered an \"IETF Contribution\". Such statements include oral statements in IETF sessions, as well as written and electronic communications made at any time or place, which are addressed to"

const drafts = "Internet-Drafts are draft documents valid for a maximum of six months and may be updated, replaced, or obsoleted by other documents at any time. It is inappropriate to use Internet-Drafts as reference material or to cite them other than as /\u201cwork in progress./\u201d"

// cipherSizes are the lengths at which a piece of a tag or a block of a stream is full, or the bound is met, and those beside them.
var cipherSizes = []int{0, 1, 15, 16, 17, 31, 32, 33, 47, 48, 49, 63, 64, 65, 127, 128, 129, 984, 985, 999, 1000}

// cipherKeys are keys of no bits, of ones alone, of bytes 1 alone, and of no pattern.
func cipherKeys() [][]byte {
	return [][]byte{make([]byte, 32), bytes.Repeat([]byte{255}, 32), bytes.Repeat([]byte{1}, 32), listOf(32, 0, 1), listOf(32, 201, 77)}
}

// rounded does a quarter round on each column at once, with the rows turned round between columns and diagonals.
func rounded(a, b, c, d [4]uint32) ([4]uint32, [4]uint32, [4]uint32, [4]uint32) {
	for i := range 4 {
		a[i] += b[i]
		d[i] = bits.RotateLeft32(d[i]^a[i], 16)
		c[i] += d[i]
		b[i] = bits.RotateLeft32(b[i]^c[i], 12)
		a[i] += b[i]
		d[i] = bits.RotateLeft32(d[i]^a[i], 8)
		c[i] += d[i]
		b[i] = bits.RotateLeft32(b[i]^c[i], 7)
	}
	return a, b, c, d
}

func rowTurned(row [4]uint32, by int) [4]uint32 {
	var out [4]uint32
	for i := range out {
		out[i] = row[(i+by)%4]
	}
	return out
}

// blockBy is ChaCha20 by rows, with nothing taken from the program.
func blockBy(key []byte, counter int64, nonce []byte) []byte {
	var start, rows [4][4]uint32
	copy(start[0][:], []uint32{0x61707865, 0x3320646e, 0x79622d32, 0x6b206574})
	for i := range 4 {
		start[1][i] = binary.LittleEndian.Uint32(key[4*i:])
		start[2][i] = binary.LittleEndian.Uint32(key[16+4*i:])
	}
	start[3][0] = uint32(counter)
	for i := range 3 {
		start[3][1+i] = binary.LittleEndian.Uint32(nonce[4*i:])
	}
	rows = start
	for range 10 {
		a, b, c, d := rounded(rows[0], rows[1], rows[2], rows[3])
		a, b, c, d = rounded(a, rowTurned(b, 1), rowTurned(c, 2), rowTurned(d, 3))
		rows = [4][4]uint32{a, rowTurned(b, 3), rowTurned(c, 2), rowTurned(d, 1)}
	}
	var out []byte
	for i := range 16 {
		out = binary.LittleEndian.AppendUint32(out, rows[i/4][i%4]+start[i/4][i%4])
	}
	return out
}

func streamBy(key []byte, counter int64, nonce, data []byte) []byte {
	out := bytes.Clone(data)
	for i := range out {
		if i%64 == 0 {
			block := blockBy(key, counter+int64(i/64), nonce)
			for k := i; k < len(out) && k < i+64; k++ {
				out[k] ^= block[k-i]
			}
		}
	}
	return out
}

func bigLow(data []byte) *big.Int {
	return new(big.Int).SetBytes(reversed(data))
}

// tagBy is Poly1305 by math/big.
func tagBy(key, data []byte) []byte {
	prime := new(big.Int).Sub(new(big.Int).Lsh(big.NewInt(1), 130), big.NewInt(5))
	clamp, _ := new(big.Int).SetString("0ffffffc0ffffffc0ffffffc0fffffff", 16)
	factor := new(big.Int).And(bigLow(key[:16]), clamp)
	sum := new(big.Int)
	for len(data) > 0 {
		size := min(16, len(data))
		sum.Add(sum, bigLow(append(bytes.Clone(data[:size]), 1)))
		sum.Mul(sum, factor).Mod(sum, prime)
		data = data[size:]
	}
	sum.Add(sum, bigLow(key[16:])).Mod(sum, new(big.Int).Lsh(big.NewInt(1), 128))
	return reversed(sum.FillBytes(make([]byte, 16)))
}

func sealBy(key, nonce, more, text []byte) []byte {
	hidden := streamBy(key, 1, nonce, text)
	data := bytes.Clone(more)
	for len(data)%16 != 0 {
		data = append(data, 0)
	}
	data = append(data, hidden...)
	for len(data)%16 != 0 {
		data = append(data, 0)
	}
	data = binary.LittleEndian.AppendUint64(data, uint64(len(more)))
	data = binary.LittleEndian.AppendUint64(data, uint64(len(text)))
	return append(hidden, tagBy(blockBy(key, 0, nonce)[:32], data)...)
}

func TestCipherSizes(t *testing.T) {
	if impl.KeySize != 32 || impl.NonceSize != 12 || impl.TagSize != 16 {
		t.Errorf("KeySize is %d, NonceSize is %d, TagSize is %d", impl.KeySize, impl.NonceSize, impl.TagSize)
	}
}

func TestStreamBlockKnownAnswers(t *testing.T) {
	zeros := strings.Repeat("00", 31)
	for _, c := range []struct {
		name, key string
		counter   int64
		nonce     string
		want      string
	}{
		{
			"2.3.2", hex.EncodeToString(listOf(32, 0, 1)), 1, "000000090000004a00000000",
			"10f1e7e4d13b5915500fdd1fa32071c4c7d1f4c733c068030422aa9ac3d46c4ed2826446079faa0914c2d705d98b02a2b5129cd1de164eb9cbd083e8a2503c4e",
		},
		{
			"A.1, 1", zeros + "00", 0, "000000000000000000000000",
			"76b8e0ada0f13d90405d6ae55386bd28bdd219b8a08ded1aa836efcc8b770dc7da41597c5157488d7724e03fb8d84a376a43b8f41518a11cc387b669b2ee6586",
		},
		{
			"A.1, 2", zeros + "00", 1, "000000000000000000000000",
			"9f07e7be5551387a98ba977c732d080dcb0f29a048e3656912c6533e32ee7aed29b721769ce64e43d57133b074d839d531ed1f28510afb45ace10a1f4b794d6f",
		},
		{
			"A.1, 3", zeros + "01", 1, "000000000000000000000000",
			"3aeb5224ecf849929b9d828db1ced4dd832025e8018b8160b82284f3c949aa5a8eca00bbb4a73bdad192b5c42f73f2fd4e273644c8b36125a64addeb006c13a0",
		},
		{
			"A.1, 4", "00ff" + strings.Repeat("00", 30), 2, "000000000000000000000000",
			"72d54dfbf12ec44b362692df94137f328fea8da73990265ec1bbbea1ae9af0ca13b25aa26cb4a648cb9b9d1be65b2c0924a66c54d545ec1b7374f4872e99f096",
		},
		{
			"A.1, 5", zeros + "00", 0, "000000000000000000000002",
			"c2c64d378cd536374ae204b9ef933fcd1a8b2288b3dfa49672ab765b54ee27c78a970e0e955c14f3a88e741b97c286f75f8fc299e8148362fa198a39531bed6d",
		},
	} {
		got := impl.StreamBlock(fromHex(t, c.key), c.counter, fromHex(t, c.nonce))
		wantBytes(t, "StreamBlock, RFC 8439, "+c.name, got, fromHex(t, c.want))
	}
}

func TestStreamBlockEdges(t *testing.T) {
	nonces := [][]byte{make([]byte, 12), bytes.Repeat([]byte{255}, 12), listOf(12, 3, 41)}
	for _, key := range cipherKeys() {
		for _, nonce := range nonces {
			for _, counter := range []int64{0, 1, 2, 127, 128, 255, 256, 65535, 65536, 999999, 1000000} {
				got := impl.StreamBlock(key, counter, nonce)
				wantBytes(t, fmt.Sprintf("StreamBlock of %v, %d, %v", key, counter, nonce), got, blockBy(key, counter, nonce))
			}
		}
	}
}

// Each bit of key, counter and nonce counts.
func TestStreamBlockTurnsWithEachBit(t *testing.T) {
	seen := map[string]bool{}
	for bit := range 8 * 44 {
		both := make([]byte, 44)
		both[bit/8] = 1 << (bit % 8)
		got := impl.StreamBlock(both[:32], 0, both[32:])
		wantBytes(t, fmt.Sprintf("StreamBlock, the bit %d is 1", bit), got, blockBy(both[:32], 0, both[32:]))
		seen[string(got.Bytes)] = true
	}
	for bit := range 20 {
		seen[string(impl.StreamBlock(make([]byte, 32), 1<<bit, make([]byte, 12)).Bytes)] = true
	}
	if len(seen) != 8*44+20 {
		t.Errorf("only %d blocks are different", len(seen))
	}
}

// outOfRange are a key, a counter and a nonce of which one at least is not so.
type outOfRange struct {
	key     []byte
	counter int64
	nonce   []byte
}

func streamsOutOfRange() []outOfRange {
	key, nonce := listOf(32, 7, 3), listOf(12, 9, 5)
	var out []outOfRange
	for _, size := range []int{0, 1, 12, 16, 31, 33, 64, 1000, 1001} {
		out = append(out, outOfRange{listOf(size, 7, 3), 1, nonce})
	}
	for _, size := range []int{0, 1, 8, 11, 13, 24, 32, 1001} {
		out = append(out, outOfRange{key, 1, listOf(size, 9, 5)})
	}
	// The last ones would be counters if only their lowest 32 bits were looked at.
	for _, counter := range []int64{-1, -2, 1000001, 1000002, math.MinInt64, math.MaxInt64, 1 << 32, 1<<32 + 1, -1 << 32, 1 - 1<<32} {
		out = append(out, outOfRange{key, counter, nonce})
	}
	return append(out, outOfRange{nil, 0, nonce}, outOfRange{key, 0, nil}, outOfRange{nil, -1, nil}, outOfRange{nonce, 0, key})
}

func TestStreamOutOfRange(t *testing.T) {
	for _, c := range streamsOutOfRange() {
		what := fmt.Sprintf("a key of %d bytes, the counter %d, a nonce of %d", len(c.key), c.counter, len(c.nonce))
		wantBytesCode(t, "StreamBlock of "+what, impl.StreamBlock(c.key, c.counter, c.nonce), impl.ErrRange)
		for _, size := range []int{0, 1, 64, 1000, 1001, 5000} {
			got := impl.StreamXor(c.key, c.counter, c.nonce, make([]byte, size))
			wantBytesCode(t, fmt.Sprintf("StreamXor of %s, %d bytes", what, size), got, impl.ErrRange)
		}
		wantBytesCode(t, "StreamXor of nil and "+what, impl.StreamXor(c.key, c.counter, c.nonce, nil), impl.ErrRange)
	}
}

func TestStreamXorTooMany(t *testing.T) {
	for _, size := range tooLong {
		for _, counter := range []int64{0, 1, 1000000} {
			got := impl.StreamXor(make([]byte, 32), counter, make([]byte, 12), listOf(size, 1, 1))
			wantBytesCode(t, fmt.Sprintf("StreamXor from %d on of %d bytes", counter, size), got, impl.ErrMany)
		}
	}
}

func TestStreamXorKnownAnswers(t *testing.T) {
	for _, c := range []struct {
		name, key string
		counter   int64
		nonce     string
		data      string
		want      string
	}{
		{
			"2.4.2", hex.EncodeToString(listOf(32, 0, 1)), 1, "000000000000004a00000000", sunscreen,
			"6e2e359a2568f98041ba0728dd0d6981e97e7aec1d4360c20a27afccfd9fae0bf91b65c5524733ab8f593dabcd62b3571639d624e65152ab8f530c359f0861d807ca0dbf500d6a6156a38e088a22b65e52bc514d16ccf806818ce91ab77937365af90bbf74a35be6b40b8eedf2785e42874d",
		},
		{
			"A.2, 1", strings.Repeat("00", 32), 0, "000000000000000000000000", string(make([]byte, 64)),
			"76b8e0ada0f13d90405d6ae55386bd28bdd219b8a08ded1aa836efcc8b770dc7da41597c5157488d7724e03fb8d84a376a43b8f41518a11cc387b669b2ee6586",
		},
		{
			"A.2, 2", strings.Repeat("00", 31) + "01", 1, "000000000000000000000002", contribution,
			"a3fbf07df3fa2fde4f376ca23e82737041605d9f4f4f57bd8cff2c1d4b7955ec2a97948bd3722915c8f3d337f7d370050e9e96d647b7c39f56e031ca5eb6250d4042e02785ececfa4b4bb5e8ead0440e20b6e8db09d881a7c6132f420e52795042bdfa7773d8a9051447b3291ce1411c680465552aa6c405b7764d5e87bea85ad00f8449ed8f72d0d662ab052691ca66424bc86d2df80ea41f43abf937d3259dc4b2d0dfb48a6c9139ddd7f76966e928e635553ba76c5c879d7b35d49eb2e62b0871cdac638939e25e8a1e0ef9d5280fa8ca328b351c3c765989cbcf3daa8b6ccc3aaf9f3979c92b3720fc88dc95ed84a1be059c6499b9fda236e7e818b04b0bc39c1e876b193bfe5569753f88128cc08aaa9b63d1a16f80ef2554d7189c411f5869ca52c5b83fa36ff216b9c1d30062bebcfd2dc5bce0911934fda79a86f6e698ced759c3ff9b6477338f3da4f9cd8514ea9982ccafb341b2384dd902f3d1ab7ac61dd29c6f21ba5b862f3730e37cfdc4fd806c22f221",
		},
		{
			"A.2, 3", jabberwockyKey, 42, "000000000000000000000002", jabberwocky,
			"62e6347f95ed87a45ffae7426f27a1df5fb69110044c0d73118effa95b01e5cf166d3df2d721caf9b21e5fb14c616871fd84c54f9d65b283196c7fe4f60553ebf39c6402c42234e32a356b3e764312a61a5532055716ead6962568f87d3f3f7704c6a8d1bcd1bf4d50d6154b6da731b187b58dfd728afa36757a797ac188d1",
		},
	} {
		got := impl.StreamXor(fromHex(t, c.key), c.counter, fromHex(t, c.nonce), []byte(c.data))
		wantBytes(t, "StreamXor, RFC 8439, "+c.name, got, fromHex(t, c.want))
	}
}

func TestStreamXorOfEachSize(t *testing.T) {
	key, nonce := listOf(32, 201, 77), listOf(12, 3, 41)
	for size := range 1001 {
		data := listOf(size, byte(size), 3)
		got := impl.StreamXor(key, int64(size), nonce, data)
		wantBytes(t, fmt.Sprintf("StreamXor of %d bytes", size), got, streamBy(key, int64(size), nonce, data))
	}
	for _, key := range cipherKeys() {
		for _, size := range cipherSizes {
			for _, counter := range []int64{0, 1, 65535, 999999, 1000000} {
				data := bytes.Repeat([]byte{255}, size)
				got := impl.StreamXor(key, counter, nonce, data)
				wantBytes(t, fmt.Sprintf("StreamXor of %d bytes from %d on", size, counter), got, streamBy(key, counter, nonce, data))
			}
		}
	}
	wantBytes(t, "StreamXor of nil", impl.StreamXor(key, 1, nonce, nil), nil)
	wantBytes(t, "StreamXor of no bytes", impl.StreamXor(key, 1, nonce, []byte{}), nil)
}

// Promise 4: a stream goes on from block to block; so it does where no block of it can be asked from outside any more.
func TestStreamGoesOn(t *testing.T) {
	key, nonce := listOf(32, 5, 9), listOf(12, 1, 1)
	for _, from := range []int64{0, 1, 255, 65535, 999985} {
		var blocks []byte
		for counter := from; counter < from+16; counter++ {
			blocks = append(blocks, impl.StreamBlock(key, counter, nonce).Bytes...)
		}
		for _, size := range cipherSizes {
			got := impl.StreamXor(key, from, nonce, make([]byte, size))
			wantBytes(t, fmt.Sprintf("StreamXor of %d zeros from %d on", size, from), got, blocks[:size])
		}
		data := listOf(1000, 17, 3)
		whole := impl.StreamXor(key, from, nonce, data).Bytes
		for block := range 16 {
			rest := impl.StreamXor(key, from+int64(block), nonce, data[64*block:])
			wantBytes(t, fmt.Sprintf("StreamXor from %d on, from its block %d on", from, block), rest, whole[64*block:])
		}
	}
	last := impl.StreamXor(key, 1000000, nonce, make([]byte, 1000))
	wantBytes(t, "StreamXor from the last counter on", last, streamBy(key, 1000000, nonce, make([]byte, 1000)))
	ahead := impl.StreamXor(key, 999999, nonce, make([]byte, 1000)).Bytes
	if len(last.Bytes) != 1000 || !bytes.Equal(ahead[64:], last.Bytes[:936]) {
		t.Error("StreamXor does not go on beyond the last counter")
	}
	wantBytesCode(t, "StreamBlock beyond the last counter", impl.StreamBlock(key, 1000001, nonce), impl.ErrRange)
}

// Promise 4: what is hidden twice is as it was.
func TestWhatIsHiddenTwiceIsAsItWas(t *testing.T) {
	for _, key := range cipherKeys() {
		for _, size := range cipherSizes {
			for _, counter := range []int64{0, 1, 1000000} {
				data, nonce := listOf(size, 8, 13), listOf(12, byte(size), 7)
				once := impl.StreamXor(key, counter, nonce, data)
				what := fmt.Sprintf("StreamXor of %d bytes from %d on", size, counter)
				if size > 15 && bytes.Equal(once.Bytes, data) {
					t.Errorf("%s: nothing is hidden", what)
				}
				wantBytes(t, what+", twice", impl.StreamXor(key, counter, nonce, once.Bytes), data)
			}
		}
	}
}

func TestPolyTagKnownAnswers(t *testing.T) {
	zeros, ones := strings.Repeat("00", 16), strings.Repeat("ff", 16)
	one, two := "01"+strings.Repeat("00", 15), "02"+strings.Repeat("00", 15)
	half := "36e5f6b5c5e06070f0efca96227a863e"
	wide := "01000000000000000400000000000000"
	three := "e33594d7505e43b90000000000000000" + "3394d7505e4379cd0100000000000000" + zeros
	for _, c := range []struct{ name, key, data, want string }{
		{
			"2.5.2", "85d6be7857556d337f4452fe42d506a80103808afb0db2fd4abff6af4149f51b",
			hex.EncodeToString([]byte("Cryptographic Forum Research Group")), "a8061dc1305136c6c22b8baf0c0127a9",
		},
		{"A.3, 1", zeros + zeros, strings.Repeat(zeros, 4), zeros},
		{"A.3, 2", zeros + half, hex.EncodeToString([]byte(contribution)), half},
		{"A.3, 3", half + zeros, hex.EncodeToString([]byte(contribution)), "f3477e7cd95417af89a6b8794c310cf0"},
		{"A.3, 4", jabberwockyKey, hex.EncodeToString([]byte(jabberwocky)), "4541669a7eaaee61e708dc7cbcc5eb62"},
		{"A.3, 5", two + zeros, ones, "03" + zeros[2:]},
		{"A.3, 6", two + ones, two, "03" + zeros[2:]},
		{"A.3, 7", one + zeros, ones + "f0" + ones[2:] + "11" + zeros[2:], "05" + zeros[2:]},
		{"A.3, 8", one + zeros, ones + "fb" + strings.Repeat("fe", 15) + strings.Repeat("01", 16), zeros},
		{"A.3, 9", two + zeros, "fd" + ones[2:], "fa" + ones[2:]},
		{"A.3, 10", wide + zeros, three + one, "14000000000000005500000000000000"},
		{"A.3, 11", wide + zeros, three, "13" + zeros[2:]},
	} {
		wantBytes(t, "PolyTag, RFC 8439, "+c.name, impl.PolyTag(fromHex(t, c.key), fromHex(t, c.data)), fromHex(t, c.want))
	}
}

func TestPolyTagOfEachSize(t *testing.T) {
	for _, key := range cipherKeys() {
		for size := range 1001 {
			data := listOf(size, byte(size), 7)
			wantBytes(t, fmt.Sprintf("PolyTag by %v of %d bytes", key, size), impl.PolyTag(key, data), tagBy(key, data))
		}
		for _, size := range cipherSizes {
			for _, alike := range []byte{0, 1, 251, 252, 255} {
				data := bytes.Repeat([]byte{alike}, size)
				wantBytes(t, fmt.Sprintf("PolyTag by %v of %d bytes %d", key, size, alike), impl.PolyTag(key, data), tagBy(key, data))
			}
		}
		wantBytes(t, "PolyTag of nil", impl.PolyTag(key, nil), key[16:])
		wantBytes(t, "PolyTag of no bytes", impl.PolyTag(key, []byte{}), key[16:])
	}
}

// What comes of the data is near the prime, below it and above, so that what is left of it shows.
func TestPolyTagNearThePrime(t *testing.T) {
	ones := bytes.Repeat([]byte{255}, 16)
	for _, factor := range []byte{1, 2, 3, 4, 5, 255} {
		for _, add := range [][]byte{make([]byte, 16), ones, listOf(16, 1, 0)} {
			key := append(append([]byte{factor}, make([]byte, 15)...), add...)
			for low := range 256 {
				first := append([]byte{byte(low)}, ones[1:]...)
				for _, data := range [][]byte{first, append(bytes.Clone(first), ones...), append(append(bytes.Clone(ones), first...), ones...)} {
					wantBytes(t, fmt.Sprintf("PolyTag by %v of %v", key, data), impl.PolyTag(key, data), tagBy(key, data))
				}
			}
		}
	}
}

// Of each bit of a key it hangs on the document whether it counts: 22 of the first half do not.
func TestPolyTagBitsOfTheKey(t *testing.T) {
	data, idle := listOf(33, 1, 5), 0
	for bit := range 256 {
		key := make([]byte, 32)
		key[bit/8] = 1 << (bit % 8)
		got := impl.PolyTag(key, data)
		wantBytes(t, fmt.Sprintf("PolyTag, the bit %d is 1", bit), got, tagBy(key, data))
		if bytes.Equal(got.Bytes, make([]byte, 16)) {
			idle++
		}
	}
	if idle != 22 {
		t.Errorf("%d bits of a key do not count", idle)
	}
}

func TestPolyTagCodes(t *testing.T) {
	for _, keySize := range []int{0, 1, 16, 31, 33, 64, 1001} {
		for _, size := range []int{0, 1, 16, 1000, 1001, 5000} {
			got := impl.PolyTag(listOf(keySize, 1, 1), make([]byte, size))
			wantBytesCode(t, fmt.Sprintf("PolyTag by %d bytes of %d", keySize, size), got, impl.ErrRange)
		}
	}
	wantBytesCode(t, "PolyTag by nil of nil", impl.PolyTag(nil, nil), impl.ErrRange)
	for _, size := range tooLong {
		wantBytesCode(t, fmt.Sprintf("PolyTag of %d bytes", size), impl.PolyTag(make([]byte, 32), listOf(size, 1, 1)), impl.ErrMany)
	}
}

func TestBoxKnownAnswers(t *testing.T) {
	for _, c := range []struct{ name, key, nonce, more, text, want string }{
		{
			"2.8.2", hex.EncodeToString(listOf(32, 0x80, 1)), "070000004041424344454647", "50515253c0c1c2c3c4c5c6c7", sunscreen,
			"d31a8d34648e60db7b86afbc53ef7ec2a4aded51296e08fea9e2b5a736ee62d63dbea45e8ca9671282fafb69da92728b1a71de0a9e060b2905d6a5b67ecd3b3692ddbd7f2d778b8c9803aee328091b58fab324e4fad675945585808b4831d7bc3ff4def08e4b7a9de576d26586cec64b6116" +
				"1ae10b594f09e26a7e902ecbd0600691",
		},
		{
			"A.5", jabberwockyKey, "000000000102030405060708", "f33388860000000000004e91", drafts,
			"64a0861575861af460f062c79be643bd5e805cfd345cf389f108670ac76c8cb24c6cfc18755d43eea09ee94e382d26b0bdb7b73c321b0100d4f03b7f355894cf332f830e710b97ce98c8a84abd0b948114ad176e008d33bd60f982b1ff37c8559797a06ef4f0ef61c186324e2b3506383606907b6a7c02b0f9f6157b53c867e4b9166c767b804d46a59b5216cde7a4e99040c5a40433225ee282a1b0a06c523eaf4534d7f83fa1155b0047718cbc546a0d072b04b3564eea1b422273f548271a0bb2316053fa76991955ebd63159434ecebb4e466dae5a1073a6727627097a1049e617d91d361094fa68f0ff77987130305beaba2eda04df997b714d6c6f2c29a6ad5cb4022b02709b" +
				"eead9d67890cbb22392336fea1851f38",
		},
	} {
		key, nonce, more, want := fromHex(t, c.key), fromHex(t, c.nonce), fromHex(t, c.more), fromHex(t, c.want)
		wantBytes(t, "SealBox, RFC 8439, "+c.name, impl.SealBox(key, nonce, more, []byte(c.text)), want)
		wantBytes(t, "OpenBox, RFC 8439, "+c.name, impl.OpenBox(key, nonce, more, want), []byte(c.text))
	}
}

// Promise 4: what is sealed is opened, and what is opened is what was sealed. With more and text as
// long as they may be the tag is of more bytes than PolyTag can be given from outside.
func TestBoxOfEdges(t *testing.T) {
	for _, key := range cipherKeys() {
		for _, moreSize := range cipherSizes {
			for _, size := range cipherSizes {
				nonce, more, text := listOf(12, byte(size), 7), listOf(moreSize, 4, 9), listOf(size, 100, 3)
				what := fmt.Sprintf("of %d and %d bytes by %v", moreSize, size, key)
				got := impl.SealBox(key, nonce, more, text)
				wantBytes(t, "SealBox "+what, got, sealBy(key, nonce, more, text))
				if size > 984 {
					wantBytesCode(t, "OpenBox "+what, impl.OpenBox(key, nonce, more, got.Bytes), impl.ErrMany)
				} else {
					wantBytes(t, "OpenBox "+what, impl.OpenBox(key, nonce, more, got.Bytes), text)
				}
			}
		}
	}
}

func TestBoxOfEachSize(t *testing.T) {
	key, nonce, more := listOf(32, 5, 9), listOf(12, 1, 1), []byte("more")
	for size := range 985 {
		text := bytes.Repeat([]byte{255}, size)
		got := impl.SealBox(key, nonce, more, text)
		if len(got.Bytes) != size+impl.TagSize {
			t.Errorf("SealBox of %d bytes has %d bytes", size, len(got.Bytes))
		}
		wantBytes(t, fmt.Sprintf("SealBox of %d bytes", size), got, sealBy(key, nonce, more, text))
		wantBytes(t, fmt.Sprintf("OpenBox of %d bytes", size), impl.OpenBox(key, nonce, more, got.Bytes), text)
	}
}

// A box is the stream from the counter 1 on, and the tag by the block of the counter 0.
func TestBoxByItsParts(t *testing.T) {
	key, nonce, more, text := listOf(32, 5, 9), listOf(12, 1, 1), listOf(20, 4, 4), listOf(100, 7, 7)
	box := impl.SealBox(key, nonce, more, text).Bytes
	hidden := impl.StreamXor(key, 1, nonce, text).Bytes
	data := append(append(bytes.Clone(more), make([]byte, 12)...), append(bytes.Clone(hidden), make([]byte, 12)...)...)
	data = append(append(append(data, 20), make([]byte, 7)...), append([]byte{100}, make([]byte, 7)...)...)
	tag := impl.PolyTag(impl.StreamBlock(key, 0, nonce).Bytes[:32], data).Bytes
	if !bytes.Equal(box, append(bytes.Clone(hidden), tag...)) {
		t.Errorf("SealBox is %v; its parts are %v and %v", box, hidden, tag)
	}
}

func TestBoxOfNothing(t *testing.T) {
	key, nonce := listOf(32, 5, 9), listOf(12, 1, 1)
	want := sealBy(key, nonce, nil, nil)
	for _, more := range [][]byte{nil, {}} {
		for _, text := range [][]byte{nil, {}} {
			wantBytes(t, "SealBox of nothing", impl.SealBox(key, nonce, more, text), want)
			wantBytes(t, "OpenBox of nothing", impl.OpenBox(key, nonce, more, want), nil)
		}
	}
	wantBytes(t, "SealBox of nil and a byte", impl.SealBox(key, nonce, nil, []byte{0}), sealBy(key, nonce, nil, []byte{0}))
	wantBytes(t, "SealBox of a byte and nil", impl.SealBox(key, nonce, []byte{0}, nil), sealBy(key, nonce, []byte{0}, nil))
}

// ErrRange is asked ahead of ErrMany, and that ahead of ErrSum.
func TestBoxCodes(t *testing.T) {
	key, nonce := listOf(32, 5, 9), listOf(12, 1, 1)
	sizes := []int{0, 1, 15, 16, 17, 1000, 1001, 5000}
	for _, moreSize := range sizes {
		for _, size := range sizes {
			more, text := listOf(moreSize, 4, 9), listOf(size, 100, 3)
			what := fmt.Sprintf("of %d and %d bytes", moreSize, size)
			for _, keySize := range []int{0, 31, 33} {
				wantBytesCode(t, "SealBox "+what, impl.SealBox(make([]byte, keySize), nonce, more, text), impl.ErrRange)
				wantBytesCode(t, "OpenBox "+what, impl.OpenBox(make([]byte, keySize), nonce, more, text), impl.ErrRange)
			}
			for _, nonceSize := range []int{0, 11, 13} {
				wantBytesCode(t, "SealBox "+what, impl.SealBox(key, make([]byte, nonceSize), more, text), impl.ErrRange)
				wantBytesCode(t, "OpenBox "+what, impl.OpenBox(key, make([]byte, nonceSize), more, text), impl.ErrRange)
			}
			if moreSize > 1000 || size > 1000 {
				wantBytesCode(t, "SealBox "+what, impl.SealBox(key, nonce, more, text), impl.ErrMany)
				wantBytesCode(t, "OpenBox "+what, impl.OpenBox(key, nonce, more, text), impl.ErrMany)
			} else if size < 16 {
				wantBytesCode(t, "OpenBox "+what, impl.OpenBox(key, nonce, more, text), impl.ErrMany)
			} else {
				wantBytesCode(t, "OpenBox "+what, impl.OpenBox(key, nonce, more, text), impl.ErrSum)
			}
		}
	}
	wantBytesCode(t, "SealBox of nil alone", impl.SealBox(nil, nil, nil, nil), impl.ErrRange)
	wantBytesCode(t, "OpenBox of nil alone", impl.OpenBox(nil, nil, nil, nil), impl.ErrRange)
	wantBytesCode(t, "OpenBox of nil", impl.OpenBox(key, nonce, nil, nil), impl.ErrMany)
}

// A box is found out to be turned by each bit of each thing that it hangs on.
func TestBoxTurned(t *testing.T) {
	for _, size := range []int{0, 1, 16, 17, 70} {
		lists := [][]byte{listOf(32, 5, 9), listOf(12, 1, 1), listOf(19, 4, 4), nil}
		lists[3] = impl.SealBox(lists[0], lists[1], lists[2], listOf(size, 7, 7)).Bytes
		for part, name := range []string{"key", "nonce", "more", "box"} {
			for bit := range 8 * len(lists[part]) {
				turned := copied(lists)
				turned[part][bit/8] ^= 1 << (bit % 8)
				got := impl.OpenBox(turned[0], turned[1], turned[2], turned[3])
				wantBytesCode(t, fmt.Sprintf("OpenBox of %d bytes, the bit %d of %s turned", size, bit, name), got, impl.ErrSum)
			}
		}
		wantBytes(t, "OpenBox of what is not turned", impl.OpenBox(lists[0], lists[1], lists[2], lists[3]), listOf(size, 7, 7))
	}
}

// What is cut off, put behind, or moved from one part into another is found out, too.
func TestBoxCutAndMoved(t *testing.T) {
	key, nonce, more, text := listOf(32, 5, 9), listOf(12, 1, 1), listOf(19, 4, 4), listOf(40, 7, 7)
	box := impl.SealBox(key, nonce, more, text).Bytes
	for size := range len(box) {
		code := int64(impl.ErrSum)
		if size < 16 {
			code = impl.ErrMany
		}
		wantBytesCode(t, fmt.Sprintf("OpenBox of the first %d bytes", size), impl.OpenBox(key, nonce, more, box[:size]), code)
	}
	for _, end := range [][]byte{{0}, {1}, make([]byte, 8), make([]byte, 16)} {
		longer := append(bytes.Clone(box), end...)
		wantBytesCode(t, "OpenBox of more behind", impl.OpenBox(key, nonce, more, longer), impl.ErrSum)
		within := append(append(bytes.Clone(box[:40]), end...), box[40:]...)
		wantBytesCode(t, "OpenBox of more ahead of the tag", impl.OpenBox(key, nonce, more, within), impl.ErrSum)
		wider := append(bytes.Clone(more), end...)
		wantBytesCode(t, "OpenBox with zeros behind more", impl.OpenBox(key, nonce, wider, box), impl.ErrSum)
	}
	for size := range more {
		wantBytesCode(t, "OpenBox with less of more", impl.OpenBox(key, nonce, more[:size], box), impl.ErrSum)
	}
	moved := append(bytes.Clone(more), box[:13]...)
	wantBytesCode(t, "OpenBox, hidden bytes moved into more", impl.OpenBox(key, nonce, moved, box[13:]), impl.ErrSum)
	whole := impl.SealBox(key, nonce, listOf(16, 4, 4), text).Bytes
	moved = append(listOf(16, 4, 4), whole[:16]...)
	wantBytesCode(t, "OpenBox, a whole piece moved into more", impl.OpenBox(key, nonce, moved, whole[16:]), impl.ErrSum)
	stream := append(impl.StreamXor(key, 1, nonce, text).Bytes, make([]byte, 16)...)
	wantBytesCode(t, "OpenBox of a tag of zeros", impl.OpenBox(key, nonce, more, stream), impl.ErrSum)
}

// cipherAsks are the functions of the chapter, each of a key, a nonce, more, and a text or a box.
var cipherAsks = map[string]asked{
	"StreamBlock": func(lists ...[]byte) [][]byte { return [][]byte{impl.StreamBlock(lists[0], 7, lists[1]).Bytes} },
	"StreamXor": func(lists ...[]byte) [][]byte {
		return [][]byte{impl.StreamXor(lists[0], 999999, lists[1], lists[3]).Bytes}
	},
	"PolyTag": func(lists ...[]byte) [][]byte { return [][]byte{impl.PolyTag(lists[0], lists[3]).Bytes} },
	"SealBox": func(lists ...[]byte) [][]byte {
		return [][]byte{impl.SealBox(lists[0], lists[1], lists[2], lists[3]).Bytes}
	},
	"OpenBox": func(lists ...[]byte) [][]byte {
		return [][]byte{impl.OpenBox(lists[0], lists[1], lists[2], lists[3]).Bytes}
	},
}

// cipherLists has boxes that can be opened, so that OpenBox has an answer, too.
func cipherLists(moreSize, size int) [][]byte {
	key, nonce, more := listOf(32, 5, 9), listOf(12, 1, 1), listOf(moreSize, 4, 9)
	return [][]byte{key, nonce, more, impl.SealBox(key, nonce, more, listOf(size, 100, 3)).Bytes}
}

// Promise 1: no argument is changed, whether there is an answer or a code.
func TestCipherArgumentsAreKept(t *testing.T) {
	for name, ask := range cipherAsks {
		for _, moreSize := range []int{0, 1, 15, 16, 17, 1000, 1001} {
			for _, size := range []int{0, 1, 15, 16, 17, 63, 64, 65, 984, 1000, 1001} {
				what := fmt.Sprintf("%s of %d and %d bytes", name, moreSize, size)
				lists := cipherLists(moreSize, size)
				checkArgumentsKept(t, what, ask, lists...)
				checkArgumentsKept(t, what+", no box", ask, lists[0], lists[1], lists[2], listOf(size, 100, 3))
				checkArgumentsKept(t, what+", no key", ask, lists[0][:31], lists[1], lists[2], lists[3])
				checkArgumentsKept(t, what+", no nonce", ask, lists[0], lists[1][:11], lists[2], lists[3])
			}
		}
	}
}

// Promise 1: an answer shares no memory with an argument, in either direction.
func TestCipherAnswersAreNewMemory(t *testing.T) {
	for name, ask := range cipherAsks {
		for _, moreSize := range []int{0, 1, 16, 17} {
			for _, size := range []int{0, 1, 15, 16, 17, 48, 63, 64, 65, 984} {
				what := fmt.Sprintf("%s of %d and %d bytes", name, moreSize, size)
				checkNewMemory(t, what, ask, cipherLists(moreSize, size)...)
			}
		}
	}
}

// Promise 1: an answer hangs on the arguments alone, not on what was asked ahead of it, or beside it.
func TestCipherAnswersHangOnArgumentsAlone(t *testing.T) {
	for name, ask := range cipherAsks {
		checkHangsOnArguments(t, name, ask, cipherLists(20, 200),
			[][]byte{nil, nil, nil, nil},
			[][]byte{make([]byte, 32), make([]byte, 12), make([]byte, 1001), make([]byte, 1001)},
			cipherLists(17, 900),
		)
	}
}
