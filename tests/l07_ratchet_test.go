package tests

import (
	"bytes"
	"fmt"
	"math"
	"slices"
	"testing"

	"loop.example/g00792/impl"
)

// epochBy counts the epochs up to slot, and divides nothing.
func epochBy(slot int64) int64 {
	epoch := int64(0)
	for last := int64(15); last < slot; last += 16 {
		epoch++
	}
	return epoch
}

// keyBy goes from root on by Go's own library, once for each epoch up to this one.
func keyBy(t *testing.T, root []byte, epoch int64) (chain, key []byte) {
	t.Helper()
	chain = root
	for range epoch + 1 {
		chain, key = keysBy(t, chain, nil)
	}
	return chain, key
}

func wantKey(t *testing.T, what string, got impl.KeyResult, chain, key []byte) {
	t.Helper()
	if got.Code != impl.OK || !bytes.Equal(got.Chain, chain) || !bytes.Equal(got.Key, key) {
		t.Errorf("%s: %v; want code 0, chain %v, key %v", what, got, chain, key)
	}
	if len(got.Chain) != 32 || len(got.Key) != 32 {
		t.Errorf("%s: a chain of %d bytes, a key of %d", what, len(got.Chain), len(got.Key))
	}
}

func wantKeyCode(t *testing.T, what string, got impl.KeyResult, code int64) {
	t.Helper()
	if got.Code != code || len(got.Chain) != 0 || len(got.Key) != 0 {
		t.Errorf("%s: %v; want code %d, all else zero", what, got, code)
	}
}

func sameKeys(a, b impl.KeyResult) bool {
	return a.Code == b.Code && bytes.Equal(a.Chain, b.Chain) && bytes.Equal(a.Key, b.Key)
}

func someRoots() [][]byte {
	return [][]byte{
		make([]byte, 32), bytes.Repeat([]byte{255}, 32), listOf(32, 0, 1), listOf(32, 7, 31), []byte("Noise_XX_small_ChaChaPoly_SHA256"),
	}
}

// beyondSlots are those of the cells, and such as are slots of the first epoch, or of the next one, if rounded or cut.
var beyondSlots = slices.Concat(noSlots, []int64{
	-15, -16, -17, -400, -65536, math.MinInt64 + 1, 415, 416, 65552, 1<<32 + 16, 1 << 62, math.MaxInt64 - 15,
})

func TestRatchetNumbers(t *testing.T) {
	if impl.EpochSize != 16 {
		t.Errorf("EpochSize is %d", impl.EpochSize)
	}
}

func TestEpochOfTyped(t *testing.T) {
	for _, c := range []struct{ slot, want int64 }{
		{0, 0}, {1, 0}, {14, 0}, {15, 0}, {16, 1}, {17, 1}, {31, 1}, {32, 2}, {33, 2}, {47, 2}, {48, 3},
		{255, 15}, {256, 16}, {383, 23}, {384, 24}, {399, 24}, {400, 25},
	} {
		wantInt(t, fmt.Sprintf("EpochOf %d", c.slot), impl.EpochOf(c.slot), c.want)
	}
}

func TestEpochOfEachSlot(t *testing.T) {
	for slot := range int64(401) {
		wantInt(t, fmt.Sprintf("EpochOf %d", slot), impl.EpochOf(slot), epochBy(slot))
	}
}

func TestEpochOfOutOfRange(t *testing.T) {
	for _, slot := range beyondSlots {
		wantIntCode(t, fmt.Sprintf("EpochOf %d", slot), impl.EpochOf(slot), impl.ErrRange)
	}
}

// typedKeys are what comes of a root, reckoned outside the project (hmac and hashlib of Python).
var typedKeys = []struct {
	root       []byte
	slot       int64
	chain, key string
}{
	{make([]byte, 32), 0, "eb70f01dede9afafa449eee1b1286504e1f62388b3f7dd4f956697b0e828fe18", "1e59c2ec0fe6e7e7ac2613b6ab65342a83379969da234240cded3777914db907"},
	{make([]byte, 32), 16, "5a5f20b3ded0ade32279fb53452c329fb97af9b7f76ed2381ba1f1adf8e6cce4", "d90bd1a2ad6e64eda16de40109d146e6c008625eb246d07ce6753add40543a33"},
	{make([]byte, 32), 33, "ee9cc39fa0ff128fcc593c38036d0efa62427d59d2f4294e1c8d85d582f52b33", "95c27ebe75d87e4b42a54cd9ada84d70665f4c6dfe115d97ca871f23cf92883f"},
	{make([]byte, 32), 400, "626d2f4ed46894604d8b6844507c5fa774074a0811731811e9ed476a19c5bac2", "9c2f0f860fa757710b517e85b0d23a3f967237612b0abbe142a0072c37c27aa6"},
	{listOf(32, 0, 1), 0, "1d7e0d6f1d9da2d68dabed53b5f88345f3fd01cb75411fbe5aa4293bd8f430d6", "3ed9b8035bbf370b8cfef7ff15007de45488e18660c84e3d996e8e6c658fa7f8"},
	{listOf(32, 0, 1), 16, "4c2a0c818fabc7439d3da178206f9c709c5b732882b9f3f291f24832ec5e36fc", "ad8ca9947463e8a5b53395baa8a22003b429875adda8b4a2b720a1f6bd809a9c"},
	{listOf(32, 0, 1), 255, "e5fc7028b88be3c6e27f972ce2d4daac4da4b493ef34238e630361cd637a765f", "6979b86855699c787121d4cbc57c0e1ff28f6da9ae28e4ec66ce04d20ea6237d"},
	{listOf(32, 0, 1), 400, "e3fd81b3809b373236e994ec0a8115b3ab38368ca2e07ad2fa8fc6895e38da77", "0c9c80cfa70e1a86d7baa05d293b9f3f866fa02a415f3ee6475373e1c701ef7e"},
	{bytes.Repeat([]byte{255}, 32), 0, "da7490dc0100d549fce53f73b6cbca4eef6afa6936787cd2b85f19723ad82173", "26fe63b10817205f6d1f6888b2c88f493d937e62cc9983a055417c07a3981c0c"},
	{bytes.Repeat([]byte{255}, 32), 33, "dbcdbb2dcd35ffb81d48228c478c3ff35fc0b568a11beee3f5fa64ca1b7e25fc", "c2e2011ec164ff5579b5af9202e2b049c702fd04ea1f1f15171acf3f27203ec3"},
}

func TestKeysThatGoOnKnownAnswers(t *testing.T) {
	for _, c := range typedKeys {
		chain, key := fromHex(t, c.chain), fromHex(t, c.key)
		wantKey(t, fmt.Sprintf("KeyAt %v and %d", c.root, c.slot), impl.KeyAt(c.root, c.slot), chain, key)
		if c.slot == 0 {
			wantKey(t, fmt.Sprintf("NextChain of %v", c.root), impl.NextChain(c.root), chain, key)
		}
	}
}

// Chain is First and Key is Other, and not the other way round.
func TestNextChainEdges(t *testing.T) {
	for _, chain := range someRoots() {
		what := fmt.Sprintf("NextChain of %v", chain)
		first, other := keysBy(t, chain, nil)
		got := impl.NextChain(chain)
		wantKey(t, what, got, first, other)
		keys := impl.KeysOf(chain, nil)
		wantKey(t, what+" by KeysOf", got, keys.First, keys.Other)
		if bytes.Equal(got.Chain, got.Key) || bytes.Equal(got.Chain, chain) || bytes.Equal(got.Key, chain) {
			t.Errorf("%s: %v has two alike", what, got)
		}
	}
}

func TestNextChainTurnsWithEachBit(t *testing.T) {
	chain := listOf(32, 7, 31)
	was := impl.NextChain(chain)
	for bit := range 8 * 32 {
		got := impl.NextChain(turnedAt(chain, bit/8, 1<<(bit%8)))
		if bytes.Equal(got.Chain, was.Chain) || bytes.Equal(got.Key, was.Key) {
			t.Errorf("NextChain of a chain, turned at the bit %d: %v", bit, got)
		}
	}
}

// notHashSize are lists that are no chains and no roots.
func notHashSize() [][]byte {
	out := [][]byte{nil, {}, listOf(64, 1, 1)[:31], append(listOf(32, 1, 1), 0)}
	for _, size := range keySizes {
		out = append(out, make([]byte, size), listOf(size, 1, 1))
	}
	return out
}

func TestNextChainOfNoChain(t *testing.T) {
	for _, chain := range notHashSize() {
		wantKeyCode(t, fmt.Sprintf("NextChain of %d bytes", len(chain)), impl.NextChain(chain), impl.ErrRange)
	}
}

// Promise 8: keys of one epoch are one key.
func TestKeyAtEachSlot(t *testing.T) {
	for _, root := range someRoots() {
		for slot := range int64(401) {
			chain, key := keyBy(t, root, epochBy(slot))
			wantKey(t, fmt.Sprintf("KeyAt %v and %d", root, slot), impl.KeyAt(root, slot), chain, key)
		}
	}
}

// Promise 8: the first and the last slot of an epoch have one key, and the slots beside them have another one.
func TestKeyAtTheEndsOfEachEpoch(t *testing.T) {
	for _, root := range someRoots() {
		for first := int64(0); first <= 400; first += 16 {
			last := min(first+15, 400)
			here := impl.KeyAt(root, first)
			if !sameKeys(here, impl.KeyAt(root, last)) {
				t.Errorf("KeyAt %v: the slots %d and %d have not one key", root, first, last)
			}
			for _, beside := range []int64{first - 1, last + 1} {
				there := impl.KeyAt(root, beside)
				if beside < 0 || beside > 400 {
					wantKeyCode(t, fmt.Sprintf("KeyAt %v and %d", root, beside), there, impl.ErrRange)
				} else if bytes.Equal(here.Key, there.Key) || bytes.Equal(here.Chain, there.Chain) {
					t.Errorf("KeyAt %v: the slots %d and %d have one key", root, first, beside)
				}
			}
		}
	}
}

// Promise 8: the key of the next epoch comes of the chain that came last, and that of the first one of root.
func TestKeyAtComesOfTheChain(t *testing.T) {
	for _, root := range someRoots() {
		now := impl.NextChain(root)
		for slot := range int64(401) {
			if slot > 0 && slot%16 == 0 {
				now = impl.NextChain(now.Chain)
			}
			wantKey(t, fmt.Sprintf("KeyAt %v and %d by NextChain", root, slot), impl.KeyAt(root, slot), now.Chain, now.Key)
		}
	}
}

// Who has the chain of an epoch as root has the keys of all that come behind it.
func TestKeyAtGoesOnFromEachChain(t *testing.T) {
	root := listOf(32, 7, 31)
	for slot := int64(0); slot <= 400; slot += 5 {
		chain := impl.KeyAt(root, slot).Chain
		next := slot - slot%16 + 16
		for behind := int64(0); next+behind <= 400; behind += 7 {
			want := impl.KeyAt(root, next+behind)
			what := fmt.Sprintf("KeyAt the chain of %d and %d", slot, behind)
			wantKey(t, what, impl.KeyAt(chain, behind), want.Chain, want.Key)
		}
	}
}

// No key is another epoch's key or chain, nor that of another root, nor a root.
func TestKeysAreNeverAlike(t *testing.T) {
	seen := map[string]string{}
	for i, root := range someRoots() {
		seen[string(root)] = fmt.Sprintf("the root %d", i)
	}
	for i, root := range someRoots() {
		for slot := int64(0); slot <= 400; slot += 16 {
			got := impl.KeyAt(root, slot)
			for name, list := range map[string][]byte{"chain": got.Chain, "key": got.Key} {
				what := fmt.Sprintf("the %s of the root %d at %d", name, i, slot)
				if other, is := seen[string(list)]; is {
					t.Errorf("%s is %s", what, other)
				}
				seen[string(list)] = what
			}
		}
	}
}

func TestKeyAtTurnsWithEachBit(t *testing.T) {
	root := listOf(32, 7, 31)
	for _, slot := range []int64{0, 16, 400} {
		was := impl.KeyAt(root, slot)
		for bit := range 8 * 32 {
			got := impl.KeyAt(turnedAt(root, bit/8, 1<<(bit%8)), slot)
			if bytes.Equal(got.Chain, was.Chain) || bytes.Equal(got.Key, was.Key) {
				t.Errorf("KeyAt %d of a root, turned at the bit %d: %v", slot, bit, got)
			}
		}
	}
}

func TestKeyAtOutOfRange(t *testing.T) {
	for _, root := range someRoots() {
		for _, slot := range beyondSlots {
			wantKeyCode(t, fmt.Sprintf("KeyAt %v and %d", root, slot), impl.KeyAt(root, slot), impl.ErrRange)
		}
	}
}

// That a root is none is asked first; both codes are ErrRange, so it shows only by the answer being zero.
func TestKeyAtOfNoRoot(t *testing.T) {
	for _, root := range notHashSize() {
		for _, slot := range append([]int64{0, 15, 16, 31, 32, 400}, beyondSlots...) {
			what := fmt.Sprintf("KeyAt %d bytes and %d", len(root), slot)
			wantKeyCode(t, what, impl.KeyAt(root, slot), impl.ErrRange)
		}
	}
}

// What is behind the end of a root is no part of it.
func TestKeysThatGoOnByRoomBehind(t *testing.T) {
	list := listOf(64, 3, 5)
	chain, key := keyBy(t, list[:32], 2)
	wantKey(t, "KeyAt the first half of a list", impl.KeyAt(list[:32], 33), chain, key)
	chain, key = keyBy(t, list[32:], 2)
	wantKey(t, "KeyAt the other half of a list", impl.KeyAt(list[32:], 33), chain, key)
	chain, key = keysBy(t, list[:32], nil)
	wantKey(t, "NextChain of the first half of a list", impl.NextChain(list[:32]), chain, key)
}

// Whatever was lost, both ends know the key of a slot by root alone; and it opens nothing of another epoch.
func TestCellsByKeysThatGoOn(t *testing.T) {
	root := listOf(32, 7, 31)
	for _, slot := range []int64{0, 15, 16, 31, 32, 399, 400} {
		cell := impl.Cell{Kind: 1, Seq: slot, Ack: 3, Last: true, Body: []byte{9, 8}}
		wire := impl.SealCell(impl.KeyAt(root, slot).Key, slot, cell).Bytes
		for _, other := range []int64{0, 15, 16, 31, 32, 399, 400} {
			what := fmt.Sprintf("OpenCell of %d by the key of %d", slot, other)
			got := impl.OpenCell(impl.KeyAt(root, other).Key, wire)
			if epochBy(slot) == epochBy(other) {
				wantCell(t, what, got, slot, cell)
			} else {
				wantCellCode(t, what, got, impl.ErrSum)
			}
		}
	}
}

func keyAnswer(r impl.KeyResult) [][]byte {
	return [][]byte{r.Chain, r.Key, {byte(r.Code)}}
}

func keyAtAsked(slot int64) asked {
	return func(lists ...[]byte) [][]byte { return keyAnswer(impl.KeyAt(lists[0], slot)) }
}

// ratchetAsks are the functions of the chapter, each of a root or a chain.
var ratchetAsks = map[string]asked{
	"EpochOf 33": func(...[]byte) [][]byte {
		got := impl.EpochOf(33)
		return [][]byte{[]byte(fmt.Sprint(got.Code, got.Value))}
	},
	"NextChain":      func(lists ...[]byte) [][]byte { return keyAnswer(impl.NextChain(lists[0])) },
	"KeyAt 0 of":     keyAtAsked(0),
	"KeyAt 15 of":    keyAtAsked(15),
	"KeyAt 16 of":    keyAtAsked(16),
	"KeyAt 33 of":    keyAtAsked(33),
	"KeyAt 400 of":   keyAtAsked(400),
	"KeyAt 401 of":   keyAtAsked(401),
	"KeyAt -1 of":    keyAtAsked(-1),
	"KeyAt 1<<32 of": keyAtAsked(1 << 32),
}

func ratchetLists() [][]byte {
	return append(someRoots(), notHashSize()...)
}

// Promise 1: no argument is changed, whether there is an answer or a code.
func TestRatchetArgumentsAreKept(t *testing.T) {
	for name, ask := range ratchetAsks {
		for _, list := range ratchetLists() {
			checkArgumentsKept(t, fmt.Sprintf("%s %d bytes", name, len(list)), ask, list)
		}
	}
}

// Promise 1: an answer shares no memory with an argument, in either direction, and Chain and Key share none.
func TestRatchetAnswersAreNewMemory(t *testing.T) {
	for name, ask := range ratchetAsks {
		for _, list := range ratchetLists() {
			checkNewMemory(t, fmt.Sprintf("%s %d bytes", name, len(list)), ask, list)
		}
	}
}

// Promise 1: an answer hangs on the arguments alone, not on what was asked ahead of it, or beside it.
func TestRatchetAnswersHangOnArgumentsAlone(t *testing.T) {
	all := ratchetLists()
	for name, ask := range ratchetAsks {
		for i, list := range all {
			what := fmt.Sprintf("%s %d bytes", name, len(list))
			checkHangsOnArguments(t, what, ask, [][]byte{list}, [][]byte{all[(i+1)%len(all)]}, [][]byte{all[len(all)-1-i]})
		}
	}
}

// Promise 1: nothing is kept from call to call: no slot, asked ahead, turns what another one has, nor does another root.
func TestKeyAtKeepsNothing(t *testing.T) {
	root, another := listOf(32, 7, 31), listOf(32, 8, 31)
	for _, ahead := range []int64{0, 15, 16, 200, 400, 401, -1} {
		for _, slot := range []int64{0, 15, 16, 31, 32, 399, 400} {
			what := fmt.Sprintf("KeyAt %d behind %d", slot, ahead)
			chain, key := keyBy(t, root, epochBy(slot))
			was := impl.KeyAt(root, ahead)
			wantKey(t, what, impl.KeyAt(root, slot), chain, key)
			flipAll(was.Chain)
			flipAll(was.Key)
			wantKey(t, what+", turned", impl.KeyAt(root, slot), chain, key)
			impl.KeyAt(another, ahead)
			wantKey(t, what+" of another root", impl.KeyAt(root, slot), chain, key)
		}
	}
}

// Promise 1: a root that was turned in its own memory is another root.
func TestKeysThatGoOnByTheSameMemory(t *testing.T) {
	list := listOf(32, 1, 1)
	for i := range 4 {
		list[i] ^= 1
		first, other := keysBy(t, list, nil)
		wantKey(t, fmt.Sprintf("NextChain of a chain, turned %d times", i), impl.NextChain(list), first, other)
		for _, slot := range []int64{0, 16, 400} {
			chain, key := keyBy(t, list, epochBy(slot))
			wantKey(t, fmt.Sprintf("KeyAt %d of a root, turned %d times", slot, i), impl.KeyAt(list, slot), chain, key)
		}
	}
}
