package tests

import (
	"bytes"
	"crypto/sha256"
	"fmt"
	"math"
	"slices"
	"strings"
	"testing"

	"loop.example/g00792/impl"
)

const protocol = "Noise_XX_small_ChaChaPoly_SHA256"

// The states of the tests' own reckoning: each step tells a new one, by what the tests know of hashes, keys and boxes.

func hashBy(data []byte) []byte {
	hash := sha256.Sum256(data)
	return hash[:]
}

func hashMixedBy(s impl.Sym, data []byte) impl.Sym {
	s.Hash = hashBy(append(bytes.Clone(s.Hash), data...))
	return s
}

func keyMixedBy(t *testing.T, s impl.Sym, data []byte) impl.Sym {
	s.Chain, s.Key = keysBy(t, s.Chain, data)
	s.Count = 0
	return s
}

func nonceBy(count int64) []byte {
	return append([]byte{0, 0, 0, 0}, eightLow(uint64(count))...)
}

func sealedBy(s impl.Sym, text []byte) (impl.Sym, []byte) {
	if len(s.Key) == 0 {
		return hashMixedBy(s, text), text
	}
	box := sealBy(s.Key, nonceBy(s.Count), s.Hash, text)
	s.Count++
	return hashMixedBy(s, box), box
}

// openedBy seals what comes out of the box again: if that is another box, this one is not for s.
func openedBy(s impl.Sym, box []byte) (impl.Sym, []byte, bool) {
	text := box
	if len(s.Key) != 0 {
		text = streamBy(s.Key, 1, nonceBy(s.Count), box[:len(box)-16])
	}
	next, again := sealedBy(s, text)
	return next, text, bytes.Equal(again, box)
}

func startBy() impl.Sym {
	return impl.Sym{Hash: []byte(protocol), Chain: []byte(protocol)}
}

// keyless and keyed are states of no pattern, as they may come from outside.
func keyless() impl.Sym {
	return impl.Sym{Hash: listOf(32, 3, 7), Chain: listOf(32, 91, 13)}
}

func keyed(count int64) impl.Sym {
	return impl.Sym{Hash: listOf(32, 3, 7), Chain: listOf(32, 91, 13), Key: listOf(32, 200, 11), Count: count}
}

func someSyms() []impl.Sym {
	same := listOf(32, 50, 5)
	return []impl.Sym{
		startBy(), keyless(), keyed(0), keyed(1), keyed(999), keyed(1000),
		{Hash: make([]byte, 32), Chain: make([]byte, 32), Key: make([]byte, 32), Count: 7},
		{Hash: bytes.Repeat([]byte{255}, 32), Chain: bytes.Repeat([]byte{255}, 32)},
		{Hash: keyless().Hash, Chain: keyless().Chain, Key: []byte{}},
		{Hash: same, Chain: same, Key: same, Count: 3},
	}
}

func symName(s impl.Sym) string {
	return fmt.Sprintf("a Hash of %d bytes, a Chain of %d, a Key of %d, Count %d", len(s.Hash), len(s.Chain), len(s.Key), s.Count)
}

func sameSym(a, b impl.Sym) bool {
	return bytes.Equal(a.Hash, b.Hash) && bytes.Equal(a.Chain, b.Chain) && bytes.Equal(a.Key, b.Key) && a.Count == b.Count
}

func wantSym(t *testing.T, what string, got impl.SymResult, sym impl.Sym, told []byte) {
	t.Helper()
	if got.Code != impl.OK || !sameSym(got.Sym, sym) || !bytes.Equal(got.Bytes, told) {
		t.Errorf("%s: %v; want code 0, %v, bytes %v", what, got, sym, told)
	}
}

func wantSymCode(t *testing.T, what string, got impl.SymResult, code int64) {
	t.Helper()
	if got.Code != code || !sameSym(got.Sym, impl.Sym{}) || len(got.Bytes) != 0 {
		t.Errorf("%s: %v; want code %d, all else zero", what, got, code)
	}
}

// symCalls are the functions that make of a state and bytes another one.
var symCalls = map[string]func(impl.Sym, []byte) impl.SymResult{
	"MixHash": impl.MixHash, "MixKey": impl.MixKey, "SealHash": impl.SealHash, "OpenHash": impl.OpenHash,
}

func TestNoiseNumbers(t *testing.T) {
	if impl.ProtocolName != protocol || len(protocol) != 32 || impl.MaxCount != 1000 {
		t.Errorf("ProtocolName is %q, MaxCount is %d", impl.ProtocolName, impl.MaxCount)
	}
}

// faultBy says it by counting how much is not so.
func faultBy(hash, chain, key int, count int64) int64 {
	keys := map[int]bool{0: true, 32: true}
	if hash != 32 || chain != 32 || !keys[key] || count < 0 || count > 1000 {
		return impl.ErrRange
	}
	if key == 0 && count > 0 {
		return impl.ErrState
	}
	return impl.OK
}

var symSizes = []int{0, 1, 16, 31, 32, 33, 64, 1001}
var symCounts = []int64{math.MinInt64, -1, 0, 1, 999, 1000, 1001, 1 << 32, math.MaxInt64}

// eachSym are states of all sizes and counts at edges, those with a fault and those without.
func eachSym(yield func(s impl.Sym, fault int64) bool) {
	for _, hash := range symSizes {
		for _, chain := range symSizes {
			for _, key := range symSizes {
				for _, count := range symCounts {
					s := impl.Sym{Hash: listOf(hash, 1, 1), Chain: listOf(chain, 2, 1), Key: listOf(key, 3, 1), Count: count}
					if !yield(s, faultBy(hash, chain, key, count)) {
						return
					}
				}
			}
		}
	}
}

func TestSymFaultTyped(t *testing.T) {
	full := listOf(32, 1, 1)
	for _, c := range []struct {
		sym  impl.Sym
		want int64
	}{
		{impl.Sym{}, impl.ErrRange},
		{impl.Sym{Hash: full, Chain: full}, impl.OK},
		{impl.Sym{Hash: full, Chain: full, Key: []byte{}}, impl.OK},
		{impl.Sym{Hash: full, Chain: full, Key: full}, impl.OK},
		{impl.Sym{Hash: full, Chain: full, Key: full, Count: 1}, impl.OK},
		{impl.Sym{Hash: full, Chain: full, Key: full, Count: 1000}, impl.OK},
		{impl.Sym{Hash: full, Chain: full, Key: full, Count: 1001}, impl.ErrRange},
		{impl.Sym{Hash: full, Chain: full, Key: full, Count: -1}, impl.ErrRange},
		{impl.Sym{Hash: full[:31], Chain: full}, impl.ErrRange},
		{impl.Sym{Hash: full, Chain: full[:31]}, impl.ErrRange},
		{impl.Sym{Hash: full, Chain: full, Key: full[:31]}, impl.ErrRange},
		{impl.Sym{Hash: full}, impl.ErrRange},
		{impl.Sym{Chain: full}, impl.ErrRange},
		{impl.Sym{Hash: full, Chain: full, Count: 1}, impl.ErrState},
		{impl.Sym{Hash: full, Chain: full, Key: []byte{}, Count: 1000}, impl.ErrState},
		// ErrRange is asked ahead of ErrState.
		{impl.Sym{Hash: full, Chain: full, Count: -1}, impl.ErrRange},
		{impl.Sym{Hash: full, Chain: full, Count: 1001}, impl.ErrRange},
		{impl.Sym{Hash: full[:31], Chain: full, Count: 1}, impl.ErrRange},
		{impl.Sym{Hash: full, Count: 1}, impl.ErrRange},
	} {
		if got := impl.SymFault(c.sym); got != c.want {
			t.Errorf("SymFault of %s: %d; want %d", symName(c.sym), got, c.want)
		}
	}
}

func TestSymFaultEdges(t *testing.T) {
	for s, want := range eachSym {
		if got := impl.SymFault(s); got != want {
			t.Errorf("SymFault of %s: %d; want %d", symName(s), got, want)
		}
	}
}

// The SymFault is asked ahead of all other codes.
func TestSymFaultIsAskedFirst(t *testing.T) {
	for s, fault := range eachSym {
		if fault == impl.OK {
			continue
		}
		wantPairCode(t, "SplitSym of "+symName(s), impl.SplitSym(s), fault)
		for name, call := range symCalls {
			for _, size := range []int{0, 16, 901} {
				what := fmt.Sprintf("%s of %s, and %d bytes", name, symName(s), size)
				wantSymCode(t, what, call(s, make([]byte, size)), fault)
			}
		}
	}
}

// ErrMany is asked ahead of ErrFull, and of the code of OpenBox.
func TestSymTooMany(t *testing.T) {
	for _, s := range someSyms() {
		for name, call := range symCalls {
			for _, size := range []int{901, 902, 916, 1000, 1001, 5000} {
				what := fmt.Sprintf("%s of %s, and %d bytes", name, symName(s), size)
				wantSymCode(t, what, call(s, listOf(size, 1, 1)), impl.ErrMany)
			}
		}
	}
}

func TestStartSym(t *testing.T) {
	wantSym(t, "StartSym", impl.StartSym(), startBy(), nil)
	if got := impl.SymFault(impl.StartSym().Sym); got != impl.OK {
		t.Errorf("SymFault of StartSym: %d", got)
	}
}

// mixedSizes are the lengths of what is mixed: none, those at which the hash of Hash and these comes to one block more, and the bound.
var mixedSizes = []int{0, 1, 2, 8, 15, 16, 17, 23, 24, 31, 32, 33, 86, 87, 88, 500, 883, 884, 885, 899, 900}

func TestMixHashKnownAnswers(t *testing.T) {
	for text, want := range map[string]string{
		"":    "3cd40a3f628eb36a9454b61596abafa3df2b32091797f5d0d52898e1a27b449c",
		"abc": "66b91f9cf6cc26a6e8490ecc80a85d0fd6aaba2be65cbf7a236a4c2085e6cf7d",
	} {
		want := impl.Sym{Hash: fromHex(t, want), Chain: []byte(protocol)}
		wantSym(t, fmt.Sprintf("MixHash of the start and %q", text), impl.MixHash(startBy(), []byte(text)), want, nil)
	}
}

// Chain, Key and Count stay, be the Count full.
func TestMixHashEdges(t *testing.T) {
	for _, s := range someSyms() {
		for _, size := range mixedSizes {
			data := listOf(size, byte(size), 3)
			what := fmt.Sprintf("MixHash of %s, and %d bytes", symName(s), size)
			wantSym(t, what, impl.MixHash(s, data), hashMixedBy(s, data), nil)
		}
		wantSym(t, "MixHash of nil", impl.MixHash(s, nil), hashMixedBy(s, nil), nil)
	}
}

func TestMixKeyKnownAnswer(t *testing.T) {
	want := impl.Sym{
		Hash:  []byte(protocol),
		Chain: fromHex(t, "3146d9e1f1f0fb9a33301a0f5c7401f705f8b83ae7861c3e3d00f6631cb65202"),
		Key:   fromHex(t, "0f1a69fa62e05aac5f71a2ecad56b113059358a03dbd53b86ef9cb2a12bf836a"),
	}
	wantSym(t, "MixKey of the start and 1, 2", impl.MixKey(startBy(), []byte{1, 2}), want, nil)
}

// Hash stays, and Count begins again, be it full.
func TestMixKeyEdges(t *testing.T) {
	for _, s := range someSyms() {
		for _, size := range mixedSizes {
			data := listOf(size, byte(size), 3)
			what := fmt.Sprintf("MixKey of %s, and %d bytes", symName(s), size)
			wantSym(t, what, impl.MixKey(s, data), keyMixedBy(t, s, data), nil)
		}
		wantSym(t, "MixKey of nil", impl.MixKey(s, nil), keyMixedBy(t, s, nil), nil)
	}
}

func TestSplitSym(t *testing.T) {
	got := impl.SplitSym(startBy())
	wantPair(t, "SplitSym of the start", got,
		fromHex(t, "95bb855e2decccbc84ac5bd81809dec29c6ba29f36f3194f4afb16ff0f2ed1a4"),
		fromHex(t, "54f499a713cf88491d93f0fb4d54fec89b59a21deb18fe7571f2c133466ef881"))
	for _, s := range someSyms() {
		first, other := keysBy(t, s.Chain, nil)
		wantPair(t, "SplitSym of "+symName(s), impl.SplitSym(s), first, other)
	}
}

func typedKey(t *testing.T, count int64) impl.Sym {
	s := keyMixedBy(t, startBy(), []byte{1, 2})
	s.Count = count
	return s
}

func TestSealHashKnownAnswers(t *testing.T) {
	for _, c := range []struct {
		count           int64
		text, box, hash string
	}{
		{0, "ab", "e641e4665d29eebe148175b9878000a11313", "eee790cca0e457c3c7875e5e433c564e959d7bdd8722332ad691669ae592c94f"},
		{258, "text", "74caedeac647d52e944e420e62b26279b67466c8", "a2d688a60407b5e810443fb07772211da38f23b1a6e3700296b9e1481f8910ef"},
		{999, "", "01e7dee9079f6656856fb6eecdb3a2ee", "1095d8bd8f48f2d2847d1da20ec43f8b2ef20d451a76dd0e015a9c656fad84d3"},
	} {
		s := typedKey(t, c.count)
		want := impl.Sym{Hash: fromHex(t, c.hash), Chain: s.Chain, Key: s.Key, Count: c.count + 1}
		box := fromHex(t, c.box)
		wantSym(t, fmt.Sprintf("SealHash of %q at %d", c.text, c.count), impl.SealHash(s, []byte(c.text)), want, box)
		wantSym(t, fmt.Sprintf("OpenHash of that of %q at %d", c.text, c.count), impl.OpenHash(s, box), want, []byte(c.text))
	}
}

// Ahead of the first Key what is told is told as it is, and nothing is counted.
func TestSealAndOpenAheadOfTheFirstKey(t *testing.T) {
	for _, s := range someSyms() {
		if len(s.Key) != 0 {
			continue
		}
		for _, size := range mixedSizes {
			text := listOf(size, byte(size), 3)
			what := fmt.Sprintf("%d bytes by %s", size, symName(s))
			wantSym(t, "SealHash of "+what, impl.SealHash(s, text), hashMixedBy(s, text), text)
			wantSym(t, "OpenHash of "+what, impl.OpenHash(s, text), hashMixedBy(s, text), text)
		}
		wantSym(t, "SealHash of nil", impl.SealHash(s, nil), hashMixedBy(s, nil), nil)
		wantSym(t, "OpenHash of nil", impl.OpenHash(s, nil), hashMixedBy(s, nil), nil)
	}
}

// keyCounts are the counts at which a nonce comes to one byte more, and the bounds.
var keyCounts = []int64{0, 1, 2, 127, 128, 255, 256, 257, 512, 998, 999}

func TestSealHashEdges(t *testing.T) {
	for _, count := range keyCounts {
		for _, size := range mixedSizes {
			s, text := keyed(count), listOf(size, byte(size), 3)
			want, box := sealedBy(s, text)
			what := fmt.Sprintf("SealHash of %d bytes at %d", size, count)
			wantSym(t, what, impl.SealHash(s, text), want, box)
		}
		want, box := sealedBy(keyed(count), nil)
		wantSym(t, "SealHash of nil", impl.SealHash(keyed(count), nil), want, box)
	}
}

// A box is longer than its text: that of 884 bytes can be heard still, and those of more are told, but not heard.
func TestOpenHashEdges(t *testing.T) {
	for _, count := range keyCounts {
		for _, size := range mixedSizes {
			s, text := keyed(count), listOf(size, byte(size), 3)
			want, box := sealedBy(s, text)
			what := fmt.Sprintf("OpenHash of a box of %d bytes at %d", len(box), count)
			if size <= 884 {
				wantSym(t, what, impl.OpenHash(s, box), want, text)
			} else {
				wantSymCode(t, what, impl.OpenHash(s, box), impl.ErrMany)
			}
		}
	}
}

// ErrFull is asked ahead of the code of OpenBox, be it ErrMany of a box that is too short, or ErrSum.
func TestSealAndOpenFull(t *testing.T) {
	full := keyed(1000)
	_, fits := sealedBy(full, []byte("text"))
	for _, data := range [][]byte{nil, {}, {1}, make([]byte, 15), make([]byte, 16), fits, make([]byte, 900)} {
		what := fmt.Sprintf("of %d bytes at 1000", len(data))
		wantSymCode(t, "SealHash "+what, impl.SealHash(full, data), impl.ErrFull)
		wantSymCode(t, "OpenHash "+what, impl.OpenHash(full, data), impl.ErrFull)
	}
	last := impl.SealHash(keyed(999), nil)
	if last.Code != impl.OK || last.Sym.Count != 1000 {
		t.Errorf("SealHash at 999: %v", last)
	}
	wantSymCode(t, "SealHash behind the last one", impl.SealHash(last.Sym, nil), impl.ErrFull)
	next := impl.SealHash(impl.MixKey(last.Sym, nil).Sym, nil)
	if next.Code != impl.OK || next.Sym.Count != 1 {
		t.Errorf("SealHash by the next key: %v", next)
	}
}

func TestOpenHashTooShort(t *testing.T) {
	for size := range 16 {
		for _, count := range []int64{0, 1, 999} {
			what := fmt.Sprintf("OpenHash of %d bytes at %d", size, count)
			wantSymCode(t, what, impl.OpenHash(keyed(count), listOf(size, 1, 1)), impl.ErrMany)
		}
	}
	wantSymCode(t, "OpenHash of nil", impl.OpenHash(keyed(0), nil), impl.ErrMany)
}

func turnedAt(data []byte, at int, mask byte) []byte {
	out := bytes.Clone(data)
	out[at] ^= mask
	return out
}

func TestOpenHashOfWhatWasTurned(t *testing.T) {
	for _, text := range []string{"", "a", "some text of 24 bytes ok"} {
		s := keyed(5)
		_, box := sealedBy(s, []byte(text))
		for bit := range 8 * len(box) {
			what := fmt.Sprintf("OpenHash of %q, turned at the bit %d", text, bit)
			wantSymCode(t, what, impl.OpenHash(s, turnedAt(box, bit/8, 1<<(bit%8))), impl.ErrSum)
		}
		wantSymCode(t, "OpenHash of a box and a byte", impl.OpenHash(s, append(bytes.Clone(box), 0)), impl.ErrSum)
	}
	wantSymCode(t, "OpenHash of 16 zeros", impl.OpenHash(keyed(0), make([]byte, 16)), impl.ErrSum)
	wantSymCode(t, "OpenHash of 900 zeros", impl.OpenHash(keyed(0), make([]byte, 900)), impl.ErrSum)
}

// Hash, Key and Count count, each one of them; Chain does not.
func TestOpenHashByAnotherState(t *testing.T) {
	s := keyed(5)
	_, box := sealedBy(s, []byte("text"))
	for name, change := range map[string]func(*impl.Sym){
		"Hash":         func(s *impl.Sym) { s.Hash = turnedAt(s.Hash, 31, 1) },
		"Key":          func(s *impl.Sym) { s.Key = turnedAt(s.Key, 0, 128) },
		"Count":        func(s *impl.Sym) { s.Count++ },
		"Count, lower": func(s *impl.Sym) { s.Count-- },
		"Count by 256": func(s *impl.Sym) { s.Count += 256 },
	} {
		other := s
		change(&other)
		wantSymCode(t, "OpenHash by another "+name, impl.OpenHash(other, box), impl.ErrSum)
	}
	other := s
	other.Chain = turnedAt(s.Chain, 0, 1)
	want, _ := sealedBy(other, []byte("text"))
	wantSym(t, "OpenHash by another Chain", impl.OpenHash(other, box), want, []byte("text"))
}

// Promise 6: who hears what was told has the same state as who told it.
func TestWhoHearsHasTheStateOfWhoTold(t *testing.T) {
	for start, sizes := range [][]int{{0}, {0, 1, 2, 3}, {884, 0, 884}, {16, 16, 15, 17, 64, 300}} {
		teller, hearer := impl.StartSym().Sym, impl.StartSym().Sym
		for round := range 4 {
			for i, size := range sizes {
				text := listOf(size, byte(start+i), byte(round+1))
				told := impl.SealHash(teller, text)
				heard := impl.OpenHash(hearer, told.Bytes)
				wantSym(t, fmt.Sprintf("%d bytes, heard in the round %d", size, round), heard, told.Sym, text)
				if (len(told.Bytes) == size) != (round == 0) {
					t.Errorf("%d bytes are told in %d in the round %d", size, len(told.Bytes), round)
				}
				teller, hearer = heard.Sym, told.Sym
			}
			teller, hearer = impl.MixHash(teller, []byte{byte(round)}).Sym, impl.MixHash(hearer, []byte{byte(round)}).Sym
			teller, hearer = impl.MixKey(teller, []byte{1, byte(round)}).Sym, impl.MixKey(hearer, []byte{1, byte(round)}).Sym
		}
		first, other := keysBy(t, hearer.Chain, nil)
		wantPair(t, "SplitSym behind all of that", impl.SplitSym(teller), first, other)
	}
}

// As many boxes as there can be by one key: each is heard once, at its place.
func TestAKeyLastsToItsCount(t *testing.T) {
	teller, hearer := keyed(0), keyed(0)
	for count := range int64(1000) {
		told := impl.SealHash(teller, []byte{7})
		heard := impl.OpenHash(hearer, told.Bytes)
		wantSym(t, fmt.Sprintf("the box %d", count), heard, told.Sym, []byte{7})
		wantSymCode(t, fmt.Sprintf("the box %d, heard again", count), impl.OpenHash(told.Sym, told.Bytes), againCode(count))
		teller, hearer = told.Sym, heard.Sym
	}
	wantSymCode(t, "one box more", impl.SealHash(teller, []byte{7}), impl.ErrFull)
}

func againCode(count int64) int64 {
	if count == 999 {
		return impl.ErrFull
	}
	return impl.ErrSum
}

// The shake of the tests' own reckoning: the pattern XX, token by token, as Noise (revision 34) tells it.

var pattern = []string{"e", "e ee s es", "s se"}

// party is who begins, or who answers; its secrets and what it heard are by the letters of Noise.
type party struct {
	impl.Sym
	begins bool
	secret map[byte]int64
	heard  map[byte][]byte
}

func newParty(begins bool, static, fresh int64) *party {
	return &party{
		Sym: hashMixedBy(startBy(), nil), begins: begins,
		secret: map[byte]int64{'s': static, 'e': fresh}, heard: map[byte][]byte{},
	}
}

// share is by a token's two letters: the first one is of who begins, the other one of who answers.
func (p *party) share(t *testing.T, token string) {
	mine, theirs := token[0], token[1]
	if !p.begins {
		mine, theirs = theirs, mine
	}
	public := bigLow(p.heard[theirs]).Int64()
	p.Sym = keyMixedBy(t, p.Sym, eightLow(uint64(powerBy(public, p.secret[mine]))))
}

func (p *party) sealed(text []byte) (box []byte) {
	p.Sym, box = sealedBy(p.Sym, text)
	return box
}

func (p *party) write(t *testing.T, tokens string) []byte {
	var message []byte
	for _, token := range strings.Fields(tokens) {
		switch token {
		case "e":
			public := publicBy(p.secret['e'])
			p.Sym = hashMixedBy(p.Sym, public)
			message = append(message, public...)
		case "s":
			message = append(message, p.sealed(publicBy(p.secret['s']))...)
		default:
			p.share(t, token)
		}
	}
	return append(message, p.sealed(nil)...)
}

func (p *party) opened(box []byte) (text []byte, ok bool) {
	p.Sym, text, ok = openedBy(p.Sym, box)
	return text, ok
}

// isPublicBy compares as numbers without a bound.
func isPublicBy(data []byte) bool {
	n := bigLow(data)
	return n.Cmp(bigLow([]byte{2})) >= 0 && n.Cmp(bigLow(eightLow(uint64(prime-2)))) <= 0
}

func (p *party) read(t *testing.T, tokens string, message []byte) bool {
	for _, token := range strings.Fields(tokens) {
		ok := true
		switch token {
		case "e":
			p.heard['e'], message = message[:8], message[8:]
			ok = isPublicBy(p.heard['e'])
			p.Sym = hashMixedBy(p.Sym, p.heard['e'])
		case "s":
			p.heard['s'], ok = p.opened(message[:24])
			ok, message = ok && isPublicBy(p.heard['s']), message[24:]
		default:
			p.share(t, token)
		}
		if !ok {
			return false
		}
	}
	_, ok := p.opened(message)
	return ok
}

func shakeBy(t *testing.T, s impl.Shake) impl.ShakeResult {
	a, b := newParty(true, s.StaticA, s.FreshA), newParty(false, s.StaticB, s.FreshB)
	var out impl.ShakeResult
	teller, hearer := a, b
	for i, to := range []*[]byte{&out.First, &out.Second, &out.Third} {
		*to = teller.write(t, pattern[i])
		came := *to
		if s.Turned == int64(i+1) {
			came = turnedAt(came, int(s.At), byte(s.Mask))
		}
		if !hearer.read(t, pattern[i], came) {
			out.Failed = int64(i + 1)
			return out
		}
		teller, hearer = hearer, teller
	}
	out.HashA, out.HashB = a.Hash, b.Hash
	out.SendA, out.HearA = keysBy(t, a.Chain, nil)
	out.HearB, out.SendB = keysBy(t, b.Chain, nil)
	out.PeerA, out.PeerB = a.heard['s'], b.heard['s']
	return out
}

func shakeLists(r impl.ShakeResult) [][]byte {
	return [][]byte{r.First, r.Second, r.Third, r.HashA, r.HashB, r.SendA, r.HearA, r.SendB, r.HearB, r.PeerA, r.PeerB}
}

func wantShake(t *testing.T, what string, got, want impl.ShakeResult) {
	t.Helper()
	if got.Code != want.Code || got.Failed != want.Failed || !sameLists(shakeLists(got), shakeLists(want)) {
		t.Errorf("%s: %v; want %v", what, got, want)
	}
}

var plainShake = impl.Shake{StaticA: 11, FreshA: 222222, StaticB: 3333, FreshB: 4444444}

// withTurn is a shake of which the byte at the place is turned, or none.
func withTurn(s impl.Shake, turned, at, mask int64) impl.Shake {
	s.Turned, s.At, s.Mask = turned, at, mask
	return s
}

// placed is plainShake with the secret at one of its four places: StaticA, FreshA, StaticB, FreshB.
func placed(place int, secret int64) impl.Shake {
	s := plainShake
	*[]*int64{&s.StaticA, &s.FreshA, &s.StaticB, &s.FreshB}[place] = secret
	return s
}

func shakeHex(t *testing.T, texts ...string) impl.ShakeResult {
	var r impl.ShakeResult
	for i, to := range []*[]byte{&r.First, &r.Second, &r.Third, &r.HashA, &r.SendA, &r.HearA, &r.PeerA, &r.PeerB} {
		*to = fromHex(t, texts[i])
	}
	r.HashB, r.SendB, r.HearB = r.HashA, r.HearA, r.SendA
	return r
}

func TestRunShakeKnownAnswers(t *testing.T) {
	wantShake(t, "RunShake of small secrets", impl.RunShake(plainShake), shakeHex(t,
		"80d81154a3a25d05",
		"c861f2a13aeac212 0799c324ddc2f227accc3e44f1b0021390d0bd212007cf8c 960b32a57dc841062b92813a57da24ce",
		"7a28d6776fbd7f5bb890db6dba2e7747f6d422ddd63de944 826fcc97d57a84f0b6b9b300c2cb9608",
		"698397000695184a615a97afcf372168ffa3c61177cf7fc02e9a3a8e326ee136",
		"e75614e57ac20ad7b583fe084c700a1104d27de40dbe09899f468949f83cf67a",
		"2b7a8f8f1d6f2b280553477e3aa2b7dca3de8745122de0ba0df2d471209ad94e",
		"1cd08b2725a7cb00", "fbb3020000000000",
	))
	large := impl.Shake{StaticA: 1234567890123456789, FreshA: 987654321987654321, StaticB: prime - 2, FreshB: 1}
	wantShake(t, "RunShake of large secrets", impl.RunShake(large), shakeHex(t,
		"a615aa13b056470d",
		"0300000000000000 3b8092e09dc0ab3ff3478b3b25f515935f19a17921a7d26b 5dac54d3509834a9074a6a027fd26d6c",
		"090230435849527b1b10524d881e71941123b13c3beaf1ae 844c964b716f2003464dea3cd582d255",
		"701feebb58019456583e2d4bcfee6f7843bccb6d270c1bd56467e04c10f4d9ba",
		"c9360dbb87686af73dac68071dcf65c12723dd7f8b43aaef47154e7ee809eaca",
		"8b0963818a0fca2d840a20f22a11474d0e4ff11bcbf65089ca12c98dc1f71909",
		"5555555555555515", "18da85d02ebf8f0e",
	))
}

func TestRunShakeTurnedKnownAnswers(t *testing.T) {
	whole := impl.RunShake(plainShake)
	wantShake(t, "RunShake, the first public is none", impl.RunShake(withTurn(plainShake, 1, 7, 128)),
		impl.ShakeResult{Failed: 1, First: whole.First})
	other := fromHex(t, "c861f2a13aeac212 8f1326a9b926a09f911b605f4d26551ec9d967e42d65216a 5dadde027e3fa7ae1524401bb45ac8d7")
	wantShake(t, "RunShake, the first public is another one", impl.RunShake(withTurn(plainShake, 1, 0, 4)),
		impl.ShakeResult{Failed: 2, First: whole.First, Second: other})
	wantShake(t, "RunShake, the second public is another one", impl.RunShake(withTurn(plainShake, 2, 0, 1)),
		impl.ShakeResult{Failed: 2, First: whole.First, Second: whole.Second})
	wantShake(t, "RunShake, the static public of A is turned", impl.RunShake(withTurn(plainShake, 3, 0, 1)),
		impl.ShakeResult{Failed: 3, First: whole.First, Second: whole.Second, Third: whole.Third})
}

// someShakes have secrets at the ends, and of no pattern; the same ones at several places, too.
func someShakes() []impl.Shake {
	secrets := append(madeUp(60, 11, prime-2), edgeSecrets...)
	out := []impl.Shake{
		plainShake,
		{StaticA: 1, FreshA: 1, StaticB: 1, FreshB: 1},
		{StaticA: prime - 2, FreshA: prime - 2, StaticB: prime - 2, FreshB: prime - 2},
		{StaticA: 5, FreshA: 6, StaticB: 5, FreshB: 6},
	}
	for i, secret := range secrets {
		next := func(by int) int64 { return secrets[(i+by)%len(secrets)] }
		out = append(out, impl.Shake{StaticA: secret, FreshA: next(7), StaticB: next(20), FreshB: next(33)})
	}
	for place := range 4 {
		out = append(out, placed(place, 1), placed(place, prime-2))
	}
	return out
}

// Promise 6: when nothing is turned both end with one hash, with keys that fit, and each with the public of the other one.
func TestRunShakeEndsAlike(t *testing.T) {
	for _, s := range someShakes() {
		what := fmt.Sprint("RunShake of ", s)
		got := impl.RunShake(s)
		if got.Code != impl.OK || got.Failed != 0 || len(got.First) != 8 || len(got.Second) != 48 || len(got.Third) != 40 {
			t.Errorf("%s: %v", what, got)
		}
		if len(got.HashA) != 32 || !bytes.Equal(got.HashA, got.HashB) {
			t.Errorf("%s: HashA %v, HashB %v", what, got.HashA, got.HashB)
		}
		if len(got.SendA) != 32 || !bytes.Equal(got.SendA, got.HearB) || len(got.HearA) != 32 || !bytes.Equal(got.HearA, got.SendB) {
			t.Errorf("%s: the keys do not fit: %v", what, got)
		}
		if bytes.Equal(got.SendA, got.HearA) {
			t.Errorf("%s: both ways have one key", what)
		}
		wantBytes(t, what+", PeerA", impl.PublicOf(s.StaticB), got.PeerA)
		wantBytes(t, what+", PeerB", impl.PublicOf(s.StaticA), got.PeerB)
		wantShake(t, what, got, shakeBy(t, s))
	}
}

// The program's own steps, each side by its own state, come to what RunShake tells.
func TestRunShakeStepByStep(t *testing.T) {
	s, want := plainShake, impl.RunShake(plainShake)
	fresh, static := want.Second[:8], want.Second[8:32]
	a := impl.MixHash(impl.StartSym().Sym, nil)
	a = impl.MixHash(a.Sym, want.First)
	a = impl.SealHash(a.Sym, nil)
	a = impl.MixHash(a.Sym, fresh)
	a = impl.MixKey(a.Sym, impl.SharedOf(s.FreshA, fresh).Bytes)
	a = impl.OpenHash(a.Sym, static)
	peer := a.Bytes
	a = impl.MixKey(a.Sym, impl.SharedOf(s.FreshA, peer).Bytes)
	a = impl.OpenHash(a.Sym, want.Second[32:])
	a = impl.SealHash(a.Sym, impl.PublicOf(s.StaticA).Bytes)
	third := a.Bytes
	a = impl.MixKey(a.Sym, impl.SharedOf(s.StaticA, fresh).Bytes)
	a = impl.SealHash(a.Sym, nil)
	third = append(bytes.Clone(third), a.Bytes...)
	if !bytes.Equal(third, want.Third) || !bytes.Equal(a.Sym.Hash, want.HashA) || !bytes.Equal(peer, want.PeerA) {
		t.Errorf("the steps of A: %v, %v, %v; want %v", third, a, peer, want)
	}
	wantPair(t, "SplitSym of A", impl.SplitSym(a.Sym), want.SendA, want.HearA)
}

func TestShakeFaultOfSecrets(t *testing.T) {
	for place := range 4 {
		for _, secret := range noSecrets {
			s := placed(place, secret)
			wantShakeFault(t, s, impl.ErrRange)
			for turned := range int64(4) {
				wantShakeFault(t, withTurn(s, turned, 0, 1), impl.ErrRange)
			}
		}
		for _, secret := range append(madeUp(10, 12, prime-2), edgeSecrets...) {
			wantShakeFault(t, placed(place, secret), impl.OK)
		}
	}
	wantShakeFault(t, impl.Shake{}, impl.ErrRange)
}

// wantShakeFault asks RunShake, too: a shake with a fault is told by its code alone.
func wantShakeFault(t *testing.T, s impl.Shake, want int64) {
	t.Helper()
	if got := impl.ShakeFault(s); got != want {
		t.Errorf("ShakeFault of %v: %d; want %d", s, got, want)
	}
	got := impl.RunShake(s)
	if want != impl.OK {
		wantShake(t, fmt.Sprint("RunShake of ", s), got, impl.ShakeResult{Code: want})
	} else if got.Code != impl.OK {
		t.Errorf("RunShake of %v: code %d", s, got.Code)
	}
}

// isTurnBy has the places of each message typed.
func isTurnBy(turned, at, mask int64) bool {
	switch turned {
	case 0:
		return at == 0 && mask == 0
	case 1:
		return at >= 0 && at < 8 && mask > 0 && mask < 256
	case 2:
		return at >= 0 && at < 48 && mask > 0 && mask < 256
	case 3:
		return at >= 0 && at < 40 && mask > 0 && mask < 256
	}
	return false
}

func TestShakeFaultOfTurns(t *testing.T) {
	for _, turned := range []int64{math.MinInt64, -1, 0, 1, 2, 3, 4, 1 << 32, 1<<32 + 1, math.MaxInt64} {
		for _, at := range []int64{math.MinInt64, -1, 0, 1, 6, 7, 8, 38, 39, 40, 46, 47, 48, 49, 256, math.MaxInt64} {
			for _, mask := range []int64{math.MinInt64, -1, 0, 1, 2, 254, 255, 256, 257, 1 << 32, math.MaxInt64} {
				want := int64(impl.ErrRange)
				if isTurnBy(turned, at, mask) {
					want = impl.OK
				}
				wantShakeFault(t, withTurn(plainShake, turned, at, mask), want)
			}
		}
	}
}

// failedBy is what is to be told where the message cannot be heard.
func failedBy(whole impl.ShakeResult, failed int64) impl.ShakeResult {
	out := impl.ShakeResult{Failed: failed, First: whole.First}
	if failed >= 2 {
		out.Second = whole.Second
	}
	if failed == 3 {
		out.Third = whole.Third
	}
	return out
}

// Whatever is turned at the second and the third message, nobody takes it, and the messages are told as they were sent.
func TestRunShakeTurnedAtEachPlace(t *testing.T) {
	whole := impl.RunShake(plainShake)
	for turned, size := range map[int64]int64{2: 48, 3: 40} {
		for at := range size {
			for _, mask := range []int64{1, 2, 64, 128, 255} {
				s := withTurn(plainShake, turned, at, mask)
				wantShake(t, fmt.Sprint("RunShake of ", s), impl.RunShake(s), failedBy(whole, turned))
			}
		}
	}
}

// What is turned at the first message may be a public still: then only the second one cannot be heard.
func TestRunShakeTurnedAtTheFirst(t *testing.T) {
	whole := impl.RunShake(plainShake)
	count := map[int64]int{}
	for at := range int64(8) {
		for mask := int64(1); mask <= 255; mask++ {
			s := withTurn(plainShake, 1, at, mask)
			want := failedBy(whole, 1)
			if isPublicBy(turnedAt(whole.First, int(at), byte(mask))) {
				want = shakeBy(t, s)
			}
			count[want.Failed]++
			wantShake(t, fmt.Sprint("RunShake of ", s), impl.RunShake(s), want)
		}
	}
	// Only a bit above the greatest public makes this one none: 3 of the last byte.
	if count[1] != 255-31 || count[2] != 7*255+31 {
		t.Errorf("so many fail at each message: %v", count)
	}
}

// The public of the secret 1 is 3: bit by bit it comes to 2, which is a public, and to 1 and 0, which are none.
func TestRunShakeWithSmallPublics(t *testing.T) {
	for mask, failed := range map[int64]int64{1: 2, 2: 1, 3: 1, 4: 2, 255: 2} {
		s := withTurn(placed(1, 1), 1, 0, mask)
		want := shakeBy(t, s)
		if want.Failed != failed {
			t.Errorf("%v fails at %d; want %d", s, want.Failed, failed)
		}
		wantShake(t, fmt.Sprint("RunShake of ", s), impl.RunShake(s), want)
	}
	whole := impl.RunShake(placed(3, 1))
	for mask := int64(1); mask <= 3; mask++ {
		s := withTurn(placed(3, 1), 2, 0, mask)
		wantShake(t, fmt.Sprint("RunShake of ", s), impl.RunShake(s), failedBy(whole, 2))
	}
}

// Some secrets have publics that nobody can read: with nothing turned, too, the one who hears it stops.
func TestRunShakeOfPublicsThatCannotBeRead(t *testing.T) {
	failed := []int64{3, 1, 2, 2}
	for place, at := range failed {
		for times := range int64(5) {
			s := placed(place, (prime-1)/6*(times+1))
			want := shakeBy(t, s)
			if want.Failed != at {
				t.Errorf("%v fails at %d; want %d", s, want.Failed, at)
			}
			wantShake(t, fmt.Sprint("RunShake of ", s), impl.RunShake(s), want)
		}
	}
	// One that is turned may be read then: Prime - 1 comes to Prime - 2, and to Prime.
	for mask, at := range map[int64]int64{3: 2, 1: 1} {
		s := withTurn(placed(1, (prime-1)/2), 1, 0, mask)
		want := shakeBy(t, s)
		if want.Failed != at {
			t.Errorf("%v fails at %d; want %d", s, want.Failed, at)
		}
		wantShake(t, fmt.Sprint("RunShake of ", s), impl.RunShake(s), want)
	}
}

// Whatever the secrets are, what is told hangs on nothing but the reckoning of Noise.
func TestRunShakeTurnedWithManySecrets(t *testing.T) {
	for i, s := range someShakes() {
		for turned, size := range []int64{0, 8, 48, 40} {
			if turned > 0 {
				s = withTurn(s, int64(turned), int64(i*13)%size, int64(i*29)%255+1)
			}
			wantShake(t, fmt.Sprint("RunShake of ", s), impl.RunShake(s), shakeBy(t, s))
		}
	}
}

// symAnswer is all of an answer in lists; Count and Code are single bytes.
func symAnswer(r impl.SymResult) [][]byte {
	return [][]byte{r.Sym.Hash, r.Sym.Chain, r.Sym.Key, r.Bytes, {byte(r.Sym.Count), byte(r.Code)}}
}

// symOf is a state by three lists, with a Count where there is a Key.
func symOf(lists [][]byte) impl.Sym {
	s := impl.Sym{Hash: lists[0], Chain: lists[1], Key: lists[2]}
	if len(s.Key) != 0 {
		s.Count = 3
	}
	return s
}

// noiseAsks are the functions of the chapter, each of four lists: a state, and bytes.
func noiseAsks() map[string]asked {
	asks := map[string]asked{
		"SymFault": func(lists ...[]byte) [][]byte { return [][]byte{{byte(impl.SymFault(symOf(lists)))}} },
		"StartSym": func(...[]byte) [][]byte { return symAnswer(impl.StartSym()) },
		"SplitSym": func(lists ...[]byte) [][]byte {
			got := impl.SplitSym(symOf(lists))
			return [][]byte{got.First, got.Other, {byte(got.Code)}}
		},
		"ShakeFault":                   func(...[]byte) [][]byte { return [][]byte{{byte(impl.ShakeFault(plainShake))}} },
		"RunShake":                     shakeAsk(plainShake),
		"RunShake, turned":             shakeAsk(withTurn(plainShake, 1, 0, 4)),
		"RunShake, turned at the last": shakeAsk(withTurn(plainShake, 3, 39, 255)),
	}
	for name, call := range symCalls {
		asks[name] = func(lists ...[]byte) [][]byte { return symAnswer(call(symOf(lists), lists[3])) }
	}
	return asks
}

func shakeAsk(s impl.Shake) asked {
	return func(...[]byte) [][]byte {
		got := impl.RunShake(s)
		return append(shakeLists(got), []byte{byte(got.Code), byte(got.Failed)})
	}
}

// noiseLists are states and bytes: boxes that can be opened and such that cannot, with a Key and without,
// and such that have a fault.
func noiseLists() [][][]byte {
	var out [][][]byte
	for _, s := range []impl.Sym{keyless(), keyed(3), startBy(), {}, {Hash: listOf(33, 1, 1), Chain: listOf(31, 1, 1), Key: listOf(1, 1, 1)}} {
		for _, size := range []int{0, 1, 16, 32, 100, 884, 900, 901} {
			text := listOf(size, 9, 5)
			out = append(out, [][]byte{s.Hash, s.Chain, s.Key, text})
			if len(s.Key) == 32 && size <= 884 {
				_, box := sealedBy(s, text)
				out = append(out, [][]byte{s.Hash, s.Chain, s.Key, box})
			}
		}
	}
	return append(out, [][]byte{nil, nil, nil, nil}, [][]byte{{}, {}, {}, {}})
}

func noiseName(name string, lists [][]byte) string {
	return fmt.Sprintf("%s of %s, and %d bytes", name, symName(symOf(lists)), len(lists[3]))
}

// Promise 1: no argument is changed, whether there is an answer or a code.
func TestNoiseArgumentsAreKept(t *testing.T) {
	for name, ask := range noiseAsks() {
		for _, lists := range noiseLists() {
			checkArgumentsKept(t, noiseName(name, lists), ask, lists...)
		}
	}
}

// Promise 1: an answer shares no memory with an argument, and none with another field of the answer.
func TestNoiseAnswersAreNewMemory(t *testing.T) {
	for name, ask := range noiseAsks() {
		for _, lists := range noiseLists() {
			checkNewMemory(t, noiseName(name, lists), ask, lists...)
		}
	}
}

// Promise 1: so it is where the fields of an argument share all of their memory.
func TestNoiseAnswersShareNothingWhereArgumentsDo(t *testing.T) {
	for _, key := range []bool{true, false} {
		for name, ask := range noiseAsks() {
			one := func(lists ...[]byte) [][]byte {
				all := [][]byte{lists[0], lists[0], nil, lists[0]}
				if key {
					all[2] = lists[0]
				}
				return ask(all...)
			}
			what := fmt.Sprintf("%s of one list, with a key %v", name, key)
			checkNewMemory(t, what, one, listOf(32, 4, 9))
			checkArgumentsKept(t, what, one, listOf(32, 4, 9))
		}
	}
}

// Promise 1: an answer hangs on the arguments alone, not on what was asked ahead of it, or beside it.
func TestNoiseAnswersHangOnArgumentsAlone(t *testing.T) {
	all := noiseLists()
	for name, ask := range noiseAsks() {
		for i, lists := range all {
			if i%4 == 0 {
				checkHangsOnArguments(t, noiseName(name, lists), ask, lists, all[(i+1)%len(all)], all[len(all)-1-i])
			}
		}
	}
}

// An empty list and nil are the same.
func TestNoiseEmptyIsNil(t *testing.T) {
	for name, ask := range noiseAsks() {
		for _, lists := range noiseLists() {
			empty, none := slices.Clone(lists), slices.Clone(lists)
			for i, list := range lists {
				if len(list) == 0 {
					empty[i], none[i] = []byte{}, nil
				}
			}
			if !sameLists(ask(empty...), ask(none...)) {
				t.Errorf("%s: nil is not as an empty list", noiseName(name, lists))
			}
		}
	}
}
