package tests

import (
	"bytes"
	"encoding/binary"
	"fmt"
	"math/rand/v2"
	"slices"
	"testing"

	"loop.example/g00792/impl"
)

// slotKeyBy is the key of a slot by the tests' own reckoning.
func slotKeyBy(t *testing.T, root []byte, slot int64) []byte {
	t.Helper()
	_, key := keyBy(t, root, epochBy(slot))
	return key
}

// linkWireBy is what goes out at a slot for this text, be it that of a cell or not.
func linkWireBy(t *testing.T, root []byte, slot int64, plain []byte) []byte {
	t.Helper()
	return wireBy(slotKeyBy(t, root, slot), slot, plain)
}

// cellOfWireBy opens a wire by sealing what comes out of it again: if that is another one, this one was turned.
func cellOfWireBy(t *testing.T, root, wire []byte) (impl.Cell, bool) {
	t.Helper()
	if len(wire) != 64 || binary.BigEndian.Uint32(wire) > 400 {
		return impl.Cell{}, false
	}
	slot := int64(binary.BigEndian.Uint32(wire))
	key := slotKeyBy(t, root, slot)
	plain := streamBy(key, 1, nonceBy(slot), wire[4:48])
	if !bytes.Equal(wireBy(key, slot, plain), wire) {
		return impl.Cell{}, false
	}
	return decodedBy(plain)
}

func comeEndBy(t *testing.T, e impl.End, root, wire []byte) (impl.End, impl.Cell, int64) {
	t.Helper()
	cell, opens := cellOfWireBy(t, root, wire)
	if opens {
		out, code := hearEndBy(e, cell)
		return out, cell, code
	}
	if e.Bad == 100000 {
		return impl.End{}, impl.Cell{}, impl.ErrFull
	}
	e = copiedEnd(e)
	e.Bad++
	return e, impl.Cell{}, impl.OK
}

// wantTick is asked of ends with a slot that sends.
func wantTick(t *testing.T, e impl.End, root []byte) impl.EndResult {
	t.Helper()
	want, cell := cellEndBy(e)
	got := impl.TickEnd(e, root)
	what := fmt.Sprintf("TickEnd by %v of %s", root, endName(e))
	wantEnd(t, what, got, want, cell, linkWireBy(t, root, e.Slot, plainBy(cell)))
	if len(got.Wire) != 64 || got.End.Slot != e.Slot+1 {
		t.Errorf("%s: %d bytes, and on to the slot %d", what, len(got.Wire), got.End.Slot)
	}
	return got
}

func wantCome(t *testing.T, what string, e impl.End, root, wire []byte) impl.EndResult {
	t.Helper()
	want, cell, code := comeEndBy(t, e, root, wire)
	got := impl.ComeEnd(e, root, wire)
	if code != impl.OK {
		cell = impl.Cell{}
	}
	wantEndOr(t, fmt.Sprintf("ComeEnd of %s to %s", what, endName(e)), got, code, want, cell, nil)
	return got
}

// wantBad is an answer of an end that could not open what came.
func wantBad(t *testing.T, what string, got impl.EndResult, was impl.End) {
	t.Helper()
	want := copiedEnd(was)
	want.Bad++
	wantEnd(t, what, got, want, impl.Cell{}, nil)
}

// typedTicks are ends with what goes out of them, reckoned outside the project (hmac, hashlib, and the package cryptography, of Python).
var typedTicks = []struct {
	root []byte
	end  impl.End
	cell impl.Cell
	wire string
}{
	{
		make([]byte, 32), impl.End{}, impl.Cell{},
		"00000000db75d621a8f21d833c4dcd4ef2ba57aa6db5a970ee9d07e50d951b460ab2501e103de7f731b7d3b14af9e65ee614d6de0ecd1b25b2fbed6cd7617d20",
	},
	{
		listOf(32, 0, 1), impl.End{Sender: impl.Sender{Parts: []impl.Part{{Body: []byte("hello"), Last: true, Sent: -1}}}},
		impl.Cell{Kind: 1, Last: true, Body: []byte("hello")},
		"000000006f3874304ada733469e32d3acc8a111a63896c14e56cd85f24027f9475e75e2921757dd5e428b2cefa2361abbde62bf6a681348564ca51920c0d591c",
	},
	{
		listOf(32, 0, 1), impl.End{
			Slot: 15, Sender: impl.Sender{Base: 8, Parts: []impl.Part{{Body: listOf(32, 1, 1), Sent: 11}}},
			Receiver: impl.Receiver{Next: 3, Holds: []impl.Held{{Seq: 5}}},
		},
		impl.Cell{Kind: 1, Seq: 8, Ack: 3, Mask: 2, Body: listOf(32, 1, 1)},
		"0000000fc365bdd7b1509dd6085618c2d65664c9a0cc3814d2b6ea6a0bd69ecbc06a9e306ca751810dc81977e6b24f11d27db569fa8669e44b09962023b5da66",
	},
	{
		listOf(32, 0, 1), impl.End{
			Slot: 16, Sender: impl.Sender{Base: 8, Parts: []impl.Part{{Body: listOf(32, 1, 1), Sent: 15}, {Body: []byte{33}, Last: true, Sent: -1}}},
			Receiver: impl.Receiver{Next: 3, Holds: []impl.Held{{Seq: 5}}},
		},
		impl.Cell{Kind: 1, Seq: 9, Ack: 3, Mask: 2, Last: true, Body: []byte{33}},
		"00000010ebc75ace2e1fab2050c13f539f8c9f014dc61842aa4c6076c3b80774608ea419dfe737eee53bc8772c11ad4750066940f7999da17c1df5d3858455de",
	},
	{
		bytes.Repeat([]byte{255}, 32), impl.End{Slot: 400, Receiver: impl.Receiver{Next: 10000}}, impl.Cell{Ack: 10000},
		"0000019071f9b316c563b099123af415b56af5545d7981aa9aab06b422c80df06f769cfecb4a99afb87d93ce1b7001657688ae7790509eeb38ce626087942bd7",
	},
	{
		make([]byte, 32), impl.End{
			Slot: 300, Sender: impl.Sender{Base: 258, Parts: []impl.Part{{Body: []byte{9, 8}, Last: true, Sent: -1}}},
			Receiver: impl.Receiver{Next: 3, Holds: []impl.Held{{Seq: 4}, {Seq: 6}}},
		},
		impl.Cell{Kind: 1, Seq: 258, Ack: 3, Mask: 5, Last: true, Body: []byte{9, 8}},
		"0000012c7286ace9ea27b325e66cdb77a6931a6a2104583959fd934fcc2c102bc3808d10cc6620d9a16f2f4ee188ced478b61a7c6d610b3ed1e5efbb647ad3fd",
	},
}

func TestLinkKnownAnswers(t *testing.T) {
	for _, c := range typedTicks {
		wire := fromHex(t, c.wire)
		got := wantTick(t, c.end, c.root)
		if !sameCell(got.Cell, c.cell) || !bytes.Equal(got.Wire, wire) {
			t.Errorf("TickEnd of %s: %v, %v; want %v, %v", endName(c.end), got.Cell, got.Wire, c.cell, wire)
		}
		come := wantCome(t, "a known wire", impl.End{}, c.root, wire)
		if !sameCell(come.Cell, c.cell) {
			t.Errorf("ComeEnd of the wire of %s: %v; want %v", endName(c.end), come.Cell, c.cell)
		}
	}
}

func TestTickEndOfSomeEnds(t *testing.T) {
	roots := someRoots()
	for i, e := range someEnds() {
		root := roots[i%len(roots)]
		if e.Slot == 401 {
			wantEndCode(t, "TickEnd of "+endName(e), impl.TickEnd(e, root), impl.ErrState)
			e.Slot = 255
		}
		wantTick(t, e, root)
	}
}

// Promise 10: each tick is one cell, and the next slot; its wire is opened by the key of that slot.
func TestTickEndGoesOnSlotBySlot(t *testing.T) {
	for i, root := range someRoots() {
		e := impl.SendEnd(impl.End{Bad: 4, Receiver: receiverOf(7, "h.l", 5), Got: gotOf(i)}, listOf(200, 1, 1)).End
		for slot := range int64(401) {
			got := wantTick(t, e, root)
			told := impl.SlotOf(got.Wire)
			opened := impl.OpenCell(impl.KeyAt(root, slot).Key, got.Wire)
			wantInt(t, "SlotOf a tick", told, slot)
			wantCell(t, fmt.Sprintf("OpenCell of the tick %d", slot), opened, slot, got.Cell)
			e = got.End
		}
		wantEndCode(t, "TickEnd behind the last slot", impl.TickEnd(e, root), impl.ErrState)
	}
}

// A tick has one wire of one size, be there something to say or not, and no two are alike.
func TestTickEndTellsTheSlotAlone(t *testing.T) {
	root, seen := listOf(32, 7, 5), map[string]bool{}
	for slot := range int64(401) {
		for i, s := range []impl.Sender{{}, senderOf(0, "."), senderOf(3, "aB..")} {
			e := impl.End{Slot: slot, Sender: s}
			wire := impl.TickEnd(e, root).Wire
			if len(wire) != 64 || !bytes.Equal(wire[:4], headBy(slot)) || seen[string(wire)] {
				t.Errorf("the wire %d of the slot %d is %v", i, slot, wire)
			}
			seen[string(wire)] = true
		}
	}
}

// What root is not so is asked behind the EndFault (TestEndsWithAFault) and ahead of the slot.
func TestTickEndOfNoRoot(t *testing.T) {
	for _, root := range notHashSize() {
		for _, slot := range []int64{0, 16, 400, 401} {
			for _, s := range []impl.Sender{{}, senderOf(0, ".")} {
				e := impl.End{Slot: slot, Sender: s}
				wantEndCode(t, fmt.Sprintf("TickEnd by %d bytes of %s", len(root), endName(e)), impl.TickEnd(e, root), impl.ErrRange)
			}
		}
	}
	root := listOf(32, 7, 5)
	wantEndCode(t, "TickEnd behind the last slot", impl.TickEnd(impl.End{Slot: 401}, root), impl.ErrState)
	wantEndCode(t, "TickEnd behind the last slot, with more to say", impl.TickEnd(impl.End{Slot: 401, Sender: senderOf(0, ".")}, root), impl.ErrState)
	wantEndCode(t, "TickEnd at no slot", impl.TickEnd(impl.End{Slot: 402}, root), impl.ErrRange)
	wantTick(t, impl.End{Slot: 400, Sender: senderOf(0, ".")}, root)
}

// busyEnd has something of all, so that whatever changes shows.
func busyEnd() impl.End {
	return impl.End{Slot: 30, Sender: senderOf(2, "abC.."), Receiver: receiverOf(5, "h.l", 7), Got: gotOf(3), Bad: 6}
}

// dataWire is what opens to data that busyEnd hears: its receiver waits for it, and its sender for the Ack.
func dataWire(t *testing.T, root []byte, slot int64) (impl.Cell, []byte) {
	cell := impl.Cell{Kind: 1, Seq: 5, Ack: 3, Mask: 2, Last: true, Body: []byte{1, 2, 3}}
	return cell, linkWireBy(t, root, slot, plainBy(cell))
}

func TestComeEndTyped(t *testing.T) {
	root := listOf(32, 7, 5)
	cell, wire := dataWire(t, root, 33)
	got := impl.ComeEnd(busyEnd(), root, wire)
	want := busyEnd()
	want.Sender = impl.Sender{Base: 3, Parts: want.Sender.Parts[1:]}
	want.Got = append(want.Got, append(listOf(7, 9, 7), 1, 2, 3))
	want.Receiver = impl.Receiver{Next: 7, Holds: []impl.Held{{Seq: 8, Body: listOf(5, 120, 1), Last: true}}, Partial: listOf(3, 100, 1)}
	wantEnd(t, "ComeEnd of data", got, want, cell, nil)

	dummy := impl.Cell{Ack: 3}
	got = impl.ComeEnd(busyEnd(), root, linkWireBy(t, root, 0, plainBy(dummy)))
	want = busyEnd()
	want.Sender = impl.Sender{Base: 3, Parts: want.Sender.Parts[1:]}
	wantEnd(t, "ComeEnd of a dummy", got, want, dummy, nil)
}

// The slot of what comes need not be that of the end.
func TestComeEndOfEachSlot(t *testing.T) {
	root := listOf(32, 7, 5)
	for slot := range int64(401) {
		cell, wire := dataWire(t, root, slot)
		e := busyEnd()
		e.Slot = slot * 7 % 402
		got := wantCome(t, fmt.Sprintf("data of the slot %d", slot), e, root, wire)
		if !sameCell(got.Cell, cell) || got.End.Bad != 6 || got.End.Slot != e.Slot || len(got.End.Got) != 4 {
			t.Errorf("ComeEnd of data of the slot %d: %v", slot, got)
		}
		wantBad(t, fmt.Sprintf("ComeEnd of the slot %d, turned", slot), impl.ComeEnd(e, root, turnedAt(wire, 63, 128)), e)
	}
}

func TestComeEndOfNoRoot(t *testing.T) {
	_, wire := dataWire(t, listOf(32, 7, 5), 33)
	for _, root := range notHashSize() {
		for _, wire := range [][]byte{wire, wire[:63], nil, turnedAt(wire, 40, 1)} {
			for _, bad := range []int64{0, 100000} {
				for _, got := range []int{0, 192} {
					e := impl.End{Slot: 401, Got: gotOf(got), Bad: bad}
					wantEndCode(t, fmt.Sprintf("ComeEnd by %d bytes to %s", len(root), endName(e)), impl.ComeEnd(e, root, wire), impl.ErrRange)
				}
			}
		}
	}
}

// badWires are wires that root does not open.
func badWires(t *testing.T, root []byte) map[string][]byte {
	out := map[string][]byte{}
	for _, slot := range []int64{0, 16, 33, 255, 400} {
		_, whole := dataWire(t, root, slot)
		at := fmt.Sprintf(" at %d", slot)
		for bit := range 8 * 64 {
			out[fmt.Sprintf("turned at the bit %d", bit)+at] = turnedAt(whole, bit/8, 1<<(bit%8))
		}
		for size := range 64 {
			out[fmt.Sprintf("the first %d bytes", size)+at] = whole[:size]
		}
		for _, other := range []int64{0, 1, 15, 16, 17, 256, 399, 400, 401, 402, 65536, 1 << 31, 1<<32 - 1} {
			if other != slot {
				out[fmt.Sprintf("with the slot %d", other)+at] = slices.Concat(headBy(other), whole[4:])
			}
		}
		_, another := dataWire(t, listOf(32, 8, 5), slot)
		out["of another root"+at] = another
		out["with a byte more"+at] = append(bytes.Clone(whole), 0)
		out["with a byte more ahead"+at] = append([]byte{0}, whole...)
		out["twice"+at] = append(bytes.Clone(whole), whole...)
		out["of the root as key"+at] = wireBy(root, slot, plainBy(impl.Cell{}))
		out["of the chain as key"+at] = wireBy(impl.KeyAt(root, slot).Chain, slot, plainBy(impl.Cell{}))
		out["of the next epoch"+at] = wireBy(slotKeyBy(t, root, slot+16), slot, plainBy(impl.Cell{}))
		for name, plain := range noCells() {
			out[name+at] = linkWireBy(t, root, slot, plain)
		}
	}
	_, above := dataWire(t, root, 401)
	out["of the slot 401"] = above
	for _, size := range wireSizes {
		out[fmt.Sprintf("%d zeros", size)] = make([]byte, size)
	}
	out["64 zeros"], out["nil"] = make([]byte, 64), nil
	return out
}

// Promise 10: what cannot be opened counts as bad, and changes nothing else.
func TestComeEndOfWhatCannotBeOpened(t *testing.T) {
	root := listOf(32, 7, 5)
	full, last := busyEnd(), busyEnd()
	full.Got, full.Bad = gotOf(200), 99999
	last.Bad = 100000
	for name, wire := range badWires(t, root) {
		for _, e := range []impl.End{{}, {Slot: 401}, busyEnd(), full} {
			wantBad(t, fmt.Sprintf("ComeEnd of a wire, %s, to %s", name, endName(e)), impl.ComeEnd(e, root, wire), e)
		}
		wantEndCode(t, "ComeEnd when all that can be were bad, of a wire, "+name, impl.ComeEnd(last, root, wire), impl.ErrFull)
	}
}

func TestComeEndByATurnedRoot(t *testing.T) {
	root := listOf(32, 7, 5)
	for _, slot := range []int64{0, 33, 400} {
		_, wire := dataWire(t, root, slot)
		for bit := range 8 * 32 {
			got := impl.ComeEnd(busyEnd(), turnedAt(root, bit/8, 1<<(bit%8)), wire)
			wantBad(t, fmt.Sprintf("ComeEnd at %d by a root, turned at the bit %d", slot, bit), got, busyEnd())
		}
	}
}

// How many were bad is asked only of what cannot be opened, and how many were heard only of what can.
func TestComeEndRoom(t *testing.T) {
	root := listOf(32, 7, 5)
	_, data := dataWire(t, root, 33)
	dummy := linkWireBy(t, root, 34, plainBy(impl.Cell{Ack: 3}))
	for _, bad := range []int64{0, 99998, 99999, 100000} {
		for _, count := range []int{0, 190, 191, 192, 193, 200} {
			for name, wire := range map[string][]byte{"data": data, "a dummy": dummy} {
				e := busyEnd()
				e.Bad, e.Got = bad, gotOf(count)
				want := int64(impl.OK)
				if count >= 192 {
					want = impl.ErrFull
				}
				if got := wantCome(t, name, e, root, wire); got.Code != want || want == impl.OK && got.End.Bad != bad {
					t.Errorf("ComeEnd of %s to %s: %v; want code %d", name, endName(e), got, want)
				}
				for _, turned := range [][]byte{turnedAt(wire, 3, 1), turnedAt(wire, 20, 1), turnedAt(wire, 60, 1), wire[:63], nil} {
					want := int64(impl.OK)
					if bad == 100000 {
						want = impl.ErrFull
					}
					if got := wantCome(t, name+", turned", e, root, turned); got.Code != want || want == impl.OK && got.End.Bad != bad+1 {
						t.Errorf("ComeEnd of %s, turned, to %s: %v; want code %d", name, endName(e), got, want)
					}
				}
			}
		}
	}
}

// Bad is counted up to its bound, and no further.
func TestComeEndCountsBad(t *testing.T) {
	root := listOf(32, 7, 5)
	e := impl.End{}
	for bad := range int64(300) {
		e = impl.ComeEnd(e, root, make([]byte, bad)).End
		if e.Bad != bad+1 {
			t.Fatalf("Bad is %d behind %d that cannot be opened", e.Bad, bad+1)
		}
	}
	e.Bad = 99990
	for range 10 {
		e = impl.ComeEnd(e, root, nil).End
	}
	if !sameEnd(e, impl.End{Bad: 100000}) {
		t.Errorf("behind 100000 that cannot be opened: %v", e)
	}
	wantEndCode(t, "ComeEnd of one more", impl.ComeEnd(e, root, nil), impl.ErrFull)
}

func TestComeEndOfSomeEnds(t *testing.T) {
	roots := someRoots()
	for i, e := range someEnds() {
		root, slot := roots[i%len(roots)], int64(i*31%401)
		cells := someCells()
		for k, c := range []impl.Cell{cells[i%len(cells)], dataCell(e.Receiver.Next&8191, true, []byte{1}), {Ack: e.Sender.Base + 1, Mask: 2}} {
			wire := linkWireBy(t, root, slot, plainBy(c))
			wantCome(t, cellName(c), e, root, wire)
			wantCome(t, cellName(c)+", turned", e, root, turnedAt(wire, (i+k)%64, 4))
			wantCome(t, cellName(c)+", by another root", e, roots[(i+1)%len(roots)], wire)
		}
	}
}

// link is two ends with one root, and what each of them was asked to say.
type link struct {
	t      *testing.T
	what   string
	chance *rand.Rand
	root   []byte
	ends   [2]impl.End
	said   [2][][]byte
	heard  [2][][]byte
}

func (l *link) say(from int, message []byte) {
	got := impl.SendEnd(l.ends[from], message)
	if got.Code == impl.ErrFull {
		return
	}
	want := copiedEnd(l.ends[from])
	want.Sender, _ = sentBy(want.Sender, message)
	wantEnd(l.t, l.what+", SendEnd", got, want, impl.Cell{}, nil)
	l.ends[from], l.said[from] = got.End, append(l.said[from], message)
}

// carry lets an end tick, and the other one hear what came of that.
func (l *link) carry(from int, lost, turned float64) {
	told := wantTick(l.t, l.ends[from], l.root)
	l.ends[from] = told.End
	if l.chance.Float64() < lost {
		return
	}
	was, wire := l.ends[1-from], told.Wire
	if l.chance.Float64() < turned {
		wire = turnedAt(wire, l.chance.IntN(64), 1<<l.chance.IntN(8))
		got := wantCome(l.t, l.what+", turned", was, l.root, wire)
		wantBad(l.t, l.what+", turned", got, was)
		l.ends[1-from] = got.End
		return
	}
	got := wantCome(l.t, l.what, was, l.root, wire)
	if !sameCell(got.Cell, told.Cell) {
		l.t.Errorf("%s: %v was sent, %v was heard", l.what, told.Cell, got.Cell)
	}
	l.ends[1-from] = got.End
}

// takeGot is what a user of an end does with what it Got, so that there is room again.
func (l *link) takeGot(at int) {
	l.heard[at] = append(l.heard[at], l.ends[at].Got...)
	l.ends[at].Got = nil
	said := l.said[1-at]
	if len(l.heard[at]) > len(said) || !sameLists(l.heard[at], said[:len(l.heard[at])]) {
		l.t.Errorf("%s: %v was said, %v was heard", l.what, said, l.heard[at])
	}
}

// Promise 10: over all slots, and so over the end of each epoch, what one end sends the other one hears as it is.
func TestTwoEndsOfALink(t *testing.T) {
	for seed := range uint64(4) {
		l := link{t: t, what: fmt.Sprintf("the link %d", seed), chance: rand.New(rand.NewPCG(seed, 9)), root: someRoots()[seed%5]}
		lost, turned := []float64{0, 0.3, 0, 0.3}[seed%4], []float64{0, 0, 0.3, 0.3}[seed%4]
		for slot := range 401 {
			if slot > 340 {
				lost, turned = 0, 0
			} else if l.chance.IntN(3) == 0 {
				l.say(l.chance.IntN(2), listOf(1+l.chance.IntN(200), byte(l.chance.IntN(256)), byte(l.chance.IntN(256))))
			}
			l.carry(0, lost, turned)
			l.carry(1, lost, turned)
			l.takeGot(slot % 2)
		}
		l.takeGot(0)
		l.takeGot(1)
		for at := range 2 {
			if !sameLists(l.heard[at], l.said[1-at]) || len(l.heard[at]) < 5 || len(l.ends[1-at].Sender.Parts) != 0 || l.ends[at].Slot != 401 {
				t.Errorf("%s: %d messages were said, %d were heard by %s", l.what, len(l.said[1-at]), len(l.heard[at]), endName(l.ends[at]))
			}
			if (l.ends[at].Bad > 0) != (seed%4 > 1) {
				t.Errorf("%s: Bad is %d", l.what, l.ends[at].Bad)
			}
		}
	}
}

// At the end of an epoch one message of two parts goes out by two keys.
func TestAMessageOverTheEndOfAnEpoch(t *testing.T) {
	root, message := listOf(32, 7, 5), listOf(33, 1, 1)
	for slot := int64(15); slot < 400; slot += 16 {
		a, b := impl.SendEnd(impl.End{Slot: slot}, message).End, impl.End{Slot: slot}
		first := impl.TickEnd(a, root)
		other := impl.TickEnd(first.End, root)
		half := impl.ComeEnd(b, root, first.Wire)
		whole := impl.ComeEnd(half.End, root, other.Wire)
		want := impl.End{Slot: slot, Receiver: impl.Receiver{Next: 1, Partial: message[:32]}}
		wantEnd(t, fmt.Sprintf("the first part at %d", slot), half, want, first.Cell, nil)
		want = impl.End{Slot: slot, Receiver: impl.Receiver{Next: 2}, Got: [][]byte{message}}
		wantEnd(t, fmt.Sprintf("the other part at %d", slot+1), whole, want, other.Cell, nil)
		key := impl.KeyAt(root, slot).Key
		wantCell(t, "OpenCell by the old key", impl.OpenCell(key, first.Wire), slot, first.Cell)
		wantCellCode(t, "OpenCell by the old key", impl.OpenCell(key, other.Wire), impl.ErrSum)
		late := impl.ComeEnd(impl.ComeEnd(b, root, other.Wire).End, root, first.Wire)
		wantEnd(t, "both parts the other way round", late, want, first.Cell, nil)
	}
}

// fewEnds leave out most of those without a fault, since each call of them is asked many times.
func fewEnds() []impl.End {
	out := anyEnds()
	for i, e := range someEnds() {
		if i < 5 || i%16 == 0 {
			out = append(out, e)
		}
	}
	return out
}

// endCalls are calls of each function with an answer, and with each code.
func endCalls(t *testing.T) map[string][]call {
	out := map[string][]call{}
	add := func(name string, args ...any) { out[name] = append(out[name], args) }
	root := listOf(32, 7, 5)
	for _, e := range fewEnds() {
		add("EndFault", e)
		for _, size := range []int{0, 1, 33, 200, 201} {
			add("SendEnd", e, listOf(size, 1, 1))
		}
		add("CellEnd", e)
		next := e.Receiver.Next & 8191
		data := impl.Cell{Kind: 1, Seq: next, Ack: max(0, min(e.Sender.Base+1, 10000)), Mask: 5, Last: true, Body: listOf(32, 1, 1)}
		for _, c := range []impl.Cell{{}, {Ack: data.Ack}, data, dataCell(next, true, nil), dataCell(next+2, false, listOf(4, 1, 1)), dataCell(0, false, listOf(33, 1, 1))} {
			add("HearEnd", e, c)
		}
		wire := impl.SealCell(impl.KeyAt(root, 33).Key, 33, data).Bytes
		for _, root := range [][]byte{root, root[:31]} {
			add("TickEnd", e, root)
			add("ComeEnd", e, root, wire)
			add("ComeEnd", e, root, wire[:63])
			add("ComeEnd", e, root, turnedAt(wire, 63, 1))
		}
		add("SameEnds", e, e)
		add("SameEnds", e, copiedEnd(e))
		add("SameEnds", e, busyEnd())
	}
	return out
}

// sharedEndCalls have arguments that share their memory with one another.
func sharedEndCalls() map[string][]call {
	list := listOf(128, 5, 7)
	e := impl.End{Slot: 9, Sender: impl.Sender{Base: 2}, Receiver: impl.Receiver{Next: 2, Partial: list[:20]}, Got: [][]byte{list[:9], list[:9], list[3:20], list}}
	for i := range 8 {
		e.Sender.Parts = append(e.Sender.Parts, impl.Part{Body: list[i : i+9], Last: i%2 == 0, Sent: int64(i)})
	}
	for seq := int64(3); seq < 10; seq++ {
		e.Receiver.Holds = append(e.Receiver.Holds, impl.Held{Seq: seq, Body: list[:8], Last: seq%2 == 0})
	}
	root := list[:32]
	wire := impl.SealCell(impl.KeyAt(root, 9).Key, 9, impl.Cell{Kind: 1, Seq: 2, Ack: 4, Last: true, Body: list[:8]}).Bytes
	both := append(bytes.Clone(wire), wire...)
	other := copiedEnd(e)
	other.Got = append(other.Got, both[:64], both[32:], both)
	byWire := impl.SealCell(impl.KeyAt(both[:32], 9).Key, 9, impl.Cell{Kind: 1, Seq: 2, Body: list[:8]}).Bytes
	other.Receiver.Partial = byWire
	return map[string][]call{
		"EndFault": {{e}},
		"SendEnd":  {{e, list[:100]}, {impl.End{Got: [][]byte{list}}, list}},
		"CellEnd":  {{e}},
		"HearEnd":  {{e, impl.Cell{Kind: 1, Seq: 2, Ack: 4, Last: true, Body: list[:8]}}, {e, dataCell(2, false, list[:30])}, {e, impl.Cell{Ack: 5, Mask: 2}}},
		"TickEnd":  {{e, root}, {other, both[:32]}},
		"ComeEnd":  {{e, root, wire}, {e, root, list[:64]}, {other, both[:32], byWire}, {other, both[:32], both[:64]}, {other, both[:32], both[:10]}},
		"SameEnds": {{e, e}, {e, other}},
	}
}

// Promise 1, of all functions of the chapter.
func TestEndFirstPromise(t *testing.T) {
	shared := sharedEndCalls()
	for name, calls := range endCalls(t) {
		function := map[string]any{
			"EndFault": impl.EndFault, "SendEnd": impl.SendEnd, "CellEnd": impl.CellEnd, "HearEnd": impl.HearEnd,
			"TickEnd": impl.TickEnd, "ComeEnd": impl.ComeEnd, "SameEnds": impl.SameEnds,
		}[name]
		checkFirstPromise(t, name, function, append(calls, shared[name]...))
	}
}
