package tests

import (
	"bytes"
	"fmt"
	"math/rand/v2"
	"slices"
	"testing"

	"loop.example/g00792/impl"
)

func configOf(ideal bool) impl.Config {
	return impl.Config{Ideal: ideal, Root: listOf(32, 0, 1)}
}

func noPair() impl.Pair {
	return impl.Pair{Ends: make([]impl.End, 2), Wires: make([][][]byte, 2), Accepted: make([][][]byte, 2)}
}

// rootBy is the root of a side by the tests' own reckoning.
func rootBy(t *testing.T, c impl.Config, side int64) []byte {
	t.Helper()
	first, other := keysBy(t, c.Root, nil)
	return [][]byte{first, other}[side]
}

// pairStepBy has p go on by an event, in the tests' own reckoning. What comes in a pair that is not ideal is opened
// there; said has what was said in an ideal one, by its wire, since nobody can open that.
func pairStepBy(t *testing.T, c impl.Config, p *impl.Pair, said map[string]impl.Cell, e impl.Event) int64 {
	t.Helper()
	if code := eventFaultBy(e); code != impl.OK {
		return code
	}
	here, there := &p.Ends[e.Side], &p.Ends[[]int{1, 0}[e.Side]]
	wires := &p.Wires[e.Side]
	switch e.Kind {
	case 1:
		sender, code := sentBy(here.Sender, e.Body)
		if code != impl.OK {
			return code
		}
		here.Sender = sender
		p.Accepted[e.Side] = append(p.Accepted[e.Side], bytes.Clone(e.Body))
	case 2:
		slot := here.Slot
		end, cell := cellEndBy(*here)
		wire := idealWireBy(c.Root, e.Side, slot)
		if !c.Ideal {
			wire = linkWireBy(t, rootBy(t, c, e.Side), slot, plainBy(cell))
		}
		*here, *wires, said[string(wire)] = end, append(*wires, wire), cell
	case 3:
		if e.Slot >= int64(len(*wires)) {
			return impl.ErrNone
		}
		cell := said[string((*wires)[e.Slot])]
		if !c.Ideal {
			cell, _ = cellOfWireBy(t, rootBy(t, c, e.Side), (*wires)[e.Slot])
		}
		end, code := hearEndBy(*there, cell)
		if code != impl.OK {
			return code
		}
		*there = end
	case 4:
		if !c.Ideal {
			return impl.ErrState
		}
		if e.Slot >= int64(len(*wires)) {
			return impl.ErrNone
		}
		there.Bad++
	}
	return impl.OK
}

func pairBy(t *testing.T, c impl.Config, events []impl.Event) impl.Pair {
	t.Helper()
	p, said := noPair(), map[string]impl.Cell{}
	for _, e := range events {
		p.Codes = append(p.Codes, pairStepBy(t, c, &p, said, e))
	}
	return p
}

func samePair(a, b impl.Pair) bool {
	return slices.EqualFunc(a.Ends, b.Ends, sameEnd) && slices.EqualFunc(a.Wires, b.Wires, sameLists) &&
		slices.EqualFunc(a.Accepted, b.Accepted, sameLists) && slices.Equal(a.Codes, b.Codes)
}

func pairName(p impl.Pair) string {
	name := "a pair of"
	for _, e := range p.Ends {
		name += " " + endName(e) + ","
	}
	for _, lists := range [][][][]byte{p.Wires, p.Accepted} {
		for _, list := range lists {
			name += fmt.Sprintf(" %d,", len(list))
		}
	}
	return fmt.Sprintf("%s the codes %v", name, p.Codes)
}

// wantPairOf holds that each list is there, once for each side, and that no end has a fault.
func wantPairOf(t *testing.T, what string, got impl.PairWorld, want impl.Pair) {
	t.Helper()
	if got.Code != impl.OK || !samePair(got.Pair, want) {
		t.Errorf("%s: code %d, %s; want code 0, %s", what, got.Code, pairName(got.Pair), pairName(want))
	}
	if len(got.Pair.Ends) != 2 || len(got.Pair.Wires) != 2 || len(got.Pair.Accepted) != 2 {
		t.Fatalf("%s: not one of all for each side: %s", what, pairName(got.Pair))
	}
	for side, e := range got.Pair.Ends {
		if fault := impl.EndFault(e); fault != impl.OK || e.Slot != int64(len(got.Pair.Wires[side])) {
			t.Errorf("%s: %s has the fault %d, and %d wires", what, endName(e), fault, len(got.Pair.Wires[side]))
		}
	}
}

func wantPairWorldCode(t *testing.T, what string, got impl.PairWorld, code int64) {
	t.Helper()
	if got.Code != code || len(got.Pair.Ends)+len(got.Pair.Wires)+len(got.Pair.Accepted)+len(got.Pair.Codes) != 0 {
		t.Errorf("%s: code %d, %s; want code %d, all else zero", what, got.Code, pairName(got.Pair), code)
	}
}

func wantRun(t *testing.T, what string, c impl.Config, events []impl.Event) impl.Pair {
	t.Helper()
	got := impl.RunPair(c, events)
	wantPairOf(t, what, got, pairBy(t, c, events))
	if len(got.Pair.Codes) != len(events) {
		t.Errorf("%s: %d codes of %d events", what, len(got.Pair.Codes), len(events))
	}
	return got.Pair
}

func wantCodes(t *testing.T, what string, got impl.Pair, want ...int64) {
	t.Helper()
	if !slices.Equal(got.Codes, want) {
		t.Errorf("%s: the codes %v; want %v", what, got.Codes, want)
	}
}

// bothWays runs events in a pair that is ideal, and in one that is not.
func bothWays(t *testing.T, what string, events ...impl.Event) (ideal, sealed impl.Pair) {
	t.Helper()
	return wantRun(t, what+", ideal", configOf(true), events), wantRun(t, what+", not ideal", configOf(false), events)
}

func TestRunPairOfNoEvents(t *testing.T) {
	for _, events := range [][]impl.Event{nil, {}} {
		for _, root := range someRoots() {
			for _, ideal := range []bool{false, true} {
				wantPairOf(t, "no events", impl.RunPair(impl.Config{Ideal: ideal, Root: root}, events), noPair())
			}
		}
	}
}

func TestRunPairCodes(t *testing.T) {
	for _, count := range []int{0, 1, 199, 200, 201, 202, 400, 1001} {
		for _, events := range [][]impl.Event{slices.Repeat([]impl.Event{tickOf(1)}, count), slices.Repeat([]impl.Event{{}}, count)} {
			for _, ideal := range []bool{false, true} {
				what := fmt.Sprintf("RunPair of %d events, Ideal %v", count, ideal)
				for _, root := range notHashSize() {
					got := impl.RunPair(impl.Config{Ideal: ideal, Root: root}, events)
					wantPairWorldCode(t, fmt.Sprintf("%s, by %d bytes", what, len(root)), got, impl.ErrRange)
				}
				if count > 200 {
					wantPairWorldCode(t, what, impl.RunPair(configOf(ideal), events), impl.ErrMany)
					continue
				}
				wantRun(t, what, configOf(ideal), events)
			}
		}
	}
}

// The wires of a pair that is not ideal were reckoned outside the project (hmac, hashlib, and the package cryptography, of Python).
func TestRunPairTyped(t *testing.T) {
	hello := []byte("hello")
	events := []impl.Event{sendOf(0, hello), tickOf(0), comeOf(0, 0), tickOf(1), tickOf(0), comeOf(1, 0)}
	part := impl.Part{Body: hello, Last: true}
	want := impl.Pair{
		Ends: []impl.End{
			{Slot: 2, Sender: impl.Sender{Base: 1}},
			{Slot: 1, Receiver: impl.Receiver{Next: 1}, Got: [][]byte{hello}},
		},
		Accepted: [][][]byte{{hello}, {}},
		Codes:    []int64{0, 0, 0, 0, 0, 0},
		Wires: [][][]byte{{
			fromHex(t, "00000000c24810c9ef97c7ae243cbe934ef707dd94a65439f65fbff80b8d26bdc284d36a6fa6e1e97101f9065e133bd70948d5063ae5c04d490d467456d98ba5"),
			fromHex(t, "000000017e7d66cf0e2047fc5a403b7cf708756a135c946c0ee2ff19e18e1dc4a178e219f5502b7a1e16e808b6b3fc3cf4e8fd83a8c9efe9507c10a98dc94b7b"),
		}, {
			fromHex(t, "0000000058aa16df44bd17a1da0299ceb36b4c5ffc1bffbbef5427a7d014c4371dd892afe2e0a8589bcee66c9530f230ecc91d8b5c63e30f2cdabff52d535b10"),
		}},
	}
	wantPairOf(t, "a message that is heard, and known to be", impl.RunPair(configOf(false), events), want)
	want.Wires = [][][]byte{{
		fromHex(t, "000000007610b5196c160feca911e98c9c3de272fa91fdb73fa34603df69ed9a5bbcb32ddc434cacbca285244e88e994639cc69ce02161b7c59dfea1459f2916"),
		fromHex(t, "00000001c8b8e1c3401b316bc7a9bfc3f1fb8f0d9e232fc9f9dcaef63dd9fad9fc434dd07ab992c868af29db844f90e9d06f5d285a20a32f6e56d651c2928c11"),
	}, {
		fromHex(t, "0000000007d8cf1bae6eddc65db8a71998806493e01b1fc4ed934a9240059f67d70c9fd67d650070a3696f4173b86159682a3c7a6431725c0978279aba94b8ab"),
	}}
	wantPairOf(t, "the same, ideal", impl.RunPair(configOf(true), events), want)
	want = noPair()
	want.Ends[0] = impl.End{Slot: 1, Sender: impl.Sender{Parts: []impl.Part{part}}}
	want.Ends[1] = impl.End{Bad: 2}
	want.Accepted[0] = [][]byte{hello}
	want.Wires[0] = [][]byte{idealWireBy(listOf(32, 0, 1), 0, 0)}
	want.Codes = []int64{0, 0, 0, 0}
	wantPairOf(t, "a message that is turned twice", impl.RunPair(configOf(true), slices.Concat(events[:2], []impl.Event{turnOf(0, 0, 9, 1), turnOf(0, 0, 0, 255)})), want)
}

// Behind the end of an epoch another key is asked for.
func TestRunPairBehindAnEpoch(t *testing.T) {
	events := []impl.Event{sendOf(0, []byte("hello")), tickOf(0), comeOf(0, 0)}
	events = append(events, slices.Repeat([]impl.Event{tickOf(1)}, 17)...)
	_, sealed := bothWays(t, "17 ticks", events...)
	wire := fromHex(t, "00000010d77b18351d9639f2275235cbae801be96d08117a910bc974c28ef9afcdf13fee8c2fa4af4b8cbdb158c0fb21fd3befd2684732eb5615b4ad430c319e")
	if !bytes.Equal(sealed.Wires[1][16], wire) {
		t.Errorf("the wire of the slot 16 is %v; want %v", sealed.Wires[1][16], wire)
	}
}

// What has a code turns nothing: without it all else is the same.
func TestRunPairOfEventsWithAFault(t *testing.T) {
	events := []impl.Event{sendOf(0, listOf(40, 1, 1)), tickOf(0), sendOf(1, []byte{9}), tickOf(0), comeOf(0, 1), tickOf(1), comeOf(1, 0), comeOf(0, 0), tickOf(1), comeOf(1, 1)}
	for bad, code := range map[*impl.Event]int64{
		{}: impl.ErrForm, {Kind: 5}: impl.ErrForm, {Kind: -1, Side: 1}: impl.ErrForm, {Kind: 2, Slot: 1}: impl.ErrForm, {Kind: 2, Body: []byte{1}}: impl.ErrForm,
		{Kind: 1, Side: 2, Body: []byte{1}}: impl.ErrRange, {Kind: 2, Side: 2}: impl.ErrRange, {Kind: 2, Side: -1}: impl.ErrRange, {Kind: 3, Side: 2}: impl.ErrRange,
		{Kind: 3, Slot: -1}: impl.ErrRange, {Kind: 3, Slot: 401}: impl.ErrRange, {Kind: 4}: impl.ErrRange, {Kind: 4, Side: 2, Mask: 1}: impl.ErrRange,
		{Kind: 4, At: 64, Mask: 1}: impl.ErrRange, {Kind: 4, At: -1, Mask: 1}: impl.ErrRange, {Kind: 4, Slot: 401, Mask: 1}: impl.ErrRange, {Kind: 4, Mask: 256}: impl.ErrRange,
		{Kind: 1, Body: make([]byte, 1001)}: impl.ErrMany, {Kind: 1, Side: 1, Body: make([]byte, 1001)}: impl.ErrMany,
		// What follows has no fault, but does not fit.
		{Kind: 1}: impl.ErrMany, {Kind: 1, Side: 1, Body: make([]byte, 201)}: impl.ErrMany, {Kind: 1, Body: make([]byte, 1000)}: impl.ErrMany,
		{Kind: 3, Slot: 10}: impl.ErrNone, {Kind: 3, Side: 1, Slot: 400}: impl.ErrNone,
	} {
		for _, ideal := range []bool{false, true} {
			c := configOf(ideal)
			want := impl.RunPair(c, events).Pair
			for at := range len(events) + 1 {
				what := fmt.Sprintf("%s at %d, Ideal %v", eventName(*bad), at, ideal)
				got := wantRun(t, what, c, slices.Insert(slices.Clone(events), at, *bad))
				wantCodes(t, what, got, slices.Insert(slices.Clone(want.Codes), at, code)...)
				got.Codes = want.Codes
				if !samePair(got, want) {
					t.Errorf("%s: %s; without it %s", what, pairName(got), pairName(want))
				}
			}
			wantRun(t, eventName(*bad)+" alone", c, slices.Repeat([]impl.Event{*bad}, 200))
		}
	}
}

// A message that there is no room for is not Accepted, and those behind it that there is room for are.
func TestRunPairOfSendsThatAreRefused(t *testing.T) {
	long, short := listOf(200, 1, 1), []byte{5}
	for side := range int64(2) {
		events := []impl.Event{sendOf(side, long), sendOf(side, nil), sendOf(side, long), sendOf(side, listOf(201, 1, 1)), sendOf(side, long), sendOf(side, long[:97])}
		events = append(events, slices.Repeat([]impl.Event{sendOf(side, short)}, 4)...)
		events = append(events, sendOf(1-side, short))
		ideal, sealed := bothWays(t, fmt.Sprintf("sends of the side %d", side), events...)
		for _, got := range []impl.Pair{ideal, sealed} {
			wantCodes(t, "sends", got, 0, impl.ErrMany, 0, impl.ErrMany, 0, impl.ErrFull, 0, 0, 0, impl.ErrFull, 0)
			if !sameLists(got.Accepted[side], [][]byte{long, long, long, short, short, short}) || !sameLists(got.Accepted[1-side], [][]byte{short}) {
				t.Errorf("the side %d sent, and Accepted is %v", side, got.Accepted)
			}
			if len(got.Ends[side].Sender.Parts) != 24 || len(got.Ends[1-side].Sender.Parts) != 1 {
				t.Errorf("the side %d sent, and there are %s and %s", side, endName(got.Ends[0]), endName(got.Ends[1]))
			}
		}
	}
}

// All events there can be are ticks of one side.
func TestRunPairOfTicksAlone(t *testing.T) {
	for side := range int64(2) {
		events := slices.Repeat([]impl.Event{tickOf(side)}, 200)
		events[0] = sendOf(side, listOf(200, 1, 1))
		ideal, sealed := bothWays(t, fmt.Sprintf("ticks of the side %d", side), events...)
		for _, got := range []impl.Pair{ideal, sealed} {
			wantCodes(t, "ticks", got, make([]int64, 200)...)
			if len(got.Wires[side]) != 199 || len(got.Wires[1-side]) != 0 || got.Ends[side].Slot != 199 || got.Ends[1-side].Slot != 0 {
				t.Errorf("199 ticks of the side %d: %s", side, pairName(got))
			}
		}
	}
}

func TestRunPairOfWhatComes(t *testing.T) {
	one, two := []byte{1}, []byte{2, 2}
	for name, c := range map[string]struct {
		events []impl.Event
		codes  []int64
		got    [][][]byte
	}{
		"of no side that sent": {[]impl.Event{comeOf(0, 0), comeOf(1, 0)}, []int64{impl.ErrNone, impl.ErrNone}, [][][]byte{{}, {}}},
		"of a slot behind":     {[]impl.Event{sendOf(0, one), tickOf(0), comeOf(0, 1), comeOf(0, 400)}, []int64{0, 0, impl.ErrNone, impl.ErrNone}, [][][]byte{{}, {}}},
		"ahead of the tick":    {[]impl.Event{sendOf(0, one), comeOf(0, 0), tickOf(0)}, []int64{0, impl.ErrNone, 0}, [][][]byte{{}, {}}},
		"of the other side":    {[]impl.Event{sendOf(0, one), tickOf(0), comeOf(1, 0)}, []int64{0, 0, impl.ErrNone}, [][][]byte{{}, {}}},
		"once":                 {[]impl.Event{sendOf(0, one), tickOf(0), comeOf(0, 0)}, []int64{0, 0, 0}, [][][]byte{{}, {one}}},
		"of B, once":           {[]impl.Event{sendOf(1, two), tickOf(1), comeOf(1, 0)}, []int64{0, 0, 0}, [][][]byte{{two}, {}}},
		"three times":          {[]impl.Event{sendOf(0, one), tickOf(0), comeOf(0, 0), comeOf(0, 0), comeOf(0, 0)}, []int64{0, 0, 0, 0, 0}, [][][]byte{{}, {one}}},
		"in order":             {[]impl.Event{sendOf(0, one), sendOf(0, two), tickOf(0), tickOf(0), comeOf(0, 0), comeOf(0, 1)}, make([]int64, 6), [][][]byte{{}, {one, two}}},
		"the newer one ahead":  {[]impl.Event{sendOf(0, one), sendOf(0, two), tickOf(0), tickOf(0), comeOf(0, 1), comeOf(0, 0)}, make([]int64, 6), [][][]byte{{}, {one, two}}},
		"the newer one alone":  {[]impl.Event{sendOf(0, one), sendOf(0, two), tickOf(0), tickOf(0), comeOf(0, 1)}, make([]int64, 5), [][][]byte{{}, {}}},
		"an old one, late":     {[]impl.Event{sendOf(0, one), tickOf(0), sendOf(0, two), tickOf(0), tickOf(0), comeOf(0, 1), comeOf(0, 2), comeOf(0, 0), comeOf(0, 0)}, make([]int64, 9), [][][]byte{{}, {one, two}}},
		"the same slot of both": {
			[]impl.Event{sendOf(0, one), sendOf(1, two), tickOf(0), tickOf(1), comeOf(0, 0), comeOf(1, 0)}, make([]int64, 6), [][][]byte{{two}, {one}},
		},
		"the same slot, B ahead": {
			[]impl.Event{sendOf(1, two), tickOf(1), sendOf(0, one), comeOf(0, 0), tickOf(0), comeOf(1, 0), comeOf(0, 0)},
			[]int64{0, 0, 0, impl.ErrNone, 0, 0, 0}, [][][]byte{{two}, {one}},
		},
		"one side has more slots": {
			[]impl.Event{tickOf(1), sendOf(1, two), tickOf(1), comeOf(0, 1), comeOf(1, 1), tickOf(0), comeOf(0, 1), comeOf(0, 0)},
			[]int64{0, 0, 0, impl.ErrNone, 0, 0, impl.ErrNone, 0}, [][][]byte{{two}, {}},
		},
		"a dummy": {[]impl.Event{tickOf(0), comeOf(0, 0)}, []int64{0, 0}, [][][]byte{{}, {}}},
		"the part sent again, behind the first one": {
			append(append([]impl.Event{sendOf(0, one)}, slices.Repeat([]impl.Event{tickOf(0)}, 5)...), comeOf(0, 4), comeOf(0, 0)), make([]int64, 8), [][][]byte{{}, {one}},
		},
	} {
		ideal, sealed := bothWays(t, "what comes, "+name, c.events...)
		for _, got := range []impl.Pair{ideal, sealed} {
			wantCodes(t, "what comes, "+name, got, c.codes...)
			for side, want := range c.got {
				if !sameLists(got.Ends[side].Got, want) {
					t.Errorf("what comes, %s: the side %d got %v; want %v", name, side, got.Ends[side].Got, want)
				}
			}
		}
	}
}

// A slot that is sent is there ever after, and what comes of it is what was sent at that slot.
func TestRunPairOfEachSlotThatComes(t *testing.T) {
	for side := range int64(2) {
		events := []impl.Event{sendOf(side, listOf(200, 1, 1))}
		for range 99 {
			events = append(events, tickOf(side))
		}
		for slot := range int64(99) {
			events = append(events, comeOf(side, (slot*37+5)%99))
		}
		ideal, sealed := bothWays(t, fmt.Sprintf("each slot of the side %d", side), append(events, comeOf(side, 99))...)
		for _, got := range []impl.Pair{ideal, sealed} {
			wantCodes(t, "each slot", got, append(make([]int64, 199), impl.ErrNone)...)
			if !sameLists(got.Ends[1-side].Got, [][]byte{listOf(200, 1, 1)}) {
				t.Errorf("all of the side %d came: %s", side, pairName(got))
			}
		}
	}
}

func TestRunPairOfTurns(t *testing.T) {
	for side := range int64(2) {
		events := []impl.Event{
			turnOf(side, 0, 0, 1), sendOf(side, []byte{1}), tickOf(side), turnOf(side, 0, 0, 1), turnOf(side, 0, 63, 255), turnOf(side, 1, 5, 5),
			turnOf(1-side, 0, 5, 5), tickOf(1 - side), turnOf(1-side, 0, 5, 5), comeOf(side, 0), turnOf(side, 0, 3, 128), turnOf(side, 400, 5, 5),
		}
		ideal, sealed := bothWays(t, fmt.Sprintf("turns of the side %d", side), events...)
		wantCodes(t, "turns", ideal, impl.ErrNone, 0, 0, 0, 0, impl.ErrNone, impl.ErrNone, 0, 0, 0, 0, impl.ErrNone)
		state := int64(impl.ErrState)
		wantCodes(t, "turns", sealed, state, 0, 0, state, state, state, state, 0, state, 0, state, state)
		if ideal.Ends[1-side].Bad != 3 || ideal.Ends[side].Bad != 1 || sealed.Ends[0].Bad+sealed.Ends[1].Bad != 0 {
			t.Errorf("turns of the side %d: %s and %s", side, pairName(ideal), pairName(sealed))
		}
		if !sameLists(ideal.Ends[1-side].Got, [][]byte{{1}}) || !sameLists(sealed.Ends[1-side].Got, [][]byte{{1}}) {
			t.Errorf("turns of the side %d took what was heard: %s and %s", side, pairName(ideal), pairName(sealed))
		}
	}
}

// Wherever and however a cell is turned, it counts as bad once, and nothing else changes.
func TestRunPairOfEachTurn(t *testing.T) {
	begin := []impl.Event{sendOf(0, listOf(40, 1, 1)), tickOf(0), tickOf(0), comeOf(0, 1), sendOf(1, []byte{1}), tickOf(1)}
	for side := range int64(2) {
		want := impl.RunPair(configOf(true), begin).Pair
		want.Ends[1-side].Bad += 64
		want.Codes = append(want.Codes, make([]int64, 64)...)
		for mask := int64(1); mask <= 255; mask++ {
			events := slices.Clone(begin)
			for at := range int64(64) {
				events = append(events, turnOf(side, 0, at, mask))
			}
			wantPairOf(t, fmt.Sprintf("turns of the side %d by %d", side, mask), impl.RunPair(configOf(true), events), want)
		}
	}
	events := slices.Concat(begin, slices.Repeat([]impl.Event{turnOf(0, 1, 1, 1)}, 194))
	if got := wantRun(t, "as many turns as there can be", configOf(true), events); got.Ends[1].Bad != 194 {
		t.Errorf("behind 194 turns Bad is %d", got.Ends[1].Bad)
	}
}

// madeEvents are events as they may come; some have a fault, or do not fit.
func madeEvents(seed uint64, count int, turns bool) []impl.Event {
	chance := rand.New(rand.NewPCG(seed, 10))
	var out []impl.Event
	var sent [2]int64
	for range count {
		side := int64(chance.IntN(2))
		late := max(0, sent[side]-1-int64(chance.IntN(4)*chance.IntN(4)))
		switch roll := chance.IntN(20); {
		case roll < 4:
			out = append(out, sendOf(side, listOf([]int{1, 5, 32, 33, 70, 200, 0, 201}[chance.IntN(8)], byte(chance.IntN(256)), byte(chance.IntN(256)))))
		case roll < 11:
			out = append(out, tickOf(side))
			sent[side]++
		case roll < 17:
			out = append(out, comeOf(side, late))
		case roll < 18 && turns:
			out = append(out, turnOf(side, late, int64(chance.IntN(64)), 1+int64(chance.IntN(255))))
		case roll < 19:
			out = append(out, comeOf(side, sent[side]+int64(chance.IntN(2))))
		default:
			e := impl.Event{Kind: int64(chance.IntN(6)), Side: side + int64(chance.IntN(2)), Slot: int64(chance.IntN(3)), Mask: int64(chance.IntN(2))}
			if turns || e.Kind != 4 {
				out = append(out, e)
			}
		}
	}
	return out
}

func TestRunPairOfMadeEvents(t *testing.T) {
	seen := map[int64]int{}
	for seed := range uint64(60) {
		events := madeEvents(seed, []int{200, 120, 30, 199}[seed%4], seed%3 != 0)
		root := someRoots()[seed%5]
		for _, ideal := range []bool{false, true} {
			got := wantRun(t, fmt.Sprintf("the events made of %d, Ideal %v", seed, ideal), impl.Config{Ideal: ideal, Root: root}, events)
			for _, code := range got.Codes {
				seen[code]++
			}
		}
	}
	for _, code := range []int64{impl.OK, impl.ErrForm, impl.ErrMany, impl.ErrRange, impl.ErrNone, impl.ErrState, impl.ErrFull} {
		if seen[code] == 0 {
			t.Errorf("no event that was made has the code %d: %v", code, seen)
		}
	}
}

// Ideal or not, the ends, what was accepted, and the codes are the same, where nothing is turned.
func TestRunPairIdealOrNot(t *testing.T) {
	for seed := range uint64(30) {
		events, root := madeEvents(seed, 200, false), someRoots()[seed%5]
		ideal := impl.RunPair(impl.Config{Ideal: true, Root: root}, events).Pair
		sealed := impl.RunPair(impl.Config{Root: root}, events).Pair
		what := fmt.Sprintf("the events made of %d", seed)
		roots := impl.KeysOf(root, nil)
		for side, own := range [][]byte{roots.First, roots.Other} {
			other := [][]byte{roots.Other, roots.First}[side]
			for slot, wire := range sealed.Wires[side] {
				at := int64(slot)
				wantBytes(t, what+", the ideal wire", impl.IdealWire(root, int64(side), at), ideal.Wires[side][slot])
				opened := impl.OpenCell(impl.KeyAt(own, at).Key, wire)
				if opened.Code != impl.OK || opened.Slot != at {
					t.Errorf("%s: the wire %d of the side %d is opened with code %d, slot %d", what, slot, side, opened.Code, opened.Slot)
				}
				wantCellCode(t, what+", by the other side's root", impl.OpenCell(impl.KeyAt(other, at).Key, wire), impl.ErrSum)
			}
			if len(sealed.Wires[side]) != len(ideal.Wires[side]) || len(sealed.Wires[side]) < 17 {
				t.Errorf("%s: %d wires of the side %d, and ideal %d", what, len(sealed.Wires[side]), side, len(ideal.Wires[side]))
			}
		}
		ideal.Wires = sealed.Wires
		if !samePair(ideal, sealed) {
			t.Errorf("%s: %s, and ideal %s", what, pairName(sealed), pairName(ideal))
		}
	}
}

// The wires of an ideal pair do not hang on what is said.
func TestRunPairIdealWiresTellNothing(t *testing.T) {
	for seed := range uint64(10) {
		events := madeEvents(seed, 200, true)
		want := impl.RunPair(configOf(true), events).Pair.Wires
		silent := slices.DeleteFunc(slices.Clone(events), func(e impl.Event) bool { return e.Kind == 1 })
		if got := impl.RunPair(configOf(true), silent).Pair.Wires; !slices.EqualFunc(got, want, sameLists) {
			t.Errorf("the events made of %d have other wires when nothing is said", seed)
		}
	}
}

func begins(whole, begin [][]byte) bool {
	return len(begin) <= len(whole) && sameLists(whole[:len(begin)], begin)
}

// wantGoesOn is promise 11: what was done stays done, and what was heard stays heard.
func wantGoesOn(t *testing.T, what string, before, behind impl.Pair) {
	t.Helper()
	for side := range 2 {
		was, is := before.Ends[side], behind.Ends[side]
		if !begins(behind.Wires[side], before.Wires[side]) || !begins(behind.Accepted[side], before.Accepted[side]) || !begins(is.Got, was.Got) {
			t.Errorf("%s: the side %d goes back from %s to %s", what, side, pairName(before), pairName(behind))
		}
		if is.Slot < was.Slot || is.Bad < was.Bad || is.Sender.Base < was.Sender.Base || is.Receiver.Next < was.Receiver.Next {
			t.Errorf("%s: the side %d goes back from %s to %s", what, side, endName(was), endName(is))
		}
	}
	if len(behind.Codes) < len(before.Codes) || !slices.Equal(behind.Codes[:len(before.Codes)], before.Codes) {
		t.Errorf("%s: the codes %v became %v", what, before.Codes, behind.Codes)
	}
}

// Promise 11: what was done does not hang on what comes later; what was heard stays heard.
func TestRunPairGoesOn(t *testing.T) {
	for seed := range uint64(8) {
		c := impl.Config{Ideal: seed%2 == 0, Root: someRoots()[seed%5]}
		events, others := madeEvents(seed, 120, true), madeEvents(seed+100, 40, true)
		whole, said := noPair(), map[string]impl.Cell{}
		before := impl.RunPair(c, nil).Pair
		for count, e := range events {
			what := fmt.Sprintf("the first %d events made of %d", count+1, seed)
			behind := impl.RunPair(c, events[:count+1])
			whole.Codes = append(whole.Codes, pairStepBy(t, c, &whole, said, e))
			wantPairOf(t, what, behind, whole)
			wantGoesOn(t, what, before, behind.Pair)
			before = behind.Pair
			if count%10 == 0 {
				wantGoesOn(t, what+", and others", before, impl.RunPair(c, append(slices.Clone(events[:count+1]), others...)).Pair)
			}
		}
	}
}

// Whatever the way does, what is heard is what was said, in order, each once.
func TestRunPairHearsWhatWasSaid(t *testing.T) {
	heard := 0
	for seed := range uint64(60) {
		got := impl.RunPair(configOf(seed%2 == 0), madeEvents(seed, 200, true)).Pair
		for side, e := range got.Ends {
			heard += len(e.Got)
			if !begins(got.Accepted[1-side], e.Got) {
				t.Errorf("the events made of %d: %v was said, the side %d got %v", seed, got.Accepted[1-side], side, e.Got)
			}
		}
	}
	if heard < 200 {
		t.Errorf("%d messages were heard in all", heard)
	}
}
