package tests

import (
	"bytes"
	"fmt"
	"math"
	"slices"
	"testing"

	"loop.example/g00792/impl"
)

// anyWires are lists of bytes, no two of them the same.
func anyWires() [][][]byte {
	long := listOf(1001, 1, 1)
	return [][][]byte{
		nil, {nil}, {nil, nil}, {{0}}, {{0}, nil}, {nil, {0}}, {{0, 0}}, {{0}, {0}}, {{1}}, {{1}, {0}}, {{0}, {1}}, {{1, 2}, {3}}, {{1}, {2, 3}}, {{1, 2, 3}},
		{{1}, {2}, {3}}, {{3}, {2}, {1}}, {long}, {long[:1000]}, {long, long}, slices.Repeat([][]byte{{7}}, 201), slices.Repeat([][]byte{{7}}, 200),
		{make([]byte, 64)}, {make([]byte, 63)}, {idealWireBy(make([]byte, 32), 0, 0)}, {idealWireBy(make([]byte, 32), 1, 0)}, gotOf(40),
	}
}

// changedWires differ from wires in one thing alone.
func changedWires(wires [][]byte) map[string][][]byte {
	out := map[string][][]byte{
		"one more of no bytes":       append(copied(wires), nil),
		"one more":                   append(copied(wires), []byte{1}),
		"one more of no bytes ahead": append([][]byte{{}}, copied(wires)...),
		"one more ahead":             append([][]byte{{1}}, copied(wires)...),
	}
	for i, wire := range wires {
		if i > 2 && i < len(wires)-1 {
			continue
		}
		for name, bytes := range changedBodies(wire) {
			other := copied(wires)
			other[i] = bytes
			out[fmt.Sprintf("%s at %d", name, i)] = other
		}
		out[fmt.Sprintf("none at %d", i)] = slices.Delete(copied(wires), i, i+1)
	}
	if last := len(wires) - 1; last > 0 && !bytes.Equal(wires[0], wires[last]) {
		other := copied(wires)
		other[0], other[last] = other[last], other[0]
		out["the first and the last exchanged"] = other
	}
	return out
}

func TestSameWires(t *testing.T) {
	all := anyWires()
	for i, wires := range all {
		if !impl.SameWires(wires, copied(wires)) || !impl.SameWires(copied(wires), wires) || !impl.SameWires(wires, wires) {
			t.Errorf("SameWires of %v and its copy is false", wires)
		}
		for name, other := range changedWires(wires) {
			if impl.SameWires(wires, other) || impl.SameWires(other, wires) {
				t.Errorf("SameWires of %v, and other ones, %s, is true", wires, name)
			}
		}
		for k, other := range all {
			if got := impl.SameWires(wires, other); got != (i == k) {
				t.Errorf("SameWires of %v and %v is %v", wires, other, got)
			}
		}
	}
	for name, two := range map[string][2][][]byte{
		"no list, and an empty one":        {nil, {}},
		"an empty one with room":           {nil, make([][]byte, 0, 5)},
		"no bytes, and an empty list":      {{nil}, {{}}},
		"no bytes with room":               {{nil, {1}}, {listOf(9, 1, 1)[:0], {1}}},
		"the same with room behind":        {{{1}}, append(make([][]byte, 0, 5), listOf(9, 1, 1)[:1])},
		"lists of one memory, and another": {{{1}, {1}}, slices.Repeat([][]byte{{1}}, 2)},
	} {
		if !impl.SameWires(two[0], two[1]) || !impl.SameWires(two[1], two[0]) {
			t.Errorf("SameWires of %s is false", name)
		}
	}
}

func copiedPair(p impl.Pair) impl.Pair {
	var out impl.Pair
	for _, e := range p.Ends {
		out.Ends = append(out.Ends, copiedEnd(e))
	}
	for _, list := range p.Wires {
		out.Wires = append(out.Wires, copied(list))
	}
	for _, list := range p.Accepted {
		out.Accepted = append(out.Accepted, copied(list))
	}
	out.Codes = slices.Clone(p.Codes)
	return out
}

// busyPair has something of all, so that whatever changes shows.
func busyPair() impl.Pair {
	other := busyEnd()
	other.Slot, other.Got = 31, gotOf(2)
	return impl.Pair{
		Ends: []impl.End{busyEnd(), other}, Wires: [][][]byte{{{1, 2}, {3}}, {{4}}},
		Accepted: [][][]byte{{{5}}, {{6, 7}, {8}}}, Codes: []int64{0, 3, 8},
	}
}

// anyPairs are such as a run can make, and such as none can, and no two are the same.
func anyPairs() []impl.Pair {
	made := madeEvents(3, 40, true)
	out := []impl.Pair{
		{}, noPair(), busyPair(), impl.RunPair(configOf(true), made).Pair, impl.RunPair(configOf(false), made).Pair,
		{Codes: []int64{0}}, {Codes: []int64{0, 0}}, {Codes: []int64{1, 0}}, {Codes: []int64{0, 1}}, {Codes: []int64{math.MinInt64}}, {Codes: []int64{math.MaxInt64, 9}},
		{Codes: make([]int64, 201)}, {Codes: make([]int64, 200)},
		{Ends: make([]impl.End, 1)}, {Ends: make([]impl.End, 2)}, {Ends: make([]impl.End, 3)}, {Ends: []impl.End{busyEnd()}}, {Ends: []impl.End{busyEnd(), {}}},
		{Ends: []impl.End{{}, busyEnd()}}, {Ends: []impl.End{{Slot: -1}, {Bad: -1}}}, {Ends: []impl.End{{Slot: math.MinInt64, Sender: impl.Sender{Base: -1}}}},
	}
	for _, wires := range [][][][]byte{make([][][]byte, 1), make([][][]byte, 2), make([][][]byte, 3)} {
		out = append(out, impl.Pair{Wires: wires}, impl.Pair{Accepted: wires})
	}
	for _, wires := range anyWires()[1:] {
		out = append(out, impl.Pair{Wires: [][][]byte{wires}}, impl.Pair{Accepted: [][][]byte{wires}})
		out = append(out, impl.Pair{Wires: [][][]byte{wires, nil}}, impl.Pair{Accepted: [][][]byte{nil, wires}})
	}
	return out
}

// changedWireLists differ from lists in one thing alone.
func changedWireLists(lists [][][]byte) map[string][][][]byte {
	out := map[string][][][]byte{
		"a side more":              append(slices.Clone(lists), nil),
		"a side more with a list":  append(slices.Clone(lists), [][]byte{{1}}),
		"a side more ahead":        append([][][]byte{nil}, lists...),
		"a side more with no list": append([][][]byte{{nil}}, lists...),
	}
	for side, wires := range lists {
		for name, other := range changedWires(wires) {
			changed := slices.Clone(lists)
			changed[side] = other
			out[fmt.Sprintf("%s, of the side %d", name, side)] = changed
		}
		out[fmt.Sprintf("without the side %d", side)] = slices.Delete(slices.Clone(lists), side, side+1)
	}
	if len(lists) > 1 && !sameLists(lists[0], lists[1]) {
		out["the sides exchanged"] = slices.Insert(slices.Clone(lists[2:]), 0, lists[1], lists[0])
	}
	return out
}

// changedPairs differ from p in one thing alone.
func changedPairs(p impl.Pair) map[string]impl.Pair {
	out, change := changesOf(p, copiedPair)
	for side, e := range p.Ends {
		for name, end := range changedEnds(e) {
			change(fmt.Sprintf("the end %d, %s", side, name), func(p *impl.Pair) { p.Ends[side] = end })
		}
		change(fmt.Sprintf("without the end %d", side), func(p *impl.Pair) { p.Ends = slices.Delete(p.Ends, side, side+1) })
	}
	change("an end more", func(p *impl.Pair) { p.Ends = append(p.Ends, impl.End{}) })
	change("an end more ahead", func(p *impl.Pair) { p.Ends = append([]impl.End{{Slot: -1}}, p.Ends...) })
	if len(p.Ends) > 1 && !sameEnd(p.Ends[0], p.Ends[1]) {
		change("the ends exchanged", func(p *impl.Pair) { p.Ends[0], p.Ends[1] = p.Ends[1], p.Ends[0] })
	}
	for name, lists := range changedWireLists(p.Wires) {
		change("Wires, "+name, func(p *impl.Pair) { p.Wires = lists })
	}
	for name, lists := range changedWireLists(p.Accepted) {
		change("Accepted, "+name, func(p *impl.Pair) { p.Accepted = lists })
	}
	if !slices.EqualFunc(p.Wires, p.Accepted, sameLists) {
		change("Wires and Accepted exchanged", func(p *impl.Pair) { p.Wires, p.Accepted = p.Accepted, p.Wires })
	}
	for i := range p.Codes {
		for _, by := range []int64{1, -1, 256, 1 << 32, math.MinInt64} {
			change(fmt.Sprintf("the code %d by %d", i, by), func(p *impl.Pair) { p.Codes[i] += by })
		}
		change(fmt.Sprintf("without the code %d", i), func(p *impl.Pair) { p.Codes = slices.Delete(p.Codes, i, i+1) })
	}
	change("a code more", func(p *impl.Pair) { p.Codes = append(p.Codes, 0) })
	change("a code more ahead", func(p *impl.Pair) { p.Codes = append([]int64{9}, p.Codes...) })
	return out
}

func TestSamePairs(t *testing.T) {
	all := anyPairs()
	for i, p := range all {
		if !impl.SamePairs(p, copiedPair(p)) || !impl.SamePairs(copiedPair(p), p) || !impl.SamePairs(p, p) {
			t.Errorf("SamePairs of %s and its copy is false", pairName(p))
		}
		for k, other := range all {
			if got := impl.SamePairs(p, other); got != (i == k) {
				t.Errorf("SamePairs of %s and %s is %v", pairName(p), pairName(other), got)
			}
		}
		if len(p.Codes) > 50 {
			continue
		}
		for name, other := range changedPairs(p) {
			if impl.SamePairs(p, other) || impl.SamePairs(other, p) {
				t.Errorf("SamePairs of %s, and another one, %s, is true", pairName(p), name)
			}
		}
	}
}

// emptyPair is p with lists that are empty, where p has nil.
func emptyPair(p impl.Pair, room []byte) impl.Pair {
	p = copiedPair(p)
	for i := range p.Ends {
		p.Ends[i] = emptyLists(p.Ends[i], room)
	}
	for _, lists := range [][][][]byte{p.Wires, p.Accepted} {
		for side := range lists {
			for i := range lists[side] {
				if len(lists[side][i]) == 0 {
					lists[side][i] = room[:0]
				}
			}
			if len(lists[side]) == 0 {
				lists[side] = make([][]byte, 0, len(room))
			}
		}
	}
	if len(p.Ends) == 0 {
		p.Ends = make([]impl.End, 0, len(room))
	}
	if len(p.Wires) == 0 {
		p.Wires = make([][][]byte, 0, len(room))
	}
	if len(p.Accepted) == 0 {
		p.Accepted = make([][][]byte, 0, len(room))
	}
	if len(p.Codes) == 0 {
		p.Codes = make([]int64, 0, len(room))
	}
	return p
}

// An empty list and nil are the same.
func TestPairEmptyIsNil(t *testing.T) {
	for _, room := range [][]byte{{}, listOf(9, 1, 1)} {
		for _, p := range anyPairs() {
			if other := emptyPair(p, room); !impl.SamePairs(p, other) || !impl.SamePairs(other, p) {
				t.Errorf("%s with lists that are nil is another one with lists that are empty", pairName(p))
			}
		}
		for kind := int64(-1); kind <= 5; kind++ {
			for _, e := range []impl.Event{{Kind: kind}, {Kind: kind, Slot: 3}, {Kind: kind, Slot: 3, Mask: 4}} {
				other := e
				other.Body = room[:0]
				if impl.EventFault(e) != impl.EventFault(other) {
					t.Errorf("EventFault of %s hangs on its Body being nil", eventName(e))
				}
			}
		}
		events := madeEvents(5, 60, true)
		others := slices.Clone(events)
		for i := range others {
			if len(others[i].Body) == 0 {
				others[i].Body = room[:0]
			}
		}
		for _, ideal := range []bool{false, true} {
			one, two := impl.RunPair(configOf(ideal), events), impl.RunPair(configOf(ideal), others)
			if one.Code != two.Code || !samePair(one.Pair, two.Pair) {
				t.Errorf("RunPair, Ideal %v, hangs on a Body being nil", ideal)
			}
		}
	}
}

// pairCalls are calls of each function with an answer, and with each code.
func pairCalls() map[string][]call {
	out := map[string][]call{}
	add := func(name string, args ...any) { out[name] = append(out[name], args) }
	long := listOf(1001, 1, 1)
	for _, ideal := range []bool{false, true} {
		for _, root := range [][]byte{nil, long[:31], long[:32], listOf(33, 1, 1), listOf(32, 9, 3)} {
			c := impl.Config{Ideal: ideal, Root: root}
			add("ConfigFault", c)
			for _, events := range [][]impl.Event{
				nil, madeEvents(1, 60, true), madeEvents(2, 90, false), make([]impl.Event, 201), {sendOf(0, long[:40])},
				// The Bodies are of one memory, and that is the root's, too.
				{sendOf(0, long[:200]), sendOf(1, long[:40]), sendOf(0, long[:40]), tickOf(0), tickOf(1), comeOf(0, 0), comeOf(1, 0), tickOf(0), comeOf(0, 1), turnOf(0, 1, 1, 1), sendOf(1, long)},
			} {
				add("RunPair", c, events)
			}
		}
	}
	for _, root := range [][]byte{nil, long[:31], long[:32], listOf(33, 1, 1)} {
		for _, side := range []int64{-1, 0, 1, 2} {
			for _, slot := range []int64{-1, 0, 300, 400, 401} {
				add("IdealWire", root, side, slot)
			}
		}
	}
	for _, size := range []int{0, 1, 1000, 1001} {
		for kind := range int64(6) {
			add("EventFault", impl.Event{Kind: kind, Body: long[:size]})
			add("EventFault", impl.Event{Kind: kind, Side: 2, Body: long[:size], Mask: 1})
		}
	}
	for _, wires := range anyWires() {
		add("SameWires", wires, wires)
		add("SameWires", wires, copied(wires))
		add("SameWires", wires, [][]byte{{1}, {2, 3}})
	}
	for i, p := range anyPairs() {
		if i < 25 {
			add("SamePairs", p, p)
			add("SamePairs", p, copiedPair(p))
			add("SamePairs", p, busyPair())
		}
	}
	return out
}

// Promise 1, of all functions of the chapter.
func TestPairFirstPromise(t *testing.T) {
	for name, calls := range pairCalls() {
		function := map[string]any{
			"ConfigFault": impl.ConfigFault, "EventFault": impl.EventFault, "IdealWire": impl.IdealWire,
			"RunPair": impl.RunPair, "SameWires": impl.SameWires, "SamePairs": impl.SamePairs,
		}[name]
		checkFirstPromise(t, name, function, calls)
	}
}
