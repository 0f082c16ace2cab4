package tests

import (
	"bytes"
	"fmt"
	"math/rand/v2"
	"slices"
	"testing"

	"loop.example/g00792/impl"
)

// wantShape is what IsShaped says, by the tests' own reckoning.
func wantShape(t *testing.T, what string, events []impl.Event, p impl.Pair) {
	t.Helper()
	var ticks [2]int
	for i, e := range events {
		if e.Kind == 2 && p.Codes[i] == impl.OK {
			ticks[e.Side]++
		}
	}
	for side, wires := range p.Wires {
		if len(wires) != ticks[side] {
			t.Errorf("%s: %d wires of the side %d, which ticked %d times", what, len(wires), side, ticks[side])
		}
		for place, wire := range wires {
			if len(wire) != 64 || !bytes.Equal(wire[:4], headBy(int64(place))) {
				t.Errorf("%s: the wire at %d of the side %d is %v", what, place, side, wire)
			}
		}
	}
}

// wantBegun is what IsPrefix says: what was heard begins what was said.
func wantBegun(t *testing.T, what string, p impl.Pair) {
	t.Helper()
	for side, e := range p.Ends {
		if !begins(p.Accepted[1-side], e.Got) {
			t.Errorf("%s: %v was said, the side %d got %v", what, p.Accepted[1-side], side, e.Got)
		}
	}
}

// wantSilent is what IsApart says: of both pairs all see the same.
func wantSilent(t *testing.T, what string, ideal bool, p, muted impl.Pair) {
	t.Helper()
	for side, wires := range p.Wires {
		if len(wires) != len(muted.Wires[side]) {
			t.Fatalf("%s: %d wires of the side %d, and muted %d", what, len(wires), side, len(muted.Wires[side]))
		}
		for place, wire := range wires {
			other := muted.Wires[side][place]
			if !bytes.Equal(wire[:4], other[:4]) || ideal && !bytes.Equal(wire, other) {
				t.Errorf("%s: the wire at %d of the side %d is %v, and muted %v", what, place, side, wire, other)
			}
		}
	}
}

// wantAll asks the three checks, which are all so or not.
func wantAll(t *testing.T, what string, c impl.Config, events []impl.Event, want bool) {
	t.Helper()
	shaped, prefix, apart := impl.IsShaped(c, events), impl.IsPrefix(c, events), impl.IsApart(c, events)
	if shaped != want || prefix != want || apart != want {
		t.Errorf("%s, Ideal %v: IsShaped %v, IsPrefix %v, IsApart %v; want %v", what, c.Ideal, shaped, prefix, apart, want)
	}
}

// wantPromised is promise 12, but for its end: it asks the checks, and holds that what they say is so.
func wantPromised(t *testing.T, what string, c impl.Config, events []impl.Event) {
	t.Helper()
	wantAll(t, what, c, events, true)
	told, muted := impl.RunPair(c, events), impl.RunPair(c, mutedBy(events))
	if told.Code != impl.OK || muted.Code != impl.OK {
		t.Fatalf("%s: RunPair has the code %d, and muted %d", what, told.Code, muted.Code)
	}
	wantShape(t, what, events, told.Pair)
	wantShape(t, what+", muted", mutedBy(events), muted.Pair)
	wantBegun(t, what, told.Pair)
	wantSilent(t, what, c.Ideal, told.Pair, muted.Pair)
}

// typedLists are events of all that the way can do, by their names.
func typedLists() map[string][]impl.Event {
	one, two, long := []byte{1}, []byte{2, 2}, listOf(200, 1, 1)
	type list = []impl.Event
	said := list{sendOf(0, one), sendOf(1, two), tickOf(0), tickOf(1)}
	return map[string]list{
		"nil":                          nil,
		"no events":                    {},
		"a tick of A":                  {tickOf(0)},
		"a tick of B":                  {tickOf(1)},
		"ticks of A":                   slices.Repeat(list{tickOf(0)}, 20),
		"ticks of B":                   slices.Repeat(list{tickOf(1)}, 20),
		"ticks of both":                slices.Repeat(list{tickOf(0), tickOf(1), tickOf(1)}, 12),
		"all ticks that there can be":  slices.Repeat(list{tickOf(1)}, 200),
		"sends without a tick":         {sendOf(0, one), sendOf(1, two), sendOf(0, long)},
		"a send with nothing to say":   {sendOf(0, nil)},
		"sends with nothing to say":    {sendOf(0, nil), tickOf(0), sendOf(1, []byte{}), comeOf(0, 0), tickOf(1)},
		"sends that are refused":       {sendOf(0, make([]byte, 201)), sendOf(1, make([]byte, 1001)), sendOf(2, one), tickOf(0), tickOf(1), comeOf(0, 0)},
		"no send":                      {tickOf(0), tickOf(1), comeOf(0, 0), comeOf(1, 0), tickOf(0)},
		"ticks with a fault":           {tickOf(0), {Kind: 2, Slot: 1}, tickOf(1), tickOf(2), {Kind: 2, Side: 1, Body: one}, tickOf(0), tickOf(-1), {Kind: 2, Mask: 1}},
		"ticks with a fault alone":     {{Kind: 2, Slot: 1}, {Kind: 2, Side: 1, At: 1}, tickOf(2)},
		"sends and ticks with a fault": {sendOf(0, one), {Kind: 2, Slot: 1}, sendOf(1, two), tickOf(0), {Kind: 2, Side: 1, At: 1}, tickOf(1), comeOf(0, 0), comeOf(1, 0)},
		"no kinds":                     {{}, {Kind: 5}, sendOf(0, one), tickOf(0), {Kind: -1, Side: 1}},
		"what was sent is lost":        said,
		"what was sent comes":          append(slices.Clone(said), comeOf(0, 0), comeOf(1, 0)),
		"it comes again":               append(slices.Clone(said), comeOf(0, 0), comeOf(0, 0), comeOf(1, 0), comeOf(1, 0), comeOf(0, 0)),
		"it comes late":                append(slices.Clone(said), tickOf(0), tickOf(0), comeOf(0, 2), comeOf(0, 1), comeOf(0, 0), tickOf(1), comeOf(1, 1), comeOf(1, 0)),
		"it is turned":                 append(slices.Clone(said), turnOf(0, 0, 9, 1), turnOf(1, 0, 63, 255)),
		"it is turned, and comes":      append(slices.Clone(said), turnOf(0, 0, 9, 1), comeOf(0, 0), turnOf(0, 0, 9, 1), turnOf(1, 0, 0, 1)),
		"what was not sent comes":      append(slices.Clone(said), comeOf(0, 1), comeOf(1, 400), turnOf(0, 1, 1, 1), comeOf(0, 0)),
		"a message of several parts":   append(slices.Repeat(list{tickOf(0)}, 3), sendOf(0, long), tickOf(0), comeOf(0, 3), tickOf(0), comeOf(0, 4), tickOf(1), comeOf(1, 0)),
		"its parts, the other way":     {sendOf(1, long[:70]), tickOf(1), tickOf(1), tickOf(1), comeOf(1, 2), comeOf(1, 1), comeOf(1, 0)},
		"more than there is room for":  {sendOf(0, long), sendOf(0, long), sendOf(0, long), sendOf(0, long), sendOf(0, one), tickOf(0), comeOf(0, 0)},
		"several messages":             {sendOf(0, one), sendOf(0, two), sendOf(0, one), tickOf(0), tickOf(0), tickOf(0), comeOf(0, 0), comeOf(0, 1), comeOf(0, 2)},
		"the same message of both":     {sendOf(0, one), sendOf(1, one), tickOf(0), tickOf(1), comeOf(0, 0), comeOf(1, 0)},
		"said behind all ticks":        {tickOf(0), comeOf(0, 0), tickOf(1), comeOf(1, 0), sendOf(0, one), sendOf(1, two)},
		"said between what is sent":    {tickOf(0), sendOf(0, one), tickOf(0), sendOf(0, two), tickOf(0), comeOf(0, 1), sendOf(1, two), comeOf(0, 2), tickOf(1), comeOf(1, 0)},
		"as many events as there can be": slices.Repeat(list{
			sendOf(0, one), tickOf(0), comeOf(0, 0), sendOf(1, two), tickOf(1), comeOf(1, 3), tickOf(0), comeOf(0, 5),
		}, 25),
	}
}

func TestChecksOfTypedEvents(t *testing.T) {
	for name, events := range typedLists() {
		for _, ideal := range []bool{false, true} {
			for _, root := range [][]byte{listOf(32, 0, 1), make([]byte, 32), bytes.Repeat([]byte{255}, 32)} {
				wantPromised(t, name, impl.Config{Ideal: ideal, Root: root}, events)
			}
		}
	}
}

func TestChecksAreFalseWithACode(t *testing.T) {
	lists := map[string][]impl.Event{"nil": nil, "a send": {sendOf(0, []byte{1})}, "a tick": {tickOf(1)}, "made": madeEvents(1, 200, true)}
	for name, e := range map[string]impl.Event{"ticks": tickOf(0), "sends": sendOf(0, []byte{1}), "events that come": comeOf(0, 0), "zero events": {}} {
		for _, ideal := range []bool{false, true} {
			for _, count := range []int{1, 199, 200, 201, 202, 400, 1001} {
				events := slices.Repeat([]impl.Event{e}, count)
				wantAll(t, fmt.Sprintf("%d %s", count, name), configOf(ideal), events, count <= 200)
				wantAll(t, fmt.Sprintf("%d %s, no root", count, name), impl.Config{Ideal: ideal}, events, false)
			}
			// Those that are muted would be few enough.
			few := append(slices.Repeat([]impl.Event{sendOf(0, []byte{1})}, 200), e)
			wantAll(t, "200 sends, and one of "+name, configOf(ideal), few, false)
		}
	}
	for name, events := range lists {
		for _, ideal := range []bool{false, true} {
			for _, root := range notHashSize() {
				wantAll(t, fmt.Sprintf("%s, by %d bytes", name, len(root)), impl.Config{Ideal: ideal, Root: root}, events, false)
			}
			wantAll(t, name, configOf(ideal), events, true)
		}
	}
}

// The cells of a pair that is not ideal hold something: from their first 4 bytes on they are others than the muted ones.
func TestIsApartOfCellsThatHoldSomething(t *testing.T) {
	for side := range int64(2) {
		c, events := configOf(false), []impl.Event{sendOf(side, listOf(70, 1, 1)), tickOf(side), tickOf(side), tickOf(side), tickOf(side)}
		told, muted := impl.RunPair(c, events).Pair, impl.RunPair(c, events[1:]).Pair
		for slot := range 4 {
			one, other := told.Wires[side][slot], muted.Wires[side][slot]
			if !bytes.Equal(one[:4], other[:4]) || bytes.Equal(one[4:], other[4:]) != (slot == 3) {
				t.Errorf("the wire at %d of the side %d is %v, and muted %v", slot, side, one, other)
			}
		}
		wantPromised(t, "cells that hold something", c, events)
		wantPromised(t, "cells that hold nothing", c, events[1:])
		c.Ideal = true
		wantPromised(t, "cells that hold something", c, events)
	}
}

// drawnEvents are a talk on a bad way: of what is sent some is lost, some turned, and some comes late, or again.
func drawnEvents(seed uint64, count int) []impl.Event {
	chance := rand.New(rand.NewPCG(seed, 11))
	lost, late, talk := chance.IntN(70), chance.IntN(60), 5+chance.IntN(40)
	var out, later []impl.Event
	var slots [2]int64
	for len(out) < count-2 {
		side := int64(chance.IntN(2))
		if chance.IntN(100) < talk {
			out = append(out, sendOf(side, listOf(chance.IntN(210), byte(chance.IntN(256)), 1)))
		}
		out = append(out, tickOf(side))
		comes := comeOf(side, slots[side])
		slots[side]++
		switch roll := chance.IntN(100); {
		case roll < lost:
			out = append(out, turnOf(side, comes.Slot, int64(roll%64), 1+int64(roll)))
		case chance.IntN(100) < late:
			later = append(later, comes, comes)
		case roll < 90:
			out = append(out, comes)
		}
		if at := chance.IntN(20); at < len(later) && len(out) < count {
			out = append(out, later[at])
			later = slices.Delete(later, at, at+1)
		}
	}
	return out[:min(len(out), count)]
}

// Promise 12, but for its end: TestAllIsHeardInTheEnd has that.
func TestChecksOfDrawnEvents(t *testing.T) {
	heard := 0
	for seed := range uint64(80) {
		made := [][]impl.Event{madeEvents(seed, 200, true), drawnEvents(seed, 200)}[seed%2]
		for _, ideal := range []bool{true, false} {
			if !ideal && seed%8 > 1 {
				continue
			}
			c := impl.Config{Ideal: ideal, Root: someRoots()[seed%5]}
			wantPromised(t, fmt.Sprintf("the events made of %d", seed), c, made)
			for _, e := range impl.RunPair(c, made).Pair.Ends {
				heard += len(e.Got)
			}
		}
	}
	if heard < 300 {
		t.Errorf("%d messages were heard in all", heard)
	}
}
