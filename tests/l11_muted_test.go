package tests

import (
	"bytes"
	"fmt"
	"math"
	"math/rand/v2"
	"slices"
	"testing"

	"loop.example/g00792/impl"
)

func sameEvent(a, b impl.Event) bool {
	return a.Kind == b.Kind && a.Side == b.Side && bytes.Equal(a.Body, b.Body) && a.Slot == b.Slot && a.At == b.At && a.Mask == b.Mask
}

func mutedBy(events []impl.Event) []impl.Event {
	return slices.DeleteFunc(slices.Clone(events), func(e impl.Event) bool { return e.Kind == 1 })
}

func eventNames(events []impl.Event) string {
	names := fmt.Sprintf("%d events", len(events))
	for _, e := range events[:min(len(events), 9)] {
		names += ", " + eventName(e)
	}
	return names
}

func wantMuted(t *testing.T, what string, events, want []impl.Event) {
	t.Helper()
	got := impl.MutedEvents(events)
	if got.Code != impl.OK || !slices.EqualFunc(got.Events, want, sameEvent) {
		t.Errorf("MutedEvents of %s: code %d, %s; want code 0, %s", what, got.Code, eventNames(got.Events), eventNames(want))
	}
}

func wantMutedCode(t *testing.T, what string, events []impl.Event) {
	t.Helper()
	if got := impl.MutedEvents(events); got.Code != impl.ErrMany || len(got.Events) != 0 {
		t.Errorf("MutedEvents of %s: code %d, %s; want code %d, no events", what, got.Code, eventNames(got.Events), impl.ErrMany)
	}
}

func TestMutedEventsTyped(t *testing.T) {
	one, two, over := []byte{1}, []byte{2, 2}, make([]byte, 1001)
	type list = []impl.Event
	for name, c := range map[string]struct{ events, want list }{
		"nil":                     {nil, nil},
		"no events":               {list{}, nil},
		"send alone":              {list{sendOf(0, one)}, nil},
		"send of no bytes alone":  {list{sendOf(1, nil)}, nil},
		"sends alone":             {list{sendOf(0, one), sendOf(1, two), sendOf(0, one)}, nil},
		"a tick alone":            {list{tickOf(1)}, list{tickOf(1)}},
		"no send":                 {list{tickOf(1), comeOf(1, 0), turnOf(1, 0, 9, 8), tickOf(0)}, list{tickOf(1), comeOf(1, 0), turnOf(1, 0, 9, 8), tickOf(0)}},
		"the same ones":           {list{tickOf(1), tickOf(1), comeOf(0, 3), comeOf(0, 3)}, list{tickOf(1), tickOf(1), comeOf(0, 3), comeOf(0, 3)}},
		"send first":              {list{sendOf(0, one), tickOf(0), comeOf(0, 0)}, list{tickOf(0), comeOf(0, 0)}},
		"send last":               {list{tickOf(0), comeOf(0, 0), sendOf(1, one)}, list{tickOf(0), comeOf(0, 0)}},
		"send between":            {list{tickOf(0), sendOf(0, one), comeOf(0, 0)}, list{tickOf(0), comeOf(0, 0)}},
		"sends between":           {list{tickOf(0), sendOf(0, one), sendOf(1, two), comeOf(0, 0)}, list{tickOf(0), comeOf(0, 0)}},
		"sends and others":        {list{sendOf(0, one), tickOf(0), sendOf(1, two), sendOf(1, two), tickOf(1), sendOf(0, one)}, list{tickOf(0), tickOf(1)}},
		"a zero event":            {list{sendOf(0, one), {}, sendOf(0, one)}, list{{}}},
		"Kinds that are none":     {list{{Kind: 5}, {Kind: -1}, sendOf(0, one), {Kind: 0, Side: 1}}, list{{Kind: 5}, {Kind: -1}, {Kind: 0, Side: 1}}},
		"the least Kind":          {list{{Kind: math.MinInt64}, sendOf(0, nil)}, list{{Kind: math.MinInt64}}},
		"the greatest Kind":       {list{sendOf(0, nil), {Kind: math.MaxInt64}}, list{{Kind: math.MaxInt64}}},
		"Kind 1 by 32 bits":       {list{{Kind: 1<<32 + 1, Body: one}, {Kind: 257}}, list{{Kind: 1<<32 + 1, Body: one}, {Kind: 257}}},
		"a Body of another Kind":  {list{{Kind: 2, Body: two}, {Kind: 9, Body: over}}, list{{Kind: 2, Body: two}, {Kind: 9, Body: over}}},
		"all there can be of one": {list{{Kind: -7, Side: -6, Body: two, Slot: -5, At: 1 << 40, Mask: 999}}, list{{Kind: -7, Side: -6, Body: two, Slot: -5, At: 1 << 40, Mask: 999}}},
		"sends with a fault": {
			list{sendOf(2, one), sendOf(0, over), {Kind: 1, Slot: 1}, {Kind: 1, At: 1}, tickOf(0), {Kind: 1, Mask: -1, Body: one}, sendOf(math.MinInt64, nil)}, list{tickOf(0)},
		},
		"others with a fault": {
			list{tickOf(2), comeOf(0, 401), turnOf(0, 0, 64, 0), sendOf(0, one), {Kind: 3, Body: one}}, list{tickOf(2), comeOf(0, 401), turnOf(0, 0, 64, 0), {Kind: 3, Body: one}},
		},
		"what does not fit": {list{comeOf(1, 7), sendOf(0, nil), turnOf(0, 7, 1, 1)}, list{comeOf(1, 7), turnOf(0, 7, 1, 1)}},
	} {
		wantMuted(t, name, c.events, c.want)
		if by := mutedBy(c.events); !slices.EqualFunc(by, c.want, sameEvent) {
			t.Errorf("the tests reckon the muted events of %s as %s; want %s", name, eventNames(by), eventNames(c.want))
		}
	}
}

// All events are counted, those that would be left out too.
func TestMutedEventsMany(t *testing.T) {
	sends, ticks := slices.Repeat([]impl.Event{sendOf(0, []byte{1})}, 1001), slices.Repeat([]impl.Event{tickOf(1)}, 1001)
	none, mixed := make([]impl.Event, 1001), slices.Repeat([]impl.Event{tickOf(1), sendOf(0, []byte{1}), sendOf(1, nil)}, 334)
	for _, count := range []int{198, 199, 200} {
		wantMuted(t, fmt.Sprintf("%d sends", count), sends[:count], nil)
		wantMuted(t, fmt.Sprintf("%d ticks", count), ticks[:count], ticks[:count])
		wantMuted(t, fmt.Sprintf("%d zero events", count), none[:count], none[:count])
		wantMuted(t, fmt.Sprintf("%d events", count), mixed[:count], ticks[:(count+2)/3])
		wantMuted(t, fmt.Sprintf("%d events, a tick last", count), append(slices.Clone(sends[:count-1]), tickOf(1)), ticks[:1])
		wantMuted(t, fmt.Sprintf("%d events, a send last", count), append(slices.Clone(ticks[:count-1]), sends[0]), ticks[:count-1])
	}
	for _, count := range []int{201, 202, 256, 400, 456, 1001} {
		wantMutedCode(t, fmt.Sprintf("%d sends", count), sends[:count])
		wantMutedCode(t, fmt.Sprintf("%d ticks", count), ticks[:count])
		wantMutedCode(t, fmt.Sprintf("%d zero events", count), none[:count])
		wantMutedCode(t, fmt.Sprintf("%d events", count), mixed[:count])
		wantMutedCode(t, fmt.Sprintf("%d events, a tick last", count), append(slices.Clone(sends[:count-1]), tickOf(1)))
		wantMutedCode(t, fmt.Sprintf("%d events, a send last", count), append(slices.Clone(ticks[:count-1]), sends[0]))
	}
}

// Whatever an event has, its Kind alone says whether it stays.
func TestMutedEventsOfAny(t *testing.T) {
	var events []impl.Event
	left := 0
	for e := range anyEvents {
		if events = append(events, e); len(events) < 200 {
			continue
		}
		wantMuted(t, "any events", events, mutedBy(events))
		left += len(impl.MutedEvents(events).Events)
		events = events[:0]
	}
	if left < 100000 {
		t.Errorf("%d events were left in all", left)
	}
}

func TestMutedEventsOfEachPlace(t *testing.T) {
	var ticks []impl.Event
	for n := range int64(199) {
		ticks = append(ticks, comeOf(n%2, n))
	}
	for at := range len(ticks) + 1 {
		wantMuted(t, fmt.Sprintf("a send at %d", at), slices.Insert(slices.Clone(ticks), at, sendOf(0, []byte{1})), ticks)
	}
	chance := rand.New(rand.NewPCG(11, 1))
	for seed := range uint64(40) {
		drawn, of := slices.Clone(ticks), 1+chance.IntN(9)
		for i := range drawn {
			if chance.IntN(10) < of {
				drawn[i] = sendOf(int64(i%2), listOf(i, 1, 1))
			}
		}
		wantMuted(t, "drawn places", drawn, mutedBy(drawn))
		made := madeEvents(seed, 200, true)
		muted := impl.MutedEvents(made).Events
		wantMuted(t, "made events", made, mutedBy(made))
		wantMuted(t, "muted events", muted, muted)
	}
}
