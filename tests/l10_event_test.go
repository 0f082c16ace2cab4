package tests

import (
	"bytes"
	"fmt"
	"math"
	"slices"
	"testing"

	"loop.example/g00792/impl"
)

func sendOf(side int64, body []byte) impl.Event {
	return impl.Event{Kind: 1, Side: side, Body: body}
}

func tickOf(side int64) impl.Event {
	return impl.Event{Kind: 2, Side: side}
}

func comeOf(side, slot int64) impl.Event {
	return impl.Event{Kind: 3, Side: side, Slot: slot}
}

func turnOf(side, slot, at, mask int64) impl.Event {
	return impl.Event{Kind: 4, Side: side, Slot: slot, At: at, Mask: mask}
}

func eventName(e impl.Event) string {
	return fmt.Sprintf("an event of Kind %d, Side %d, %d bytes, Slot %d, At %d, Mask %d", e.Kind, e.Side, len(e.Body), e.Slot, e.At, e.Mask)
}

// neededBy has what events of each kind need.
var neededBy = map[int64][]string{1: {"Body"}, 2: {}, 3: {"Slot"}, 4: {"Slot", "At", "Mask"}}

func eventFaultBy(e impl.Event) int64 {
	needed, is := neededBy[e.Kind]
	for name, has := range map[string]bool{"Body": len(e.Body) > 0, "Slot": e.Slot != 0, "At": e.At != 0, "Mask": e.Mask != 0} {
		if !is || has && !slices.Contains(needed, name) {
			return impl.ErrForm
		}
	}
	for name, so := range map[string]bool{"Slot": e.Slot >= 0 && e.Slot < 401, "At": e.At >= 0 && e.At < 64, "Mask": e.Mask > 0 && e.Mask < 256} {
		if slices.Contains(needed, name) && !so {
			return impl.ErrRange
		}
	}
	if e.Side < 0 || e.Side > 1 {
		return impl.ErrRange
	}
	if len(e.Body) > 1000 {
		return impl.ErrMany
	}
	return impl.OK
}

func TestPairNumbers(t *testing.T) {
	got := []int64{impl.SideA, impl.SideB, impl.EvSend, impl.EvTick, impl.EvCome, impl.EvTurn, impl.MaxEvents}
	if !slices.Equal(got, []int64{0, 1, 1, 2, 3, 4, 200}) {
		t.Errorf("the numbers of pairs are %v", got)
	}
}

func TestConfigFault(t *testing.T) {
	for _, ideal := range []bool{false, true} {
		for _, root := range append(someRoots(), listOf(1001, 1, 1)[:32]) {
			if got := impl.ConfigFault(impl.Config{Ideal: ideal, Root: root}); got != impl.OK {
				t.Errorf("ConfigFault of %v, Ideal %v: %d", root, ideal, got)
			}
		}
		for _, root := range notHashSize() {
			if got := impl.ConfigFault(impl.Config{Ideal: ideal, Root: root}); got != impl.ErrRange {
				t.Errorf("ConfigFault of %d bytes, Ideal %v: %d; want %d", len(root), ideal, got, impl.ErrRange)
			}
		}
	}
}

func TestEventFaultTyped(t *testing.T) {
	body, much, over := []byte{7}, make([]byte, 1000), make([]byte, 1001)
	for name, c := range map[string]struct {
		event impl.Event
		want  int64
	}{
		"zero":                       {impl.Event{}, impl.ErrForm},
		"Kind 5":                     {impl.Event{Kind: 5}, impl.ErrForm},
		"Kind -1":                    {impl.Event{Kind: -1}, impl.ErrForm},
		"the least Kind":             {impl.Event{Kind: math.MinInt64}, impl.ErrForm},
		"the greatest Kind":          {impl.Event{Kind: math.MaxInt64}, impl.ErrForm},
		"Kind 1 by 32 bits":          {impl.Event{Kind: 1<<32 + 1}, impl.ErrForm},
		"send":                       {sendOf(0, body), impl.OK},
		"send of the other side":     {sendOf(1, body), impl.OK},
		"send of no bytes":           {sendOf(1, nil), impl.OK},
		"send of 201 bytes":          {sendOf(1, over[:201]), impl.OK},
		"send of 1000 bytes":         {sendOf(1, much), impl.OK},
		"send of 1001 bytes":         {sendOf(1, over), impl.ErrMany},
		"send of side -1":            {sendOf(-1, body), impl.ErrRange},
		"send of side 2":             {sendOf(2, body), impl.ErrRange},
		"send with a Slot":           {impl.Event{Kind: 1, Body: body, Slot: 1}, impl.ErrForm},
		"send with a Slot of -1":     {impl.Event{Kind: 1, Body: body, Slot: -1}, impl.ErrForm},
		"send with At":               {impl.Event{Kind: 1, Body: body, At: 1}, impl.ErrForm},
		"send with a Mask":           {impl.Event{Kind: 1, Body: body, Mask: 1}, impl.ErrForm},
		"tick":                       {tickOf(0), impl.OK},
		"tick of the other side":     {tickOf(1), impl.OK},
		"tick of no bytes":           {impl.Event{Kind: 2, Body: []byte{}}, impl.OK},
		"tick of side -1":            {tickOf(-1), impl.ErrRange},
		"tick of side 2":             {tickOf(2), impl.ErrRange},
		"tick with a Body":           {impl.Event{Kind: 2, Body: body}, impl.ErrForm},
		"tick with a Body of 1001":   {impl.Event{Kind: 2, Body: over}, impl.ErrForm},
		"tick with a Slot":           {impl.Event{Kind: 2, Slot: 1}, impl.ErrForm},
		"tick with At":               {impl.Event{Kind: 2, At: 1}, impl.ErrForm},
		"tick with a Mask":           {impl.Event{Kind: 2, Mask: 1}, impl.ErrForm},
		"come":                       {comeOf(0, 0), impl.OK},
		"come of the other side":     {comeOf(1, 7), impl.OK},
		"come of the last slot":      {comeOf(1, 400), impl.OK},
		"come of slot 401":           {comeOf(1, 401), impl.ErrRange},
		"come of slot -1":            {comeOf(1, -1), impl.ErrRange},
		"come of the least slot":     {comeOf(1, math.MinInt64), impl.ErrRange},
		"come of the greatest slot":  {comeOf(1, math.MaxInt64), impl.ErrRange},
		"come of side -1":            {comeOf(-1, 7), impl.ErrRange},
		"come of side 2":             {comeOf(2, 7), impl.ErrRange},
		"come with a Body":           {impl.Event{Kind: 3, Slot: 7, Body: body}, impl.ErrForm},
		"come with a Body of 1001":   {impl.Event{Kind: 3, Slot: 7, Body: over}, impl.ErrForm},
		"come with At":               {impl.Event{Kind: 3, Slot: 7, At: 1}, impl.ErrForm},
		"come with a Mask":           {impl.Event{Kind: 3, Slot: 7, Mask: 1}, impl.ErrForm},
		"turn":                       {turnOf(0, 0, 0, 1), impl.OK},
		"turn of the other side":     {turnOf(1, 7, 9, 8), impl.OK},
		"turn, all greatest":         {turnOf(1, 400, 63, 255), impl.OK},
		"turn of slot 401":           {turnOf(1, 401, 9, 8), impl.ErrRange},
		"turn of slot -1":            {turnOf(1, -1, 9, 8), impl.ErrRange},
		"turn at 64":                 {turnOf(1, 7, 64, 8), impl.ErrRange},
		"turn at -1":                 {turnOf(1, 7, -1, 8), impl.ErrRange},
		"turn at the least place":    {turnOf(1, 7, math.MinInt64, 8), impl.ErrRange},
		"turn at the greatest place": {turnOf(1, 7, math.MaxInt64, 8), impl.ErrRange},
		"turn by 0":                  {turnOf(1, 7, 9, 0), impl.ErrRange},
		"turn by 256":                {turnOf(1, 7, 9, 256), impl.ErrRange},
		"turn by -1":                 {turnOf(1, 7, 9, -1), impl.ErrRange},
		"turn by the least mask":     {turnOf(1, 7, 9, math.MinInt64), impl.ErrRange},
		"turn by the greatest mask":  {turnOf(1, 7, 9, math.MaxInt64), impl.ErrRange},
		"turn of side -1":            {turnOf(-1, 7, 9, 8), impl.ErrRange},
		"turn of side 2":             {turnOf(2, 7, 9, 8), impl.ErrRange},
		"turn with a Body":           {impl.Event{Kind: 4, Slot: 7, At: 9, Mask: 8, Body: body}, impl.ErrForm},
		// What is named first is asked first.
		"no Kind, and no side":                    {impl.Event{Kind: 5, Side: 2}, impl.ErrForm},
		"no Kind, and 1001 bytes":                 {impl.Event{Body: over}, impl.ErrForm},
		"no Kind, and no slot, place and mask":    {impl.Event{Kind: 5, Slot: -1, At: -1, Mask: -1}, impl.ErrForm},
		"send of no side, with a Slot":            {impl.Event{Kind: 1, Side: 2, Slot: 1}, impl.ErrForm},
		"send of no side, of 1001 bytes":          {sendOf(2, over), impl.ErrRange},
		"send of no side, 1001 bytes, and a Mask": {impl.Event{Kind: 1, Side: 2, Body: over, Mask: 1}, impl.ErrForm},
		"send of 1001 bytes, with At":             {impl.Event{Kind: 1, Body: over, At: 1}, impl.ErrForm},
		"tick of no side, with a Body":            {impl.Event{Kind: 2, Side: 2, Body: body}, impl.ErrForm},
		"come of no slot, with At":                {impl.Event{Kind: 3, Slot: 401, At: 1}, impl.ErrForm},
		"come of no side, with a Body":            {impl.Event{Kind: 3, Side: 2, Body: body}, impl.ErrForm},
		"come of no slot, with 1001 bytes":        {impl.Event{Kind: 3, Slot: 401, Body: over}, impl.ErrForm},
		"turn by 0, with a Body":                  {impl.Event{Kind: 4, Body: body}, impl.ErrForm},
		"turn of no slot, with 1001 bytes":        {impl.Event{Kind: 4, Slot: 401, Mask: 1, Body: over}, impl.ErrForm},
	} {
		if got := impl.EventFault(c.event); got != c.want {
			t.Errorf("EventFault, %s: %d; want %d", name, got, c.want)
		}
		if by := eventFaultBy(c.event); by != c.want {
			t.Errorf("the tests reckon the EventFault, %s, as %d; want %d", name, by, c.want)
		}
	}
}

// anyEvents go through all edges, each with each.
func anyEvents(yield func(e impl.Event, fault int64) bool) {
	for _, kind := range []int64{math.MinInt64, -1, 0, 1, 2, 3, 4, 5, math.MaxInt64} {
		for _, side := range []int64{math.MinInt64, -1, 0, 1, 2, 256, math.MaxInt64} {
			for _, size := range []int{0, 1, 1000, 1001} {
				for _, slot := range []int64{math.MinInt64, -1, 0, 1, 400, 401, 1 << 32, math.MaxInt64} {
					for _, at := range []int64{math.MinInt64, -1, 0, 1, 63, 64, 1 << 32, math.MaxInt64} {
						for _, mask := range []int64{math.MinInt64, -1, 0, 1, 255, 256, 1<<32 + 1, math.MaxInt64} {
							e := impl.Event{Kind: kind, Side: side, Body: make([]byte, size), Slot: slot, At: at, Mask: mask}
							if !yield(e, eventFaultBy(e)) {
								return
							}
						}
					}
				}
			}
		}
	}
}

func TestEventFaultOfAny(t *testing.T) {
	checkFaults(t, anyEvents, impl.EventFault, eventName, impl.OK, impl.ErrForm, impl.ErrRange, impl.ErrMany)
}

// Each number that is within the bounds, and some beyond.
func TestEventFaultBounds(t *testing.T) {
	for n := int64(-300); n <= 700; n++ {
		for _, e := range []impl.Event{
			{Kind: n}, {Kind: n, Slot: 1}, {Kind: n, Body: []byte{1}}, {Kind: n, Mask: 1}, sendOf(n, nil), tickOf(n), comeOf(n, 3), turnOf(n, 3, 2, 1),
			comeOf(0, n), turnOf(0, n, 2, 1), turnOf(0, 3, n, 1), turnOf(0, 3, 2, n),
		} {
			if got, want := impl.EventFault(e), eventFaultBy(e); got != want {
				t.Errorf("EventFault of %s: %d; want %d", eventName(e), got, want)
			}
		}
	}
	for size := range 1003 {
		e := sendOf(1, make([]byte, size))
		if got, want := impl.EventFault(e), eventFaultBy(e); got != want {
			t.Errorf("EventFault of %s: %d; want %d", eventName(e), got, want)
		}
	}
}

func idealWireBy(root []byte, side, slot int64) []byte {
	wire := headBy(slot)
	for n := range 2 {
		wire = append(wire, hashBy(slices.Concat(root, []byte{byte(side), byte(n)}, headBy(slot)))...)
	}
	return wire[:64]
}

// typedIdeals are wires that were reckoned outside the project (hashlib of Python).
var typedIdeals = []struct {
	root       []byte
	side, slot int64
	wire       string
}{
	{make([]byte, 32), 0, 0, "00000000762b023699a0e48aa95763f0cf7c0467f1d6e9880308c78ebbc1c423de7072d39bc456dab44931033d266789adaadabaa938068a016c55f922cae092"},
	{make([]byte, 32), 1, 0, "00000000764b89a40fe1ee78bb362d5f649ce40e42e8e45f6b89cbae27b41bc74d65313a64194cd5414522d89aa9f301bbf5bfb3174b139f74604a43bde90052"},
	{make([]byte, 32), 0, 1, "00000001fba0d6b40a39f7a27d15132d6e9093120a43feaa4891e7faea12a3e0dc96e0f64a1ae33a7c746a26e1f535d4a8db52dca2d6fc6fa5da6f6fced8707a"},
	{listOf(32, 0, 1), 1, 300, "0000012c1aa6e9f4c4bd15d11e2123c67d4e0b4ede901fba1890d14521ecaa90ec41216dc42de44a587fb9a98f8fe2273500beb736b1d440ef92658bd29d071e"},
	{listOf(32, 0, 1), 0, 400, "0000019050f8f27d92f48d9fc7f88aea10db689662c388bc73c1b5cdda1492924e27e0b0ae5f8a84266d334df40267298ddc7fe995dc9b858c0907437fdc5833"},
	{bytes.Repeat([]byte{255}, 32), 0, 0, "0000000084bbe37b4a64df52faf5e1aff85196db2618620f5a4c7ca025af0a3b061197176cc48d8a10335d5b729cfc488de4a4a51bd9cac4bc64bb5b30745c03"},
	{bytes.Repeat([]byte{255}, 32), 1, 300, "0000012ca4b6dff53d4c0a5c27a608a493b8cd391ee93f1ab0aac37b0546c8014a094d8e01417170885a9a4c4c817622c1826e4b0736012f5a29c2c8c1182bba"},
}

func TestIdealWireKnownAnswers(t *testing.T) {
	for _, c := range typedIdeals {
		what := fmt.Sprintf("IdealWire of %v, side %d, slot %d", c.root, c.side, c.slot)
		wantBytes(t, what, impl.IdealWire(c.root, c.side, c.slot), fromHex(t, c.wire))
	}
}

// All are of one size, tell their slot to all, and no two of them are alike.
func TestIdealWireOfEachSlot(t *testing.T) {
	seen := map[string]string{}
	for r, root := range someRoots() {
		for side := range int64(2) {
			for slot := range int64(401) {
				got := impl.IdealWire(root, side, slot)
				what := fmt.Sprintf("IdealWire of the root %d, side %d, slot %d", r, side, slot)
				wantBytes(t, what, got, idealWireBy(root, side, slot))
				wantInt(t, "SlotOf "+what, impl.SlotOf(got.Bytes), slot)
				for _, half := range []string{string(got.Bytes[4:34]), string(got.Bytes[34:])} {
					if len(got.Bytes) != 64 || seen[half] != "" {
						t.Errorf("%s: %d bytes, of which half are those of %s", what, len(got.Bytes), seen[half])
					}
					seen[half] = what
				}
			}
		}
	}
}

func TestIdealWireOutOfBounds(t *testing.T) {
	root := listOf(32, 7, 5)
	for _, slot := range beyondSlots {
		for side := range int64(2) {
			wantBytesCode(t, fmt.Sprintf("IdealWire of side %d, slot %d", side, slot), impl.IdealWire(root, side, slot), impl.ErrRange)
		}
	}
	for _, side := range []int64{math.MinInt64, -256, -2, -1, 2, 3, 256, 257, 1 << 32, 1<<32 + 1, math.MaxInt64} {
		for _, slot := range []int64{-1, 0, 400, 401} {
			wantBytesCode(t, fmt.Sprintf("IdealWire of side %d, slot %d", side, slot), impl.IdealWire(root, side, slot), impl.ErrRange)
		}
	}
	for _, root := range notHashSize() {
		for _, slot := range []int64{-1, 0, 400, 401} {
			for _, side := range []int64{-1, 0, 1, 2} {
				what := fmt.Sprintf("IdealWire of %d bytes, side %d, slot %d", len(root), side, slot)
				wantBytesCode(t, what, impl.IdealWire(root, side, slot), impl.ErrRange)
			}
		}
	}
}
