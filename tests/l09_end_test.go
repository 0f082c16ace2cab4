package tests

import (
	"bytes"
	"fmt"
	"math"
	"slices"
	"testing"

	"loop.example/g00792/impl"
)

// gotOf has messages of all sizes that a message can have, no two of them alike.
func gotOf(count int) [][]byte {
	var out [][]byte
	for i := range count {
		out = append(out, listOf(1+(i*37+199)%200, byte(i), byte(1+i%7)))
	}
	return out
}

func copiedEnd(e impl.End) impl.End {
	e.Sender, e.Receiver, e.Got = copiedSender(e.Sender), copiedReceiver(e.Receiver), copied(e.Got)
	return e
}

func endFaultBy(e impl.End) int64 {
	if e.Slot < 0 || e.Slot > 401 || e.Bad < 0 || e.Bad > 100000 {
		return impl.ErrRange
	}
	if code := senderFaultBy(e.Sender); code != impl.OK {
		return code
	}
	if code := receiverFaultBy(e.Receiver); code != impl.OK {
		return code
	}
	if len(e.Got) > 200 || slices.ContainsFunc(e.Got, func(m []byte) bool { return len(m) == 0 || len(m) > 200 }) {
		return impl.ErrMany
	}
	return impl.OK
}

func sameEnd(a, b impl.End) bool {
	return a.Slot == b.Slot && a.Bad == b.Bad && sameSender(a.Sender, b.Sender) && sameReceiver(a.Receiver, b.Receiver) && sameLists(a.Got, b.Got)
}

func endName(e impl.End) string {
	return fmt.Sprintf("an end of Slot %d, %s, %s, %d messages, Bad %d", e.Slot, senderName(e.Sender), receiverName(e.Receiver), len(e.Got), e.Bad)
}

// wantEnd holds that what comes of an end without a fault has none, too.
func wantEnd(t *testing.T, what string, got impl.EndResult, end impl.End, cell impl.Cell, wire []byte) {
	t.Helper()
	if got.Code != impl.OK || !sameEnd(got.End, end) {
		t.Errorf("%s: code %d, %s; want code 0, %s", what, got.Code, endName(got.End), endName(end))
	}
	if !sameCell(got.Cell, cell) || !bytes.Equal(got.Wire, wire) {
		t.Errorf("%s: %v, the wire %v; want %v, the wire %v", what, got.Cell, got.Wire, cell, wire)
	}
	if fault, cellFault := impl.EndFault(got.End), impl.CellFault(got.Cell); fault != impl.OK || cellFault != impl.OK {
		t.Errorf("%s: the EndFault %d, the CellFault %d", what, fault, cellFault)
	}
}

func wantEndCode(t *testing.T, what string, got impl.EndResult, code int64) {
	t.Helper()
	if got.Code != code || !sameEnd(got.End, impl.End{}) || !sameCell(got.Cell, impl.Cell{}) || len(got.Wire) != 0 {
		t.Errorf("%s: %v; want code %d, all else zero", what, got, code)
	}
}

// wantEndOr is for an answer that is a code, or an end.
func wantEndOr(t *testing.T, what string, got impl.EndResult, code int64, end impl.End, cell impl.Cell, wire []byte) {
	t.Helper()
	if code != impl.OK {
		wantEndCode(t, what, got, code)
		return
	}
	wantEnd(t, what, got, end, cell, wire)
}

// someEnds have no fault.
func someEnds() []impl.End {
	out := []impl.End{{}, {Slot: 400}, {Slot: 401}, {Bad: 100000}, {Got: gotOf(200)}}
	slots := []int64{0, 1, 4, 15, 16, 30, 200, 399, 400, 401, 7}
	bads := []int64{0, 1, 99999, 100000, 5}
	counts := []int{0, 1, 3, 190, 191, 192, 193, 200, 2}
	senders, receivers := someSenders(), someReceivers()
	for i, r := range receivers {
		s := senders[i*5%len(senders)]
		out = append(out, impl.End{Slot: slots[i%len(slots)], Sender: s, Receiver: r, Got: gotOf(counts[i%len(counts)]), Bad: bads[i%len(bads)]})
	}
	return out
}

func TestSomeEndsHaveNoFault(t *testing.T) {
	for _, e := range someEnds() {
		if got := impl.EndFault(e); got != impl.OK {
			t.Errorf("EndFault of %s: %d", endName(e), got)
		}
	}
}

func TestEndNumbers(t *testing.T) {
	if impl.MaxGot != 200 {
		t.Errorf("MaxGot is %d", impl.MaxGot)
	}
}

// withGot has another message at this place.
func withGot(count, at int, message []byte) [][]byte {
	out := gotOf(count)
	out[at] = message
	return out
}

func TestEndFaultTyped(t *testing.T) {
	more, over := make([]byte, 33), make([]byte, 201)
	noSender, noReceiver := impl.Sender{Parts: []impl.Part{{Got: true}}}, impl.Receiver{Holds: []impl.Held{{Seq: 2}, {Seq: 1}}}
	for name, c := range map[string]struct {
		end  impl.End
		want int64
	}{
		"a new one":                     {impl.End{}, impl.OK},
		"Slot -1":                       {impl.End{Slot: -1}, impl.ErrRange},
		"Slot 1":                        {impl.End{Slot: 1}, impl.OK},
		"Slot 400":                      {impl.End{Slot: 400}, impl.OK},
		"Slot 401":                      {impl.End{Slot: 401}, impl.OK},
		"Slot 402":                      {impl.End{Slot: 402}, impl.ErrRange},
		"the least Slot":                {impl.End{Slot: math.MinInt64}, impl.ErrRange},
		"the greatest Slot":             {impl.End{Slot: math.MaxInt64}, impl.ErrRange},
		"Bad -1":                        {impl.End{Bad: -1}, impl.ErrRange},
		"Bad 1":                         {impl.End{Bad: 1}, impl.OK},
		"Bad 99999":                     {impl.End{Bad: 99999}, impl.OK},
		"Bad 100000":                    {impl.End{Bad: 100000}, impl.OK},
		"Bad 100001":                    {impl.End{Bad: 100001}, impl.ErrRange},
		"the least Bad":                 {impl.End{Bad: math.MinInt64}, impl.ErrRange},
		"the greatest Bad":              {impl.End{Bad: math.MaxInt64}, impl.ErrRange},
		"200 messages":                  {impl.End{Got: gotOf(200)}, impl.OK},
		"201 messages":                  {impl.End{Got: gotOf(201)}, impl.ErrMany},
		"1001 messages":                 {impl.End{Got: gotOf(1001)}, impl.ErrMany},
		"200 messages alike":            {impl.End{Got: slices.Repeat([][]byte{{7}}, 200)}, impl.OK},
		"a message of nil":              {impl.End{Got: [][]byte{nil}}, impl.ErrMany},
		"a message of no bytes":         {impl.End{Got: [][]byte{{}}}, impl.ErrMany},
		"a message of a byte":           {impl.End{Got: [][]byte{{0}}}, impl.OK},
		"a message of 199":              {impl.End{Got: [][]byte{over[:199]}}, impl.OK},
		"a message of 200":              {impl.End{Got: [][]byte{over[:200]}}, impl.OK},
		"a message of 201":              {impl.End{Got: [][]byte{over}}, impl.ErrMany},
		"a message of 1001":             {impl.End{Got: [][]byte{make([]byte, 1001)}}, impl.ErrMany},
		"no bytes at the beginning":     {impl.End{Got: withGot(200, 0, nil)}, impl.ErrMany},
		"no bytes at the end":           {impl.End{Got: withGot(200, 199, nil)}, impl.ErrMany},
		"201 at the beginning":          {impl.End{Got: withGot(3, 0, over)}, impl.ErrMany},
		"201 in the middle":             {impl.End{Got: withGot(3, 1, over)}, impl.ErrMany},
		"201 at the end":                {impl.End{Got: withGot(200, 199, over)}, impl.ErrMany},
		"all greatest":                  {impl.End{Slot: 401, Bad: 100000, Sender: senderOf(9951, neverSent24), Receiver: impl.Receiver{Next: 10000}, Got: gotOf(200)}, impl.OK},
		"a Part sent behind Slot":       {impl.End{Sender: senderOf(0, "z")}, impl.OK},
		"a sender of Base -1":           {impl.End{Sender: impl.Sender{Base: -1}}, impl.ErrRange},
		"a sender of Base 9976":         {impl.End{Sender: impl.Sender{Base: 9976}}, impl.ErrRange},
		"a sender of 25 Parts":          {impl.End{Sender: senderOf(0, neverSent24+".")}, impl.ErrMany},
		"a sender with a Body of 33":    {impl.End{Sender: impl.Sender{Parts: []impl.Part{{Body: more}}}}, impl.ErrMany},
		"a sender with Sent 401":        {impl.End{Sender: impl.Sender{Parts: []impl.Part{{Sent: 401}}}}, impl.ErrRange},
		"a sender, the first one Got":   {impl.End{Sender: noSender}, impl.ErrState},
		"a sender, Got, but never sent": {impl.End{Sender: impl.Sender{Parts: []impl.Part{{}, {Got: true, Sent: -1}}}}, impl.ErrState},
		"a sender, the ninth sent":      {impl.End{Sender: senderOf(0, "........a")}, impl.ErrState},
		"a receiver of Next -1":         {impl.End{Receiver: impl.Receiver{Next: -1}}, impl.ErrRange},
		"a receiver of Next 10001":      {impl.End{Receiver: impl.Receiver{Next: 10001}}, impl.ErrRange},
		"a receiver of 201 bytes":       {impl.End{Receiver: impl.Receiver{Partial: over}}, impl.ErrMany},
		"a receiver, a Seq of Next":     {impl.End{Receiver: impl.Receiver{Holds: []impl.Held{{}}}}, impl.ErrRange},
		"a receiver, a Seq 8 above":     {impl.End{Receiver: impl.Receiver{Holds: []impl.Held{{Seq: 8}}}}, impl.ErrRange},
		"a receiver with a Body of 33":  {impl.End{Receiver: impl.Receiver{Holds: []impl.Held{{Seq: 1, Body: more}}}}, impl.ErrMany},
		"a receiver that falls":         {impl.End{Receiver: noReceiver}, impl.ErrForm},
		// What is named first is asked first.
		"Slot -1, and all else":            {impl.End{Slot: -1, Sender: noSender, Receiver: noReceiver, Got: gotOf(201)}, impl.ErrRange},
		"Slot 402 and a sender":            {impl.End{Slot: 402, Sender: noSender}, impl.ErrRange},
		"Bad -1, and all else":             {impl.End{Bad: -1, Sender: noSender, Receiver: noReceiver, Got: gotOf(201)}, impl.ErrRange},
		"Bad 100001 and a sender":          {impl.End{Bad: 100001, Sender: noSender}, impl.ErrRange},
		"Bad 100001 and a receiver":        {impl.End{Bad: 100001, Receiver: noReceiver}, impl.ErrRange},
		"Bad 100001 and 201 messages":      {impl.End{Bad: 100001, Got: gotOf(201)}, impl.ErrRange},
		"a sender, and all behind":         {impl.End{Sender: noSender, Receiver: noReceiver, Got: gotOf(201)}, impl.ErrState},
		"a sender and Next -1":             {impl.End{Sender: noSender, Receiver: impl.Receiver{Next: -1}}, impl.ErrState},
		"a sender and a message of nil":    {impl.End{Sender: noSender, Got: [][]byte{nil}}, impl.ErrState},
		"a receiver and 201 messages":      {impl.End{Receiver: noReceiver, Got: gotOf(201)}, impl.ErrForm},
		"a receiver and a message of nil":  {impl.End{Receiver: noReceiver, Got: [][]byte{nil}}, impl.ErrForm},
		"Next 10001 and a message of 201":  {impl.End{Receiver: impl.Receiver{Next: 10001}, Got: [][]byte{over}}, impl.ErrRange},
		"a Base of -1 and one that falls":  {impl.End{Sender: impl.Sender{Base: -1}, Receiver: noReceiver}, impl.ErrRange},
		"25 Parts and one that falls":      {impl.End{Sender: senderOf(0, neverSent24+"."), Receiver: noReceiver}, impl.ErrMany},
		"201 messages, one of them of nil": {impl.End{Got: withGot(201, 5, nil)}, impl.ErrMany},
	} {
		if got := impl.EndFault(c.end); got != c.want {
			t.Errorf("EndFault of %s: %d; want %d", name, got, c.want)
		}
		if by := endFaultBy(c.end); by != c.want {
			t.Errorf("the tests reckon the EndFault of %s as %d; want %d", name, by, c.want)
		}
	}
}

func wantEndFault(t *testing.T, e impl.End) {
	t.Helper()
	if got, want := impl.EndFault(e), endFaultBy(e); got != want {
		t.Errorf("EndFault of %s: %d; want %d", endName(e), got, want)
	}
}

var endSlots = []int64{math.MinInt64, -1 << 32, -2, -1, 0, 1, 399, 400, 401, 402, 403, 65936, 1 << 32, 1<<32 + 1, math.MaxInt64}
var endBads = []int64{math.MinInt64, -1 << 32, -2, -1, 0, 1, 401, 402, 99999, 100000, 100001, 100002, 1 << 32, 1<<32 + 1, math.MaxInt64}

func TestEndFaultEdges(t *testing.T) {
	for _, slot := range endSlots {
		for _, bad := range endBads {
			wantEndFault(t, impl.End{Slot: slot, Bad: bad})
			wantEndFault(t, impl.End{Slot: slot, Bad: bad, Sender: senderOf(0, "aB."), Receiver: receiverOf(3, "h.l", 3), Got: gotOf(7)})
		}
	}
	for count := range 204 {
		wantEndFault(t, impl.End{Got: gotOf(count)})
		for _, size := range []int{0, 1, 200, 201} {
			for _, at := range []int{0, count / 2, count - 1} {
				if at >= 0 && at < count {
					wantEndFault(t, impl.End{Got: withGot(count, at, make([]byte, size))})
				}
			}
		}
	}
}

// Each fault of a sender and of a receiver is one of an end, too.
func TestEndFaultOfWhatIsInside(t *testing.T) {
	got, fallen := [][]byte{nil}, impl.Receiver{Holds: []impl.Held{{Seq: 2}, {Seq: 1}}}
	for s, fault := range noSenders {
		for _, e := range []impl.End{{Sender: s}, {Slot: 401, Sender: s, Receiver: fallen}, {Sender: s, Got: got, Bad: 100000}} {
			if code := impl.EndFault(e); code != fault {
				t.Errorf("EndFault of %s: %d; want %d", endName(e), code, fault)
			}
		}
		wantEndFault(t, impl.End{Slot: 402, Sender: s})
	}
	for r, fault := range noReceivers {
		for _, e := range []impl.End{{Receiver: r}, {Slot: 401, Receiver: r, Got: got}, {Receiver: r, Sender: senderOf(3, "aB."), Bad: 100000}} {
			if code := impl.EndFault(e); code != fault {
				t.Errorf("EndFault of %s: %d; want %d", endName(e), code, fault)
			}
		}
		wantEndFault(t, impl.End{Bad: -1, Receiver: r})
	}
}

// noEnds have one fault or several.
func noEnds(yield func(e impl.End, fault int64) bool) {
	senders := []impl.Sender{senderOf(3, "aB."), {Base: -1}, senderOf(0, neverSent24+"."), senderOf(0, "A")}
	receivers := []impl.Receiver{
		receiverOf(3, "h.l", 3), {Next: 10001}, {Partial: make([]byte, 201)}, {Holds: []impl.Held{{Seq: 1}, {Seq: 1}}},
	}
	gots := [][][]byte{gotOf(3), gotOf(201), withGot(3, 2, nil), withGot(3, 0, make([]byte, 201))}
	for _, slot := range []int64{7, -1, 401, 402} {
		for _, bad := range []int64{2, -1, 100000, 100001} {
			for _, s := range senders {
				for _, r := range receivers {
					for _, got := range gots {
						e := impl.End{Slot: slot, Sender: s, Receiver: r, Got: got, Bad: bad}
						if fault := endFaultBy(e); fault != impl.OK && !yield(e, fault) {
							return
						}
					}
				}
			}
		}
	}
}

func TestEndFaultOrder(t *testing.T) {
	checkFaults(t, noEnds, impl.EndFault, endName, impl.ErrRange, impl.ErrMany, impl.ErrState, impl.ErrForm)
}

// The EndFault is asked ahead of all else, be what is told to an end wrong or not.
func TestEndsWithAFault(t *testing.T) {
	root := listOf(32, 7, 5)
	cells := []impl.Cell{{}, {Kind: 2}, {Mask: 256}, dataCell(3, true, []byte{1}), dataCell(4, false, make([]byte, 33))}
	wires := [][]byte{nil, make([]byte, 63), make([]byte, 64), impl.TickEnd(impl.End{}, root).Wire}
	for e, fault := range noEnds {
		name := endName(e)
		for _, size := range []int{0, 1, 200, 201} {
			wantEndCode(t, fmt.Sprintf("SendEnd of %d bytes to %s", size, name), impl.SendEnd(e, make([]byte, size)), fault)
		}
		wantEndCode(t, "CellEnd of "+name, impl.CellEnd(e), fault)
		for _, c := range cells {
			wantEndCode(t, fmt.Sprintf("HearEnd of %s to %s", cellName(c), name), impl.HearEnd(e, c), fault)
		}
		for _, root := range [][]byte{root, root[:31], nil} {
			wantEndCode(t, fmt.Sprintf("TickEnd by %d bytes of %s", len(root), name), impl.TickEnd(e, root), fault)
			for i, wire := range wires {
				wantEndCode(t, fmt.Sprintf("ComeEnd by %d bytes of the wire %d to %s", len(root), i, name), impl.ComeEnd(e, root, wire), fault)
			}
		}
	}
}

func TestSendEndTyped(t *testing.T) {
	message := listOf(33, 5, 1)
	first, other := impl.Part{Body: message[:32], Sent: -1}, impl.Part{Body: message[32:], Last: true, Sent: -1}
	wantEnd(t, "SendEnd to a new one", impl.SendEnd(impl.End{}, message), impl.End{Sender: impl.Sender{Parts: []impl.Part{first, other}}}, impl.Cell{}, nil)
	was := impl.End{
		Slot: 9, Sender: impl.Sender{Base: 4, Parts: []impl.Part{{Body: []byte{1}, Last: true, Sent: 8}}},
		Receiver: impl.Receiver{Next: 7, Holds: []impl.Held{{Seq: 9, Body: []byte{2}}}, Partial: []byte{3}}, Got: [][]byte{{4}, {5, 6}}, Bad: 8,
	}
	want := copiedEnd(was)
	want.Sender.Parts = append(want.Sender.Parts, first, other)
	wantEnd(t, "SendEnd to one with all", impl.SendEnd(was, message), want, impl.Cell{}, nil)
	for name, c := range map[string]struct {
		end  impl.End
		size int
		code int64
	}{
		"no bytes":                          {impl.End{}, 0, impl.ErrMany},
		"a byte":                            {impl.End{}, 1, impl.OK},
		"200 bytes":                         {impl.End{}, 200, impl.OK},
		"201 bytes":                         {impl.End{}, 201, impl.ErrMany},
		"1001 bytes":                        {impl.End{}, 1001, impl.ErrMany},
		"no bytes, when there is no room":   {impl.End{Sender: senderOf(0, neverSent24)}, 0, impl.ErrMany},
		"201 bytes, when there is no room":  {impl.End{Sender: senderOf(0, neverSent24)}, 201, impl.ErrMany},
		"a byte, when there is no room":     {impl.End{Sender: senderOf(0, neverSent24)}, 1, impl.ErrFull},
		"a byte, when there is room for it": {impl.End{Sender: senderOf(0, neverSent24[1:])}, 1, impl.OK},
		"33 bytes, when there is room of 1": {impl.End{Sender: senderOf(0, neverSent24[1:])}, 33, impl.ErrFull},
		"200 bytes, room of 7":              {impl.End{Sender: senderOf(0, neverSent24[7:])}, 200, impl.OK},
		"200 bytes, room of 6":              {impl.End{Sender: senderOf(0, neverSent24[6:])}, 200, impl.ErrFull},
		"a byte, the last number":           {impl.End{Sender: impl.Sender{Base: 9974}}, 1, impl.OK},
		"a byte, no number":                 {impl.End{Sender: impl.Sender{Base: 9975}}, 1, impl.ErrFull},
		"33 bytes, one number":              {impl.End{Sender: impl.Sender{Base: 9974}}, 33, impl.ErrFull},
		"a byte behind the last slot":       {impl.End{Slot: 401}, 1, impl.OK},
		"a byte, when all else is full":     {impl.End{Slot: 401, Receiver: impl.Receiver{Next: 10000}, Got: gotOf(200), Bad: 100000}, 1, impl.OK},
	} {
		message := listOf(c.size, 5, 1)
		want := copiedEnd(c.end)
		want.Sender, _ = sentBy(c.end.Sender, message)
		wantEndOr(t, "SendEnd of "+name, impl.SendEnd(c.end, message), c.code, want, impl.Cell{}, nil)
	}
}

func TestSendEndOfSomeEnds(t *testing.T) {
	for _, e := range someEnds() {
		for _, size := range []int{0, 1, 31, 32, 33, 64, 65, 199, 200, 201, 1001} {
			message := listOf(size, 5, 1)
			want := copiedEnd(e)
			sender, code := sentBy(e.Sender, message)
			want.Sender = sender
			wantEndOr(t, fmt.Sprintf("SendEnd of %d bytes to %s", size, endName(e)), impl.SendEnd(e, message), code, want, impl.Cell{}, nil)
		}
	}
}

// anyEnds have a fault or none, and no two are the same.
func anyEnds() []impl.End {
	out := []impl.End{
		{}, {Slot: 1}, {Bad: 1}, {Slot: math.MinInt64, Bad: math.MaxInt64}, {Slot: 402}, {Bad: -1}, {Got: [][]byte{nil}}, {Got: [][]byte{nil, nil}},
		{Got: [][]byte{{0}}}, {Got: [][]byte{{0, 0}}}, {Got: [][]byte{{1}, {2, 3}}}, {Got: [][]byte{{1, 2}, {3}}}, {Got: [][]byte{listOf(1001, 1, 1)}},
		{Slot: 7, Sender: senderOf(3, "aB."), Receiver: receiverOf(3, "h.l", 3), Got: gotOf(3), Bad: 9}, {Got: gotOf(201)},
	}
	for _, s := range anySenders()[1:] {
		out = append(out, impl.End{Sender: s})
	}
	for _, r := range anyReceivers()[1:] {
		out = append(out, impl.End{Receiver: r})
	}
	return out
}

// changedEnds differ from e in one thing alone.
func changedEnds(e impl.End) map[string]impl.End {
	out, change := changesOf(e, copiedEnd)
	for _, by := range []int64{1, -1, 256, 65536, 1 << 32, math.MinInt64} {
		change(fmt.Sprintf("Slot by %d", by), func(e *impl.End) { e.Slot += by })
		change(fmt.Sprintf("Bad by %d", by), func(e *impl.End) { e.Bad += by })
	}
	for name, s := range changedSenders(e.Sender) {
		change("Sender, "+name, func(e *impl.End) { e.Sender = s })
	}
	for name, r := range changedReceivers(e.Receiver) {
		change("Receiver, "+name, func(e *impl.End) { e.Receiver = r })
	}
	for i, m := range e.Got {
		if i < 3 || i == len(e.Got)-1 {
			for name, message := range changedBodies(m) {
				change(fmt.Sprintf("Got at %d, %s", i, name), func(e *impl.End) { e.Got[i] = message })
			}
			change(fmt.Sprintf("none of Got at %d", i), func(e *impl.End) { e.Got = slices.Delete(e.Got, i, i+1) })
		}
	}
	if len(e.Got) > 1 && !bytes.Equal(e.Got[0], e.Got[1]) {
		change("two of Got exchanged", func(e *impl.End) { e.Got[0], e.Got[1] = e.Got[1], e.Got[0] })
	}
	change("one more of Got, of no bytes", func(e *impl.End) { e.Got = append(e.Got, nil) })
	change("one more of Got", func(e *impl.End) { e.Got = append(e.Got, []byte{1}) })
	change("one more of Got ahead", func(e *impl.End) { e.Got = append([][]byte{{}}, e.Got...) })
	return out
}

func TestSameEnds(t *testing.T) {
	all := anyEnds()
	for i, e := range all {
		if !impl.SameEnds(e, copiedEnd(e)) || !impl.SameEnds(copiedEnd(e), e) || !impl.SameEnds(e, e) {
			t.Errorf("SameEnds of %s and its copy is false", endName(e))
		}
		for name, other := range changedEnds(e) {
			if impl.SameEnds(e, other) || impl.SameEnds(other, e) {
				t.Errorf("SameEnds of %s, and another one, %s, is true", endName(e), name)
			}
		}
		for k, other := range all {
			if got := impl.SameEnds(e, other); got != (i == k) {
				t.Errorf("SameEnds of %s and %s is %v", endName(e), endName(other), got)
			}
		}
	}
	if impl.SameEnds(impl.End{Slot: 1, Bad: 2}, impl.End{Slot: 2, Bad: 1}) {
		t.Error("SameEnds of ends of which Slot and Bad are exchanged is true")
	}
}

// emptyLists is e with lists that are empty, where e has nil.
func emptyLists(e impl.End, room []byte) impl.End {
	e = copiedEnd(e)
	for i := range e.Sender.Parts {
		if len(e.Sender.Parts[i].Body) == 0 {
			e.Sender.Parts[i].Body = room[:0]
		}
	}
	for i := range e.Receiver.Holds {
		if len(e.Receiver.Holds[i].Body) == 0 {
			e.Receiver.Holds[i].Body = room[:0]
		}
	}
	if len(e.Sender.Parts) == 0 {
		e.Sender.Parts = make([]impl.Part, 0, len(room))
	}
	if len(e.Receiver.Holds) == 0 {
		e.Receiver.Holds = make([]impl.Held, 0, len(room))
	}
	if len(e.Receiver.Partial) == 0 {
		e.Receiver.Partial = room[:0]
	}
	if len(e.Got) == 0 {
		e.Got = make([][]byte, 0, len(room))
	}
	return e
}

// An empty list and nil are the same.
func TestEndEmptyIsNil(t *testing.T) {
	root := listOf(32, 7, 5)
	wire := impl.TickEnd(impl.SendEnd(impl.End{}, []byte{1}).End, root).Wire
	for _, e := range append(anyEnds(), someEnds()...) {
		for _, room := range [][]byte{{}, listOf(9, 1, 1)} {
			other, name := emptyLists(e, room), endName(e)
			if !impl.SameEnds(e, other) || !impl.SameEnds(other, e) || impl.EndFault(e) != impl.EndFault(other) {
				t.Errorf("%s with lists that are nil is another one with lists that are empty", name)
			}
			for what, ask := range map[string]func(e impl.End) impl.EndResult{
				"SendEnd": func(e impl.End) impl.EndResult { return impl.SendEnd(e, []byte{1, 2}) },
				"CellEnd": impl.CellEnd,
				"HearEnd": func(e impl.End) impl.EndResult { return impl.HearEnd(e, dataCell(e.Receiver.Next&8191, true, nil)) },
				"TickEnd": func(e impl.End) impl.EndResult { return impl.TickEnd(e, root) },
				"ComeEnd": func(e impl.End) impl.EndResult { return impl.ComeEnd(e, root, wire) },
			} {
				one, two := ask(e), ask(other)
				if one.Code != two.Code || !sameEnd(one.End, two.End) || !sameCell(one.Cell, two.Cell) || !bytes.Equal(one.Wire, two.Wire) {
					t.Errorf("%s of %s: %v with nil, %v with empty lists", what, name, one, two)
				}
			}
		}
	}
	for _, none := range [][]byte{nil, {}, listOf(9, 1, 1)[:0]} {
		wantEndCode(t, "SendEnd of no bytes", impl.SendEnd(impl.End{}, none), impl.ErrMany)
		wantEndCode(t, "TickEnd by no bytes", impl.TickEnd(impl.End{}, none), impl.ErrRange)
		wantEndCode(t, "ComeEnd by no bytes", impl.ComeEnd(impl.End{}, none, wire), impl.ErrRange)
		wantEnd(t, "ComeEnd of no bytes", impl.ComeEnd(impl.End{}, root, none), impl.End{Bad: 1}, impl.Cell{}, nil)
	}
}
