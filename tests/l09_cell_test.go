package tests

import (
	"fmt"
	"math"
	"testing"

	"loop.example/g00792/impl"
)

// cellEndBy is asked of ends with a slot that sends.
func cellEndBy(e impl.End) (impl.End, impl.Cell) {
	out := copiedEnd(e)
	sender, cell := nextBy(e.Sender, e.Slot)
	out.Sender, out.Slot = sender, e.Slot+1
	cell.Ack = e.Receiver.Next
	for _, h := range e.Receiver.Holds {
		cell.Mask += []int64{1, 2, 4, 8, 16, 32, 64}[h.Seq-e.Receiver.Next-1]
	}
	return out, cell
}

func hearEndBy(e impl.End, c impl.Cell) (impl.End, int64) {
	if code := cellFaultBy(c); code != impl.OK {
		return impl.End{}, code
	}
	if len(e.Got) > 191 {
		return impl.End{}, impl.ErrFull
	}
	e = copiedEnd(e)
	e.Sender = ackedBy(e.Sender, c.Ack, c.Mask)
	if c.Kind == 0 {
		return e, impl.OK
	}
	receiver, messages := heardBy(e.Receiver, c)
	e.Receiver = receiver
	for _, m := range messages {
		if len(m) != 0 {
			e.Got = append(e.Got, m)
		}
	}
	return e, impl.OK
}

func wantCellEnd(t *testing.T, e impl.End) {
	t.Helper()
	if e.Slot == 401 {
		wantEndCode(t, "CellEnd of "+endName(e), impl.CellEnd(e), impl.ErrState)
		return
	}
	want, cell := cellEndBy(e)
	wantEnd(t, "CellEnd of "+endName(e), impl.CellEnd(e), want, cell, nil)
}

func wantHearEnd(t *testing.T, e impl.End, c impl.Cell) {
	t.Helper()
	want, code := hearEndBy(e, c)
	wantEndOr(t, fmt.Sprintf("HearEnd of %s to %s", cellName(c), endName(e)), impl.HearEnd(e, c), code, want, impl.Cell{}, nil)
}

func TestCellEndTyped(t *testing.T) {
	abc, de := []byte{1, 2, 3}, []byte{4, 5}
	part := func(body []byte, last bool, sent int64) impl.Part {
		return impl.Part{Body: body, Last: last, Sent: sent}
	}
	sender := func(parts ...impl.Part) impl.Sender { return impl.Sender{Base: 20, Parts: parts} }
	holds := impl.Receiver{Next: 7, Holds: []impl.Held{{Seq: 8, Body: abc}, {Seq: 10, Last: true}, {Seq: 14}}, Partial: de}
	for name, c := range map[string]struct {
		slot     int64
		sender   impl.Sender
		receiver impl.Receiver
		want     impl.Sender
		cell     impl.Cell
	}{
		"a new one":                          {0, impl.Sender{}, impl.Receiver{}, impl.Sender{}, impl.Cell{}},
		"nothing to say":                     {30, sender(), impl.Receiver{}, sender(), impl.Cell{}},
		"nothing to say at the last slot":    {400, sender(), impl.Receiver{}, sender(), impl.Cell{}},
		"a dummy has Ack and Mask":           {30, sender(), holds, sender(), impl.Cell{Ack: 7, Mask: 1 + 4 + 64}},
		"a dummy has an Ack alone":           {30, sender(), impl.Receiver{Next: 300, Partial: abc}, sender(), impl.Cell{Ack: 300}},
		"a dummy has a Mask alone":           {30, sender(), impl.Receiver{Holds: []impl.Held{{Seq: 1}}}, sender(), impl.Cell{Mask: 1}},
		"a dummy has the greatest Ack":       {30, sender(), impl.Receiver{Next: 10000}, sender(), impl.Cell{Ack: 10000}},
		"a dummy has the greatest Mask":      {30, sender(), receiverOf(9992, "hhhhhhh", 0), sender(), impl.Cell{Ack: 9992, Mask: 127}},
		"a part that goes out":               {30, sender(part(abc, true, -1)), impl.Receiver{}, sender(part(abc, true, 30)), impl.Cell{Kind: 1, Seq: 20, Last: true, Body: abc}},
		"a part that goes out at 0":          {0, sender(part(abc, false, -1)), impl.Receiver{}, sender(part(abc, false, 0)), impl.Cell{Kind: 1, Seq: 20, Body: abc}},
		"a part that goes out at 400":        {400, sender(part(abc, true, -1)), impl.Receiver{}, sender(part(abc, true, 400)), impl.Cell{Kind: 1, Seq: 20, Last: true, Body: abc}},
		"a part of the Seq 0":                {30, impl.Sender{Parts: []impl.Part{part(abc, false, -1)}}, impl.Receiver{}, impl.Sender{Parts: []impl.Part{part(abc, false, 30)}}, impl.Cell{Kind: 1, Body: abc}},
		"a part of no bytes":                 {30, sender(part(nil, true, -1)), impl.Receiver{}, sender(part(nil, true, 30)), impl.Cell{Kind: 1, Seq: 20, Last: true}},
		"data has Ack and Mask":              {30, sender(part(abc, true, -1)), holds, sender(part(abc, true, 30)), impl.Cell{Kind: 1, Seq: 20, Ack: 7, Mask: 69, Last: true, Body: abc}},
		"data has the greatest Ack":          {30, sender(part(abc, true, -1)), impl.Receiver{Next: 10000}, sender(part(abc, true, 30)), impl.Cell{Kind: 1, Seq: 20, Ack: 10000, Last: true, Body: abc}},
		"not sent again after 3":             {30, sender(part(abc, true, 27)), holds, sender(part(abc, true, 27)), impl.Cell{Ack: 7, Mask: 69}},
		"sent again after 4":                 {30, sender(part(abc, true, 26)), holds, sender(part(abc, true, 30)), impl.Cell{Kind: 1, Seq: 20, Ack: 7, Mask: 69, Last: true, Body: abc}},
		"sent behind this slot":              {30, sender(part(abc, true, 31)), impl.Receiver{}, sender(part(abc, true, 31)), impl.Cell{}},
		"one that was never sent goes ahead": {30, sender(part(abc, false, 1), part(de, true, -1)), impl.Receiver{}, sender(part(abc, false, 1), part(de, true, 30)), impl.Cell{Kind: 1, Seq: 21, Last: true, Body: de}},
	} {
		was := impl.End{Slot: c.slot, Sender: c.sender, Receiver: c.receiver, Got: [][]byte{de, abc}, Bad: 6}
		want := impl.End{Slot: c.slot + 1, Sender: c.want, Receiver: c.receiver, Got: [][]byte{de, abc}, Bad: 6}
		wantEnd(t, "CellEnd, "+name, impl.CellEnd(was), want, c.cell, nil)
	}
}

// Behind the last slot nothing is sent any more, be there something to say or not.
func TestCellEndBehindTheLastSlot(t *testing.T) {
	last := impl.End{Slot: 400, Sender: senderOf(0, "z."), Got: gotOf(3)}
	got := impl.CellEnd(last)
	if got.Code != impl.OK || got.Cell.Seq != 1 || got.End.Slot != 401 {
		t.Errorf("CellEnd at the last slot: %v", got)
	}
	wantEndCode(t, "CellEnd behind the last slot", impl.CellEnd(got.End), impl.ErrState)
	for _, s := range someSenders() {
		wantEndCode(t, "CellEnd at 401 of "+senderName(s), impl.CellEnd(impl.End{Slot: 401, Sender: s}), impl.ErrState)
	}
}

func TestCellEndOfSomeEnds(t *testing.T) {
	for _, e := range someEnds() {
		for _, slot := range append(edgeSlots, e.Slot, 401, 3, 4, 5, 7, 8, 9, 12, 28) {
			e.Slot = slot
			wantCellEnd(t, e)
		}
	}
}

// Each sender is asked with each state of a receiver: what one end has to say does not hang on what it heard.
func TestCellEndAckAndMask(t *testing.T) {
	for _, signs := range eachSigns(".h", 7) {
		for _, next := range []int64{0, 1, 255, 9992} {
			for _, s := range []impl.Sender{{}, senderOf(3, "."), senderOf(3, "fg"), senderOf(3, "aB.")} {
				wantCellEnd(t, impl.End{Slot: 9, Sender: s, Receiver: receiverOf(next, signs, 5)})
			}
		}
	}
}

// Promise 10: each tick is one cell, and the next slot.
func TestCellEndGoesOnSlotBySlot(t *testing.T) {
	e := impl.SendEnd(impl.SendEnd(impl.End{}, listOf(200, 1, 1)).End, listOf(100, 9, 3)).End
	for slot := range int64(401) {
		if slot%50 == 20 {
			e.Sender = ackedBy(e.Sender, 3, 0)
		}
		want, cell := cellEndBy(e)
		got := impl.CellEnd(e)
		wantEnd(t, fmt.Sprintf("CellEnd at %d", slot), got, want, cell, nil)
		if got.End.Slot != slot+1 {
			t.Errorf("CellEnd at %d goes on to %d", slot, got.End.Slot)
		}
		e = got.End
	}
	wantEndCode(t, "CellEnd behind all slots", impl.CellEnd(e), impl.ErrState)
}

func TestHearEndTyped(t *testing.T) {
	abc, de, f := []byte{1, 2, 3}, []byte{4, 5}, []byte{6}
	held := func(seq int64, body []byte, last bool) impl.Held { return impl.Held{Seq: seq, Body: body, Last: last} }
	receiver := func(next int64, partial []byte, holds ...impl.Held) impl.Receiver {
		return impl.Receiver{Next: next, Holds: holds, Partial: partial}
	}
	was := receiver(5, f, held(6, de, true), held(8, nil, true))
	sent := senderOf(20, "abc.")
	left := impl.Sender{Base: 21, Parts: sent.Parts[1:]}
	third := withPart(left, 1, sent.Parts[2])
	third.Parts[1].Got = true
	for name, c := range map[string]struct {
		cell     impl.Cell
		sender   impl.Sender
		receiver impl.Receiver
		more     [][]byte
	}{
		"a dummy that says nothing":          {impl.Cell{}, sent, was, nil},
		"a dummy with an old Ack":            {impl.Cell{Ack: 20}, sent, was, nil},
		"a dummy with an Ack":                {impl.Cell{Ack: 21}, left, was, nil},
		"a dummy with a Mask":                {impl.Cell{Ack: 21, Mask: 1}, third, was, nil},
		"a dummy of what was not sent":       {impl.Cell{Ack: 10000, Mask: 255}, impl.Sender{Base: 23, Parts: sent.Parts[3:]}, was, nil},
		"data that is new":                   {dataCell(5, false, abc), sent, receiver(7, nil, held(8, nil, true)), [][]byte{{6, 1, 2, 3, 4, 5}}},
		"data that is new, and Last":         {dataCell(5, true, abc), sent, receiver(7, nil, held(8, nil, true)), [][]byte{{6, 1, 2, 3}, {4, 5}}},
		"data with Ack and Mask":             {impl.Cell{Kind: 1, Seq: 5, Ack: 21, Mask: 1, Body: abc}, third, receiver(7, nil, held(8, nil, true)), [][]byte{{6, 1, 2, 3, 4, 5}}},
		"data that comes twice":              {dataCell(4, true, abc), sent, was, nil},
		"data that is held":                  {dataCell(6, false, abc), sent, was, nil},
		"data that is held, with Ack":        {impl.Cell{Kind: 1, Seq: 6, Ack: 21, Body: abc}, left, was, nil},
		"data that lies too far ahead":       {dataCell(13, true, abc), sent, was, nil},
		"data too far ahead, with Ack":       {impl.Cell{Kind: 1, Seq: 13, Ack: 21, Last: true, Body: abc}, left, was, nil},
		"data of the greatest Seq":           {dataCell(9999, true, abc), sent, was, nil},
		"data that is just not too far":      {dataCell(12, true, abc), sent, receiver(5, f, held(6, de, true), held(8, nil, true), held(12, abc, true)), nil},
		"data that waits":                    {dataCell(7, true, abc), sent, receiver(5, f, held(6, de, true), held(7, abc, true), held(8, nil, true)), nil},
		"data of no bytes that is not Last":  {dataCell(5, false, nil), sent, receiver(7, nil, held(8, nil, true)), [][]byte{{6, 4, 5}}},
		"data of no bytes behind a Partial":  {dataCell(5, true, nil), sent, receiver(7, nil, held(8, nil, true)), [][]byte{{6}, {4, 5}}},
		"data of no bytes from too far away": {dataCell(13, true, nil), sent, was, nil},
	} {
		start := impl.End{Slot: 9, Sender: sent, Receiver: was, Got: [][]byte{de, abc}, Bad: 6}
		want := impl.End{Slot: 9, Sender: c.sender, Receiver: c.receiver, Got: append([][]byte{de, abc}, c.more...), Bad: 6}
		wantEnd(t, "HearEnd, "+name, impl.HearEnd(start, c.cell), want, impl.Cell{}, nil)
	}
}

// Of the messages that one cell ends those that are empty are left out, wherever they stand; all others keep their order.
func TestHearEndEmptyMessages(t *testing.T) {
	abc, de := []byte{1, 2, 3}, []byte{4, 5}
	for name, c := range map[string]struct {
		body []byte
		held [][]byte
		want [][]byte
	}{
		"alone":               {nil, nil, nil},
		"ahead of another":    {nil, [][]byte{abc}, [][]byte{abc}},
		"behind another":      {abc, [][]byte{nil}, [][]byte{abc}},
		"between others":      {abc, [][]byte{nil, de}, [][]byte{abc, de}},
		"on both sides":       {nil, [][]byte{abc, nil}, [][]byte{abc}},
		"two and two":         {nil, [][]byte{nil, abc, nil, nil, de, nil, abc}, [][]byte{abc, de, abc}},
		"all":                 {nil, [][]byte{nil, nil, nil, nil, nil, nil, nil}, nil},
		"none, and all heard": {abc, [][]byte{de, {1}, {2}, {3}, {4}, {5}, {6}}, [][]byte{abc, de, {1}, {2}, {3}, {4}, {5}, {6}}},
		"zeros are not empty": {[]byte{0}, [][]byte{{0, 0}, nil}, [][]byte{{0}, {0, 0}}},
	} {
		was := impl.End{Slot: 3, Receiver: impl.Receiver{Next: 5}, Got: [][]byte{{9}, {8, 7}}}
		for i, body := range c.held {
			was.Receiver.Holds = append(was.Receiver.Holds, impl.Held{Seq: 6 + int64(i), Body: body, Last: true})
		}
		want := impl.End{Slot: 3, Receiver: impl.Receiver{Next: 6 + int64(len(c.held))}, Got: append([][]byte{{9}, {8, 7}}, c.want...)}
		wantEnd(t, "HearEnd, empty messages "+name, impl.HearEnd(was, dataCell(5, true, c.body)), want, impl.Cell{}, nil)
	}
	for _, signs := range eachSigns("nl", 7) {
		for _, last := range []bool{false, true} {
			for _, body := range [][]byte{nil, {1}} {
				wantHearEnd(t, impl.End{Receiver: receiverOf(40, signs, 0), Got: gotOf(2)}, dataCell(40, last, body))
			}
		}
	}
}

// Where there may be no room for all that one cell can end nothing is heard, not even a dummy.
func TestHearEndRoom(t *testing.T) {
	eight := receiverOf(5, "lllllll", 0)
	for count := 185; count <= 200; count++ {
		for name, c := range map[string]impl.Cell{
			"a dummy": {}, "a dummy with an Ack": {Ack: 2}, "eight messages": dataCell(5, true, []byte{1}), "nothing new": dataCell(4, true, []byte{1}),
			"too far ahead": dataCell(13, true, []byte{1}), "no message": dataCell(5, true, nil),
		} {
			e := impl.End{Slot: 9, Sender: senderOf(0, "ab."), Receiver: eight, Got: gotOf(count)}
			want, code := hearEndBy(e, c)
			if (code == impl.ErrFull) != (count >= 192) || code != impl.OK && code != impl.ErrFull {
				t.Errorf("the tests reckon the code of %s behind %d messages as %d", name, count, code)
			}
			what := fmt.Sprintf("HearEnd of %s behind %d messages", name, count)
			got := impl.HearEnd(e, c)
			wantEndOr(t, what, got, code, want, impl.Cell{}, nil)
			if name == "eight messages" && code == impl.OK && len(got.End.Got) != count+8 {
				t.Errorf("%s: %d messages", what, len(got.End.Got))
			}
		}
	}
}

// The CellFault is asked ahead of what room there is.
func TestHearEndOfNoCell(t *testing.T) {
	ends := append(someEnds(), impl.End{Got: gotOf(191)}, impl.End{Got: gotOf(192)}, impl.End{Got: gotOf(200)})
	for _, c := range []impl.Cell{
		{Kind: 2}, {Kind: -1}, {Kind: math.MaxInt64}, {Kind: math.MinInt64, Seq: 5}, {Seq: 1}, {Last: true}, {Body: []byte{1}}, {Ack: 10001}, {Ack: -1},
		{Mask: 256}, {Mask: -1}, {Mask: math.MinInt64}, {Kind: 1, Seq: -1}, {Kind: 1, Seq: 10000}, {Kind: 1, Seq: math.MaxInt64}, {Kind: 1, Ack: 10001},
		{Kind: 1, Mask: 256}, {Kind: 1, Body: make([]byte, 33)}, {Kind: 1, Seq: 10000, Body: make([]byte, 33)}, {Seq: 1, Ack: 10001},
	} {
		fault := cellFaultBy(c)
		if fault == impl.OK {
			t.Fatalf("%s has no fault", cellName(c))
		}
		for _, e := range ends {
			wantEndCode(t, fmt.Sprintf("HearEnd of %s to %s", cellName(c), endName(e)), impl.HearEnd(e, c), fault)
		}
	}
}

func TestHearEndOfSomeEnds(t *testing.T) {
	for _, e := range someEnds() {
		for _, got := range []int{len(e.Got), 0, 191} {
			e.Got = gotOf(got)
			for far := int64(-2); far <= 9; far++ {
				for _, size := range []int{0, 1, 32} {
					c := dataCell(e.Receiver.Next+far, size != 1, listOf(size, 60, 1))
					c.Ack, c.Mask = min(e.Sender.Base+(far+9)%6, 10000), (far+2)*23
					wantHearEnd(t, e, c)
				}
			}
			for ack := e.Sender.Base - 1; ack <= e.Sender.Base+8; ack++ {
				wantHearEnd(t, e, impl.Cell{Ack: ack})
				wantHearEnd(t, e, impl.Cell{Ack: ack, Mask: 85})
				wantHearEnd(t, e, impl.Cell{Ack: ack, Mask: 255})
			}
			for _, c := range someCells() {
				wantHearEnd(t, e, c)
			}
		}
	}
}

// Ack and Mask of a cell are heard by the sender alone, and its data by the receiver alone.
func TestHearEndKeepsBothApart(t *testing.T) {
	for _, signs := range eachSigns(".h", 5) {
		e := impl.End{Slot: 30, Sender: senderOf(0, "abcdefgh.."), Receiver: receiverOf(0, signs, 5), Got: gotOf(2), Bad: 3}
		for ack := range int64(10) {
			for mask := range int64(64) {
				wantHearEnd(t, e, impl.Cell{Ack: ack, Mask: 4 * mask})
				wantHearEnd(t, e, impl.Cell{Kind: 1, Seq: ack, Ack: ack, Mask: 4 * mask, Last: mask%2 == 0, Body: []byte{byte(ack), 1}})
			}
		}
	}
}

// What comes twice changes nothing.
func TestHearEndTwice(t *testing.T) {
	for _, e := range someEnds() {
		e.Got = gotOf(5)
		for far := int64(0); far <= 8 && e.Receiver.Next+far <= 9999; far++ {
			c := dataCell(e.Receiver.Next+far, true, []byte{byte(far), 9})
			c.Ack, c.Mask = e.Sender.Base+1, 6
			once := impl.HearEnd(e, c)
			wantEnd(t, fmt.Sprintf("HearEnd of %s twice to %s", cellName(c), endName(e)), impl.HearEnd(once.End, c), once.End, impl.Cell{}, nil)
		}
	}
}
