package tests

import (
	"bytes"
	"fmt"
	"math"
	"slices"
	"testing"

	"loop.example/g00792/impl"
)

// receiverOf holds, from the Seq behind next on, what the signs tell: '.' nothing, 'h' a piece, 'l' one that is Last, 'e' one
// of no bytes, 'n' one of no bytes that is Last, 'f' a whole one.
func receiverOf(next int64, signs string, partial int) impl.Receiver {
	r := impl.Receiver{Next: next, Partial: listOf(partial, 9, 7)}
	for i, sign := range signs {
		h := impl.Held{Seq: next + 1 + int64(i), Last: sign == 'l' || sign == 'n'}
		switch sign {
		case '.':
			continue
		case 'h', 'l':
			h.Body = listOf(i+3, byte(100+10*i), 1)
		case 'f':
			h.Body = listOf(32, byte(150+10*i), 1)
		}
		r.Holds = append(r.Holds, h)
	}
	return r
}

func dataCell(seq int64, last bool, body []byte) impl.Cell {
	return impl.Cell{Kind: 1, Seq: seq, Last: last, Body: body}
}

func copiedReceiver(r impl.Receiver) impl.Receiver {
	r.Holds, r.Partial = slices.Clone(r.Holds), bytes.Clone(r.Partial)
	for i := range r.Holds {
		r.Holds[i].Body = bytes.Clone(r.Holds[i].Body)
	}
	return r
}

func receiverFaultBy(r impl.Receiver) int64 {
	if r.Next < 0 || r.Next > 10000 {
		return impl.ErrRange
	}
	if len(r.Partial) > 200 {
		return impl.ErrMany
	}
	form := int64(impl.OK)
	for i, h := range r.Holds {
		if h.Seq <= r.Next || h.Seq > r.Next+7 || h.Seq > 9999 {
			return impl.ErrRange
		}
		if len(h.Body) > 32 {
			return impl.ErrMany
		}
		if i > 0 && h.Seq <= r.Holds[i-1].Seq {
			form = impl.ErrForm
		}
	}
	return form
}

func heardBy(r impl.Receiver, c impl.Cell) (impl.Receiver, [][]byte) {
	r = copiedReceiver(r)
	there := map[int64]impl.Held{}
	for _, h := range r.Holds {
		there[h.Seq] = h
	}
	if _, is := there[c.Seq]; is || c.Seq < r.Next || c.Seq > r.Next+7 {
		return r, nil
	}
	there[c.Seq] = impl.Held{Seq: c.Seq, Body: c.Body, Last: c.Last}
	var messages [][]byte
	for h, is := there[r.Next]; is; h, is = there[r.Next] {
		delete(there, r.Next)
		r.Next++
		r.Partial = append(bytes.Clone(r.Partial), h.Body...)
		fits := len(r.Partial) <= 200
		if fits && h.Last {
			messages = append(messages, r.Partial)
		}
		if !fits || h.Last {
			r.Partial = nil
		}
	}
	r.Holds = nil
	for seq := r.Next + 1; seq <= r.Next+7; seq++ {
		if h, is := there[seq]; is {
			r.Holds = append(r.Holds, h)
		}
	}
	return r, messages
}

func sameReceiver(a, b impl.Receiver) bool {
	return a.Next == b.Next && bytes.Equal(a.Partial, b.Partial) && slices.EqualFunc(a.Holds, b.Holds, func(a, b impl.Held) bool {
		return a.Seq == b.Seq && a.Last == b.Last && bytes.Equal(a.Body, b.Body)
	})
}

func receiverName(r impl.Receiver) string {
	out := fmt.Sprintf("a receiver of Next %d, %d bytes of Partial", r.Next, len(r.Partial))
	for _, h := range r.Holds {
		out += fmt.Sprintf(" [%d: %d bytes, Last %v]", h.Seq, len(h.Body), h.Last)
	}
	return out
}

func wantReceiver(t *testing.T, what string, got impl.ReceiverResult, want impl.Receiver, messages [][]byte) {
	t.Helper()
	if got.Code != impl.OK || !sameReceiver(got.Receiver, want) || !sameLists(got.Messages, messages) {
		t.Errorf("%s: %v; want code 0, %v, the messages %v", what, got, want, messages)
	}
	if code := impl.ReceiverFault(got.Receiver); code != impl.OK {
		t.Errorf("%s: %v has the ReceiverFault %d", what, got.Receiver, code)
	}
}

func wantReceiverCode(t *testing.T, what string, got impl.ReceiverResult, code int64) {
	t.Helper()
	if got.Code != code || !sameReceiver(got.Receiver, impl.Receiver{}) || len(got.Messages) != 0 {
		t.Errorf("%s: %v; want code %d, all else zero", what, got, code)
	}
}

func TestReceiverFaultTyped(t *testing.T) {
	full, more := make([]byte, 32), make([]byte, 33)
	for name, c := range map[string]struct {
		receiver impl.Receiver
		want     int64
	}{
		"a new one":                       {impl.Receiver{}, impl.OK},
		"empty lists":                     {impl.Receiver{Holds: []impl.Held{}, Partial: []byte{}}, impl.OK},
		"Next -1":                         {impl.Receiver{Next: -1}, impl.ErrRange},
		"Next 9999":                       {impl.Receiver{Next: 9999}, impl.OK},
		"Next 10000":                      {impl.Receiver{Next: 10000}, impl.OK},
		"Next 10001":                      {impl.Receiver{Next: 10001}, impl.ErrRange},
		"the least Next":                  {impl.Receiver{Next: math.MinInt64}, impl.ErrRange},
		"the greatest Next":               {impl.Receiver{Next: math.MaxInt64}, impl.ErrRange},
		"the greatest Next, and held":     {receiverOf(math.MaxInt64-7, "hhhhhhh", 0), impl.ErrRange},
		"200 bytes":                       {impl.Receiver{Partial: make([]byte, 200)}, impl.OK},
		"201 bytes":                       {impl.Receiver{Partial: make([]byte, 201)}, impl.ErrMany},
		"one of Next":                     {impl.Receiver{Next: 5, Holds: []impl.Held{{Seq: 5}}}, impl.ErrRange},
		"one below Next":                  {impl.Receiver{Next: 5, Holds: []impl.Held{{Seq: 4}}}, impl.ErrRange},
		"one of Next and 1":               {impl.Receiver{Next: 5, Holds: []impl.Held{{Seq: 6}}}, impl.OK},
		"one of Next and 7":               {impl.Receiver{Next: 5, Holds: []impl.Held{{Seq: 12}}}, impl.OK},
		"one of Next and 8":               {impl.Receiver{Next: 5, Holds: []impl.Held{{Seq: 13}}}, impl.ErrRange},
		"one of -1":                       {impl.Receiver{Holds: []impl.Held{{Seq: -1}}}, impl.ErrRange},
		"one of the least Seq":            {impl.Receiver{Next: 5, Holds: []impl.Held{{Seq: math.MinInt64}}}, impl.ErrRange},
		"one of the greatest Seq":         {impl.Receiver{Next: 5, Holds: []impl.Held{{Seq: math.MaxInt64}}}, impl.ErrRange},
		"9999 held":                       {impl.Receiver{Next: 9998, Holds: []impl.Held{{Seq: 9999}}}, impl.OK},
		"9999 held, 7 above":              {impl.Receiver{Next: 9992, Holds: []impl.Held{{Seq: 9999}}}, impl.OK},
		"10000 held":                      {impl.Receiver{Next: 9998, Holds: []impl.Held{{Seq: 10000}}}, impl.ErrRange},
		"10000 held, 7 above":             {impl.Receiver{Next: 9993, Holds: []impl.Held{{Seq: 10000}}}, impl.ErrRange},
		"10000 held, 1 above":             {impl.Receiver{Next: 9999, Holds: []impl.Held{{Seq: 10000}}}, impl.ErrRange},
		"10001 held behind the end":       {impl.Receiver{Next: 10000, Holds: []impl.Held{{Seq: 10001}}}, impl.ErrRange},
		"seven held":                      {receiverOf(0, "hhhhhhh", 200), impl.OK},
		"eight held":                      {receiverOf(0, "hhhhhhhh", 0), impl.ErrRange},
		"two of one Seq":                  {impl.Receiver{Holds: []impl.Held{{Seq: 3}, {Seq: 3}}}, impl.ErrForm},
		"two that fall":                   {impl.Receiver{Holds: []impl.Held{{Seq: 4}, {Seq: 3}}}, impl.ErrForm},
		"two that rise":                   {impl.Receiver{Holds: []impl.Held{{Seq: 3}, {Seq: 4}}}, impl.OK},
		"three, the last one falls":       {impl.Receiver{Holds: []impl.Held{{Seq: 3}, {Seq: 5}, {Seq: 4}}}, impl.ErrForm},
		"three, the first one is alike":   {impl.Receiver{Holds: []impl.Held{{Seq: 3}, {Seq: 3}, {Seq: 4}}}, impl.ErrForm},
		"three, the last one is as first": {impl.Receiver{Holds: []impl.Held{{Seq: 3}, {Seq: 4}, {Seq: 3}}}, impl.ErrForm},
		"many of one Seq":                 {impl.Receiver{Holds: slices.Repeat([]impl.Held{{Seq: 3}}, 1000)}, impl.ErrForm},
		"a Body of 32":                    {impl.Receiver{Holds: []impl.Held{{Seq: 3, Body: full}}}, impl.OK},
		"a Body of 33":                    {impl.Receiver{Holds: []impl.Held{{Seq: 3, Body: more}}}, impl.ErrMany},
		"a Body of 33 at the end":         {impl.Receiver{Holds: []impl.Held{{Seq: 3}, {Seq: 4}, {Seq: 5, Body: more}}}, impl.ErrMany},
		// ErrRange and ErrMany of all are asked ahead of what is asked one by one, and ErrForm is asked behind.
		"Next -1, and all else":        {impl.Receiver{Next: -1, Partial: make([]byte, 201), Holds: []impl.Held{{Seq: 9, Body: more}}}, impl.ErrRange},
		"201, and a Seq of Next":       {impl.Receiver{Partial: make([]byte, 201), Holds: []impl.Held{{Seq: 0}}}, impl.ErrMany},
		"201, and two of one Seq":      {impl.Receiver{Partial: make([]byte, 201), Holds: []impl.Held{{Seq: 1}, {Seq: 1}}}, impl.ErrMany},
		"a Seq of Next, with 33":       {impl.Receiver{Holds: []impl.Held{{Seq: 0, Body: more}}}, impl.ErrRange},
		"a Seq of Next, then 33":       {impl.Receiver{Holds: []impl.Held{{Seq: 0}, {Seq: 1, Body: more}}}, impl.ErrRange},
		"a Body of 33, then Next":      {impl.Receiver{Holds: []impl.Held{{Seq: 1, Body: more}, {Seq: 0}}}, impl.ErrMany},
		"two of one Seq, then 33":      {impl.Receiver{Holds: []impl.Held{{Seq: 1}, {Seq: 1}, {Seq: 2, Body: more}}}, impl.ErrMany},
		"two of one Seq, then 8 above": {impl.Receiver{Holds: []impl.Held{{Seq: 1}, {Seq: 1}, {Seq: 8}}}, impl.ErrRange},
		"two that fall, with 33":       {impl.Receiver{Holds: []impl.Held{{Seq: 2}, {Seq: 1, Body: more}}}, impl.ErrMany},
		"two that fall below Next":     {impl.Receiver{Holds: []impl.Held{{Seq: 2}, {Seq: 0}}}, impl.ErrRange},
	} {
		if got := impl.ReceiverFault(c.receiver); got != c.want {
			t.Errorf("ReceiverFault of %s: %d; want %d", name, got, c.want)
		}
		if by := receiverFaultBy(c.receiver); by != c.want {
			t.Errorf("the tests reckon the ReceiverFault of %s as %d; want %d", name, by, c.want)
		}
	}
}

func wantReceiverFault(t *testing.T, r impl.Receiver) {
	t.Helper()
	if got, want := impl.ReceiverFault(r), receiverFaultBy(r); got != want {
		t.Errorf("ReceiverFault of %s: %d; want %d", receiverName(r), got, want)
	}
}

var receiverNexts = []int64{math.MinInt64, -1 << 32, -1, 0, 1, 9991, 9992, 9993, 9998, 9999, 10000, 10001, 1 << 32, math.MaxInt64 - 8}

func TestReceiverFaultEdges(t *testing.T) {
	for _, next := range receiverNexts {
		for _, partial := range []int{0, 199, 200, 201, 1001} {
			wantReceiverFault(t, impl.Receiver{Next: next, Partial: make([]byte, partial)})
			for far := int64(-1); far <= 9; far++ {
				for _, size := range []int{0, 1, 31, 32, 33, 1001} {
					held := impl.Held{Seq: next + far, Body: make([]byte, size), Last: size == 1}
					wantReceiverFault(t, impl.Receiver{Next: next, Partial: make([]byte, partial), Holds: []impl.Held{held}})
				}
			}
		}
	}
}

// noReceivers have up to three of Holds, in each order, and may have a fault beside.
func noReceivers(yield func(r impl.Receiver, fault int64) bool) {
	for _, next := range []int64{-1, 3, 9994, 10001} {
		held := []impl.Held{
			{Seq: next}, {Seq: next + 1}, {Seq: next + 2, Last: true}, {Seq: next + 3, Body: make([]byte, 33)}, {Seq: next + 7},
			{Seq: next + 8, Body: make([]byte, 33)}, {Seq: next + 8},
		}
		for count := range 4 {
			for _, places := range eachSigns("0123456", count) {
				for _, partial := range []int{0, 201} {
					r := impl.Receiver{Next: next, Partial: make([]byte, partial)}
					for _, place := range places {
						r.Holds = append(r.Holds, held[place-'0'])
					}
					if fault := receiverFaultBy(r); fault != impl.OK && !yield(r, fault) {
						return
					}
				}
			}
		}
	}
}

func TestReceiverFaultOrder(t *testing.T) {
	checkFaults(t, noReceivers, impl.ReceiverFault, receiverName, impl.ErrRange, impl.ErrMany, impl.ErrForm)
}

// The ReceiverFault is asked ahead of all else, be what is heard a cell or not.
func TestReceiversWithAFault(t *testing.T) {
	cells := []impl.Cell{{}, {Kind: 2}, {Seq: 1}, {Mask: 256}, dataCell(3, true, nil), dataCell(4, false, make([]byte, 33))}
	for r, fault := range noReceivers {
		name := receiverName(r)
		for _, c := range cells {
			wantReceiverCode(t, fmt.Sprintf("HearData of %s to %s", cellName(c), name), impl.HearData(r, c), fault)
		}
		if got := impl.AckOf(r); got != (impl.AckResult{Code: fault}) {
			t.Errorf("AckOf of %s: %v; want code %d, all else zero", name, got, fault)
		}
	}
}

// someReceivers have no fault.
func someReceivers() []impl.Receiver {
	out := []impl.Receiver{{}, {Next: 10000}, {Next: 10000, Partial: make([]byte, 200)}, receiverOf(9999, "", 3), receiverOf(9998, "l", 190), receiverOf(9992, "hhhhhhl", 0)}
	for _, signs := range []string{
		"", "h", "l", "e", "n", "f", ".h", "......l", "hhhhhhh", "lllllll", "nnnnnnn", "fffffff", "h.h.h.h", ".l.l.l.", "hl.hl.h", "ffffffl", "nhnlnhn", "el.fl",
	} {
		for _, partial := range []int{0, 1, 168, 199, 200} {
			out = append(out, receiverOf(0, signs, partial), receiverOf(300, signs, partial), receiverOf(9992, signs, partial))
		}
	}
	return out
}

// A cell that cannot be heard: its fault, or ErrForm, if it is a dummy.
func TestHearDataOfNoData(t *testing.T) {
	for _, r := range someReceivers() {
		name := receiverName(r)
		for _, c := range []impl.Cell{{}, {Ack: 10000, Mask: 255}, {Body: []byte{}}, {Ack: 3}} {
			wantReceiverCode(t, fmt.Sprintf("HearData of %s to %s", cellName(c), name), impl.HearData(r, c), impl.ErrForm)
		}
		for _, c := range []impl.Cell{
			{Kind: 2}, {Kind: -1}, {Kind: math.MaxInt64}, {Kind: math.MinInt64, Seq: r.Next}, {Seq: 1}, {Last: true}, {Body: []byte{1}}, {Ack: 10001},
			{Ack: -1}, {Mask: 256}, {Mask: math.MinInt64}, {Kind: 1, Seq: -1}, {Kind: 1, Seq: 10000}, {Kind: 1, Seq: math.MinInt64},
			{Kind: 1, Seq: math.MaxInt64}, {Kind: 1, Ack: 10001}, {Kind: 1, Mask: -1}, {Kind: 1, Body: make([]byte, 33)},
			{Kind: 1, Seq: 10000, Body: make([]byte, 33)},
		} {
			fault := cellFaultBy(c)
			if fault == impl.OK {
				t.Fatalf("%s has no fault", cellName(c))
			}
			wantReceiverCode(t, fmt.Sprintf("HearData of %s to %s", cellName(c), name), impl.HearData(r, c), fault)
		}
	}
}

func TestHearDataTyped(t *testing.T) {
	abc, de, f := []byte{1, 2, 3}, []byte{4, 5}, []byte{6}
	start := impl.Receiver{Next: 5}
	held := func(seq int64, body []byte, last bool) impl.Held { return impl.Held{Seq: seq, Body: body, Last: last} }
	for name, c := range map[string]struct {
		was      impl.Receiver
		cell     impl.Cell
		want     impl.Receiver
		messages [][]byte
	}{
		"the one below":            {start, dataCell(4, true, abc), start, nil},
		"the first one":            {start, dataCell(0, true, abc), start, nil},
		"the awaited one":          {start, dataCell(5, false, abc), impl.Receiver{Next: 6, Partial: abc}, nil},
		"the awaited one, Last":    {start, dataCell(5, true, abc), impl.Receiver{Next: 6}, [][]byte{abc}},
		"the awaited one, empty":   {start, dataCell(5, false, nil), impl.Receiver{Next: 6}, nil},
		"an empty message":         {start, dataCell(5, true, nil), impl.Receiver{Next: 6}, [][]byte{nil}},
		"the next one":             {start, dataCell(6, true, abc), impl.Receiver{Next: 5, Holds: []impl.Held{held(6, abc, true)}}, nil},
		"one 7 above":              {start, dataCell(12, false, abc), impl.Receiver{Next: 5, Holds: []impl.Held{held(12, abc, false)}}, nil},
		"one 8 above":              {start, dataCell(13, false, abc), start, nil},
		"the greatest Seq":         {start, dataCell(9999, false, abc), start, nil},
		"what is more, is no more": {start, impl.Cell{Kind: 1, Seq: 5, Ack: 700, Mask: 255, Last: true, Body: de}, impl.Receiver{Next: 6}, [][]byte{de}},
		"behind a Partial": {
			impl.Receiver{Next: 5, Partial: abc}, dataCell(5, false, de), impl.Receiver{Next: 6, Partial: []byte{1, 2, 3, 4, 5}}, nil,
		},
		"behind a Partial, Last": {
			impl.Receiver{Next: 5, Partial: abc}, dataCell(5, true, de), impl.Receiver{Next: 6}, [][]byte{{1, 2, 3, 4, 5}},
		},
		"Last, and nothing in it": {
			impl.Receiver{Next: 5, Partial: abc}, dataCell(5, true, nil), impl.Receiver{Next: 6}, [][]byte{abc},
		},
		"one that is held, with another Body": {
			impl.Receiver{Next: 5, Holds: []impl.Held{held(7, abc, false)}}, dataCell(7, true, de),
			impl.Receiver{Next: 5, Holds: []impl.Held{held(7, abc, false)}}, nil,
		},
		"ahead of those held": {
			impl.Receiver{Next: 5, Partial: f, Holds: []impl.Held{held(7, abc, false), held(9, de, true)}}, dataCell(6, true, nil),
			impl.Receiver{Next: 5, Partial: f, Holds: []impl.Held{held(6, nil, true), held(7, abc, false), held(9, de, true)}}, nil,
		},
		"between those held": {
			impl.Receiver{Next: 5, Holds: []impl.Held{held(7, abc, false), held(9, de, true)}}, dataCell(8, true, f),
			impl.Receiver{Next: 5, Holds: []impl.Held{held(7, abc, false), held(8, f, true), held(9, de, true)}}, nil,
		},
		"behind those held": {
			impl.Receiver{Next: 5, Holds: []impl.Held{held(7, abc, false), held(9, de, true)}}, dataCell(11, true, f),
			impl.Receiver{Next: 5, Holds: []impl.Held{held(7, abc, false), held(9, de, true), held(11, f, true)}}, nil,
		},
		"lets one go on": {
			impl.Receiver{Next: 5, Holds: []impl.Held{held(6, de, true), held(8, f, true)}}, dataCell(5, false, abc),
			impl.Receiver{Next: 7, Holds: []impl.Held{held(8, f, true)}}, [][]byte{{1, 2, 3, 4, 5}},
		},
		"lets several go on, and one is left of them": {
			impl.Receiver{Next: 5, Partial: f, Holds: []impl.Held{held(6, de, true), held(7, abc, true), held(8, de, false)}}, dataCell(5, false, abc),
			impl.Receiver{Next: 9, Partial: de}, [][]byte{{6, 1, 2, 3, 4, 5}, abc},
		},
		"several messages at once, one of them empty": {
			impl.Receiver{Next: 5, Holds: []impl.Held{held(6, nil, true), held(7, de, true), held(9, de, true)}}, dataCell(5, true, abc),
			impl.Receiver{Next: 8, Holds: []impl.Held{held(9, de, true)}}, [][]byte{abc, nil, de},
		},
		"does not let go on what waits for another": {
			impl.Receiver{Next: 5, Holds: []impl.Held{held(7, de, true)}}, dataCell(5, true, abc),
			impl.Receiver{Next: 6, Holds: []impl.Held{held(7, de, true)}}, [][]byte{abc},
		},
		"the last one that there is": {
			impl.Receiver{Next: 9999, Partial: f}, dataCell(9999, true, abc), impl.Receiver{Next: 10000}, [][]byte{{6, 1, 2, 3}},
		},
		"when all came": {
			impl.Receiver{Next: 10000, Partial: f}, dataCell(9999, true, abc), impl.Receiver{Next: 10000, Partial: f}, nil,
		},
		"at the end, one ahead": {
			impl.Receiver{Next: 9998}, dataCell(9999, true, abc), impl.Receiver{Next: 9998, Holds: []impl.Held{held(9999, abc, true)}}, nil,
		},
		"at the end, all that waits": {
			impl.Receiver{Next: 9998, Holds: []impl.Held{held(9999, de, true)}}, dataCell(9998, true, abc), impl.Receiver{Next: 10000}, [][]byte{abc, de},
		},
	} {
		wantReceiver(t, "HearData, "+name, impl.HearData(c.was, c.cell), c.want, c.messages)
	}
}

// A message has 200 bytes at most: what is longer is thrown away as soon as that shows.
func TestHearDataTooLong(t *testing.T) {
	for _, last := range []bool{false, true} {
		for partial := 160; partial <= 200; partial++ {
			for size := range 33 {
				start, body := listOf(partial, 1, 1), listOf(size, 99, 5)
				whole := append(bytes.Clone(start), body...)
				want, messages := impl.Receiver{Next: 6}, [][]byte(nil)
				if partial+size <= 200 && last {
					messages = [][]byte{whole}
				} else if partial+size <= 200 {
					want.Partial = whole
				}
				what := fmt.Sprintf("HearData of %d bytes, Last %v, behind %d", size, last, partial)
				got := impl.HearData(impl.Receiver{Next: 5, Partial: start}, dataCell(5, last, body))
				wantReceiver(t, what, got, want, messages)
			}
		}
	}
	// What stands behind begins anew, and is a message of its own.
	r := impl.Receiver{Next: 5, Partial: make([]byte, 190), Holds: []impl.Held{{Seq: 6, Body: []byte{7}}, {Seq: 7, Body: []byte{8}, Last: true}}}
	got := impl.HearData(r, dataCell(5, false, make([]byte, 11)))
	wantReceiver(t, "HearData of 11 bytes, and two more pieces held", got, impl.Receiver{Next: 8}, [][]byte{{7, 8}})
	got = impl.HearData(r, dataCell(5, true, make([]byte, 11)))
	wantReceiver(t, "HearData of 11 bytes, Last, and two more pieces held", got, impl.Receiver{Next: 8}, [][]byte{{7, 8}})
	r = receiverOf(0, "ffffffh", 0)
	got = impl.HearData(r, dataCell(0, false, make([]byte, 32)))
	left := r.Holds[6].Body
	wantReceiver(t, "HearData of eight pieces", got, impl.Receiver{Next: 8, Partial: left}, nil)
	// One message too long, and another whole behind it, and one ahead.
	r = receiverOf(0, "lfffffl", 0)
	got = impl.HearData(r, dataCell(0, false, []byte{4}))
	ahead := append([]byte{4}, r.Holds[0].Body...)
	whole := slices.Concat(r.Holds[1].Body, r.Holds[2].Body, r.Holds[3].Body, r.Holds[4].Body, r.Holds[5].Body, r.Holds[6].Body)
	wantReceiver(t, "HearData of two messages", got, impl.Receiver{Next: 8}, [][]byte{ahead, whole})
}

// Promise 9: what comes twice changes nothing.
func wantHeard(t *testing.T, r impl.Receiver, c impl.Cell) {
	t.Helper()
	what := fmt.Sprintf("HearData of %s to %s", cellName(c), receiverName(r))
	got := impl.HearData(r, c)
	if fault := cellFaultBy(c); fault != impl.OK {
		wantReceiverCode(t, what, got, fault)
		return
	}
	want, messages := heardBy(r, c)
	wantReceiver(t, what, got, want, messages)
	wantReceiver(t, what+", again", impl.HearData(got.Receiver, c), want, nil)
}

func TestHearDataOfSomeReceivers(t *testing.T) {
	for _, r := range someReceivers() {
		for far := int64(-9); far <= 10; far++ {
			for _, size := range []int{0, 1, 31, 32} {
				wantHeard(t, r, dataCell(r.Next+far, false, listOf(size, 60, 1)))
				wantHeard(t, r, dataCell(r.Next+far, true, listOf(size, 60, 1)))
			}
		}
		wantHeard(t, r, dataCell(0, true, nil))
		wantHeard(t, r, dataCell(9999, true, []byte{1}))
	}
}

// Each set of what can be held.
func TestHearDataBesideAllThatIsHeld(t *testing.T) {
	for _, next := range []int64{0, 9, 9991, 9992} {
		for _, signs := range eachSigns(".h", 7) {
			r := receiverOf(next, signs, 20)
			for far := int64(0); far <= 8; far++ {
				wantHeard(t, r, dataCell(next+far, far%2 == 0, []byte{byte(far)}))
			}
		}
	}
}

func TestHearDataOfSeveralMessages(t *testing.T) {
	for _, signs := range eachSigns(".hln", 5) {
		r := receiverOf(40, signs, 3)
		wantHeard(t, r, dataCell(40, false, []byte{1, 2}))
		wantHeard(t, r, dataCell(40, true, []byte{1, 2}))
		wantHeard(t, r, dataCell(43, true, nil))
	}
}

func wantAck(t *testing.T, r impl.Receiver, ack, mask int64) {
	t.Helper()
	if got := impl.AckOf(r); got != (impl.AckResult{Ack: ack, Mask: mask}) {
		t.Errorf("AckOf %s: %v; want code 0, %d, %d", receiverName(r), got, ack, mask)
	}
}

func TestAckOf(t *testing.T) {
	for _, next := range []int64{0, 1, 255, 256, 5000, 9991, 9992} {
		wantAck(t, impl.Receiver{Next: next}, next, 0)
		for bit, mask := range []int64{1, 2, 4, 8, 16, 32, 64} {
			wantAck(t, receiverOf(next, "......."[:bit]+"h", 0), next, mask)
			wantAck(t, receiverOf(next, "......."[:bit]+"n", 200), next, mask)
		}
		wantAck(t, receiverOf(next, "hhhhhhh", 7), next, 127)
		for number, signs := range eachSigns(".h", 7) {
			var mask int64
			for bit, power := range []int64{1, 2, 4, 8, 16, 32, 64} {
				if number>>(6-bit)%2 == 1 {
					mask += power
				}
			}
			wantAck(t, receiverOf(next, signs, 0), next, mask)
		}
	}
	for next := int64(9990); next <= 10000; next++ {
		wantAck(t, impl.Receiver{Next: next}, next, 0)
	}
	wantAck(t, receiverOf(9998, "h", 0), 9998, 1)
	wantAck(t, receiverOf(9993, "hhhhhh", 0), 9993, 63)
}

// What AckOf tells is what HearAck takes: just those that came are Got, or gone.
func TestAckOfIsHeard(t *testing.T) {
	for _, signs := range eachSigns(".h", 7) {
		for _, next := range []int64{0, 1, 5} {
			r := receiverOf(20+next, signs, 0)
			ack := impl.AckOf(r)
			got := impl.HearAck(senderOf(20, "aaaaaaaa"), ack.Ack, ack.Mask)
			var left []int64
			for i, p := range got.Sender.Parts {
				if !p.Got {
					left = append(left, got.Sender.Base+int64(i))
				}
			}
			var want []int64
			for seq := 20 + next; seq < 28; seq++ {
				if !slices.ContainsFunc(r.Holds, func(h impl.Held) bool { return h.Seq == seq }) {
					want = append(want, seq)
				}
			}
			if got.Code != impl.OK || !slices.Equal(left, want) {
				t.Errorf("HearAck of AckOf %s: %v is left, want %v", receiverName(r), left, want)
			}
		}
	}
}

// anyReceivers have a fault or have none; no two are the same.
func anyReceivers() []impl.Receiver {
	return []impl.Receiver{
		{}, {Next: 1}, {Next: math.MinInt64}, {Next: math.MaxInt64}, receiverOf(0, "h", 0), receiverOf(0, "l", 2), receiverOf(0, "h.n", 3), receiverOf(-7, "hhhhhhhhhh", 201),
		{Holds: []impl.Held{{Seq: math.MinInt64, Body: listOf(1001, 1, 1), Last: true}, {Seq: 4}, {Seq: 4}}}, {Partial: listOf(1001, 1, 1)},
	}
}

// changedReceivers differ from r in one thing alone.
func changedReceivers(r impl.Receiver) map[string]impl.Receiver {
	out, change := changesOf(r, copiedReceiver)
	for _, by := range []int64{1, -1, 256, 1 << 32, math.MinInt64} {
		change(fmt.Sprintf("Next by %d", by), func(r *impl.Receiver) { r.Next += by })
		for i := range r.Holds {
			change(fmt.Sprintf("Seq at %d by %d", i, by), func(r *impl.Receiver) { r.Holds[i].Seq += by })
		}
	}
	for name, partial := range changedBodies(r.Partial) {
		change("Partial, "+name, func(r *impl.Receiver) { r.Partial = partial })
	}
	for i, h := range r.Holds {
		change(fmt.Sprintf("Last at %d", i), func(r *impl.Receiver) { r.Holds[i].Last = !h.Last })
		for name, body := range changedBodies(h.Body) {
			change(fmt.Sprintf("Body at %d, %s", i, name), func(r *impl.Receiver) { r.Holds[i].Body = body })
		}
		change(fmt.Sprintf("none at %d", i), func(r *impl.Receiver) { r.Holds = slices.Delete(r.Holds, i, i+1) })
	}
	if len(r.Holds) > 1 {
		change("two exchanged", func(r *impl.Receiver) { r.Holds[0], r.Holds[1] = r.Holds[1], r.Holds[0] })
	}
	change("one more", func(r *impl.Receiver) { r.Holds = append(r.Holds, impl.Held{}) })
	return out
}

func TestSameReceivers(t *testing.T) {
	all := anyReceivers()
	for i, r := range all {
		if !impl.SameReceivers(r, copiedReceiver(r)) || !impl.SameReceivers(r, r) {
			t.Errorf("SameReceivers of %s and its copy is false", receiverName(r))
		}
		for name, other := range changedReceivers(r) {
			if impl.SameReceivers(r, other) || impl.SameReceivers(other, r) {
				t.Errorf("SameReceivers of %s, and another one, %s, is true", receiverName(r), name)
			}
		}
		for k, other := range all {
			if got := impl.SameReceivers(r, other); got != (i == k) {
				t.Errorf("SameReceivers of %s and %s is %v", receiverName(r), receiverName(other), got)
			}
		}
	}
}
