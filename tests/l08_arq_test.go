package tests

import (
	"bytes"
	"fmt"
	"math/rand/v2"
	"slices"
	"testing"

	"loop.example/g00792/impl"
)

func TestArqNumbers(t *testing.T) {
	if impl.SendWindow != 8 || impl.MaxParts != 24 || impl.MaxMessage != 200 || impl.Timeout != 4 || impl.NeverSent != -1 {
		t.Errorf("SendWindow is %d, MaxParts is %d, MaxMessage is %d, Timeout is %d, NeverSent is %d",
			impl.SendWindow, impl.MaxParts, impl.MaxMessage, impl.Timeout, impl.NeverSent)
	}
}

func changedBodies(body []byte) map[string][]byte {
	out := map[string][]byte{"a zero more": append(bytes.Clone(body), 0)}
	for i := range body {
		out[fmt.Sprintf("turned at %d", i)] = turnedAt(body, i, 1)
	}
	if len(body) > 0 {
		out["one less"] = body[:len(body)-1]
		out["none"] = nil
	}
	return out
}

// An empty list and nil are the same.
func TestArqEmptyIsNil(t *testing.T) {
	none, room := []byte{}, listOf(9, 1, 1)[:0]
	for _, base := range []int64{0, 9975, -1} {
		if !impl.SameSenders(impl.Sender{Base: base}, impl.Sender{Base: base, Parts: []impl.Part{}}) {
			t.Errorf("SameSenders of nil and no Parts is false")
		}
	}
	for _, sent := range []int64{-1, 7, 401} {
		a := impl.Sender{Parts: []impl.Part{{Sent: sent}}}
		for _, body := range [][]byte{none, room} {
			b := impl.Sender{Parts: []impl.Part{{Sent: sent, Body: body}}}
			if !impl.SameSenders(a, b) || !impl.SameSenders(b, a) || impl.SenderFault(a) != impl.SenderFault(b) {
				t.Errorf("of a Body that is nil and one that is empty, Sent %d", sent)
			}
			one, other := impl.NextCell(a, 300), impl.NextCell(b, 300)
			if one.Code != other.Code || !sameSender(one.Sender, other.Sender) || !sameCell(one.Cell, other.Cell) {
				t.Errorf("NextCell of a Body that is nil: %v, and of one that is empty: %v", one, other)
			}
		}
	}
	a := impl.Receiver{Holds: []impl.Held{{Seq: 2}}}
	for _, body := range [][]byte{none, room} {
		b := impl.Receiver{Holds: []impl.Held{{Seq: 2, Body: body}}, Partial: body}
		if !impl.SameReceivers(a, b) || !impl.SameReceivers(b, a) || impl.ReceiverFault(b) != impl.OK {
			t.Error("of a Held and a Partial that are nil, and such that are empty")
		}
		for _, c := range []impl.Cell{dataCell(0, true, nil), dataCell(0, true, body)} {
			want, messages := heardBy(a, c)
			wantReceiver(t, "HearData, nil", impl.HearData(a, c), want, messages)
			wantReceiver(t, "HearData, empty", impl.HearData(b, c), want, messages)
		}
	}
	if !impl.SameReceivers(impl.Receiver{}, impl.Receiver{Holds: []impl.Held{}, Partial: none}) {
		t.Error("SameReceivers of nil and empty lists is false")
	}
	wantAck(t, impl.Receiver{Next: 3, Holds: []impl.Held{}}, 3, 0)
}

// way is one sender, one receiver, and what is on its way between them; all that promise 9 says is asked at each step.
type way struct {
	t        *testing.T
	what     string
	chance   *rand.Rand
	sender   impl.Sender
	receiver impl.Receiver
	now      int64
	said     [][]byte
	heard    [][]byte
	cells    []impl.Cell
	acks     []impl.AckResult
	sentAt   map[int64]int64
	came     map[int64]bool
	nextNew  int64
}

func newWay(t *testing.T, seed uint64, base int64) *way {
	return &way{
		t: t, what: fmt.Sprintf("the way %d from %d on", seed, base), chance: rand.New(rand.NewPCG(seed, 8)),
		sender: impl.Sender{Base: base}, receiver: impl.Receiver{Next: base}, nextNew: base,
		sentAt: map[int64]int64{}, came: map[int64]bool{},
	}
}

func (w *way) say() {
	message := listOf(1+w.chance.IntN(200), byte(w.chance.IntN(256)), byte(w.chance.IntN(256)))
	got := impl.SendMessage(w.sender, message)
	if got.Code == impl.ErrFull {
		return
	}
	want, _ := sentBy(w.sender, message)
	wantSender(w.t, w.what+", SendMessage", got, want)
	w.sender = got.Sender
	w.said = append(w.said, message)
}

func (w *way) tick() {
	got := impl.NextCell(w.sender, w.now)
	want, cell := nextBy(w.sender, w.now)
	wantNext(w.t, w.what+", NextCell", got, want, cell)
	w.sender = got.Sender
	if got.Cell.Kind == 0 {
		return
	}
	seq := got.Cell.Seq
	at, was := w.sentAt[seq]
	if was && w.now-at < 4 {
		w.t.Errorf("%s: %d was sent at %d, and again at %d", w.what, seq, at, w.now)
	}
	if !was && seq != w.nextNew {
		w.t.Errorf("%s: %d is sent first, when %d should be", w.what, seq, w.nextNew)
	}
	if !was {
		w.nextNew++
	}
	if w.came[seq] {
		w.t.Errorf("%s: %d is sent again, though it is known to have come", w.what, seq)
	}
	w.sentAt[seq] = w.now
	w.cells = append(w.cells, got.Cell)
}

func (w *way) hear(c impl.Cell) {
	was := w.receiver
	got := impl.HearData(was, c)
	want, messages := heardBy(was, c)
	wantReceiver(w.t, w.what+", HearData", got, want, messages)
	if got.Receiver.Next < was.Next {
		w.t.Errorf("%s: Next went back from %d to %d", w.what, was.Next, got.Receiver.Next)
	}
	w.receiver = got.Receiver
	w.heard = append(w.heard, got.Messages...)
	if len(w.heard) > len(w.said) || !sameLists(w.heard, w.said[:len(w.heard)]) {
		w.t.Errorf("%s: %v was said, and %v was heard", w.what, w.said, w.heard)
	}
	w.acks = append(w.acks, impl.AckOf(w.receiver))
}

func (w *way) hearAck(a impl.AckResult) {
	was := w.sender
	got := impl.HearAck(was, a.Ack, a.Mask)
	wantSender(w.t, w.what+", HearAck", got, ackedBy(was, a.Ack, a.Mask))
	w.sender = got.Sender
	for i, p := range was.Parts {
		seq := was.Base + int64(i)
		place := seq - w.sender.Base
		w.came[seq] = place < 0 || w.sender.Parts[place].Got
		if p.Got && !w.came[seq] {
			w.t.Errorf("%s: %d came, and went back", w.what, seq)
		}
	}
	if w.sender.Base < was.Base || w.sender.Base > w.receiver.Next {
		w.t.Errorf("%s: Base was %d and is %d, Next is %d", w.what, was.Base, w.sender.Base, w.receiver.Next)
	}
}

// carry loses some of what is on its way, and lets some come late, or twice, or in another order.
func (w *way) carry(lost float64) {
	w.chance.Shuffle(len(w.cells), func(i, k int) { w.cells[i], w.cells[k] = w.cells[k], w.cells[i] })
	w.cells = slices.DeleteFunc(w.cells, func(c impl.Cell) bool {
		if w.chance.Float64() < lost {
			return true
		}
		w.hear(c)
		return w.chance.Float64() >= lost
	})
	w.acks = slices.DeleteFunc(w.acks, func(a impl.AckResult) bool {
		if w.chance.Float64() < lost {
			return true
		}
		w.hearAck(a)
		return w.chance.Float64() >= lost
	})
}

// Promise 9: whatever the way does, what is heard is what was said, in order; and when nothing is lost any more, all of it.
func TestWhatIsSaidIsHeard(t *testing.T) {
	for seed := range uint64(60) {
		for _, base := range []int64{0, 9880} {
			w := newWay(t, seed, base)
			for w.now < 300 {
				if w.chance.IntN(5) == 0 {
					w.say()
				}
				w.tick()
				w.carry([]float64{0, 0.2, 0.5, 0.8}[seed%4])
				w.now++
			}
			for ; w.now <= 400; w.now++ {
				w.tick()
				w.carry(0)
			}
			if len(w.sender.Parts) != 0 || len(w.receiver.Holds) != 0 || !sameLists(w.heard, w.said) || len(w.said) < 5 {
				t.Errorf("%s: %d messages were said, %d were heard, and %v is left", w.what, len(w.said), len(w.heard), w.sender)
			}
		}
	}
}

// firstCalls are calls of each function with an answer, and with each code.
func firstCalls() map[string][]call {
	out := map[string][]call{}
	for _, s := range append(anySenders(), someSenders()...) {
		out["SenderFault"] = append(out["SenderFault"], call{s})
		for _, size := range []int{0, 1, 33, 64, 200, 201} {
			out["SendMessage"] = append(out["SendMessage"], call{s, listOf(size, 1, 1)})
		}
		for _, now := range []int64{-1, 0, 3, 4, 9, 400} {
			out["NextCell"] = append(out["NextCell"], call{s, now})
		}
		for _, ack := range []int64{-1, s.Base, s.Base + 1, s.Base + 2, 10000} {
			out["HearAck"] = append(out["HearAck"], call{s, ack, int64(0)}, call{s, ack, int64(6)}, call{s, ack, int64(255)})
		}
		out["SameSenders"] = append(out["SameSenders"], call{s, s}, call{s, copiedSender(s)}, call{s, senderOf(3, "aB.")})
	}
	for _, r := range append(anyReceivers(), someReceivers()...) {
		out["ReceiverFault"] = append(out["ReceiverFault"], call{r})
		out["AckOf"] = append(out["AckOf"], call{r})
		for _, c := range []impl.Cell{
			{}, dataCell(r.Next, false, listOf(9, 1, 1)), dataCell(r.Next, true, listOf(32, 1, 1)), dataCell(r.Next, true, nil), dataCell(r.Next+2, true, listOf(3, 1, 1)),
			dataCell(r.Next+7, false, listOf(4, 1, 1)), dataCell(r.Next+8, false, listOf(4, 1, 1)), dataCell(0, false, listOf(33, 1, 1)),
		} {
			out["HearData"] = append(out["HearData"], call{r, c})
		}
		out["SameReceivers"] = append(out["SameReceivers"], call{r, r}, call{r, copiedReceiver(r)}, call{r, receiverOf(0, "h.l", 5)})
	}
	return out
}

// sharedCalls have arguments that share their memory with one another.
func sharedCalls() map[string][]call {
	list := listOf(64, 5, 7)
	s, r := impl.Sender{Base: 2}, impl.Receiver{Next: 2, Partial: list[:20]}
	for i := range 8 {
		s.Parts = append(s.Parts, impl.Part{Body: list[i : i+9], Last: i%2 == 0, Sent: int64(i)})
	}
	for seq := int64(3); seq < 10; seq++ {
		r.Holds = append(r.Holds, impl.Held{Seq: seq, Body: list[:8], Last: seq%2 == 0})
	}
	rest := r
	rest.Holds = r.Holds[1:]
	return map[string][]call{
		"SendMessage": {{s, list}, {impl.Sender{}, list}},
		"NextCell":    {{s, int64(1)}, {s, int64(9)}, {impl.Sender{Parts: s.Parts[3:6]}, int64(400)}},
		"HearAck":     {{s, int64(2), int64(6)}, {s, int64(5), int64(0)}},
		"HearData": {
			{r, dataCell(2, false, list[:30])}, {r, dataCell(2, true, list[:30])}, {r, dataCell(4, true, list[:8])}, {rest, dataCell(3, true, list[:20])},
		},
	}
}

// Promise 1, of all functions of the chapter.
func TestArqFirstPromise(t *testing.T) {
	shared := sharedCalls()
	for name, calls := range firstCalls() {
		function := map[string]any{
			"SenderFault": impl.SenderFault, "SendMessage": impl.SendMessage, "NextCell": impl.NextCell, "HearAck": impl.HearAck,
			"ReceiverFault": impl.ReceiverFault, "HearData": impl.HearData, "AckOf": impl.AckOf,
			"SameSenders": impl.SameSenders, "SameReceivers": impl.SameReceivers,
		}[name]
		checkFirstPromise(t, name, function, append(calls, shared[name]...))
	}
}
