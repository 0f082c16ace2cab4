package tests

import (
	"bytes"
	"fmt"
	"math"
	"slices"
	"testing"

	"loop.example/g00792/impl"
)

// senderOf has a Part for each sign: '.' was never sent, 'a' was sent at 0, 'b' at 1 and so on up to 'y' at 24, 'z' at 400;
// those in capitals came. Each third one is the Last of a message; those behind have no Body, or a whole one, and so on.
func senderOf(base int64, signs string) impl.Sender {
	s := impl.Sender{Base: base}
	for i, sign := range signs {
		p := impl.Part{Body: listOf(i*11%33, byte(i+1), 3), Last: i%3 == 2, Sent: -1}
		if sign >= 'A' && sign <= 'Z' {
			p.Got = true
			sign += 'a' - 'A'
		}
		if sign != '.' {
			p.Sent = int64(sign - 'a')
		}
		if sign == 'z' {
			p.Sent = 400
		}
		s.Parts = append(s.Parts, p)
	}
	return s
}

func copiedSender(s impl.Sender) impl.Sender {
	s.Parts = slices.Clone(s.Parts)
	for i := range s.Parts {
		s.Parts[i].Body = bytes.Clone(s.Parts[i].Body)
	}
	return s
}

func senderFaultBy(s impl.Sender) int64 {
	count := int64(len(s.Parts))
	if s.Base < 0 || s.Base > 9975 || s.Base+count > 9975 {
		return impl.ErrRange
	}
	if count > 24 {
		return impl.ErrMany
	}
	state := int64(impl.OK)
	for i, p := range s.Parts {
		if len(p.Body) > 32 {
			return impl.ErrMany
		}
		if p.Sent < -1 || p.Sent > 400 {
			return impl.ErrRange
		}
		if p.Got && i == 0 || p.Got && p.Sent == -1 || i >= 8 && p.Sent >= 0 {
			state = impl.ErrState
		}
	}
	return state
}

// sentBy goes through a message byte by byte.
func sentBy(s impl.Sender, message []byte) (impl.Sender, int64) {
	if len(message) == 0 || len(message) > 200 {
		return impl.Sender{}, impl.ErrMany
	}
	s = copiedSender(s)
	for i, b := range message {
		if i%32 == 0 {
			s.Parts = append(s.Parts, impl.Part{Sent: -1})
		}
		last := &s.Parts[len(s.Parts)-1]
		last.Body = append(last.Body, b)
		last.Last = i == len(message)-1
	}
	if count := int64(len(s.Parts)); count > 24 || s.Base+count > 9975 {
		return impl.Sender{}, impl.ErrFull
	}
	return s, impl.OK
}

func nextPlaceBy(s impl.Sender, now int64) int {
	first := s.Parts[:min(8, len(s.Parts))]
	if at := slices.IndexFunc(first, func(p impl.Part) bool { return !p.Got && p.Sent == -1 }); at >= 0 {
		return at
	}
	return slices.IndexFunc(first, func(p impl.Part) bool { return !p.Got && now-p.Sent >= 4 })
}

func nextBy(s impl.Sender, now int64) (impl.Sender, impl.Cell) {
	s = copiedSender(s)
	at := nextPlaceBy(s, now)
	if at < 0 {
		return s, impl.Cell{}
	}
	s.Parts[at].Sent = now
	return s, dataCell(s.Base+int64(at), s.Parts[at].Last, s.Parts[at].Body)
}

func ackedBy(s impl.Sender, ack, mask int64) impl.Sender {
	out := impl.Sender{Base: s.Base}
	for i, p := range copiedSender(s).Parts {
		seq := s.Base + int64(i)
		came := seq < ack
		for bit, power := range []int64{1, 2, 4, 8, 16, 32, 64, 128} {
			came = came || mask/power%2 == 1 && seq == ack+1+int64(bit)
		}
		p.Got = p.Got || came && p.Sent >= 0
		if p.Got && len(out.Parts) == 0 {
			out.Base++
		} else {
			out.Parts = append(out.Parts, p)
		}
	}
	return out
}

func samePart(a, b impl.Part) bool {
	return a.Last == b.Last && a.Sent == b.Sent && a.Got == b.Got && bytes.Equal(a.Body, b.Body)
}

func sameSender(a, b impl.Sender) bool {
	return a.Base == b.Base && slices.EqualFunc(a.Parts, b.Parts, samePart)
}

func senderName(s impl.Sender) string {
	out := fmt.Sprintf("a sender of Base %d", s.Base)
	for i, p := range s.Parts {
		if i == 30 {
			return fmt.Sprintf("%s and so on (%d Parts)", out, len(s.Parts))
		}
		out += fmt.Sprintf(" [%d bytes, Last %v, Sent %d, Got %v]", len(p.Body), p.Last, p.Sent, p.Got)
	}
	return out
}

// wantSender holds that what comes of a sender without a fault has none, too.
func wantSender(t *testing.T, what string, got impl.SenderResult, want impl.Sender) {
	t.Helper()
	if got.Code != impl.OK || !sameSender(got.Sender, want) {
		t.Errorf("%s: code %d, %v; want code 0, %v", what, got.Code, got.Sender, want)
	}
	if code := impl.SenderFault(got.Sender); code != impl.OK {
		t.Errorf("%s: %v has the SenderFault %d", what, got.Sender, code)
	}
}

func wantSenderCode(t *testing.T, what string, got impl.SenderResult, code int64) {
	t.Helper()
	if got.Code != code || !sameSender(got.Sender, impl.Sender{}) {
		t.Errorf("%s: %v; want code %d, all else zero", what, got, code)
	}
}

func wantNext(t *testing.T, what string, got impl.NextResult, sender impl.Sender, cell impl.Cell) {
	t.Helper()
	wantSender(t, what, impl.SenderResult{Code: got.Code, Sender: got.Sender}, sender)
	if !sameCell(got.Cell, cell) {
		t.Errorf("%s: %v; want %v", what, got.Cell, cell)
	}
	if code := impl.CellFault(got.Cell); code != impl.OK {
		t.Errorf("%s: %v has the CellFault %d", what, got.Cell, code)
	}
}

func wantNextCode(t *testing.T, what string, got impl.NextResult, code int64) {
	t.Helper()
	if got.Code != code || !sameSender(got.Sender, impl.Sender{}) || !sameCell(got.Cell, impl.Cell{}) {
		t.Errorf("%s: %v; want code %d, all else zero", what, got, code)
	}
}

// withPart has another Part at this place.
func withPart(s impl.Sender, at int, p impl.Part) impl.Sender {
	s = copiedSender(s)
	s.Parts[at] = p
	return s
}

const neverSent24 = "........................"

func TestSenderFaultTyped(t *testing.T) {
	full, more := make([]byte, 32), make([]byte, 33)
	whole := senderOf(0, neverSent24)
	for name, c := range map[string]struct {
		sender impl.Sender
		want   int64
	}{
		"a new one":                         {impl.Sender{}, impl.OK},
		"no Parts, and room for some":       {impl.Sender{Parts: make([]impl.Part, 0, 9)}, impl.OK},
		"the zero value of a Part":          {impl.Sender{Parts: []impl.Part{{}}}, impl.OK},
		"Base -1":                           {impl.Sender{Base: -1}, impl.ErrRange},
		"Base 9975":                         {impl.Sender{Base: 9975}, impl.OK},
		"Base 9976":                         {impl.Sender{Base: 9976}, impl.ErrRange},
		"Base 9999":                         {impl.Sender{Base: 9999}, impl.ErrRange},
		"the least Base":                    {impl.Sender{Base: math.MinInt64}, impl.ErrRange},
		"the least Base and Parts":          {senderOf(math.MinInt64, neverSent24), impl.ErrRange},
		"the greatest Base":                 {impl.Sender{Base: math.MaxInt64}, impl.ErrRange},
		"the greatest Base and a Part":      {senderOf(math.MaxInt64, "."), impl.ErrRange},
		"the greatest Base less 23 and 24":  {senderOf(math.MaxInt64-23, neverSent24), impl.ErrRange},
		"Base -1 and 24 Parts":              {senderOf(-1, neverSent24), impl.ErrRange},
		"Base 9974 and a Part":              {senderOf(9974, "."), impl.OK},
		"Base 9975 and a Part":              {senderOf(9975, "."), impl.ErrRange},
		"Base 9951 and 24 Parts":            {senderOf(9951, neverSent24), impl.OK},
		"Base 9952 and 24 Parts":            {senderOf(9952, neverSent24), impl.ErrRange},
		"24 Parts":                          {whole, impl.OK},
		"25 Parts":                          {senderOf(0, neverSent24+"."), impl.ErrMany},
		"Base 9950 and 25 Parts":            {senderOf(9950, neverSent24+"."), impl.ErrMany},
		"Base 9951 and 25 Parts":            {senderOf(9951, neverSent24+"."), impl.ErrRange},
		"9975 Parts":                        {impl.Sender{Parts: make([]impl.Part, 9975)}, impl.ErrMany},
		"9976 Parts":                        {impl.Sender{Parts: make([]impl.Part, 9976)}, impl.ErrRange},
		"a Body of 32":                      {impl.Sender{Parts: []impl.Part{{Body: full}}}, impl.OK},
		"a Body of 33":                      {impl.Sender{Parts: []impl.Part{{Body: more}}}, impl.ErrMany},
		"a Body of 33 at the end":           {withPart(whole, 23, impl.Part{Body: more, Sent: -1}), impl.ErrMany},
		"Sent -2":                           {impl.Sender{Parts: []impl.Part{{Sent: -2}}}, impl.ErrRange},
		"Sent -1":                           {impl.Sender{Parts: []impl.Part{{Sent: -1}}}, impl.OK},
		"Sent 400":                          {impl.Sender{Parts: []impl.Part{{Sent: 400}}}, impl.OK},
		"Sent 401":                          {impl.Sender{Parts: []impl.Part{{Sent: 401}}}, impl.ErrRange},
		"the least Sent":                    {impl.Sender{Parts: []impl.Part{{Sent: math.MinInt64}}}, impl.ErrRange},
		"the greatest Sent":                 {impl.Sender{Parts: []impl.Part{{Sent: math.MaxInt64}}}, impl.ErrRange},
		"Sent 401 at the end":               {withPart(whole, 23, impl.Part{Sent: 401}), impl.ErrRange},
		"the first one Got":                 {senderOf(0, "A"), impl.ErrState},
		"the first one Got, never sent":     {impl.Sender{Parts: []impl.Part{{Got: true, Sent: -1}}}, impl.ErrState},
		"the other one Got":                 {senderOf(0, "aA"), impl.OK},
		"the other one Got, never sent":     {impl.Sender{Parts: []impl.Part{{}, {Got: true, Sent: -1}}}, impl.ErrState},
		"the ninth Got, never sent":         {withPart(whole, 8, impl.Part{Got: true, Sent: -1}), impl.ErrState},
		"one Got behind one never sent":     {senderOf(0, ".A"), impl.OK},
		"eight sent":                        {senderOf(0, "abcdefgh"), impl.OK},
		"eight sent, seven of them Got":     {senderOf(0, "aBCDEFGH"), impl.OK},
		"eight sent, and more that are not": {senderOf(0, "abcdefgh................"), impl.OK},
		"the eighth sent alone":             {senderOf(0, ".......h"), impl.OK},
		"the ninth sent":                    {senderOf(0, "abcdefghi"), impl.ErrState},
		"the ninth sent at 0":               {senderOf(0, "........a"), impl.ErrState},
		"the ninth sent at 400":             {senderOf(0, "........z......."), impl.ErrState},
		"the ninth Got":                     {senderOf(0, "........A"), impl.ErrState},
		"the last one of 24 sent":           {senderOf(0, ".......................a"), impl.ErrState},
		// ErrRange and ErrMany of all are asked ahead of what is asked one by one, and ErrState is asked behind.
		"Base -1, and all else":              {withPart(senderOf(-1, "A"+neverSent24), 1, impl.Part{Body: more, Sent: 401}), impl.ErrRange},
		"25, and Sent 401":                   {withPart(senderOf(0, neverSent24+"."), 0, impl.Part{Sent: 401}), impl.ErrMany},
		"25, and the first one Got":          {senderOf(0, "A"+neverSent24), impl.ErrMany},
		"a Body of 33 and Sent 401":          {impl.Sender{Parts: []impl.Part{{Body: more, Sent: 401}}}, impl.ErrMany},
		"Sent 401, then a Body of 33":        {impl.Sender{Parts: []impl.Part{{Sent: 401}, {Body: more}}}, impl.ErrRange},
		"a Body of 33, then Sent 401":        {impl.Sender{Parts: []impl.Part{{Body: more}, {Sent: 401}}}, impl.ErrMany},
		"the first one Got, then 33":         {impl.Sender{Parts: []impl.Part{{Got: true}, {Body: more}}}, impl.ErrMany},
		"the first one Got, then 401":        {impl.Sender{Parts: []impl.Part{{Got: true}, {Sent: 401}}}, impl.ErrRange},
		"the first one Got, with 33":         {impl.Sender{Parts: []impl.Part{{Got: true, Body: more}}}, impl.ErrMany},
		"the first one Got, with -2":         {impl.Sender{Parts: []impl.Part{{Got: true, Sent: -2}}}, impl.ErrRange},
		"the ninth sent, 33 at the end":      {withPart(senderOf(0, "........a..............."), 23, impl.Part{Body: more}), impl.ErrMany},
		"the ninth sent at 401":              {withPart(whole, 8, impl.Part{Sent: 401}), impl.ErrRange},
		"Got, never sent, then Sent -2":      {impl.Sender{Parts: []impl.Part{{}, {Got: true, Sent: -1}, {Sent: -2}}}, impl.ErrRange},
		"Base 9975, a Part of 33 and so on":  {impl.Sender{Base: 9975, Parts: []impl.Part{{Body: more, Got: true}}}, impl.ErrRange},
		"a Body of 33 at 23, Sent 401 at 24": {withPart(withPart(whole, 22, impl.Part{Body: more}), 23, impl.Part{Sent: 401}), impl.ErrMany},
		"Sent 401 at 23, a Body of 33 at 24": {withPart(withPart(whole, 22, impl.Part{Sent: 401}), 23, impl.Part{Body: more}), impl.ErrRange},
	} {
		if got := impl.SenderFault(c.sender); got != c.want {
			t.Errorf("SenderFault of %s: %d; want %d", name, got, c.want)
		}
		if by := senderFaultBy(c.sender); by != c.want {
			t.Errorf("the tests reckon the SenderFault of %s as %d; want %d", name, by, c.want)
		}
	}
}

var partSents = []int64{math.MinInt64, -1 << 32, -2, -1, 0, 1, 399, 400, 401, 402, 1 << 32, math.MaxInt64 - 3, math.MaxInt64}
var senderBases = []int64{
	math.MinInt64, -1 << 32, -1, 0, 1, 9949, 9950, 9951, 9952, 9973, 9974, 9975, 9976, 9999, 10000, 1 << 32, 1 << 62, math.MaxInt64 - 24, math.MaxInt64,
}

func wantSenderFault(t *testing.T, s impl.Sender) {
	t.Helper()
	if got, want := impl.SenderFault(s), senderFaultBy(s); got != want {
		t.Errorf("SenderFault of %s: %d; want %d", senderName(s), got, want)
	}
}

func TestSenderFaultEdges(t *testing.T) {
	for _, base := range senderBases {
		for count := range 27 {
			wantSenderFault(t, senderOf(base, (neverSent24 + "..")[:count]))
		}
	}
	for count := range 25 {
		for at := range count {
			for _, sent := range partSents {
				for _, size := range []int{0, 1, 31, 32, 33, 1001} {
					for _, got := range []bool{false, true} {
						s := senderOf(7, neverSent24[:count])
						wantSenderFault(t, withPart(s, at, impl.Part{Body: make([]byte, size), Sent: sent, Got: got, Last: size == 1}))
					}
				}
			}
		}
	}
}

// faultyParts have each one fault, or one that shows by its place.
var faultyParts = []impl.Part{
	{Body: make([]byte, 33), Sent: -1}, {Sent: 401}, {Sent: -2}, {Sent: 3, Got: true}, {Sent: -1, Got: true}, {Sent: 3},
	{Body: make([]byte, 33), Sent: 401}, {Body: make([]byte, 33), Sent: 3, Got: true}, {Sent: -2, Got: true},
}

// noSenders have up to two faulty Parts, and may have a fault beside.
func noSenders(yield func(s impl.Sender, fault int64) bool) {
	for _, base := range []int64{-1, 0, 9951, 9952} {
		for _, count := range []int{10, 24, 25} {
			for i := range faultyParts {
				for k := range faultyParts {
					for _, at := range [][2]int{{0, 1}, {1, 7}, {7, 8}, {8, 9}, {0, 9}} {
						s := senderOf(base, (neverSent24 + ".")[:count])
						s = withPart(withPart(s, at[0], faultyParts[i]), at[1], faultyParts[k])
						if fault := senderFaultBy(s); fault != impl.OK && !yield(s, fault) {
							return
						}
					}
				}
			}
		}
	}
}

func TestSenderFaultOrder(t *testing.T) {
	checkFaults(t, noSenders, impl.SenderFault, senderName, impl.ErrRange, impl.ErrMany, impl.ErrState)
}

// The SenderFault is asked ahead of all else, be what is told to a sender wrong or not.
func TestSendersWithAFault(t *testing.T) {
	for s, fault := range noSenders {
		name := senderName(s)
		for _, size := range []int{0, 1, 200, 201} {
			wantSenderCode(t, fmt.Sprintf("SendMessage of %d bytes to %s", size, name), impl.SendMessage(s, make([]byte, size)), fault)
		}
		for _, number := range []int64{-1, 0, 400, 10002} {
			wantNextCode(t, fmt.Sprintf("NextCell at %d of %s", number, name), impl.NextCell(s, number), fault)
			wantSenderCode(t, fmt.Sprintf("HearAck %d, 1 of %s", number, name), impl.HearAck(s, number, 1), fault)
			wantSenderCode(t, fmt.Sprintf("HearAck 1, %d of %s", number, name), impl.HearAck(s, 1, number), fault)
		}
	}
}

// someSenders have no fault.
func someSenders() []impl.Sender {
	out := []impl.Sender{{}, {Base: 1}, {Base: 9975}, {Base: 9951, Parts: senderOf(9951, neverSent24).Parts}}
	for _, signs := range []string{
		".", "a", "e", "z", "..", "a.", ".a", "ab", "aB", "eaB", "fgha", "dcba", "....", "aBCD", "abcdefgh", "hgfedcba", "aBCDEFGH",
		"........", "........................", "abcdefg.", "abcdefg..", "abcdefgh.", "abcdefgh................", "aBcDeFgH................",
		"zzzzzzzz", "zZzZzZzZ....", ".BCDEFGH.", "eeeeeeee", "ffffffff........", "a.b.c.d.........", "aaaaaaaaa"[:8] + "..........", "yyyyyyy.......",
	} {
		for _, base := range []int64{0, 3, 255, 9951} {
			out = append(out, senderOf(base, signs))
		}
	}
	return out
}

func TestSomeSendersHaveNoFault(t *testing.T) {
	for _, s := range someSenders() {
		if got := impl.SenderFault(s); got != impl.OK {
			t.Errorf("SenderFault of %s: %d", senderName(s), got)
		}
	}
}

func TestSendMessageTyped(t *testing.T) {
	for size, sizes := range map[int][]int{
		1: {1}, 2: {2}, 31: {31}, 32: {32}, 33: {32, 1}, 63: {32, 31}, 64: {32, 32}, 65: {32, 32, 1}, 192: {32, 32, 32, 32, 32, 32},
		193: {32, 32, 32, 32, 32, 32, 1}, 199: {32, 32, 32, 32, 32, 32, 7}, 200: {32, 32, 32, 32, 32, 32, 8},
	} {
		message := listOf(size, 5, 1)
		got := impl.SendMessage(impl.Sender{Base: 7}, message)
		var want []impl.Part
		for i, size := range sizes {
			want = append(want, impl.Part{Body: message[32*i : 32*i+size], Last: i == len(sizes)-1, Sent: -1})
		}
		wantSender(t, fmt.Sprintf("SendMessage of %d bytes", size), got, impl.Sender{Base: 7, Parts: want})
	}
	wantSenderCode(t, "SendMessage of nil", impl.SendMessage(impl.Sender{}, nil), impl.ErrMany)
	wantSenderCode(t, "SendMessage of no bytes", impl.SendMessage(impl.Sender{}, []byte{}), impl.ErrMany)
	wantSenderCode(t, "SendMessage of 201 bytes", impl.SendMessage(impl.Sender{}, make([]byte, 201)), impl.ErrMany)
	wantSenderCode(t, "SendMessage of 1001 bytes", impl.SendMessage(impl.Sender{}, make([]byte, 1001)), impl.ErrMany)
}

func wantSent(t *testing.T, s impl.Sender, message []byte) {
	t.Helper()
	what := fmt.Sprintf("SendMessage of %d bytes to %s", len(message), senderName(s))
	got := impl.SendMessage(s, message)
	if want, code := sentBy(s, message); code == impl.OK {
		wantSender(t, what, got, want)
	} else {
		wantSenderCode(t, what, got, code)
	}
}

func TestSendMessageOfEachSize(t *testing.T) {
	for size := range 300 {
		for _, s := range []impl.Sender{{}, {Base: 9975}, {Base: 9970}, senderOf(4, "a.."), senderOf(9951, neverSent24[:20]), senderOf(0, "aBcdefgh..........")} {
			wantSent(t, s, listOf(size, 200, 3))
		}
	}
}

// What there is stays as it is, wherever a message is put behind.
func TestSendMessageBehindOthers(t *testing.T) {
	for _, s := range someSenders() {
		for _, size := range []int{0, 1, 32, 33, 64, 65, 128, 160, 161, 192, 193, 200, 201} {
			wantSent(t, s, listOf(size, 77, 5))
		}
	}
}

// There is room for 24 Parts; ErrMany is asked ahead of ErrFull.
func TestSendMessageRoom(t *testing.T) {
	for count := range 25 {
		s := senderOf(0, neverSent24[:count])
		for pieces := 1; pieces <= 7; pieces++ {
			what := fmt.Sprintf("SendMessage of %d pieces behind %d Parts", pieces, count)
			for _, size := range []int{32*pieces - 31, min(32*pieces, 200)} {
				got := impl.SendMessage(s, make([]byte, size))
				if count+pieces > 24 {
					wantSenderCode(t, what, got, impl.ErrFull)
				} else if got.Code != impl.OK || len(got.Sender.Parts) != count+pieces {
					t.Errorf("%s: code %d, %d Parts", what, got.Code, len(got.Sender.Parts))
				}
			}
		}
		for _, size := range []int{0, 201} {
			wantSenderCode(t, fmt.Sprintf("SendMessage of %d bytes behind %d Parts", size, count), impl.SendMessage(s, make([]byte, size)), impl.ErrMany)
		}
	}
}

// The last number that a part may have is 9974: then no part can be put behind any more.
func TestSendMessageAtTheEndOfTheNumbers(t *testing.T) {
	for base := int64(9940); base <= 9975; base++ {
		for count := 0; count <= 24 && base+int64(count) <= 9975; count++ {
			s := senderOf(base, neverSent24[:count])
			for pieces := 1; pieces <= 7; pieces++ {
				what := fmt.Sprintf("SendMessage of %d pieces behind %d Parts from %d on", pieces, count, base)
				got := impl.SendMessage(s, make([]byte, 32*pieces-31))
				if count+pieces > 24 || base+int64(count+pieces) > 9975 {
					wantSenderCode(t, what, got, impl.ErrFull)
				} else if got.Code != impl.OK || len(got.Sender.Parts) != count+pieces {
					t.Errorf("%s: code %d, %d Parts", what, got.Code, len(got.Sender.Parts))
				}
			}
		}
	}
	for _, size := range []int{0, 201} {
		wantSenderCode(t, fmt.Sprintf("SendMessage of %d bytes at the end", size), impl.SendMessage(impl.Sender{Base: 9975}, make([]byte, size)), impl.ErrMany)
	}
}

// at is the place of the part that goes out, or -1: none.
func TestNextCellTyped(t *testing.T) {
	for _, c := range []struct {
		signs string
		now   int64
		at    int
	}{
		{"", 0, -1}, {"", 400, -1},
		{".", 0, 0}, {".", 400, 0}, {"..", 7, 0}, {"........................", 7, 0},
		// Timeout is 4: not sooner.
		{"a", 0, -1}, {"a", 3, -1}, {"a", 4, 0}, {"a", 5, 0}, {"a", 400, 0}, {"f", 8, -1}, {"f", 9, 0}, {"z", 400, -1},
		// Of those that were sent long ago the first one goes, not that which was sent first.
		{"ba", 4, 1}, {"ba", 5, 0}, {"cba", 4, 2}, {"cba", 5, 1}, {"cba", 6, 0}, {"aaa", 400, 0},
		// What was never sent goes ahead of all that is sent again.
		{"a.", 400, 1}, {"aa.", 400, 2}, {"abcdefg.", 400, 7}, {".a", 400, 0}, {"a..", 3, 1},
		// What came is not sent again.
		{"aB", 3, -1}, {"aB", 400, 0}, {"yB", 9, -1}, {"yBCDEFGH", 26, -1}, {"yBCDEFGH", 28, 0}, {"zB", 400, -1}, {"fAa", 4, 2}, {"fAa", 3, -1},
		// Only the first eight are looked at.
		{"........", 0, 0}, {"abcdefg..", 5, 7}, {"abcdefgh.", 3, -1}, {"abcdefgh.", 4, 0}, {"abcdefgh................", 400, 0},
		{"yyyyyyyy........", 27, -1}, {"yBCDEFGH........", 27, -1}, {"yyyyyyyy........", 28, 0}, {"yyyyyyya", 4, 7}, {"yyyyyyya.", 4, 7},
	} {
		s := senderOf(30, c.signs)
		want, cell := copiedSender(s), impl.Cell{}
		if c.at >= 0 {
			want.Parts[c.at].Sent = c.now
			cell = dataCell(30+int64(c.at), s.Parts[c.at].Last, s.Parts[c.at].Body)
		}
		wantNext(t, fmt.Sprintf("NextCell at %d of %s", c.now, senderName(s)), impl.NextCell(s, c.now), want, cell)
	}
}

func wantNextBy(t *testing.T, s impl.Sender, now int64) {
	t.Helper()
	what := fmt.Sprintf("NextCell at %d of %s", now, senderName(s))
	want, cell := nextBy(s, now)
	wantNext(t, what, impl.NextCell(s, now), want, cell)
}

func TestNextCellOfSomeSenders(t *testing.T) {
	for _, s := range someSenders() {
		for now := range int64(35) {
			wantNextBy(t, s, now)
		}
		for _, now := range []int64{100, 398, 399, 400} {
			wantNextBy(t, s, now)
		}
	}
}

// eachSigns are all lists of so many signs.
func eachSigns(signs string, count int) []string {
	out := []string{""}
	for range count {
		var longer []string
		for _, ahead := range out {
			for _, sign := range signs {
				longer = append(longer, ahead+string(sign))
			}
		}
		out = longer
	}
	return out
}

func TestNextCellEdges(t *testing.T) {
	for count := range 5 {
		for _, signs := range eachSigns(".aceC", count) {
			for _, front := range []string{"", "f", "fEFGH"} {
				for _, behind := range []string{"", "..."} {
					s := senderOf(5, front+signs+behind)
					if senderFaultBy(s) != impl.OK {
						continue
					}
					for now := range int64(10) {
						wantNextBy(t, s, now)
					}
				}
			}
		}
	}
}

func TestNextCellOutOfRange(t *testing.T) {
	for _, s := range someSenders() {
		for _, now := range noSlots {
			wantNextCode(t, fmt.Sprintf("NextCell at %d of %s", now, senderName(s)), impl.NextCell(s, now), impl.ErrRange)
		}
	}
}

// Seq goes from Base on up to the last one that there can be.
func TestNextCellSeqs(t *testing.T) {
	for _, base := range []int64{0, 1, 255, 256, 9950, 9951} {
		s := senderOf(base, neverSent24)
		for place := range int64(8) {
			got := impl.NextCell(s, place)
			if got.Code != impl.OK || got.Cell.Seq != base+place {
				t.Errorf("NextCell from %d on, at %d: %v", base, place, got)
			}
			s = got.Sender
		}
		wantNext(t, "NextCell, when the window is full", impl.NextCell(s, 3), s, impl.Cell{})
	}
	last := impl.NextCell(impl.Sender{Base: 9974, Parts: []impl.Part{{Body: []byte{6}, Last: true, Sent: -1}}}, 400)
	wantNext(t, "NextCell of the last number", last, impl.Sender{Base: 9974, Parts: []impl.Part{{Body: []byte{6}, Last: true, Sent: 400}}}, dataCell(9974, true, []byte{6}))
}

// left is what comes of the Parts: one sign for each that stays, and gone is how many do not.
func TestHearAckTyped(t *testing.T) {
	for _, c := range []struct {
		signs     string
		ack, mask int64
		gone      int64
		left      string
	}{
		{"", 30, 0, 0, ""}, {"", 10000, 255, 0, ""},
		{"abcd", 0, 0, 0, "abcd"}, {"abcd", 29, 0, 0, "abcd"}, {"abcd", 30, 0, 0, "abcd"},
		{"abcd", 31, 0, 1, "bcd"}, {"abcd", 33, 0, 3, "d"}, {"abcd", 34, 0, 4, ""}, {"abcd", 35, 0, 4, ""}, {"abcd", 10000, 0, 4, ""},
		// The mask speaks of what is behind ack, and never of ack itself.
		{"abcd", 30, 1, 0, "aBcd"}, {"abcd", 30, 2, 0, "abCd"}, {"abcd", 30, 4, 0, "abcD"}, {"abcd", 30, 8, 0, "abcd"},
		{"abcd", 30, 128, 0, "abcd"}, {"abcdefgh", 30, 64, 0, "abcdefgH"}, {"abcdefgh", 30, 255, 0, "aBCDEFGH"},
		{"abcdefgh", 29, 128, 0, "abcdefgH"}, {"abcdefgh", 29, 1, 1, "bcdefgh"}, {"abcdefgh", 29, 5, 1, "bCdefgh"}, {"abcdefgh", 29, 255, 8, ""},
		{"abcdefgh", 25, 255, 4, "efgh"}, {"abcdefgh", 22, 255, 1, "bcdefgh"}, {"abcdefgh", 22, 127, 0, "abcdefgh"}, {"abcdefgh", 21, 255, 0, "abcdefgh"},
		{"abcdefgh", 31, 1, 1, "bCdefgh"}, {"abcdefgh", 32, 5, 2, "cDeFgh"},
		// As long as the first one is Got it is gone; what came ahead of it waits for it.
		{"aBcD", 31, 0, 2, "cD"}, {"aBCD", 31, 0, 4, ""}, {"aBCd", 31, 0, 3, "d"}, {"aBCd", 30, 4, 0, "aBCD"}, {"aBCD", 30, 7, 0, "aBCD"},
		{"abCd", 31, 0, 1, "bCd"}, {"abCd", 29, 3, 3, "d"},
		// What was never sent cannot have come.
		{".", 31, 0, 0, "."}, {"..", 32, 255, 0, ".."}, {"a.", 32, 0, 1, "."}, {"a.c", 33, 0, 1, ".C"}, {"a.", 30, 1, 0, "a."}, {".b", 32, 0, 0, ".B"},
		{".b", 30, 1, 0, ".B"}, {"abcdefgh........", 10000, 255, 8, "........"}, {"abcdefgh....", 31, 255, 1, "bCDEFGH...."},
		{"abcdefg.....", 30, 255, 0, "aBCDEFG....."},
	} {
		s := senderOf(30, c.signs)
		want := senderOf(30, c.signs)
		want.Base += c.gone
		want.Parts = want.Parts[c.gone:]
		for i, sign := range c.left {
			want.Parts[i].Got = sign >= 'A' && sign <= 'Z'
		}
		what := fmt.Sprintf("HearAck %d, %d of %s", c.ack, c.mask, senderName(s))
		if len(want.Parts) != len(c.left) {
			t.Fatalf("%s: %d Parts would be left", what, len(want.Parts))
		}
		wantSender(t, what, impl.HearAck(s, c.ack, c.mask), want)
	}
}

func wantAcked(t *testing.T, s impl.Sender, ack, mask int64) {
	t.Helper()
	what := fmt.Sprintf("HearAck %d, %d of %s", ack, mask, senderName(s))
	want := ackedBy(s, ack, mask)
	got := impl.HearAck(s, ack, mask)
	wantSender(t, what, got, want)
	wantSender(t, what+", again", impl.HearAck(got.Sender, ack, mask), want)
}

// Promise 9: to hear it twice is to hear it once.
func TestHearAckEachMask(t *testing.T) {
	for _, s := range []impl.Sender{
		senderOf(20, "abcdefgh...."), senderOf(20, "aBcDeFgH"), senderOf(20, "a.c.e.g."), senderOf(0, "abcdefgh"), senderOf(9951, "aaaaaaaa................"),
		senderOf(3, ".bC"), {Base: 20},
	} {
		for ack := max(0, s.Base-10); ack <= s.Base+12; ack++ {
			for mask := range int64(256) {
				wantAcked(t, s, ack, mask)
			}
		}
	}
}

func TestHearAckOfSomeSenders(t *testing.T) {
	for _, s := range someSenders() {
		for _, far := range []int64{-8, -7, -1, 0, 1, 2, 7, 8, 9, 24, 25} {
			for _, mask := range []int64{0, 1, 2, 64, 127, 128, 170, 254, 255} {
				wantAcked(t, s, max(0, s.Base+far), mask)
			}
		}
		for _, ack := range []int64{0, 1, 9998, 9999, 10000} {
			wantAcked(t, s, ack, 0)
			wantAcked(t, s, ack, 255)
		}
	}
}

func TestHearAckOutOfRange(t *testing.T) {
	for _, s := range someSenders() {
		name := senderName(s)
		for _, ack := range []int64{math.MinInt64, -65536, -2, -1, 10001, 10002, 65536, 1 << 32, math.MaxInt64 - 7, math.MaxInt64} {
			for _, mask := range []int64{-1, 0, 255, 256} {
				wantSenderCode(t, fmt.Sprintf("HearAck %d, %d of %s", ack, mask, name), impl.HearAck(s, ack, mask), impl.ErrRange)
			}
		}
		for _, mask := range []int64{math.MinInt64, -256, -1, 256, 257, 1 << 32, math.MaxInt64} {
			for _, ack := range []int64{-1, 0, s.Base + 1, 10000, 10001} {
				wantSenderCode(t, fmt.Sprintf("HearAck %d, %d of %s", ack, mask, name), impl.HearAck(s, ack, mask), impl.ErrRange)
			}
		}
	}
}

// anySenders have a fault or have none; no two are the same.
func anySenders() []impl.Sender {
	return []impl.Sender{
		{}, {Base: 1}, {Base: math.MinInt64}, {Base: math.MaxInt64}, senderOf(0, "."), senderOf(0, "a"), senderOf(0, "aBc."), senderOf(0, "A"),
		senderOf(-7, neverSent24+".."), {Parts: []impl.Part{{Body: listOf(1001, 1, 1), Sent: math.MinInt64, Got: true}}}, {Parts: make([]impl.Part, 2)},
	}
}

// changedSenders differ from s in one thing alone.
func changedSenders(s impl.Sender) map[string]impl.Sender {
	out, change := changesOf(s, copiedSender)
	for _, by := range []int64{1, -1, 256, 1 << 32, math.MinInt64} {
		change(fmt.Sprintf("Base by %d", by), func(s *impl.Sender) { s.Base += by })
		for i := range s.Parts {
			change(fmt.Sprintf("Sent at %d by %d", i, by), func(s *impl.Sender) { s.Parts[i].Sent += by })
		}
	}
	for i, p := range s.Parts {
		change(fmt.Sprintf("Last at %d", i), func(s *impl.Sender) { s.Parts[i].Last = !p.Last })
		change(fmt.Sprintf("Got at %d", i), func(s *impl.Sender) { s.Parts[i].Got = !p.Got })
		for name, body := range changedBodies(p.Body) {
			change(fmt.Sprintf("Body at %d, %s", i, name), func(s *impl.Sender) { s.Parts[i].Body = body })
		}
		change(fmt.Sprintf("none at %d", i), func(s *impl.Sender) { s.Parts = slices.Delete(s.Parts, i, i+1) })
	}
	if len(s.Parts) > 1 && !samePart(s.Parts[0], s.Parts[1]) {
		change("two exchanged", func(s *impl.Sender) { s.Parts[0], s.Parts[1] = s.Parts[1], s.Parts[0] })
	}
	change("one more", func(s *impl.Sender) { s.Parts = append(s.Parts, impl.Part{}) })
	return out
}

func TestSameSenders(t *testing.T) {
	all := anySenders()
	for i, s := range all {
		if !impl.SameSenders(s, copiedSender(s)) || !impl.SameSenders(s, s) {
			t.Errorf("SameSenders of %s and its copy is false", senderName(s))
		}
		for name, other := range changedSenders(s) {
			if impl.SameSenders(s, other) || impl.SameSenders(other, s) {
				t.Errorf("SameSenders of %s, and another one, %s, is true", senderName(s), name)
			}
		}
		for k, other := range all {
			if got := impl.SameSenders(s, other); got != (i == k) {
				t.Errorf("SameSenders of %s and %s is %v", senderName(s), senderName(other), got)
			}
		}
	}
}
