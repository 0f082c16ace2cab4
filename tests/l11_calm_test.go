package tests

import (
	"fmt"
	"math"
	"slices"
	"testing"

	"loop.example/g00792/impl"
)

// calmsBy are the pairs behind 0 to most calm rounds, by the tests' own reckoning.
func calmsBy(t *testing.T, c impl.Config, events []impl.Event, most int) []impl.Pair {
	t.Helper()
	p, said := noPair(), map[string]impl.Cell{}
	for _, e := range events {
		p.Codes = append(p.Codes, pairStepBy(t, c, &p, said, e))
	}
	out := []impl.Pair{copiedPair(p)}
	for range most {
		for side := range int64(2) {
			slot := p.Ends[side].Slot
			pairStepBy(t, c, &p, said, tickOf(side))
			pairStepBy(t, c, &p, said, comeOf(side, slot))
		}
		out = append(out, copiedPair(p))
	}
	return out
}

func partsOf(p impl.Pair) int {
	count := 0
	for _, e := range p.Ends {
		count += len(e.Sender.Parts)
	}
	return count
}

// roundsBy is the least place of calms at which there are no parts.
func roundsBy(calms []impl.Pair) int64 {
	return int64(slices.IndexFunc(calms, func(p impl.Pair) bool { return partsOf(p) == 0 }))
}

// wantCalm holds CalmPair against the tests' own reckoning, and what a calm round adds to a pair.
func wantCalm(t *testing.T, what string, c impl.Config, events []impl.Event, calms []impl.Pair, rounds int64) impl.Pair {
	t.Helper()
	what = fmt.Sprintf("%s, Ideal %v, behind %d calm rounds", what, c.Ideal, rounds)
	got := impl.CalmPair(c, events, rounds)
	wantPairOf(t, what, got, calms[rounds])
	if !slices.Equal(got.Pair.Codes, calms[0].Codes) {
		t.Errorf("%s: the codes %v became %v", what, calms[0].Codes, got.Pair.Codes)
	}
	for side, wires := range got.Pair.Wires {
		before := calms[0].Wires[side]
		if len(wires) != len(before)+int(rounds) || !sameLists(wires[:len(before)], before) {
			t.Errorf("%s: %d wires of the side %d, ahead of the rounds %d", what, len(wires), side, len(before))
		}
		if !begins(got.Pair.Ends[side].Got, calms[0].Ends[side].Got) || !begins(got.Pair.Accepted[1-side], got.Pair.Ends[side].Got) {
			t.Errorf("%s: the side %d got %v, ahead of the rounds %v", what, side, got.Pair.Ends[side].Got, calms[0].Ends[side].Got)
		}
	}
	return got.Pair
}

// wantEnded is the end of promise 12: behind so many rounds, and no less, nothing is left to send, and all was heard.
func wantEnded(t *testing.T, what string, c impl.Config, events []impl.Event, rounds int64) {
	t.Helper()
	wantInt(t, fmt.Sprintf("RoundsTo, %s, Ideal %v", what, c.Ideal), impl.RoundsTo(c, events), rounds)
	ended := impl.CalmPair(c, events, rounds)
	if ended.Code != impl.OK || partsOf(ended.Pair) != 0 {
		t.Errorf("%s: behind %d rounds the code %d, %s", what, rounds, ended.Code, pairName(ended.Pair))
	}
	for side, e := range ended.Pair.Ends {
		if said := ended.Pair.Accepted[1-side]; !sameLists(e.Got, said) {
			t.Errorf("%s: behind %d rounds the side %d got %v; %v was said", what, rounds, side, e.Got, said)
		}
	}
	if rounds > 0 && partsOf(impl.CalmPair(c, events, rounds-1).Pair) == 0 {
		t.Errorf("%s: one less than %d rounds are enough", what, rounds)
	}
}

// wantCalmly asks for what comes of events of both kinds of pairs, and behind how many rounds.
func wantCalmly(t *testing.T, what string, rounds int64, events ...impl.Event) {
	t.Helper()
	for _, ideal := range []bool{true, false} {
		c := configOf(ideal)
		wantEnded(t, what, c, events, rounds)
		calms := calmsBy(t, c, events, int(rounds)+6)
		if by := roundsBy(calms); by != rounds {
			t.Errorf("%s: by the tests' own reckoning %d rounds; want %d", what, by, rounds)
		}
		for n := range calms {
			if ideal || n < 3 || n+10 > len(calms) {
				wantCalm(t, what, c, events, calms, int64(n))
			}
		}
	}
}

func TestMaxRounds(t *testing.T) {
	if impl.MaxRounds != 120 {
		t.Errorf("MaxRounds is %d", impl.MaxRounds)
	}
}

var someRounds = []int64{math.MinInt64, -1 << 32, -121, -120, -2, -1, 0, 1, 2, 119, 120, 121, 122, 200, 256, 1 << 32, 1<<32 + 1, math.MaxInt64}

func TestCalmPairAndRoundsToCodes(t *testing.T) {
	for _, ideal := range []bool{true, false} {
		for _, count := range []int{0, 1, 200, 201, 400} {
			events := slices.Repeat([]impl.Event{{Kind: 2, Side: 1}}, count)
			if count > 0 {
				events[0] = sendOf(0, []byte{1})
			}
			for _, root := range notHashSize() {
				what := fmt.Sprintf("%d events, by %d bytes, Ideal %v", count, len(root), ideal)
				none := impl.Config{Ideal: ideal, Root: root}
				wantIntCode(t, "RoundsTo of "+what, impl.RoundsTo(none, events), impl.ErrRange)
				for _, rounds := range []int64{math.MinInt64, -1, 0, 120, 121, math.MaxInt64} {
					wantPairWorldCode(t, "CalmPair of "+what, impl.CalmPair(none, events, rounds), impl.ErrRange)
				}
			}
			what, c := fmt.Sprintf("%d events, Ideal %v", count, ideal), configOf(ideal)
			if count > 200 {
				wantIntCode(t, "RoundsTo of "+what, impl.RoundsTo(c, events), impl.ErrMany)
			}
			calms := calmsBy(t, c, events[:min(count, 200)], 120)
			for _, rounds := range someRounds {
				what := fmt.Sprintf("CalmPair of %s, %d rounds", what, rounds)
				switch {
				case count > 200:
					wantPairWorldCode(t, what, impl.CalmPair(c, events, rounds), impl.ErrMany)
				case rounds < 0 || rounds > 120:
					wantPairWorldCode(t, what, impl.CalmPair(c, events, rounds), impl.ErrRange)
				default:
					wantCalm(t, what, c, events, calms, rounds)
				}
			}
		}
	}
}

// The wires were reckoned outside the project (hmac, hashlib, and the package cryptography, of Python).
func TestCalmPairTyped(t *testing.T) {
	long, you := listOf(33, 1, 1), []byte("you")
	events := []impl.Event{sendOf(0, long), sendOf(1, you), comeOf(1, 0)}
	want := noPair()
	want.Accepted = [][][]byte{{long}, {you}}
	want.Codes = []int64{0, 0, impl.ErrNone}
	want.Ends[0].Sender.Parts = []impl.Part{{Body: long[:32], Sent: impl.NeverSent}, {Body: long[32:], Last: true, Sent: impl.NeverSent}}
	want.Ends[1].Sender.Parts = []impl.Part{{Body: you, Last: true, Sent: impl.NeverSent}}
	wires := map[bool][2][]string{
		false: {{
			"00000000c24810c9ef97c68b4d5bd1fb24f100d59dac5f35fb51b0e81a9f35a9d792c47276bcfaf56c1fe6265e133bd7dbfcff2d22cb32feac90aaecc9599edd",
			"000000017f7d67cf0f2046fd7b403b7cf708756a135c946c0ee2ff19e18e1dc4a178e219f5502b7a1e16e808b6b3fc3ce3b74b9bf47edb413b5114dc1f7bfad4",
			"00000002734e579eb58b875d341d0dce1cd6c7647d165842e08b4a6d987734c8683cb37e461a7d56719257613722458176468f2f87ff59204001224dd8a07450",
		}, {
			"0000000059aa16df44bd16a2a36decceb36b4c5ffc1bffbbef5427a7d014c4371dd892afe2e0a8589bcee66c9530f230b2e6e0e62fbdd1cbbf7214bcf1d908b3",
			"000000013b1823a75a553951305d961dfc6d0c1abf41f476c3c7fdf3b59f2f805d97d024e9a0721748bb40c6d91af9b3ec703047479a3e5acf0fc82948302649",
			"00000002e7485e4cf51392e99aa653965e89580504b5e5cfc4f123f157f6d07e33f83ac11fd71f04427e19bcc87e7eec952fd27af1853ae08196e23453002f41",
		}},
		true: {{
			"000000007610b5196c160feca911e98c9c3de272fa91fdb73fa34603df69ed9a5bbcb32ddc434cacbca285244e88e994639cc69ce02161b7c59dfea1459f2916",
			"00000001c8b8e1c3401b316bc7a9bfc3f1fb8f0d9e232fc9f9dcaef63dd9fad9fc434dd07ab992c868af29db844f90e9d06f5d285a20a32f6e56d651c2928c11",
			"000000029157f6eda1ffe26523e0fd6d3e02a07d6467c0618259c216f41f5f3f85448fe865c897d6839b1f33aab87b082af6da6a9eb6141d04106d4bfaed2797",
		}, {
			"0000000007d8cf1bae6eddc65db8a71998806493e01b1fc4ed934a9240059f67d70c9fd67d650070a3696f4173b86159682a3c7a6431725c0978279aba94b8ab",
			"000000016f1136b662e7c34a602082249e1be33425384efbcd5a9e75bf2c1b470074afc22b2a15313b8e22d1ef13086d4ad03881d6143255c98b53721011124f",
			"00000002f7fd2740b849bb2f70c7d80fc3d0f86d035c45192aa33232449c8614e697b576131356c3995569c5a24fbe499203e5bc2f8b57d3dec8440277f93e2f",
		}},
	}
	// A ticks first: what B sends in the same round knows of it, and what A sends knows of that in the next one.
	turns := []func(a, b *impl.End){
		func(a, b *impl.End) {},
		func(a, b *impl.End) {
			a.Sender = impl.Sender{Base: 1, Parts: a.Sender.Parts[1:]}
			a.Receiver.Next, a.Got = 1, [][]byte{you}
			b.Sender.Parts[0].Sent = 0
			b.Receiver = impl.Receiver{Next: 1, Partial: long[:32]}
		},
		func(a, b *impl.End) {
			a.Sender, b.Sender = impl.Sender{Base: 2}, impl.Sender{Base: 1}
			b.Receiver, b.Got = impl.Receiver{Next: 2}, [][]byte{long}
		},
		func(a, b *impl.End) {},
	}
	for rounds, turn := range turns {
		turn(&want.Ends[0], &want.Ends[1])
		want.Ends[0].Slot, want.Ends[1].Slot = int64(rounds), int64(rounds)
		for ideal, texts := range wires {
			for side := range 2 {
				want.Wires[side] = nil
				for _, text := range texts[side][:rounds] {
					want.Wires[side] = append(want.Wires[side], fromHex(t, text))
				}
			}
			what := fmt.Sprintf("two who talk, Ideal %v, %d rounds", ideal, rounds)
			wantPairOf(t, what, impl.CalmPair(configOf(ideal), events, int64(rounds)), want)
			wantInt(t, "RoundsTo of "+what, impl.RoundsTo(configOf(ideal), events), 2)
		}
	}
}

// Behind no rounds a pair is as RunPair has it.
func TestCalmPairOfNoRounds(t *testing.T) {
	for name, events := range typedLists() {
		for _, ideal := range []bool{true, false} {
			want := impl.RunPair(configOf(ideal), events)
			wantPairOf(t, name, impl.CalmPair(configOf(ideal), events, 0), want.Pair)
		}
	}
}

// Who has nothing to say sends dummies, and nothing of an end changes but its slot.
func TestCalmPairOfNothingToSend(t *testing.T) {
	for _, events := range [][]impl.Event{nil, {}, {sendOf(0, nil)}, {tickOf(0), tickOf(0), comeOf(0, 0)}, {{Kind: 5}, sendOf(1, nil), tickOf(1)}} {
		for _, ideal := range []bool{true, false} {
			c := configOf(ideal)
			before := impl.RunPair(c, events).Pair
			calms := calmsBy(t, c, events, 120)
			for _, rounds := range []int64{0, 1, 2, 15, 16, 17, 119, 120} {
				got := wantCalm(t, "nothing to send", c, events, calms, rounds)
				for side, e := range got.Ends {
					e.Slot -= rounds
					if !sameEnd(e, before.Ends[side]) {
						t.Errorf("nothing to send: %s became %s", endName(before.Ends[side]), endName(got.Ends[side]))
					}
				}
			}
			wantInt(t, "RoundsTo of nothing to send", impl.RoundsTo(c, events), 0)
		}
	}
}

// As many slots as events and rounds reach.
func TestCalmPairReachesTheMostSlots(t *testing.T) {
	for side := range int64(2) {
		events := slices.Repeat([]impl.Event{tickOf(side)}, 200)
		for _, first := range []impl.Event{tickOf(side), sendOf(side, listOf(200, 1, 1)), sendOf(1-side, []byte{1})} {
			for _, at := range []int{0, 199} {
				events[at] = first
				for _, ideal := range []bool{true, false} {
					if !ideal && (first.Kind == 1) == (at == 0) {
						continue
					}
					c := configOf(ideal)
					got := wantCalm(t, "all ticks there can be", c, events, calmsBy(t, c, events, 120), 120)
					if got.Ends[side].Slot < 319 || got.Ends[1-side].Slot != 120 || partsOf(got) != 0 || len(got.Codes) != 200 {
						t.Errorf("all ticks of the side %d that there can be, and all rounds: %s", side, pairName(got))
					}
				}
				events[at] = tickOf(side)
			}
		}
	}
}

func TestRoundsToTyped(t *testing.T) {
	one, long := []byte{7}, listOf(200, 1, 1)
	type list = []impl.Event
	full := func(side int64) list {
		return list{sendOf(side, long), sendOf(side, long), sendOf(side, long), sendOf(side, long[:96])}
	}
	ticks := func(side int64, count int) list { return slices.Repeat(list{tickOf(side)}, count) }
	for name, c := range map[string]struct {
		events list
		rounds int64
	}{
		"no events":                         {nil, 0},
		"nothing to say":                    {list{sendOf(0, nil), sendOf(1, nil)}, 0},
		"a message that is refused":         {list{sendOf(0, make([]byte, 201)), sendOf(2, one)}, 0},
		"ticks alone":                       {slices.Concat(ticks(0, 9), ticks(1, 3)), 0},
		"all that was said is known":        {list{sendOf(0, one), tickOf(0), comeOf(0, 0), tickOf(1), comeOf(1, 0)}, 0},
		"A says one part":                   {list{sendOf(0, one)}, 1},
		"B says one part":                   {list{sendOf(1, one)}, 2},
		"both say one part":                 {list{sendOf(1, one), sendOf(0, one)}, 2},
		"A says two parts":                  {list{sendOf(0, long[:33])}, 2},
		"B says two parts":                  {list{sendOf(1, long[:33])}, 3},
		"A says seven parts":                {list{sendOf(0, long)}, 7},
		"B says seven parts":                {list{sendOf(1, long)}, 8},
		"A says as much as a window holds":  {list{sendOf(0, long), sendOf(0, one)}, 8},
		"A says more than a window holds":   {list{sendOf(0, long), sendOf(0, one), sendOf(0, one)}, 9},
		"A says all there is room for":      {full(0), 24},
		"B says all there is room for":      {full(1), 25},
		"both say all there is room for":    {slices.Concat(full(0), full(1)), 25},
		"A says as many as there can be":    {slices.Repeat(list{sendOf(0, one)}, 30), 24},
		"it came, and A does not know":      {list{sendOf(0, one), tickOf(0), comeOf(0, 0)}, 1},
		"it came, and B does not know":      {list{sendOf(1, one), tickOf(1), comeOf(1, 0)}, 1},
		"A knows, and B told too early":     {list{sendOf(0, one), tickOf(1), tickOf(0), comeOf(0, 0), comeOf(1, 0)}, 1},
		"what A said was lost":              {slices.Concat(list{sendOf(0, one)}, ticks(0, 1)), 4},
		"one tick later":                    {slices.Concat(list{sendOf(0, one)}, ticks(0, 2)), 3},
		"two ticks later":                   {slices.Concat(list{sendOf(0, one)}, ticks(0, 3)), 2},
		"three ticks later":                 {slices.Concat(list{sendOf(0, one)}, ticks(0, 4)), 1},
		"it was lost a second time":         {slices.Concat(list{sendOf(0, one)}, ticks(0, 5)), 4},
		"what B said was lost":              {slices.Concat(list{sendOf(1, one)}, ticks(1, 1)), 5},
		"one tick of B later":               {slices.Concat(list{sendOf(1, one)}, ticks(1, 2)), 4},
		"three ticks of B later":            {slices.Concat(list{sendOf(1, one)}, ticks(1, 4)), 2},
		"what both said was lost":           {list{sendOf(1, one), tickOf(1), sendOf(0, one), tickOf(0)}, 5},
		"the ticks of the other side":       {slices.Concat(list{sendOf(0, one), tickOf(0)}, ticks(1, 9)), 4},
		"the first one of two was lost":     {list{sendOf(0, one), sendOf(0, one), tickOf(0), tickOf(0), comeOf(0, 1)}, 3},
		"the second one of two was lost":    {list{sendOf(0, one), sendOf(0, one), tickOf(0), tickOf(0), comeOf(0, 0)}, 4},
		"a full window was lost":            {slices.Concat(list{sendOf(0, long), sendOf(0, one)}, ticks(0, 8)), 8},
		"a full window was lost, with more": {slices.Concat(full(0), ticks(0, 8)), 24},
		"it came late":                      {list{sendOf(0, one), tickOf(0), tickOf(0), tickOf(0), comeOf(0, 0)}, 1},
		"it came, and what tells of it not": {list{sendOf(0, one), tickOf(0), comeOf(0, 0), tickOf(1)}, 1},
		"one was known, one is said later":  {list{sendOf(0, one), tickOf(0), comeOf(0, 0), tickOf(1), comeOf(1, 0), sendOf(1, one)}, 2},
	} {
		wantCalmly(t, name, c.rounds, c.events...)
	}
}

// An ideal pair alone counts what is turned; what was sent is sent again all the same.
func TestRoundsToOfWhatWasTurned(t *testing.T) {
	for side := range int64(2) {
		events := []impl.Event{sendOf(side, []byte{7}), tickOf(side), turnOf(side, 0, 9, 1), turnOf(side, 0, 9, 1)}
		wantCalmly(t, "what was turned", 4+side, events...)
		wantCalmly(t, "what was turned and came", 1, append(events, comeOf(side, 0))...)
		if got := impl.CalmPair(configOf(true), events, 120).Pair; got.Ends[1-side].Bad != 2 || got.Ends[side].Bad != 0 {
			t.Errorf("what the side %d sent was turned twice: %s", side, pairName(got))
		}
	}
}

func TestCalmPairAndRoundsToOfTypedEvents(t *testing.T) {
	for name, events := range typedLists() {
		wantCalmly(t, name, roundsBy(calmsBy(t, configOf(true), events, 60)), events...)
	}
}

// The end of promise 12: when nothing is lost any more, all that was accepted is heard.
func TestAllIsHeardInTheEnd(t *testing.T) {
	heard, most := 0, int64(0)
	for seed := range uint64(96) {
		events := [][]impl.Event{drawnEvents(seed, 200), madeEvents(seed, 200, true), drawnEvents(seed, 60)}[seed%3]
		c := impl.Config{Ideal: seed%12 > 2, Root: someRoots()[seed%5]}
		what := fmt.Sprintf("the events made of %d", seed)
		calms := calmsBy(t, c, events, 40)
		rounds := roundsBy(calms)
		wantEnded(t, what, c, events, rounds)
		for _, n := range []int64{1, rounds / 2, rounds, 40} {
			wantCalm(t, what, c, events, calms, n)
		}
		// Behind them nothing is left to change.
		last, ended := impl.CalmPair(c, events, 80).Pair, calms[rounds]
		for side, e := range last.Ends {
			e.Slot = ended.Ends[side].Slot
			if !sameEnd(e, ended.Ends[side]) {
				t.Errorf("%s: %s became %s", what, endName(ended.Ends[side]), endName(last.Ends[side]))
			}
			heard += len(e.Got)
		}
		most = max(most, rounds)
	}
	if heard < 800 || most < 20 {
		t.Errorf("%d messages were heard in all, behind %d rounds at most", heard, most)
	}
}

// auditCalls are calls of each function with an answer, and with each code that can be.
func auditCalls() map[string][]call {
	out := map[string][]call{}
	for _, run := range pairCalls()["RunPair"] {
		out["MutedEvents"] = append(out["MutedEvents"], call{run[1]})
		for _, name := range []string{"IsShaped", "IsPrefix", "IsApart", "RoundsTo"} {
			out[name] = append(out[name], run)
		}
		for _, rounds := range []int64{-1, 0, 4, 121} {
			out["CalmPair"] = append(out["CalmPair"], append(slices.Clone(run), rounds))
		}
	}
	// The Bodies are of one memory, and of events that stay.
	body := listOf(40, 1, 1)
	kept := []impl.Event{{Kind: 2, Body: body}, sendOf(0, body), {Kind: 9, Body: body[:9]}, {Kind: 0, Body: body[3:]}}
	for _, events := range [][]impl.Event{kept, slices.Repeat(kept, 50), slices.Repeat(kept, 51)} {
		out["MutedEvents"] = append(out["MutedEvents"], call{events})
	}
	return out
}

// Promise 1, of all functions of the chapter.
func TestAuditFirstPromise(t *testing.T) {
	for name, calls := range auditCalls() {
		function := map[string]any{
			"MutedEvents": impl.MutedEvents, "IsShaped": impl.IsShaped, "IsPrefix": impl.IsPrefix,
			"IsApart": impl.IsApart, "CalmPair": impl.CalmPair, "RoundsTo": impl.RoundsTo,
		}[name]
		checkFirstPromise(t, name, function, calls)
	}
}

// An empty list and nil are the same.
func TestAuditEmptyIsNil(t *testing.T) {
	for _, room := range [][]byte{{}, listOf(9, 1, 1)} {
		for seed := range uint64(6) {
			events := append(madeEvents(seed, 90, true), impl.Event{}, sendOf(0, nil))
			others := slices.Clone(events)
			for i := range others {
				if len(others[i].Body) == 0 {
					others[i].Body = room[:0]
				}
			}
			c := configOf(seed%2 > 0)
			wantMuted(t, "events with a Body that is empty", others, mutedBy(events))
			wantAll(t, "events with a Body that is empty", c, others, true)
			wantInt(t, "RoundsTo of events with a Body that is empty", impl.RoundsTo(c, others), impl.RoundsTo(c, events).Value)
			wantPairOf(t, "events with a Body that is empty", impl.CalmPair(c, others, 9), impl.CalmPair(c, events, 9).Pair)
		}
	}
}
