package tests

import (
	"encoding/hex"
	"fmt"
	"regexp"
	"slices"
	"strings"
	"testing"

	"loop.example/g00792/impl"
)

var (
	endAskForm  = regexp.MustCompile(`\A(slot|bad|parts|got) ` + sideForm + `\z`)
	wireAskForm = regexp.MustCompile(`\Awire ` + sideForm + ` ` + numberForm + `\z`)
)

// talk is a script by the tests' own reckoning.
type talk struct {
	config impl.Config
	pair   impl.Pair
	said   map[string]impl.Cell
	events []impl.Event
}

func newTalk(t *testing.T, c impl.Config, events []impl.Event) *talk {
	t.Helper()
	s := &talk{config: c, pair: noPair(), said: map[string]impl.Cell{}, events: slices.Clone(events)}
	for _, e := range events {
		pairStepBy(t, c, &s.pair, s.said, e)
	}
	return s
}

// askedBy tells what is said of a pair, if line asks for something.
func askedBy(p impl.Pair, line string) (said string, code int64, is bool) {
	plain := strings.Join(wordsBy(line), " ")
	if m := wireAskForm.FindStringSubmatch(plain); m != nil {
		wires, place := p.Wires[sideBy(m[1])], 0
		fmt.Sscan(m[2], &place)
		if place >= len(wires) {
			return "", impl.ErrNone, true
		}
		return hex.EncodeToString(wires[place]), impl.OK, true
	}
	m := endAskForm.FindStringSubmatch(plain)
	if m == nil {
		return "", impl.OK, false
	}
	end := p.Ends[sideBy(m[2])]
	said = fmt.Sprint(map[string]int64{
		"slot": end.Slot, "bad": end.Bad, "parts": int64(len(end.Sender.Parts)), "got": int64(len(end.Got)),
	}[m[1]])
	if m[1] == "got" && len(end.Got) > 0 {
		said += fmt.Sprintf(" %x", end.Got[len(end.Got)-1])
	}
	return said, impl.OK, true
}

func (s *talk) step(t *testing.T, line string) (said string, code int64) {
	t.Helper()
	switch {
	case strings.Contains(line, "\n"):
		return "", impl.ErrText
	case len(line) > 3000:
		return "", impl.ErrMany
	case strings.Trim(line, " ") == "":
		return "", impl.OK
	}
	if said, code, is := askedBy(s.pair, line); is {
		return said, code
	}
	e, code := eventBy(line)
	if code == impl.OK && len(s.events) == 200 {
		code = impl.ErrFull
	}
	if code == impl.OK {
		code = pairStepBy(t, s.config, &s.pair, s.said, e)
	}
	if code != impl.OK {
		return "", code
	}
	s.events = append(s.events, e)
	return "ok", impl.OK
}

func wantScript(t *testing.T, what string, got impl.ScriptResult, events []impl.Event, said string) {
	t.Helper()
	if got.Code != impl.OK || got.Said != said || !slices.EqualFunc(got.Events, events, sameEvent) {
		t.Errorf("%s: code %d, said %q, %s; want code 0, said %q, %s", what, got.Code, got.Said, eventNames(got.Events), said, eventNames(events))
	}
}

func wantScriptCode(t *testing.T, what string, got impl.ScriptResult, code int64) {
	t.Helper()
	if got.Code != code || got.Said != "" || len(got.Events) != 0 {
		t.Errorf("%s: code %d, said %q, %s; want code %d, all else zero", what, got.Code, got.Said, eventNames(got.Events), code)
	}
}

func stepName(c impl.Config, events []impl.Event, line string) string {
	return fmt.Sprintf("StepScript of %s behind %s, Ideal %v, a root of %d bytes", shown(line), eventNames(events), c.Ideal, len(c.Root))
}

// wantAsked is asked of lines behind which no event comes.
func wantAsked(t *testing.T, c impl.Config, events []impl.Event, line, said string) {
	t.Helper()
	wantScript(t, stepName(c, events, line), impl.StepScript(c, events, line), events, said)
}

func wantDone(t *testing.T, c impl.Config, events []impl.Event, line string, e impl.Event) {
	t.Helper()
	wantScript(t, stepName(c, events, line), impl.StepScript(c, events, line), append(slices.Clone(events), e), "ok")
}

func wantStepCode(t *testing.T, c impl.Config, events []impl.Event, line string, code int64) {
	t.Helper()
	wantScriptCode(t, stepName(c, events, line), impl.StepScript(c, events, line), code)
}

func wantStepBy(t *testing.T, c impl.Config, events []impl.Event, line string) {
	t.Helper()
	s := newTalk(t, c, events)
	said, code := s.step(t, line)
	if code != impl.OK {
		wantStepCode(t, c, events, line, code)
		return
	}
	wantScript(t, stepName(c, events, line), impl.StepScript(c, events, line), s.events, said)
}

// somePast are events behind which both sides have something of all that can be asked for, and others at that.
func somePast() []impl.Event {
	return []impl.Event{
		sendOf(0, []byte("hi")), sendOf(0, []byte{0, 10, 255}), sendOf(1, []byte("you")), sendOf(1, listOf(70, 1, 1)), tickOf(0), tickOf(0), comeOf(0, 0), comeOf(0, 1),
		tickOf(1), turnOf(0, 0, 9, 1), turnOf(0, 1, 0, 255), turnOf(1, 0, 63, 1), comeOf(1, 0), tickOf(0), tickOf(1),
	}
}

func TestStepScriptAsksTyped(t *testing.T) {
	c, events := configOf(true), somePast()
	for line, said := range map[string]string{
		"slot a": "3", "slot b": "2", "bad a": "1", "bad b": "2", "parts a": "0", "parts b": "4", "got a": "1 796f75", "got b": "2 000aff",
		"  slot   a ": "3", " bad b": "2", "parts b    ": "4", "got    a": "1 796f75",
		"wire a 0":   hex.EncodeToString(idealWireBy(c.Root, 0, 0)),
		"wire a 2":   hex.EncodeToString(idealWireBy(c.Root, 0, 2)),
		"wire b 0":   hex.EncodeToString(idealWireBy(c.Root, 1, 0)),
		"wire b 1":   hex.EncodeToString(idealWireBy(c.Root, 1, 1)),
		" wire  b 1": hex.EncodeToString(idealWireBy(c.Root, 1, 1)),
	} {
		wantAsked(t, c, events, line, said)
		wantStepBy(t, c, events, line)
	}
	for _, line := range []string{"wire a 3", "wire a 4", "wire b 2", "wire b 3", "wire a 400", "wire a 401", "wire b 999999", "wire a 999999"} {
		wantStepCode(t, c, events, line, impl.ErrNone)
		wantStepBy(t, c, events, line)
	}
	for _, side := range []string{"a", "b"} {
		for _, ideal := range []bool{true, false} {
			for _, ask := range []string{"slot", "bad", "parts", "got"} {
				wantAsked(t, configOf(ideal), nil, ask+" "+side, "0")
			}
			wantStepCode(t, configOf(ideal), nil, "wire "+side+" 0", impl.ErrNone)
			wantStepCode(t, configOf(ideal), nil, "wire "+side+" 1", impl.ErrNone)
		}
	}
}

// The wires were reckoned outside the project (hmac, hashlib, and the package cryptography, of Python).
func TestStepScriptWiresTyped(t *testing.T) {
	events := []impl.Event{sendOf(0, []byte("hello")), tickOf(0), comeOf(0, 0), tickOf(1), tickOf(0)}
	for line, wires := range map[string][2]string{
		"wire a 0": {
			"000000007610b5196c160feca911e98c9c3de272fa91fdb73fa34603df69ed9a5bbcb32ddc434cacbca285244e88e994639cc69ce02161b7c59dfea1459f2916",
			"00000000c24810c9ef97c7ae243cbe934ef707dd94a65439f65fbff80b8d26bdc284d36a6fa6e1e97101f9065e133bd70948d5063ae5c04d490d467456d98ba5",
		},
		"wire a 1": {
			"00000001c8b8e1c3401b316bc7a9bfc3f1fb8f0d9e232fc9f9dcaef63dd9fad9fc434dd07ab992c868af29db844f90e9d06f5d285a20a32f6e56d651c2928c11",
			"000000017e7d66cf0e2047fc5a403b7cf708756a135c946c0ee2ff19e18e1dc4a178e219f5502b7a1e16e808b6b3fc3cf4e8fd83a8c9efe9507c10a98dc94b7b",
		},
		"wire b 0": {
			"0000000007d8cf1bae6eddc65db8a71998806493e01b1fc4ed934a9240059f67d70c9fd67d650070a3696f4173b86159682a3c7a6431725c0978279aba94b8ab",
			"0000000058aa16df44bd17a1da0299ceb36b4c5ffc1bffbbef5427a7d014c4371dd892afe2e0a8589bcee66c9530f230ecc91d8b5c63e30f2cdabff52d535b10",
		},
	} {
		wantAsked(t, configOf(true), events, line, wires[0])
		wantAsked(t, configOf(false), events, line, wires[1])
	}
}

// Lines that begin as asks do, and are none, are asked as events: they cannot be read, whatever is there.
func TestStepScriptAsksThatAreNone(t *testing.T) {
	full := slices.Repeat([]impl.Event{tickOf(0)}, 200)
	for _, line := range []string{
		"slot", "bad", "parts", "got", "wire", "wire a", "wire b", "wire 0", "slot ", " got ",
		"slot a b", "slot a a", "slot a 0", "bad b b", "bad a 1", "parts a a", "parts b 0", "got a 0", "got b b", "wire a 0 0", "wire a 0 a", "wire a a 0", "wire a b 0", "slot slot a", "got got b",
		"slot c", "slot A", "slot B", "slot ab", "slot 0", "slot 1", "bad c", "bad A", "bad 0", "parts c", "parts B", "parts 1", "got c", "got ab", "got 0", "got -", "wire c 0", "wire A 0", "wire ab 0", "wire 0 0", "wire 1 0", "wire 0 a",
		"wire a x", "wire a 00", "wire a 01", "wire a -1", "wire a +0", "wire a 1000000", "wire a 0x0", "wire a 0\t", "wire a \xff", "wire a b",
		"slots a", "slo a", "sloT a", "Slot a", "slota", "\tslot a", "slot\ta", "slot a\r", "bads a", "part a", "parts: a", "gotten a", "go a", "Got a", "wires a 0", "wir a 0", "wirea 0", "wire\ta 0", "slot\u00a0a",
		"ends a", "sent a", "key a", "? slot a", "ok", "! 5", "a slot", "foo",
	} {
		for _, ideal := range []bool{true, false} {
			for _, events := range [][]impl.Event{nil, somePast(), full} {
				wantStepCode(t, configOf(ideal), events, line, impl.ErrText)
			}
			wantStepBy(t, configOf(ideal), somePast(), line)
		}
	}
}

// The codes of RunPair are asked ahead of all, whatever the line is.
func TestStepScriptCodesOfRunPair(t *testing.T) {
	lines := []string{"", "  ", "slot a", "wire a 9", "tick a", "send a hi", "come a 7", "foo", "tick c", "come a 999", "tick a\n", "\n", nLetters(3001), nLetters(3000) + "\n", nBlanks(3001)}
	for _, ideal := range []bool{true, false} {
		for _, line := range lines {
			for _, count := range []int{0, 1, 200, 201, 1001} {
				for _, root := range [][]byte{nil, {}, make([]byte, 31), make([]byte, 33), make([]byte, 64), make([]byte, 1001)} {
					wantStepCode(t, impl.Config{Ideal: ideal, Root: root}, make([]impl.Event, count), line, impl.ErrRange)
				}
			}
			for _, e := range []impl.Event{{}, tickOf(1), sendOf(0, []byte{1}), {Kind: 9}} {
				for _, count := range []int{201, 202, 256, 400, 1001} {
					wantStepCode(t, configOf(ideal), slices.Repeat([]impl.Event{e}, count), line, impl.ErrMany)
				}
				wantStepBy(t, configOf(ideal), slices.Repeat([]impl.Event{e}, 200), line)
				wantStepBy(t, configOf(ideal), slices.Repeat([]impl.Event{e}, 199), line)
			}
		}
	}
}

func TestStepScriptOfLinesThatCannotBeRead(t *testing.T) {
	full := slices.Repeat([]impl.Event{tickOf(0)}, 200)
	for line, code := range map[string]int64{
		// A line feed is asked for ahead of the size of a line, and ahead of its words.
		"\n": impl.ErrText, "\n\n": impl.ErrText, " \n": impl.ErrText, "\n ": impl.ErrText, "slot a\n": impl.ErrText, "\nslot a": impl.ErrText, "slot\na": impl.ErrText, "slot \n a": impl.ErrText,
		"tick a\n": impl.ErrText, "\ntick a": impl.ErrText, "tick a\ntick b": impl.ErrText, "tick\n a": impl.ErrText, "send a x\ny": impl.ErrText, "send a \n": impl.ErrText, "wire a 999999\n": impl.ErrText,
		"come a 401\n": impl.ErrText, "send a " + nLetters(1001) + "\n": impl.ErrText,
		nLetters(3000) + "\n": impl.ErrText, "\n" + nLetters(3000): impl.ErrText, nBlanks(5000) + "\n": impl.ErrText, nLetters(2999) + "\n": impl.ErrText, nBlanks(2999) + "\n": impl.ErrText,
		strings.Repeat("\n", 3001): impl.ErrText, "slot a" + nBlanks(3000) + "\n": impl.ErrText, nLetters(100000) + "\n" + nLetters(100000): impl.ErrText,
		// Then its size.
		nLetters(3001): impl.ErrMany, nBlanks(3001): impl.ErrMany, nBlanks(100000): impl.ErrMany, "slot a" + nBlanks(2995): impl.ErrMany, "tick a" + nBlanks(2995): impl.ErrMany, nBlanks(2995) + "foo a1": impl.ErrMany,
		"wire a 999999" + nBlanks(2988): impl.ErrMany, "come a 401" + nBlanks(2991): impl.ErrMany, nLetters(3000): impl.ErrText, nBlanks(2994) + "tack a": impl.ErrText,
		// Then what it says.
		"tick": impl.ErrText, "tick c": impl.ErrText, "come a x": impl.ErrText, "turn a 3 4": impl.ErrText, "send a": impl.ErrText, "come c 999": impl.ErrText, "\r": impl.ErrText, "\t": impl.ErrText,
		"come a 401": impl.ErrRange, "come b 999999": impl.ErrRange, "turn a 0 64 1": impl.ErrRange, "turn a 0 5 0": impl.ErrRange, "turn b 0 5 256": impl.ErrRange, "turn a 401 5 5": impl.ErrRange,
		"send a " + nLetters(1001): impl.ErrMany, "send b " + nLetters(2993): impl.ErrMany,
	} {
		for _, ideal := range []bool{true, false} {
			for _, events := range [][]impl.Event{nil, somePast(), full} {
				wantStepCode(t, configOf(ideal), events, line, code)
			}
			wantStepBy(t, configOf(ideal), somePast(), line)
		}
	}
}

// A line that has no words is none of the others: nothing is said, and the events stay.
func TestStepScriptOfNoWords(t *testing.T) {
	for _, line := range []string{"", " ", "     ", nBlanks(2999), nBlanks(3000)} {
		for _, ideal := range []bool{true, false} {
			for _, events := range [][]impl.Event{nil, {}, somePast(), {{}, {Kind: 9, Body: []byte{1}}}, slices.Repeat([]impl.Event{tickOf(0)}, 200)} {
				wantAsked(t, configOf(ideal), events, line, "")
				wantStepBy(t, configOf(ideal), events, line)
			}
		}
	}
}

func TestStepScriptOfEventsTyped(t *testing.T) {
	for _, ideal := range []bool{true, false} {
		c := configOf(ideal)
		for line, e := range map[string]impl.Event{
			"send a hi": sendOf(0, []byte("hi")), "send b tick": sendOf(1, []byte("tick")), "send a " + nLetters(200): sendOf(0, []byte(nLetters(200))), "send b \xff\x00": sendOf(1, []byte{255, 0}),
			"tick a": tickOf(0), "  tick   b ": tickOf(1), "come a 0": comeOf(0, 0), "come a 2": comeOf(0, 2), "come b 1": comeOf(1, 1), nBlanks(2994) + "tick b": tickOf(1),
		} {
			wantDone(t, c, somePast(), line, e)
			if e.Kind < 3 {
				wantDone(t, c, nil, line, e)
			}
			wantStepBy(t, c, somePast(), line)
		}
		for line, code := range map[string]int64{
			"send a " + nLetters(201): impl.ErrMany, "send b " + nLetters(1000): impl.ErrMany, "come a 3": impl.ErrNone, "come a 400": impl.ErrNone, "come b 2": impl.ErrNone,
		} {
			wantStepCode(t, c, somePast(), line, code)
			wantStepBy(t, c, somePast(), line)
		}
		wantStepCode(t, c, nil, "come a 0", impl.ErrNone)
		wantStepCode(t, c, nil, "come b 0", impl.ErrNone)
		room := slices.Repeat([]impl.Event{sendOf(0, []byte(nLetters(200)))}, 3)
		wantDone(t, c, room, "send a "+nLetters(96), sendOf(0, []byte(nLetters(96))))
		wantStepCode(t, c, room, "send a "+nLetters(97), impl.ErrFull)
		wantDone(t, c, room, "send b "+nLetters(97), sendOf(1, []byte(nLetters(97))))
	}
	for line, e := range map[string]impl.Event{"turn a 0 5 1": turnOf(0, 0, 5, 1), "turn a 2 63 255": turnOf(0, 2, 63, 255), "turn b 1 0 9": turnOf(1, 1, 0, 9)} {
		wantDone(t, configOf(true), somePast(), line, e)
		wantStepCode(t, configOf(false), somePast(), line, impl.ErrState)
		wantStepCode(t, configOf(true), nil, line, impl.ErrNone)
		wantStepCode(t, configOf(false), nil, line, impl.ErrState)
	}
	wantStepCode(t, configOf(true), somePast(), "turn a 3 5 1", impl.ErrNone)
	wantStepCode(t, configOf(false), somePast(), "turn a 3 5 1", impl.ErrState)
}

// Events that have codes of their own stay where they are, and what comes behind them does not hang on them.
func TestStepScriptBehindEventsWithCodes(t *testing.T) {
	over := make([]byte, 1001)
	bad := []impl.Event{{}, {Kind: 9, Side: 7, Body: over, Slot: -1, At: -2, Mask: -3}, comeOf(0, 7), sendOf(0, nil), sendOf(0, over), tickOf(2), comeOf(1, 401), turnOf(0, 0, 64, 1), {Kind: 2, Mask: 1}}
	lines := []string{"", "slot a", "slot b", "bad a", "bad b", "parts a", "parts b", "got a", "got b", "wire a 0", "wire a 2", "wire a 3", "send a hi", "tick a", "come a 0", "come a 2", "come b 1", "turn a 0 5 1", "foo"}
	for _, ideal := range []bool{true, false} {
		for _, line := range lines {
			past := somePast()
			all := slices.Concat(bad, past[:7], bad, past[7:], bad)
			wantStepBy(t, configOf(ideal), all, line)
			wantStepBy(t, configOf(ideal), bad, line)
			alone, among := impl.StepScript(configOf(ideal), past, line), impl.StepScript(configOf(ideal), all, line)
			if among.Code != alone.Code || among.Said != alone.Said {
				t.Errorf("%s: %q, code %d; without the events that have codes %q, code %d", stepName(configOf(ideal), all, line), among.Said, among.Code, alone.Said, alone.Code)
			}
		}
		wantDone(t, configOf(ideal), bad, "tick a", tickOf(0))
		wantStepCode(t, configOf(ideal), bad, "come a 0", impl.ErrNone)
	}
}

func TestStepScriptWithAllEventsThereCanBe(t *testing.T) {
	past := append(somePast(), slices.Repeat([]impl.Event{tickOf(0)}, 200)...)
	for _, ideal := range []bool{true, false} {
		c := configOf(ideal)
		for line, code := range map[string]int64{
			"tick a": impl.ErrFull, "tick b": impl.ErrFull, "send a hi": impl.ErrFull, "come a 0": impl.ErrFull, "turn a 0 5 1": impl.ErrFull,
			// Of these the last code would be another one.
			"come a 400": impl.ErrFull, "send b " + nLetters(201): impl.ErrFull, "turn b 400 5 1": impl.ErrFull,
			// The code of EventOf is asked ahead.
			"tick c": impl.ErrText, "tick": impl.ErrText, "come a 401": impl.ErrRange, "turn a 0 5 0": impl.ErrRange, "send a " + nLetters(1001): impl.ErrMany, "foo": impl.ErrText,
			nLetters(3001): impl.ErrMany, "tick a\n": impl.ErrText, "wire a 188": impl.ErrNone, "slot c": impl.ErrText,
		} {
			wantStepCode(t, c, past[:200], line, code)
			wantStepBy(t, c, past[:200], line)
			if code == impl.ErrFull {
				wantStepBy(t, c, past[:199], line)
			}
			wantStepCode(t, c, make([]impl.Event, 200), line, code)
		}
		for _, line := range []string{"", "  ", "slot a", "slot b", "bad a", "bad b", "parts a", "parts b", "got a", "got b", "wire a 0", "wire a 187", "wire b 1"} {
			if said := impl.StepScript(c, past[:200], line).Said; (said == "") != (strings.Trim(line, " ") == "") {
				t.Errorf("%s: %q", stepName(c, past[:200], line), said)
			}
			wantStepBy(t, c, past[:200], line)
		}
		wantAsked(t, c, past[:200], "slot a", "188")
		wantDone(t, c, past[:199], "tick a", tickOf(0))
		wantDone(t, c, make([]impl.Event, 199), "tick a", tickOf(0))
		wantStepCode(t, c, make([]impl.Event, 200), "tick a", impl.ErrFull)
		wantStepCode(t, c, past[:199], "come a 400", impl.ErrNone)
	}
}

// All places that there are, and the one behind.
func TestStepScriptOfEachWire(t *testing.T) {
	events := []impl.Event{sendOf(1, listOf(90, 1, 1)), tickOf(0), tickOf(1), tickOf(1), tickOf(0), comeOf(1, 1), tickOf(0), comeOf(0, 2), tickOf(1), tickOf(1), tickOf(1), tickOf(1)}
	for _, ideal := range []bool{true, false} {
		for count := range len(events) + 1 {
			c := configOf(ideal)
			p := pairBy(t, c, events[:count])
			for side, name := range []string{"a", "b"} {
				for place, wire := range p.Wires[side] {
					wantAsked(t, c, events[:count], fmt.Sprintf("wire %s %d", name, place), fmt.Sprintf("%x", wire))
				}
				for more := range 3 {
					wantStepCode(t, c, events[:count], fmt.Sprintf("wire %s %d", name, len(p.Wires[side])+more), impl.ErrNone)
				}
			}
		}
	}
}

// Of what was got the last one is said, whole.
func TestStepScriptOfWhatWasGot(t *testing.T) {
	for side, name := range []string{"a", "b"} {
		for _, ideal := range []bool{true, false} {
			c, other := configOf(ideal), int64(1-side)
			var events []impl.Event
			for count, message := range [][]byte{{0}, {255}, []byte("hi"), {10}, []byte("hi"), {0, 0}, listOf(32, 1, 1)} {
				events = append(events, sendOf(other, message), tickOf(other), comeOf(other, int64(count)))
				wantAsked(t, c, events[:len(events)-1], "got "+name, wasGot(count, events))
				wantAsked(t, c, events, "got "+name, fmt.Sprintf("%d %x", count+1, message))
				wantAsked(t, c, events, "got "+[]string{"b", "a"}[side], "0")
			}
			long := listOf(200, 9, 3)
			events = append([]impl.Event{sendOf(other, long)}, slices.Repeat([]impl.Event{tickOf(other)}, 7)...)
			for slot := range int64(7) {
				wantAsked(t, c, events, "got "+name, "0")
				events = append(events, comeOf(other, slot))
			}
			wantAsked(t, c, events, "got "+name, fmt.Sprintf("1 %x", long))
		}
	}
}

// wasGot is what is said of the first messages that events send, so many of them.
func wasGot(count int, events []impl.Event) string {
	if count == 0 {
		return "0"
	}
	return fmt.Sprintf("%d %x", count, events[3*count-3].Body)
}
