package tests

import (
	"bytes"
	"fmt"
	"math/rand/v2"
	"slices"
	"strings"
	"testing"

	"loop.example/g00792/impl"
)

// linesBy goes byte by byte: a line feed ends a line, and what is left at the end is one, if it is not empty.
func linesBy(text string) []string {
	var out []string
	line := ""
	for i := range len(text) {
		if text[i] == 10 {
			out, line = append(out, line), ""
		} else {
			line += text[i : i+1]
		}
	}
	if line != "" {
		out = append(out, line)
	}
	return out
}

// scriptBy is asked of configs without a fault.
func scriptBy(t *testing.T, c impl.Config, text string) (events []impl.Event, said string, code int64) {
	t.Helper()
	if len(text) > 3000 || len(linesBy(text)) > 80 {
		return nil, "", impl.ErrMany
	}
	s := newTalk(t, c, nil)
	for _, line := range linesBy(text) {
		told, code := s.step(t, line)
		if code != impl.OK {
			said += fmt.Sprintf("! %d\n", code)
		} else if told != "" {
			said += told + "\n"
		}
	}
	return s.events, said, impl.OK
}

func scriptName(c impl.Config, text string) string {
	return fmt.Sprintf("RunScript of %s, Ideal %v", shown(text), c.Ideal)
}

// wantScriptBy holds RunScript against the tests' own reckoning.
func wantScriptBy(t *testing.T, c impl.Config, text string) impl.ScriptResult {
	t.Helper()
	got := impl.RunScript(c, text)
	events, said, code := scriptBy(t, c, text)
	if code != impl.OK {
		wantScriptCode(t, scriptName(c, text), got, code)
	} else {
		wantScript(t, scriptName(c, text), got, events, said)
	}
	return got
}

func wantSaid(t *testing.T, c impl.Config, text, said string, events ...impl.Event) {
	t.Helper()
	wantScript(t, scriptName(c, text), impl.RunScript(c, text), events, said)
	wantScriptBy(t, c, text)
}

func bothConfigs() []impl.Config {
	return []impl.Config{configOf(true), configOf(false)}
}

func TestRunScriptTyped(t *testing.T) {
	hi := sendOf(0, []byte("hi"))
	for _, c := range bothConfigs() {
		for text, want := range map[string]struct {
			said   string
			events []impl.Event
		}{
			"":                                   {"", nil},
			"\n":                                 {"", nil},
			"\n\n\n":                             {"", nil},
			" ":                                  {"", nil},
			"   \n \n\n  ":                       {"", nil},
			"tick a":                             {"ok\n", []impl.Event{tickOf(0)}},
			"tick a\n":                           {"ok\n", []impl.Event{tickOf(0)}},
			"tick a\n\n":                         {"ok\n", []impl.Event{tickOf(0)}},
			"\ntick a":                           {"ok\n", []impl.Event{tickOf(0)}},
			"\n\n  \n tick   a \n\n":             {"ok\n", []impl.Event{tickOf(0)}},
			"tick a\ntick b":                     {"ok\nok\n", []impl.Event{tickOf(0), tickOf(1)}},
			"tick b\ntick a\n":                   {"ok\nok\n", []impl.Event{tickOf(1), tickOf(0)}},
			"tick a\n\n\ntick b\n":               {"ok\nok\n", []impl.Event{tickOf(0), tickOf(1)}},
			"tick a tick b":                      {"! 5\n", nil},
			"foo":                                {"! 5\n", nil},
			"foo\n":                              {"! 5\n", nil},
			"foo\nbar\n\nbaz":                    {"! 5\n! 5\n! 5\n", nil},
			"tick a\r\ntick b\r\n":               {"! 5\n! 5\n", nil},
			"\ttick a\ntick a\t":                 {"! 5\n! 5\n", nil},
			"\xff\n\x00\n\u00a0":                 {"! 5\n! 5\n! 5\n", nil},
			"slot a":                             {"0\n", nil},
			"slot a\nslot b\nbad a\nparts b\n":   {"0\n0\n0\n0\n", nil},
			"got a\ngot b":                       {"0\n0\n", nil},
			"wire a 0":                           {"! 4\n", nil},
			"tick a\nslot a\ntick a\nslot a":     {"ok\n1\nok\n2\n", []impl.Event{tickOf(0), tickOf(0)}},
			"send a hi\nparts a\nparts b":        {"ok\n1\n0\n", []impl.Event{hi}},
			"send a hi\nsend a " + nLetters(200): {"ok\nok\n", []impl.Event{hi, sendOf(0, []byte(nLetters(200)))}},
			"send a " + nLetters(201):            {"! 2\n", nil},
			"send a " + nLetters(1001):           {"! 2\n", nil},
			"come a 0\ntick a\ncome a 0":         {"! 4\nok\nok\n", []impl.Event{tickOf(0), comeOf(0, 0)}},
			"come a 401":                         {"! 3\n", nil},
			"send a \xff\xfe\ntick a\ncome a 0\ngot b":                               {"ok\nok\nok\n1 fffe\n", []impl.Event{sendOf(0, []byte{255, 254}), tickOf(0), comeOf(0, 0)}},
			"send a hi\ntick a\nfoo\ncome a 1\nsend a\ncome a 0\nslot c\ngot b\n":    {"ok\nok\n! 5\n! 4\n! 5\nok\n! 5\n1 6869\n", []impl.Event{hi, tickOf(0), comeOf(0, 0)}},
			"send b you\ntick b\n\ntick b\ncome b 1\ngot a\ncome b 0\ngot a\nslot b": {"ok\nok\nok\nok\n0\nok\n1 796f75\n2\n", []impl.Event{sendOf(1, []byte("you")), tickOf(1), tickOf(1), comeOf(1, 1), comeOf(1, 0)}},
		} {
			wantSaid(t, c, text, want.said, want.events...)
		}
	}
}

// What an ideal pair takes, and the other one refuses, shows in the code, in the events and in what comes behind.
func TestRunScriptOfTurnsTyped(t *testing.T) {
	text := "turn a 0 9 1\nsend a hi\ntick a\nturn a 0 9 1\nbad b\nturn a 0 64 1\nturn a 0 9 0\nturn a 1 9 1\ncome a 0\nturn a 0 63 255\nbad b\nbad a\ngot b\n"
	events := []impl.Event{sendOf(0, []byte("hi")), tickOf(0), turnOf(0, 0, 9, 1), comeOf(0, 0), turnOf(0, 0, 63, 255)}
	wantSaid(t, configOf(true), text, "! 4\nok\nok\nok\n1\n! 3\n! 3\n! 4\nok\nok\n2\n0\n1 6869\n", events...)
	wantSaid(t, configOf(false), text, "! 8\nok\nok\n! 8\n0\n! 3\n! 3\n! 8\nok\n! 8\n0\n0\n1 6869\n", events[0], events[1], events[3])
}

// Where there is no room for a message, it is left out, and a shorter one goes on.
func TestRunScriptOfSendsThatAreRefused(t *testing.T) {
	long, short := "send a "+nLetters(200)+"\n", "send a x\n"
	for _, c := range bothConfigs() {
		text := strings.Repeat(long, 3) + "parts a\n" + long + "parts a\n" + strings.Repeat(short, 4) + "parts a\nsend b y\n"
		events := slices.Repeat([]impl.Event{sendOf(0, []byte(nLetters(200)))}, 3)
		events = append(events, slices.Repeat([]impl.Event{sendOf(0, []byte("x"))}, 3)...)
		wantSaid(t, c, text, "ok\nok\nok\n21\n! 7\n21\nok\nok\nok\n! 7\n24\nok\n", append(events, sendOf(1, []byte("y")))...)
	}
}

// The wires were reckoned outside the project (hmac, hashlib, and the package cryptography, of Python).
func TestRunScriptOfWiresTyped(t *testing.T) {
	text := "send a hello\ntick a\ncome a 0\nwire a 0\ntick b\nwire a 1\nwire b 0\nwire b 1\n"
	events := []impl.Event{sendOf(0, []byte("hello")), tickOf(0), comeOf(0, 0), tickOf(1)}
	wantSaid(t, configOf(false), text, "ok\nok\nok\n"+
		"00000000c24810c9ef97c7ae243cbe934ef707dd94a65439f65fbff80b8d26bdc284d36a6fa6e1e97101f9065e133bd70948d5063ae5c04d490d467456d98ba5\nok\n! 4\n"+
		"0000000058aa16df44bd17a1da0299ceb36b4c5ffc1bffbbef5427a7d014c4371dd892afe2e0a8589bcee66c9530f230ecc91d8b5c63e30f2cdabff52d535b10\n! 4\n", events...)
	wantSaid(t, configOf(true), text, "ok\nok\nok\n"+
		"000000007610b5196c160feca911e98c9c3de272fa91fdb73fa34603df69ed9a5bbcb32ddc434cacbca285244e88e994639cc69ce02161b7c59dfea1459f2916\nok\n! 4\n"+
		"0000000007d8cf1bae6eddc65db8a71998806493e01b1fc4ed934a9240059f67d70c9fd67d650070a3696f4173b86159682a3c7a6431725c0978279aba94b8ab\n! 4\n", events...)
}

// All that a script may be too long by, and what it may just be.
func TestRunScriptMany(t *testing.T) {
	few := []string{
		"", strings.Repeat("\n", 80), strings.Repeat("\n", 79) + "x", strings.Repeat("\n", 79) + "tick a", strings.Repeat("tick a\n", 80), strings.Repeat("tick a\n", 79) + "tick a",
		strings.Repeat("foo\n", 80), strings.Repeat("foo\n", 79) + "foo", strings.Repeat(" \n", 80), strings.Repeat(" \n", 79) + " ", strings.Repeat("slot a\n", 80),
		nLetters(2999), nLetters(3000), nBlanks(3000), nLetters(2999) + "\n", nBlanks(2999) + "\n", nBlanks(2994) + "tick a", nBlanks(2993) + "tick a\n", "tick a" + nBlanks(2994), "tick a\n" + nBlanks(2993),
		strings.Repeat(nLetters(36)+"\n", 80), strings.Repeat(nBlanks(30)+"tick b\n", 80), strings.Repeat("\u00fc", 1500), "send a " + nLetters(2993), "send a " + nLetters(1000) + "\nsend b " + nLetters(1984) + "\n",
	}
	many := []string{
		strings.Repeat("\n", 81), strings.Repeat("\n", 80) + "x", strings.Repeat("\n", 80) + " ", strings.Repeat("\n", 80) + "tick a", strings.Repeat("tick a\n", 81), strings.Repeat("tick a\n", 80) + "tick a",
		strings.Repeat("tick a\n", 80) + "\n", strings.Repeat("foo\n", 81), strings.Repeat(" \n", 80) + " ", strings.Repeat("slot a\n", 82), strings.Repeat("\n", 200), strings.Repeat("\n", 256+80), strings.Repeat("\n", 3000),
		nLetters(3001), nBlanks(3001), nLetters(3000) + "\n", nBlanks(3000) + "\n", nBlanks(2995) + "tick a", nBlanks(2994) + "tick a\n", "tick a" + nBlanks(2995), "tick a\n" + nBlanks(2994),
		strings.Repeat("\u00fc", 1501), strings.Repeat(nLetters(37)+"\n", 79), "tick a\n" + nLetters(3000), strings.Repeat("\n", 3001), strings.Repeat("\n", 100000), nLetters(100000), strings.Repeat("tick a\n", 100000),
	}
	for _, c := range bothConfigs() {
		for _, text := range few {
			if got := wantScriptBy(t, c, text); got.Code != impl.OK {
				t.Errorf("%s: code %d", scriptName(c, text), got.Code)
			}
		}
		for _, text := range many {
			wantScriptCode(t, scriptName(c, text), impl.RunScript(c, text), impl.ErrMany)
		}
		wantScript(t, "80 ticks", impl.RunScript(c, strings.Repeat("tick a\n", 80)), slices.Repeat([]impl.Event{tickOf(0)}, 80), strings.Repeat("ok\n", 80))
		for _, root := range notHashSize() {
			for _, text := range append(few[:9:9], many...) {
				c := impl.Config{Ideal: c.Ideal, Root: root}
				wantScriptCode(t, scriptName(c, text), impl.RunScript(c, text), impl.ErrRange)
			}
		}
	}
}

// drawnScript is a talk, in which what was sent is lost, or comes late, and of which some lines cannot be read.
func drawnScript(chance *rand.Rand, most int) string {
	var slots [2]int
	junk, lost, text := chance.IntN(25), chance.IntN(60), ""
	for range most {
		side := chance.IntN(2)
		name, late := []string{"a", "b"}[side], max(0, slots[side]-1-chance.IntN(3)*chance.IntN(3))
		line := fmt.Sprintf("%s %s", []string{"slot", "bad", "parts", "got", "got", "parts"}[chance.IntN(6)], name)
		switch roll := chance.IntN(100); {
		case roll < 20:
			word := drawnText(chance, 1+chance.IntN([]int{6, 40}[chance.IntN(2)]), "abc0123456789\xff\x80\t\r\x00")
			line = "send " + name + " " + word
		case roll < 50:
			line = "tick " + name
			slots[side]++
		case roll < 70 && chance.IntN(100) >= lost:
			line = fmt.Sprintf("come %s %d", name, late)
		case roll < 76:
			line = fmt.Sprintf("turn %s %d %d %d", name, late, chance.IntN(66), chance.IntN(258))
		case roll < 78:
			line = fmt.Sprintf("wire %s %d", name, late+chance.IntN(2))
		case roll < 80:
			line = fmt.Sprintf("come %s %d", name, slots[side]+chance.IntN(2))
		}
		if chance.IntN(100) < junk {
			line = []string{"", "   ", drawnLine(chance), line + " ", "  " + strings.ReplaceAll(line, " ", "   "), line + " x", line[1:], drawnText(chance, chance.IntN(9), "ab \n \n")}[chance.IntN(8)]
		}
		text += line + "\n"
	}
	return text[:len(text)-chance.IntN(2)]
}

// wantLineByLine is promise 13 of a script: it is done line by line, events are told by lines, and what is said is so.
func wantLineByLine(t *testing.T, c impl.Config, text string) {
	t.Helper()
	whole, said := impl.RunScript(c, text), ""
	var events []impl.Event
	for i, line := range linesBy(text) {
		what := fmt.Sprintf("%s, line %d", scriptName(c, text), i)
		told, before := impl.StepScript(c, events, line), impl.RunPair(c, events).Pair
		asked, code, isAsk := askedBy(before, line)
		switch {
		case told.Code != impl.OK:
			wantScriptCode(t, what, told, told.Code)
			said += fmt.Sprintf("! %d\n", told.Code)
		case told.Said == "ok":
			e := impl.EventOf(line)
			events = append(events, e.Event)
			wantCodes(t, what, impl.RunPair(c, events).Pair, make([]int64, len(events))...)
			if isAsk || e.Code != impl.OK {
				t.Errorf("%s: ok is said, and the code of EventOf is %d", what, e.Code)
			}
		case told.Said != "":
			said += told.Said + "\n"
		}
		if told.Said == "ok" {
			said += "ok\n"
		}
		if isAsk && (told.Code != code || told.Said != asked) || !isAsk && told.Said != "" && told.Said != "ok" {
			t.Errorf("%s: %q, code %d; of the pair it is %q, code %d", what, told.Said, told.Code, asked, code)
		}
		if told.Code == impl.OK {
			wantScript(t, what, told, events, told.Said)
		}
	}
	wantScript(t, scriptName(c, text), whole, events, said)
}

// Promise 13, of scripts.
func TestRunScriptOfDrawnScripts(t *testing.T) {
	chance := rand.New(rand.NewPCG(12, 6))
	seen, heard := map[int64]int{}, 0
	for seed := range 300 {
		c := impl.Config{Ideal: seed%3 > 0, Root: someRoots()[seed%5]}
		text := drawnScript(chance, []int{5, 40, 70, 78}[seed%4])
		got := wantScriptBy(t, c, text)
		seen[got.Code]++
		if got.Code != impl.OK {
			continue
		}
		for _, line := range strings.Split(got.Said, "\n") {
			if strings.HasPrefix(line, "! ") {
				seen[100+int64(line[2]-'0')]++
			}
			if strings.HasPrefix(line, "1 ") || strings.HasPrefix(line, "2 ") {
				heard++
			}
		}
		if seed%2 == 0 {
			wantLineByLine(t, c, text)
		}
	}
	for _, code := range []int64{impl.OK, impl.ErrMany, 100 + impl.ErrRange, 100 + impl.ErrNone, 100 + impl.ErrText, 100 + impl.ErrState} {
		if seen[code] < 4 {
			t.Errorf("the codes of drawn scripts, and of their lines (100 and more): %v", seen)
		}
	}
	if heard < 100 {
		t.Errorf("%d messages were told in all", heard)
	}
}

// Promise 13 of events that are drawn: a script of the lines that tell them says ok of each that has no code, and the code of each other one.
func TestRunScriptOfEventsThatHaveLines(t *testing.T) {
	for seed := range uint64(40) {
		var events, done []impl.Event
		text, said, c := "", "", configOf(seed%4 > 0)
		for _, e := range append(drawnEvents(seed, 60), madeEvents(seed, 60, true)...) {
			if len(events) < 80 && eventFaultBy(e) == impl.OK && (e.Kind != 1 || len(e.Body) > 0 && !bytes.ContainsAny(e.Body, " \n")) && len(text)+len(lineOf(e)) < 3000 {
				events, text = append(events, e), text+lineOf(e)+"\n"
			}
		}
		for i, code := range pairBy(t, c, events).Codes {
			if code == impl.OK {
				done, said = append(done, events[i]), said+"ok\n"
			} else {
				said += fmt.Sprintf("! %d\n", code)
			}
		}
		wantSaid(t, c, text, said, done...)
		if len(done) < 20 {
			t.Errorf("%d of %d events were done", len(done), len(events))
		}
	}
}

// Any bytes are a script; what cannot be read is said to be so, and the next line goes on.
func TestScriptsOfAnyBytes(t *testing.T) {
	chance := rand.New(rand.NewPCG(12, 7))
	for range 3000 {
		size := chance.IntN([]int{20, 200, 3100}[chance.IntN(3)])
		from := []string{"ab \n", "tick a\nslot b\n", "\x00\x09\x0a\x0d\x20\x80\xc2\xa0\xff", "send a 0\ngot", "come b 01\nturn -"}[chance.IntN(5)]
		text := drawnText(chance, size, from)
		wantScriptBy(t, configOf(true), text)
		wantEventBy(t, text)
		wantStepBy(t, configOf(true), nil, text)
		wantWords(t, text[:min(size, 3000)], wordsBy(text[:min(size, 3000)])...)
	}
	for b := range 256 {
		one := string([]byte{byte(b)})
		for _, c := range bothConfigs() {
			for _, text := range []string{one, one + one, "tick a" + one, one + "tick a", "tick a" + one + "tick b", "tick" + one + "a", "slot a\n" + one + "\nslot b", "send a x" + one + "y\nparts a", one + "\n", "\n" + one} {
				wantScriptBy(t, c, text)
			}
			wantStepBy(t, c, somePast(), one)
			wantStepBy(t, c, somePast(), "got"+one+"b")
			wantStepBy(t, c, somePast(), "got b"+one)
		}
	}
}

// scriptCalls are calls of each function with an answer, and with each code.
func scriptCalls() map[string][]call {
	out := map[string][]call{}
	add := func(name string, args ...any) { out[name] = append(out[name], args) }
	long := listOf(1001, 1, 1)
	lines := []string{
		"", "  ", "\n", "tick a", "  tick   b ", "send a hi", "send b " + nLetters(200), "send a " + nLetters(201), "send a " + nLetters(1001), "come a 0", "come b 9", "come a 401", "turn a 0 5 1", "turn a 0 64 1",
		"slot a", "bad b", "parts a", "got a", "got b", "wire a 0", "wire b 0", "wire b 99", "slot c", "foo", "tick c", nLetters(3000), nLetters(3001), "send a " + nLetters(3000), "tick a\n",
	}
	// The Bodies are of one memory, and that is the root's, too.
	common := []impl.Event{sendOf(0, long[:200]), sendOf(1, long[:40]), tickOf(0), tickOf(1), comeOf(0, 0), comeOf(1, 0), {Kind: 9, Body: long}, {Body: long[3:9]}, sendOf(1, long[:3])}
	for _, line := range lines {
		add("WordsOf", line)
		add("NumberOf", line)
		add("EventOf", line)
		for _, root := range [][]byte{long[:31], long[:32], listOf(32, 9, 3)} {
			for i, events := range [][]impl.Event{nil, {}, common, somePast(), slices.Repeat(common[:9], 23)[:200], slices.Repeat(common[:9], 23)[:201]} {
				add("StepScript", impl.Config{Ideal: i%2 > 0, Root: root}, events, line)
			}
		}
	}
	for _, word := range []string{"0", "7", "999999", "1000000", "01", "-1"} {
		add("NumberOf", word)
	}
	for _, size := range []int{0, 1, 2, 40, 999, 1000, 1001} {
		add("HexText", long[:size])
		add("HexText", listOf(size, 9, 3))
	}
	add("HexText", []byte(nil))
	chance := rand.New(rand.NewPCG(12, 8))
	for i := range 12 {
		for _, root := range [][]byte{nil, long[:32], listOf(33, 1, 1)} {
			add("RunScript", impl.Config{Ideal: i%2 > 0, Root: root}, drawnScript(chance, 40))
		}
	}
	for _, text := range []string{"", "\n", strings.Repeat("\n", 81), nLetters(3001), strings.Join(lines[:24], "\n"), "send a hi\nsend a hi\nsend b hi\n"} {
		add("RunScript", configOf(true), text)
		add("RunScript", configOf(false), text)
	}
	return out
}

// Promise 1, of all functions of the chapter.
func TestScriptFirstPromise(t *testing.T) {
	for name, calls := range scriptCalls() {
		function := map[string]any{
			"WordsOf": impl.WordsOf, "NumberOf": impl.NumberOf, "HexText": impl.HexText,
			"EventOf": impl.EventOf, "StepScript": impl.StepScript, "RunScript": impl.RunScript,
		}[name]
		checkFirstPromise(t, name, function, calls)
	}
}

// An empty list and nil are the same.
func TestScriptEmptyIsNil(t *testing.T) {
	for _, room := range [][]byte{{}, listOf(9, 1, 1)} {
		wantHex(t, "no bytes, with room behind", room[:0], "")
		events := append(somePast(), impl.Event{}, sendOf(0, nil))
		others := slices.Clone(events)
		for i := range others {
			if len(others[i].Body) == 0 {
				others[i].Body = room[:0]
			}
		}
		for _, c := range bothConfigs() {
			for _, line := range []string{"", "slot a", "got b", "tick a", "come a 0", "come a 7", "foo"} {
				wantStepBy(t, c, others, line)
				one, two := impl.StepScript(c, events, line), impl.StepScript(c, others, line)
				if one.Code != two.Code || one.Said != two.Said || !slices.EqualFunc(one.Events, two.Events, sameEvent) {
					t.Errorf("%s hangs on a Body being nil", stepName(c, events, line))
				}
			}
		}
	}
}
