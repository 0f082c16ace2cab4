package tests

import (
	"fmt"
	"math/rand/v2"
	"regexp"
	"strings"
	"testing"

	"loop.example/g00792/impl"
)

const sideForm = `([ab])`

var (
	sendForm = regexp.MustCompile(`\Asend ` + sideForm + ` ([^ ]+)\z`)
	tickForm = regexp.MustCompile(`\Atick ` + sideForm + `\z`)
	comeForm = regexp.MustCompile(`\Acome ` + sideForm + ` ` + numberForm + `\z`)
	turnForm = regexp.MustCompile(`\Aturn ` + sideForm + ` ` + numberForm + ` ` + numberForm + ` ` + numberForm + `\z`)
)

// sideBy is asked of the words of sides alone.
func sideBy(word string) int64 {
	return map[string]int64{"a": 0, "b": 1}[word]
}

// formedBy tells what a line says, if it has one of the four forms.
func formedBy(line string) (impl.Event, bool) {
	plain := strings.Join(wordsBy(line), " ")
	number := func(word string) int64 {
		n, _ := numberBy(word)
		return n
	}
	if m := sendForm.FindStringSubmatch(plain); m != nil {
		return sendOf(sideBy(m[1]), []byte(m[2])), true
	}
	if m := tickForm.FindStringSubmatch(plain); m != nil {
		return tickOf(sideBy(m[1])), true
	}
	if m := comeForm.FindStringSubmatch(plain); m != nil {
		return comeOf(sideBy(m[1]), number(m[2])), true
	}
	if m := turnForm.FindStringSubmatch(plain); m != nil {
		return turnOf(sideBy(m[1]), number(m[2]), number(m[3]), number(m[4])), true
	}
	return impl.Event{}, false
}

func eventBy(line string) (impl.Event, int64) {
	if len(line) > 3000 {
		return impl.Event{}, impl.ErrMany
	}
	e, is := formedBy(line)
	if !is {
		return impl.Event{}, impl.ErrText
	}
	if code := eventFaultBy(e); code != impl.OK {
		return impl.Event{}, code
	}
	return e, impl.OK
}

// shown is a line as it can be read in what a test tells, however long it is.
func shown(line string) string {
	if len(line) > 120 {
		return fmt.Sprintf("%q and %d bytes more", line[:120], len(line)-120)
	}
	return fmt.Sprintf("%q", line)
}

func wantEvent(t *testing.T, line string, want impl.Event) {
	t.Helper()
	if got := impl.EventOf(line); got.Code != impl.OK || !sameEvent(got.Event, want) {
		t.Errorf("EventOf %s: code %d, %s; want code 0, %s", shown(line), got.Code, eventName(got.Event), eventName(want))
	}
}

func wantEventCode(t *testing.T, line string, code int64) {
	t.Helper()
	if got := impl.EventOf(line); got.Code != code || !sameEvent(got.Event, impl.Event{}) {
		t.Errorf("EventOf %s: code %d, %s; want code %d, a zero event", shown(line), got.Code, eventName(got.Event), code)
	}
}

func wantEventBy(t *testing.T, line string) {
	t.Helper()
	if want, code := eventBy(line); code == impl.OK {
		wantEvent(t, line, want)
	} else {
		wantEventCode(t, line, code)
	}
}

func TestEventOfTyped(t *testing.T) {
	for line, want := range map[string]impl.Event{
		"send a hi":                    sendOf(0, []byte("hi")),
		"send b hi":                    sendOf(1, []byte("hi")),
		"send a a":                     sendOf(0, []byte("a")),
		"send b a":                     sendOf(1, []byte("a")),
		"send a 7":                     sendOf(0, []byte("7")),
		"send a 0":                     sendOf(0, []byte("0")),
		"send a 01":                    sendOf(0, []byte("01")),
		"send a 1234567":               sendOf(0, []byte("1234567")),
		"send a send":                  sendOf(0, []byte("send")),
		"send a tick":                  sendOf(0, []byte("tick")),
		"send b come":                  sendOf(1, []byte("come")),
		"send b turn":                  sendOf(1, []byte("turn")),
		"send b slot":                  sendOf(1, []byte("slot")),
		"send b got":                   sendOf(1, []byte("got")),
		"send a !":                     sendOf(0, []byte("!")),
		"send a \x00":                  sendOf(0, []byte{0}),
		"send a \t":                    sendOf(0, []byte{9}),
		"send a \n":                    sendOf(0, []byte{10}),
		"send a x\ny\r":                sendOf(0, []byte{120, 10, 121, 13}),
		"send a \x80\xff":              sendOf(0, []byte{128, 255}),
		"send a gr\u00fc\u00df":        sendOf(0, []byte{103, 114, 195, 188, 195, 159}),
		"send b \u00a0\u2003":          sendOf(1, []byte{194, 160, 226, 128, 131}),
		"send  b   hi":                 sendOf(1, []byte("hi")),
		"   send b hi":                 sendOf(1, []byte("hi")),
		"send b hi   ":                 sendOf(1, []byte("hi")),
		"  send  b  hi  ":              sendOf(1, []byte("hi")),
		"tick a":                       tickOf(0),
		"tick b":                       tickOf(1),
		" tick b":                      tickOf(1),
		"tick b ":                      tickOf(1),
		"   tick   a   ":               tickOf(0),
		"come a 0":                     comeOf(0, 0),
		"come b 0":                     comeOf(1, 0),
		"come b 7":                     comeOf(1, 7),
		"come a 10":                    comeOf(0, 10),
		"come a 400":                   comeOf(0, 400),
		"  come  b  399 ":              comeOf(1, 399),
		"turn a 0 0 1":                 turnOf(0, 0, 0, 1),
		"turn b 3 4 5":                 turnOf(1, 3, 4, 5),
		"turn b 400 63 255":            turnOf(1, 400, 63, 255),
		"turn a 1 2 254":               turnOf(0, 1, 2, 254),
		" turn   a  9 8   7  ":         turnOf(0, 9, 8, 7),
		"send a " + nLetters(200):      sendOf(0, []byte(nLetters(200))),
		"send a " + nLetters(201):      sendOf(0, []byte(nLetters(201))),
		"send b " + nLetters(1000):     sendOf(1, []byte(nLetters(1000))),
		nBlanks(2994) + "tick a":       tickOf(0),
		"tick a" + nBlanks(2994):       tickOf(0),
		"come" + nBlanks(2993) + "b 7": comeOf(1, 7),
	} {
		wantEvent(t, line, want)
		if by, code := eventBy(line); code != impl.OK || !sameEvent(by, want) {
			t.Errorf("the tests reckon %s as %s, code %d; want %s", shown(line), eventName(by), code, eventName(want))
		}
	}
}

func nLetters(count int) string {
	return strings.Repeat("x", count)
}

func nBlanks(count int) string {
	return strings.Repeat(" ", count)
}

func TestEventOfWhatIsNone(t *testing.T) {
	for _, line := range []string{
		"", " ", "      ", "a", "b", "0", "x", "\n", "\t", "\x00", "\xff", "hello a b", "foo", "foo a", "foo a 1", "foo a 1 2 3", "1 a 2", "a tick", "b a", "a b", "! 5", "ok",
		// Too few words.
		"send", "send a", "send hi", "tick", "come", "come a", "come 0", "turn", "turn a", "turn a 3", "turn a 3 4", "turn 3 4 5", "send ", "tick ", " come a ",
		// One too many.
		"send a hi ho", "send a a a", "send a b c d", "tick a b", "tick a 0", "tick a tick", "tick a a", "come a 0 1", "come a 0 0", "come a a 0", "turn a 3 4 5 6", "turn a 3 4 5 x", "turn a a 3 4 5", "send send a hi", "tick tick a", "come come a 0",
		// Words that begin so, and go on, or end too early, or are written otherwise.
		"sends a hi", "sen a hi", "senda hi", "send: a hi", "ticks a", "tic a", "ticka", "tick. a", "comes a 0", "com a 0", "comea 0", "turns a 3 4 5", "tur a 3 4 5", "turna 3 4 5", "s a hi", "t a", "c a 0",
		"Send a hi", "SEND a hi", "Tick a", "TICK a", "Come a 0", "Turn a 3 4 5", "\ttick a", "tick\ta", "tick\na", "tick a\n", "tick a\r", "\ntick a", "tick\u00a0a", "tick a\u00a0", "\xfftick a", "tick\xff a",
		// A side that is none.
		"tick A", "tick B", "tick c", "tick ab", "tick ba", "tick aa", "tick 0", "tick 1", "tick -", "tick \xe4", "tick `", "tick a.", "tick tick", "send A hi", "send B hi", "send c hi", "send ab hi", "send 0 hi", "send 1 hi", "send hi a",
		"come A 0", "come c 0", "come ab 0", "come 0 0", "come 1 1", "come 0 a", "turn A 3 4 5", "turn c 3 4 5", "turn ab 3 4 5", "turn 0 3 4 5", "turn 3 4 5 a", "turn 3 a 4 5",
		// Numbers that are none.
		"come a x", "come a b", "come a 00", "come a 01", "come a 007", "come a -1", "come a +1", "come a -0", "come a 1000000", "come a 0000000", "come a 1.0", "come a 0x1", "come a 1\n", "come a \t1", "come a 1a", "come a \xff", "come a \u0661",
		"turn a x 4 5", "turn a 3 x 5", "turn a 3 4 x", "turn a 03 4 5", "turn a 3 04 5", "turn a 3 4 05", "turn a -3 4 5", "turn a 3 -4 5", "turn a 3 4 -5", "turn a 1000000 4 5", "turn a 3 1000000 5", "turn a 3 4 1000000", "turn a 3 4 +5", "turn a x x x",
		"turn a 3 4 5\n", "turn a 3 4 \x005", "turn a 3,4 5",
		// Asks are no events.
		"slot a", "slot b", "bad a", "parts b", "got a", "wire a 0", "wire b 3", "slot", "wire", "wire a", "wire a 3 4 5", "got a hi",
		// What cannot be read is not asked for a fault.
		"turn a 999 x 5", "turn c 999 64 0", "come c 401", "send c " + nLetters(1001), "send a " + nLetters(1001) + " x", "turn a 3 4 5 999999",
	} {
		wantEventCode(t, line, impl.ErrText)
		if _, code := eventBy(line); code != impl.ErrText {
			t.Errorf("the tests reckon the code of %s as %d", shown(line), code)
		}
	}
}

func TestEventOfCodes(t *testing.T) {
	for line, code := range map[string]int64{
		// WordsOf is asked ahead of all.
		nBlanks(3001):                  impl.ErrMany,
		nBlanks(2995) + "tick a":       impl.ErrMany,
		"tick a" + nBlanks(2995):       impl.ErrMany,
		"tick" + nBlanks(2996) + "a":   impl.ErrMany,
		nLetters(3001):                 impl.ErrMany,
		nLetters(3000):                 impl.ErrText,
		nBlanks(3000):                  impl.ErrText,
		"come a 401" + nBlanks(2991):   impl.ErrMany,
		"come a 401" + nBlanks(2990):   impl.ErrRange,
		"come c 401" + nBlanks(2990):   impl.ErrText,
		"send a " + nLetters(2994):     impl.ErrMany,
		"send a " + nLetters(2993):     impl.ErrMany,
		"send c " + nLetters(2993):     impl.ErrText,
		"tick a\n" + nBlanks(2993):     impl.ErrText,
		"tick a\n" + nBlanks(2994):     impl.ErrMany,
		strings.Repeat("tick a\n", 99): impl.ErrText,
		// Numbers that are numbers, and leave the bounds.
		"come a 401":                impl.ErrRange,
		"come b 999999":             impl.ErrRange,
		"turn a 401 4 5":            impl.ErrRange,
		"turn a 999999 4 5":         impl.ErrRange,
		"turn a 3 64 5":             impl.ErrRange,
		"turn a 3 999999 5":         impl.ErrRange,
		"turn a 3 4 0":              impl.ErrRange,
		"turn a 3 4 256":            impl.ErrRange,
		"turn a 3 4 999999":         impl.ErrRange,
		"turn b 0 0 0":              impl.ErrRange,
		"turn b 999999 999999 0":    impl.ErrRange,
		"send a " + nLetters(1001):  impl.ErrMany,
		"send b " + nLetters(1002):  impl.ErrMany,
		"send b  " + nLetters(2000): impl.ErrMany,
	} {
		wantEventCode(t, line, code)
		if _, by := eventBy(line); by != code {
			t.Errorf("the tests reckon the code of %s as %d; want %d", shown(line), by, code)
		}
	}
}

// All lines of up to five such words.
func TestEventOfEachForm(t *testing.T) {
	words := []string{"a", "b", "c", "0", "1", "64", "401", "01", "tick"}
	heads := []string{"send", "tick", "come", "turn", "slot", "wire", "a", "turns"}
	seen := map[int64]int{}
	var grow func(line string, left int)
	grow = func(line string, left int) {
		wantEventBy(t, line)
		seen[impl.EventOf(line).Code]++
		if left == 0 {
			return
		}
		for _, word := range words {
			grow(line+" "+word, left-1)
		}
	}
	for _, head := range heads {
		grow(head, 4)
		// With one word more than any form has.
		for _, word := range words {
			wantEventBy(t, head+" "+word+" 1 2 3 4")
			wantEventBy(t, head+" a 1 2 3 "+word)
		}
	}
	// 18 sends, 2 ticks, 6 that come and 24 turns.
	if seen[impl.OK] != 50 || seen[impl.ErrText] < 1000 || seen[impl.ErrRange] < 20 {
		t.Errorf("the codes of all forms: %v", seen)
	}
}

func TestEventOfEachNumber(t *testing.T) {
	for n := range 1100 {
		for _, side := range []string{"a", "b"} {
			wantEventBy(t, fmt.Sprintf("come %s %d", side, n))
			wantEventBy(t, fmt.Sprintf("turn %s %d 2 1", side, n))
			wantEventBy(t, fmt.Sprintf("turn %s 3 %d 1", side, n))
			wantEventBy(t, fmt.Sprintf("turn %s 3 2 %d", side, n))
		}
		wantEventBy(t, "send b "+nLetters(n))
	}
	for b := range 256 {
		one := string([]byte{byte(b)})
		for _, line := range []string{
			"tick " + one, "send " + one + " hi", "send a " + one, "send a x" + one + "y", "come " + one + " 3", "come a " + one, "come a 1" + one, "turn a 1 2 " + one, "turn " + one + " 1 2 3",
			one + "tick a", "tick" + one + "a", "tick a" + one, "tick" + one + " a", one,
		} {
			wantEventBy(t, line)
		}
	}
}

// drawnLine is one that may tell an event, with something wrong in it now and then.
func drawnLine(chance *rand.Rand) string {
	pick := func(from ...string) string { return from[chance.IntN(len(from))] }
	side := func() string { return pick("a", "a", "a", "b", "b", "b", "c", "A", "", "ab") }
	number := func() string {
		if chance.IntN(9) == 0 {
			return pick("x", "", "01", "-1", "1000000", "999999", "1 1", "\xff")
		}
		return fmt.Sprint(chance.IntN([]int{3, 64, 256, 402}[chance.IntN(4)]))
	}
	gap := func() string { return pick(" ", " ", " ", " ", "  ", "     ", "\t") }
	head := pick("send", "tick", "come", "turn", "turn", "slot", "wire", "tack")
	line := head + gap() + side()
	switch head {
	case "send":
		line += gap() + drawnText(chance, chance.IntN(30), "abc\xff\n0123 ")
	case "turn":
		line += gap() + number() + gap() + number() + gap() + number()
	case "come", "wire":
		line += gap() + number()
	}
	return pick("", "", " ", "   ") + line + pick("", "", " ", "    ", " x")
}

// Promise 13: what a line tells is an event.
func TestEventOfDrawnLines(t *testing.T) {
	chance := rand.New(rand.NewPCG(12, 4))
	seen := map[int64]int{}
	for range 20000 {
		line := drawnLine(chance)
		wantEventBy(t, line)
		got := impl.EventOf(line)
		seen[10*got.Code+got.Event.Kind]++
		if got.Code == impl.OK && impl.EventFault(got.Event) != impl.OK {
			t.Errorf("EventOf %s: %s has a fault", shown(line), eventName(got.Event))
		}
	}
	for _, what := range []int64{1, 2, 3, 4, 30, 50} {
		if seen[what] < 200 {
			t.Errorf("the codes (in tens) and the kinds of drawn lines: %v", seen)
		}
	}
}

// Promise 13, the other way round: each event that has no fault, and a Body without a blank, has a line.
func TestEventOfEachEvent(t *testing.T) {
	chance, count := rand.New(rand.NewPCG(12, 5)), 0
	for seed := range uint64(20) {
		for _, e := range append(madeEvents(seed, 100, true), drawnEvents(seed, 100)...) {
			if e.Kind == 1 && (len(e.Body) == 0 || strings.ContainsRune(string(e.Body), ' ')) || eventFaultBy(e) != impl.OK {
				continue
			}
			count++
			wantEvent(t, lineOf(e), e)
			wantEvent(t, nBlanks(chance.IntN(3))+strings.ReplaceAll(lineOf(e), " ", nBlanks(1+chance.IntN(3)))+nBlanks(chance.IntN(3)), e)
		}
	}
	if count < 2000 {
		t.Errorf("%d events have a line", count)
	}
}

// lineOf is asked of events that have a line.
func lineOf(e impl.Event) string {
	side := []string{"a", "b"}[e.Side]
	switch e.Kind {
	case 1:
		return "send " + side + " " + string(e.Body)
	case 2:
		return "tick " + side
	case 3:
		return fmt.Sprintf("come %s %d", side, e.Slot)
	}
	return fmt.Sprintf("turn %s %d %d %d", side, e.Slot, e.At, e.Mask)
}
