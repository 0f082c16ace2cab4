package tests

import (
	"encoding/hex"
	"fmt"
	"math/rand/v2"
	"regexp"
	"slices"
	"strconv"
	"strings"
	"testing"

	"loop.example/g00792/impl"
)

// wordsBy goes byte by byte, so that no byte beside the blank can end a word.
func wordsBy(line string) []string {
	var out []string
	before := byte(32)
	for i := range len(line) {
		if line[i] != 32 && before == 32 {
			out = append(out, "")
		}
		if line[i] != 32 {
			out[len(out)-1] += line[i : i+1]
		}
		before = line[i]
	}
	return out
}

const numberForm = `(0|[1-9][0-9]{0,5})`

var onlyNumber = regexp.MustCompile(`\A` + numberForm + `\z`)

func numberBy(word string) (n int64, is bool) {
	if !onlyNumber.MatchString(word) {
		return 0, false
	}
	for _, digit := range []byte(word) {
		n = 10*n + int64(digit) - 48
	}
	return n, true
}

func wantWords(t *testing.T, line string, want ...string) {
	t.Helper()
	if got := impl.WordsOf(line); got.Code != impl.OK || !slices.Equal(got.Words, want) {
		t.Errorf("WordsOf %q: code %d, words %q; want code 0, words %q", line, got.Code, got.Words, want)
	}
}

func wantWordsCode(t *testing.T, what string, line string) {
	t.Helper()
	if got := impl.WordsOf(line); got.Code != impl.ErrMany || len(got.Words) != 0 {
		t.Errorf("WordsOf %s: code %d, %d words; want code %d, no words", what, got.Code, len(got.Words), impl.ErrMany)
	}
}

func wantNumber(t *testing.T, word string) {
	t.Helper()
	if n, is := numberBy(word); is {
		wantInt(t, fmt.Sprintf("NumberOf %q", word), impl.NumberOf(word), n)
	} else {
		wantIntCode(t, fmt.Sprintf("NumberOf %q", word), impl.NumberOf(word), impl.ErrText)
	}
}

func wantHex(t *testing.T, what string, data []byte, want string) {
	t.Helper()
	if got := impl.HexText(data); got.Code != impl.OK || got.Text != want {
		t.Errorf("HexText of %s: code %d, %q; want code 0, %q", what, got.Code, got.Text, want)
	}
}

func TestScriptNumbers(t *testing.T) {
	if impl.MaxScript != 3000 || impl.MaxLines != 80 {
		t.Errorf("MaxScript is %d, MaxLines %d", impl.MaxScript, impl.MaxLines)
	}
}

func TestWordsOfTyped(t *testing.T) {
	for line, want := range map[string][]string{
		"":                           nil,
		" ":                          nil,
		"       ":                    nil,
		"a":                          {"a"},
		"send":                       {"send"},
		"send a hello":               {"send", "a", "hello"},
		" tick":                      {"tick"},
		"tick ":                      {"tick"},
		"   tick":                    {"tick"},
		"tick   ":                    {"tick"},
		"   tick   ":                 {"tick"},
		"tick a":                     {"tick", "a"},
		"tick  a":                    {"tick", "a"},
		"tick     a":                 {"tick", "a"},
		"  turn  b 3    4 5 ":        {"turn", "b", "3", "4", "5"},
		"a a a":                      {"a", "a", "a"},
		"b a b":                      {"b", "a", "b"},
		"\t":                         {"\t"},
		"\n":                         {"\n"},
		"\r":                         {"\r"},
		"\x00":                       {"\x00"},
		"\v\f":                       {"\v\f"},
		"tick\ta":                    {"tick\ta"},
		"tick\na":                    {"tick\na"},
		"tick\ra":                    {"tick\ra"},
		"tick a\r\n":                 {"tick", "a\r\n"},
		"\t tick \t a \n":            {"\t", "tick", "\t", "a", "\n"},
		"tick\u00a0a":                {"tick\xc2\xa0a"},
		"\u00a0 \u0085 \u2003\u3000": {"\xc2\xa0", "\xc2\x85", "\xe2\x80\x83\xe3\x80\x80"},
		"\x80 \xff\xa0":              {"\x80", "\xff\xa0"},
		"\xc2 \xa0":                  {"\xc2", "\xa0"},
		"\xe2\x80 \x83":              {"\xe2\x80", "\x83"},
		"gr\u00fc\u00df dich":        {"gr\xc3\xbc\xc3\x9f", "dich"},
		"a_b-c,d.e":                  {"a_b-c,d.e"},
		"\x1f \x21":                  {"\x1f", "!"},
	} {
		wantWords(t, line, want...)
		if by := wordsBy(line); !slices.Equal(by, want) {
			t.Errorf("the tests reckon the words of %q as %q; want %q", line, by, want)
		}
	}
}

// Each byte but the blank stays in a word, wherever it stands.
func TestWordsOfEachByte(t *testing.T) {
	for b := range 256 {
		one := string([]byte{byte(b)})
		for _, line := range []string{one, one + one, "x" + one, one + "x", "x" + one + "y", " " + one, one + " ", "x " + one + " y", " x" + one} {
			wantWords(t, line, wordsBy(line)...)
		}
		if b != 32 {
			wantWords(t, "x"+one+"y", "x"+one+"y")
		}
		for other := range 256 {
			line := string([]byte{byte(b), byte(other)})
			wantWords(t, line, wordsBy(line)...)
		}
	}
}

func TestWordsOfLongLines(t *testing.T) {
	for name, piece := range map[string]string{
		"a letter": "x", "blanks": " ", "words": "a ", "words behind a blank": " a", "long words": strings.Repeat("x", 999) + " ", "bytes above 127": "\xff", "line feeds": "\n",
	} {
		whole := strings.Repeat(piece, 2000000/len(piece))
		for _, size := range []int{2998, 2999, 3000} {
			wantWords(t, whole[:size], wordsBy(whole[:size])...)
		}
		for _, size := range []int{3001, 3002, 3500, 6000, 65536, 1000000} {
			wantWordsCode(t, fmt.Sprintf("%d bytes, %s", size, name), whole[:size])
		}
	}
	// Not runes, but bytes are counted.
	wantWords(t, strings.Repeat("\u00fc", 1500), strings.Repeat("\u00fc", 1500))
	wantWordsCode(t, "1501 runes of two bytes each", strings.Repeat("\u00fc", 1501))
	wantWordsCode(t, "1 rune of three bytes behind 2998", strings.Repeat("x", 2998)+"\u2003")
	wantWordsCode(t, "3000 blanks and a word", strings.Repeat(" ", 3000)+"x")
	wantWordsCode(t, "a word and 3000 blanks", "x"+strings.Repeat(" ", 3000))
}

// drawnText has bytes that are drawn from those given, so that the ones that matter come often.
func drawnText(chance *rand.Rand, size int, from string) string {
	out := make([]byte, size)
	for i := range out {
		out[i] = from[chance.IntN(len(from))]
	}
	return string(out)
}

// Promise 13, of words: with blanks between them they are what the line has, but for its blanks.
func TestWordsOfDrawnLines(t *testing.T) {
	chance := rand.New(rand.NewPCG(12, 1))
	for range 4000 {
		from := []string{"ab ", "a      ", "abcd\t\n\r\v\f 01", "\xc2\xa0\x85\xe2\x80\x83 a\x00", " \xff\x80\x20\x20"}[chance.IntN(5)]
		line := drawnText(chance, chance.IntN(40), from)
		words := impl.WordsOf(line).Words
		wantWords(t, line, wordsBy(line)...)
		if strings.Join(words, "") != strings.ReplaceAll(line, " ", "") {
			t.Errorf("WordsOf %q: %q", line, words)
		}
		wantWords(t, strings.Join(words, " "), words...)
		wantWords(t, "  "+strings.Join(words, "   ")+" ", words...)
	}
}

func TestNumberOfTyped(t *testing.T) {
	for word, want := range map[string]int64{
		"0": 0, "1": 1, "2": 2, "9": 9, "10": 10, "12": 12, "64": 64, "99": 99, "100": 100, "101": 101, "400": 400, "1000": 1000, "90909": 90909, "99999": 99999,
		"100000": 100000, "123456": 123456, "999998": 999998, "999999": 999999,
	} {
		wantInt(t, "NumberOf "+word, impl.NumberOf(word), want)
		wantNumber(t, word)
	}
	for _, word := range []string{
		"", "00", "01", "09", "000", "007", "000000", "000001", "012345", "0000000", "1000000", "1234567", "9999999", "0999999", "10000000000", "9223372036854775807", "9223372036854775808",
		"18446744073709551616", "18446744073709551617", "4294967296", strings.Repeat("1", 3000), strings.Repeat("0", 3000), "+0", "-0", "+1", "-1", "--1", "1-", "1+", "-999999",
		" ", " 1", "1 ", "1 2", "\t1", "1\n", "1\r", "\n", "\x001", "1\x00", "a", "b", "1a", "a1", "1e3", "0x1", "0x10", "0b1", "0o7", "x", "f", "1_000", "_1", "1_", "1,000", "1.0", "1.", ".1",
		"inf", "NaN", "/", ":", "1/", "1:", "\xff", "1\xff", "\xb1", "\xff1", "\u0661", "\u00b2", "\uff11", "1\u0661", "\xc2\xa01", "one",
	} {
		wantIntCode(t, fmt.Sprintf("NumberOf %q", word), impl.NumberOf(word), impl.ErrText)
		wantNumber(t, word)
	}
}

// Promise 13, of numbers: each one is told by its digits, and by nothing else.
func TestNumberOfEachNumber(t *testing.T) {
	for n := range int64(1000000) {
		word := strconv.FormatInt(n, 10)
		if got := impl.NumberOf(word); got != (impl.IntResult{Value: n}) {
			t.Fatalf("NumberOf %q: code %d, value %d", word, got.Code, got.Value)
		}
		if n%997 > 0 {
			continue
		}
		for _, other := range []string{"0" + word, "00" + word, "-" + word, "+" + word, " " + word, word + " ", word + "\n", word + "a", "1000000" + word, word + "000000", "\xff" + word} {
			wantNumber(t, other)
		}
	}
	for n := int64(1000000); n < 4000000000; n = n*3 + 1 {
		wantIntCode(t, fmt.Sprint("NumberOf ", n), impl.NumberOf(fmt.Sprint(n)), impl.ErrText)
	}
}

func TestNumberOfEachByte(t *testing.T) {
	for b := range 256 {
		one := string([]byte{byte(b)})
		for _, word := range []string{one, "1" + one, one + "1", "12" + one + "4", one + "23456", "12345" + one, "123456" + one, "99999" + one} {
			wantNumber(t, word)
		}
		for other := range 256 {
			wantNumber(t, string([]byte{byte(b), byte(other)}))
		}
	}
	chance := rand.New(rand.NewPCG(12, 2))
	for range 20000 {
		wantNumber(t, drawnText(chance, chance.IntN(9), []string{"0123456789", "01", "0123456789-+_. a\xff"}[chance.IntN(3)]))
	}
}

func TestHexTextTyped(t *testing.T) {
	for name, c := range map[string]struct {
		data []byte
		want string
	}{
		"nil":                  {nil, ""},
		"no bytes":             {[]byte{}, ""},
		"the byte 0":           {[]byte{0}, "00"},
		"the byte 1":           {[]byte{1}, "01"},
		"the byte 9":           {[]byte{9}, "09"},
		"the byte 10":          {[]byte{10}, "0a"},
		"the byte 15":          {[]byte{15}, "0f"},
		"the byte 16":          {[]byte{16}, "10"},
		"the byte 159":         {[]byte{159}, "9f"},
		"the byte 160":         {[]byte{160}, "a0"},
		"the byte 255":         {[]byte{255}, "ff"},
		"10 and 255":           {[]byte{10, 255}, "0aff"},
		"bytes at the edges":   {[]byte{0, 9, 10, 15, 16, 255}, "00090a0f10ff"},
		"a text":               {[]byte("hi\n"), "68690a"},
		"zeros":                {make([]byte, 5), "0000000000"},
		"each half of a byte":  {[]byte{0x01, 0x23, 0x45, 0x67, 0x89, 0xab, 0xcd, 0xef}, "0123456789abcdef"},
		"each half, the other": {[]byte{0x10, 0x32, 0x54, 0x76, 0x98, 0xba, 0xdc, 0xfe}, "1032547698badcfe"},
	} {
		wantHex(t, name, c.data, c.want)
	}
}

func TestHexTextOfEachSize(t *testing.T) {
	for size := range 1001 {
		data := listOf(size, byte(size), 7)
		wantHex(t, fmt.Sprintf("%d bytes", size), data, hex.EncodeToString(data))
	}
	for _, size := range []int{1001, 1002, 1256, 2000, 3000, 65536, 1000000} {
		if got := impl.HexText(make([]byte, size)); got.Code != impl.ErrMany || got.Text != "" {
			t.Errorf("HexText of %d bytes: code %d, %d bytes of text", size, got.Code, len(got.Text))
		}
	}
}

// Promise 13, of bytes: they have their texts, and each text is that of one list of bytes alone.
func TestHexTextIsReadBack(t *testing.T) {
	for b := range 256 {
		wantHex(t, fmt.Sprint("the byte ", b), []byte{byte(b)}, fmt.Sprintf("%02x", b))
		for other := range 256 {
			wantHex(t, fmt.Sprint("the bytes ", b, other), []byte{byte(b), byte(other)}, fmt.Sprintf("%02x%02x", b, other))
		}
	}
	chance := rand.New(rand.NewPCG(12, 3))
	for range 2000 {
		data := make([]byte, chance.IntN(200))
		for i := range data {
			data[i] = byte(chance.IntN(256))
		}
		got := impl.HexText(data)
		if back, err := hex.DecodeString(got.Text); got.Code != impl.OK || err != nil || !slices.Equal(back, data) {
			t.Errorf("HexText of %v: code %d, %q", data, got.Code, got.Text)
		}
		if got.Text != strings.ToLower(got.Text) {
			t.Errorf("HexText of %v: %q", data, got.Text)
		}
	}
}
