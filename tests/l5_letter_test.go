package tests

import (
	"fmt"
	"math/rand"
	"slices"
	"strings"
	"testing"

	"loop.example/engrosser/impl"
)

func letter(sign string, body string) impl.Letter { return impl.Letter{Sign: sign, Body: body} }

func letters(list ...impl.Letter) []impl.Letter { return list }

func expectTake(t *testing.T, bytes string, want impl.Letter, count int, code int) {
	t.Helper()
	got, n, c := impl.LetterTake(bytes)
	if got != want || n != count || c != code {
		t.Errorf("LetterTake(%q) = %q, %d, %d, want %q, %d, %d", bytes, got, n, c, want, count, code)
	}
}

func expectWait(t *testing.T, bytes string) {
	t.Helper()
	expectTake(t, bytes, impl.Letter{}, 0, impl.LetterWait)
}

func expectBad(t *testing.T, bytes string) {
	t.Helper()
	expectTake(t, bytes, impl.Letter{}, 0, impl.LetterBad)
}

func expectLetters(t *testing.T, what string, got []impl.Letter, want []impl.Letter) {
	t.Helper()
	if !slices.Equal(got, want) {
		t.Errorf("%s:\ngot  %q\nwant %q", what, got, want)
	}
}

func expectAll(t *testing.T, bytes string, want []impl.Letter, rest string, code int) {
	t.Helper()
	what := fmt.Sprintf("LetterAll(%q)", bytes)
	got, r, c := impl.LetterAll(bytes)
	expectLetters(t, what, got, want)
	if r != rest || c != code {
		t.Errorf("%s: %q is left with the code %d, want %q and %d", what, r, c, rest, code)
	}
}

// digits is a text of that length.
func digits(length int) string { return strings.Repeat("0123456789", length/10+1)[:length] }

// validLetters has messages by their encodings.
func validLetters() map[string]impl.Letter {
	list := map[string]impl.Letter{
		"Q05get a":              letter("Q", "get a"),
		"S00":                   letter("S", ""),
		"A00":                   letter("A", ""),
		"Z01i":                  letter("Z", "i"),
		"000":                   letter("0", ""),
		"902 ~":                 letter("9", " ~"),
		"100":                   letter("1", ""),
		"C04fine":               letter("C", "fine"),
		"P09g all a z":          letter("P", "g all a z"),
		"R03S00":                letter("R", "S00"),
		"X01 ":                  letter("X", " "),
		"E15!\"#$%&'()*+,-./":   letter("E", "!\"#$%&'()*+,-./"),
		"E17:;<=>?@[\\]^_`{|}~": letter("E", ":;<=>?@[\\]^_`{|}~"),
	}
	for length := range impl.BodyMost + 1 {
		list[fmt.Sprintf("M%02d", length)+digits(length)] = letter("M", digits(length))
	}
	for _, b := range []string{" ", "~", "a", "0", "Q"} {
		list["N40"+strings.Repeat(b, 40)] = letter("N", strings.Repeat(b, 40))
	}
	return list
}

// invalidLetters has messages for each way in which one is not valid.
func invalidLetters() map[string]impl.Letter {
	list := map[string]impl.Letter{
		"zero value":         {},
		"no type":            letter("", "get a"),
		"two bytes as type":  letter("QQ", "get a"),
		"type and a length":  letter("Q00", ""),
		"type and a zero":    letter("Q\x00", "a"),
		"type beyond bytes":  letter("Ā", "a"),
		"one byte too many":  letter("Q", digits(41)),
		"a hundred bytes":    letter("Q", digits(100)),
		"296 bytes":          letter("Q", digits(296)), // 40 more than 256
		"a thousand bytes":   letter("Q", digits(1000)),
		"long and not plain": letter("Q", digits(40)+"\n"),
	}
	for _, sign := range []string{"q", "a", "z", "@", "[", "/", ":", " ", "~", "-", "\n", "\x00", "\x7f", "\x80", "\xc1", "\xff", "É"} {
		list[fmt.Sprintf("type %q", sign)] = letter(sign, "a")
	}
	for _, b := range []string{"\x00", "\t", "\n", "\r", "\x1f", "\x7f", "\x80", "\xa0", "\xff", "é"} {
		list[fmt.Sprintf("only %q", b)] = letter("Q", b)
		list[fmt.Sprintf("%q in front", b)] = letter("Q", b+"get a")
		list[fmt.Sprintf("%q within", b)] = letter("Q", "get"+b+"a")
		list[fmt.Sprintf("%q behind", b)] = letter("Q", "get a"+b)
		list[fmt.Sprintf("%q as byte 40", b)] = letter("Q", digits(39)+b)
	}
	return list
}

func TestLetterConstants(t *testing.T) {
	got := [5]int{impl.LetterFine, impl.LetterWait, impl.LetterBad, impl.BodyMost, impl.BytesMost}
	if got != [5]int{0, 1, 2, 40, 400} {
		t.Error(got)
	}
}

func TestValidLetters(t *testing.T) {
	for text, l := range validLetters() {
		if !impl.LetterOk(l) {
			t.Errorf("LetterOk(%q) = false", l)
		}
		if got := impl.LetterText(l); got != text {
			t.Errorf("LetterText(%q) = %q, want %q", l, got, text)
		}
		if got := impl.LettersText(letters(l)); got != text {
			t.Errorf("LettersText of %q alone: %q, want %q", l, got, text)
		}
		expectTake(t, text, l, len(text), impl.LetterFine)
		expectAll(t, text, letters(l), "", impl.LetterFine)
	}
}

// TestLetterOkOfTypes holds all texts of one byte, and some of two, against the bytes that a type may be.
func TestLetterOkOfTypes(t *testing.T) {
	const types = "ABCDEFGHIJKLMNOPQRSTUVWXYZ0123456789"
	for b := range 256 {
		sign := string([]byte{byte(b)})
		l := letter(sign, "fine")
		want := strings.Contains(types, sign)
		if impl.LetterOk(l) != want || (impl.LetterText(l) == sign+"04fine") != want {
			t.Errorf("%q: LetterOk is %v, LetterText %q", l, !want, impl.LetterText(l))
		}
		for _, second := range []string{"A", "0", " ", "\x00", sign} {
			if l := letter(sign+second, "fine"); impl.LetterOk(l) {
				t.Errorf("LetterOk(%q) = true", l)
			}
		}
	}
}

func TestLetterOkOfBodies(t *testing.T) {
	for b := range 256 {
		want := b >= 32 && b <= 126
		for at := range 3 {
			body := []byte("abc")
			body[at] = byte(b)
			l := letter("Q", string(body))
			if impl.LetterOk(l) != want || (impl.LetterText(l) == "Q03"+string(body)) != want {
				t.Errorf("%q: LetterOk is %v, LetterText %q", l, !want, impl.LetterText(l))
			}
		}
	}
}

func TestInvalidLetters(t *testing.T) {
	good := letter("Q", "get a")
	for name, l := range invalidLetters() {
		if impl.LetterOk(l) {
			t.Errorf("%s: LetterOk(%q) = true", name, l)
		}
		if got := impl.LetterText(l); got != "" {
			t.Errorf("%s: LetterText(%q) = %q", name, l, got)
		}
		for _, list := range [][]impl.Letter{
			{l}, {l, good}, {good, l}, {good, l, good}, {good, good, good, good, l}, {l, l},
		} {
			if got := impl.LettersText(list); got != "" {
				t.Errorf("%s: LettersText(%q) = %q", name, list, got)
			}
		}
	}
}

func TestLettersText(t *testing.T) {
	cases := []struct {
		list []impl.Letter
		want string
	}{
		{nil, ""},
		{letters(), ""},
		{letters(letter("S", ""), letter("S", "")), "S00S00"},
		{letters(letter("R", "a 1"), letter("R", "b -2"), letter("C", "fine"), letter("Z", "i")), "R03a 1R04b -2C04fineZ01i"},
		{letters(letter("1", ""), letter("0", "1"), letter("2", "00")), "100" + "0011" + "20200"},
	}
	for _, c := range cases {
		if got := impl.LettersText(c.list); got != c.want {
			t.Errorf("LettersText(%q) = %q, want %q", c.list, got, c.want)
		}
	}
}

// TestLettersTextHasNoLimit encodes more bytes than may be received at once.
func TestLettersTextHasNoLimit(t *testing.T) {
	long := letter("Q", digits(40))
	for _, count := range []int{9, 10, 100, 1000} {
		list := slices.Repeat(letters(long, letter("S", "")), count)
		want := strings.Repeat("Q40"+digits(40)+"S00", count)
		if got := impl.LettersText(list); got != want {
			t.Errorf("%d messages twice: got %d bytes, want %d", count, len(got), len(want))
		}
	}
}

// TestLengthBadByItsFirstDigit is the first point of 'Watch': such a length is bad at once, whatever follows or does not.
func TestLengthBadByItsFirstDigit(t *testing.T) {
	for _, first := range []string{"5", "6", "7", "8", "9"} {
		expectBad(t, "Q"+first)
		for _, second := range []string{"0", "1", "5", "9", "x", " "} {
			expectBad(t, "Q"+first+second)
			expectBad(t, "Q"+first+second+digits(99))
		}
		expectAll(t, "S00Q"+first, letters(letter("S", "")), "Q"+first, impl.LetterBad)
	}
	for _, first := range []string{"0", "1", "2", "3", "4"} {
		expectWait(t, "Q"+first)
	}
}

func TestLengthOfForty(t *testing.T) {
	expectWait(t, "Q4")
	expectWait(t, "Q40")
	expectWait(t, "Q40"+digits(39))
	expectTake(t, "Q40"+digits(40), letter("Q", digits(40)), 43, impl.LetterFine)
	expectTake(t, "Q40"+digits(41), letter("Q", digits(40)), 43, impl.LetterFine)
	for _, second := range []string{"1", "2", "3", "4", "5", "6", "7", "8", "9"} {
		expectBad(t, "Q4"+second)
		expectBad(t, "Q4"+second+digits(49))
	}
}

// TestLengths holds every pair of bytes behind a type against the lengths that there are.
func TestLengths(t *testing.T) {
	lengths := map[string]int{}
	firsts := map[string]bool{}
	for length := range 41 {
		text := fmt.Sprintf("%02d", length)
		lengths[text] = length
		firsts[text[:1]] = true
	}
	for a := range 256 {
		first := string([]byte{byte(a)})
		if firsts[first] {
			expectWait(t, "Q"+first)
		} else {
			expectBad(t, "Q"+first)
		}
		for b := range 256 {
			text := first + string([]byte{byte(b)})
			length, found := lengths[text]
			switch {
			case !found:
				expectBad(t, "Q"+text)
				expectBad(t, "Q"+text+digits(99))
			case length == 0:
				expectTake(t, "Q"+text, letter("Q", ""), 3, impl.LetterFine)
			default:
				expectWait(t, "Q"+text)
				expectWait(t, "Q"+text+digits(length-1))
			}
			if found {
				expectTake(t, "Q"+text+digits(99), letter("Q", digits(length)), 3+length, impl.LetterFine)
			}
		}
	}
}

// TestPieceEndsWithinMessage is the second point of 'Watch': every prefix of an encoding waits, also behind complete messages.
func TestPieceEndsWithinMessage(t *testing.T) {
	expectWait(t, "")
	expectWait(t, "Q")
	expectWait(t, "Q0")
	expectWait(t, "Q05")
	expectWait(t, "Q05g")
	expectWait(t, "Q05get ")
	expectAll(t, "", nil, "", impl.LetterFine)
	front := letters(letter("S", ""), letter("Q", "get a"))
	for text := range validLetters() {
		for end := range len(text) {
			expectWait(t, text[:end])
			if end == 0 {
				expectAll(t, "S00Q05get a", front, "", impl.LetterFine)
				continue
			}
			expectAll(t, text[:end], nil, text[:end], impl.LetterWait)
			expectAll(t, "S00Q05get a"+text[:end], front, text[:end], impl.LetterWait)
		}
	}
}

// TestEmptyBody is the third point of 'Watch'.
func TestEmptyBody(t *testing.T) {
	expectTake(t, "S00", letter("S", ""), 3, impl.LetterFine)
	expectTake(t, "S00S00", letter("S", ""), 3, impl.LetterFine)
	expectTake(t, "S00\n", letter("S", ""), 3, impl.LetterFine)
	expectTake(t, "S000", letter("S", ""), 3, impl.LetterFine)
	expectAll(t, "S00", letters(letter("S", "")), "", impl.LetterFine)
	expectAll(t, "S00X00", letters(letter("S", ""), letter("X", "")), "", impl.LetterFine)
	expectAll(t, "000000", letters(letter("0", ""), letter("0", "")), "", impl.LetterFine)
	expectAll(t, "S000", letters(letter("S", "")), "0", impl.LetterWait)
}

// TestTypes holds every byte in the place of a type against those that one may be.
func TestTypes(t *testing.T) {
	const types = "ABCDEFGHIJKLMNOPQRSTUVWXYZ0123456789"
	for b := range 256 {
		sign := string([]byte{byte(b)})
		if strings.Contains(types, sign) {
			expectWait(t, sign)
			expectWait(t, sign+"0")
			expectTake(t, sign+"00", letter(sign, ""), 3, impl.LetterFine)
			expectTake(t, sign+"01a", letter(sign, "a"), 4, impl.LetterFine)
			continue
		}
		for _, behind := range []string{"", "0", "00", "01a", "Q00"} {
			expectBad(t, sign+behind)
			expectAll(t, "Q05get aS00"+sign+behind, letters(letter("Q", "get a"), letter("S", "")), sign+behind, impl.LetterBad)
		}
	}
}

// TestBytesOfBodies puts every byte at some places of a body: a byte that is not allowed is bad at once.
func TestBytesOfBodies(t *testing.T) {
	for b := range 256 {
		for _, at := range []int{0, 1, 19, 38, 39} {
			body := []byte(digits(40))
			body[at] = byte(b)
			text := "Q40" + string(body)
			front := letters(letter("S", ""))
			if b >= 32 && b <= 126 {
				expectTake(t, text, letter("Q", string(body)), 43, impl.LetterFine)
				continue
			}
			expectWait(t, text[:3+at])
			expectBad(t, text[:4+at])
			expectBad(t, text)
			expectBad(t, text+"S00")
			expectAll(t, "S00"+text[:4+at], front, text[:4+at], impl.LetterBad)
			expectAll(t, "S00"+text+"S00", front, text+"S00", impl.LetterBad)
		}
	}
}

// TestBytesBehindMessage: what follows the first message does not matter to it.
func TestBytesBehindMessage(t *testing.T) {
	behind := []string{"Q", "Q05get", "S00", "q", "\n", "\x00", "\xff", " ", "Q9", "Q05\n", digits(1000), strings.Repeat("\xff", 1000)}
	for text, l := range validLetters() {
		for _, b := range behind {
			expectTake(t, text+b, l, len(text), impl.LetterFine)
		}
	}
}

func TestLetterAll(t *testing.T) {
	s, x, get := letter("S", ""), letter("X", ""), letter("Q", "get a")
	expectAll(t, "S00X00Q05ge", letters(s, x), "Q05ge", impl.LetterWait)
	expectAll(t, "Q05get aS00Q05get a", letters(get, s, get), "", impl.LetterFine)
	expectAll(t, "Q05get aS00Q05get a\n", letters(get, s, get), "\n", impl.LetterBad)
	expectAll(t, "\nQ05get a", nil, "\nQ05get a", impl.LetterBad)
	expectAll(t, "Q05get a\nQ05get a", letters(get), "\nQ05get a", impl.LetterBad)
	expectAll(t, "Q05get a Q05get a", letters(get), " Q05get a", impl.LetterBad)
	expectAll(t, "Q04get aS00", letters(letter("Q", "get ")), "aS00", impl.LetterBad)
	expectAll(t, "Q06get aS00", letters(letter("Q", "get aS")), "00", impl.LetterWait)
	expectAll(t, "S00Q41"+digits(41), letters(s), "Q41"+digits(41), impl.LetterBad)
	expectAll(t, "S00Q5", letters(s), "Q5", impl.LetterBad)
	expectAll(t, "S00Q", letters(s), "Q", impl.LetterWait)
	expectAll(t, "S00q", letters(s), "q", impl.LetterBad)
}

// TestBytesMost receives as many bytes as are allowed, and one more.
func TestBytesMost(t *testing.T) {
	long := letter("M", digits(40))
	nine := slices.Repeat(letters(long), 9) // 387 bytes
	front := impl.LettersText(nine)
	last := letter("M", digits(10))
	fitting := front + impl.LetterText(last)
	if len(fitting) != 400 {
		t.Fatalf("%d bytes", len(fitting))
	}
	expectAll(t, fitting, append(slices.Clone(nine), last), "", impl.LetterFine)
	expectAll(t, front+"M11"+digits(10), nine, "M11"+digits(10), impl.LetterWait)
	expectAll(t, front+"M10"+digits(9)+"\n", nine, "M10"+digits(9)+"\n", impl.LetterBad)
	expectAll(t, strings.Repeat("S00", 133)+"S", slices.Repeat(letters(letter("S", "")), 133), "S", impl.LetterWait)
	expectAll(t, strings.Repeat("\n", 400), nil, strings.Repeat("\n", 400), impl.LetterBad)
	tooMany := []string{
		front + "M11" + digits(11),                // 401 bytes of complete messages
		fitting + "S",                             // a piece behind complete messages
		fitting + "\n",                            // a bad byte behind complete messages
		fitting + fitting,                         // many more
		strings.Repeat("S00", 134),                // 402 bytes
		strings.Repeat("\n", 401),                 // no message at all
		strings.Repeat("S00", 400),                // as many messages as bytes are allowed
		"Q05ge" + strings.Repeat("\xff", 100_000), // bad
	}
	for _, bytes := range tooMany {
		expectAll(t, bytes, nil, "", impl.LetterBad)
	}
}

// TestLetterTakeHasNoLimit: the limit of the bytes received is LetterAll's alone.
func TestLetterTakeHasNoLimit(t *testing.T) {
	expectTake(t, "Q05get a"+strings.Repeat("S00", 1000), letter("Q", "get a"), 8, impl.LetterFine)
	expectBad(t, "Q05get"+strings.Repeat("\n", 1000))
	expectBad(t, strings.Repeat("q", 401))
}

// received is what stands after some pieces of bytes.
type received struct {
	list []impl.Letter
	rest string
	code int
}

// receive decodes bytes piece by piece: each piece follows what the ones before it left.
func receive(pieces ...string) received {
	var r received
	for _, piece := range pieces {
		list, rest, code := impl.LetterAll(r.rest + piece)
		r = received{append(r.list, list...), rest, code}
	}
	return r
}

func expectReceived(t *testing.T, pieces []string, want received) {
	t.Helper()
	got := receive(pieces...)
	what := fmt.Sprintf("the pieces %q", pieces)
	expectLetters(t, what, got.list, want.list)
	if got.rest != want.rest || got.code != want.code {
		t.Errorf("%s: %q is left with the code %d, want %q and %d", what, got.rest, got.code, want.rest, want.code)
	}
}

// TestDividedBytes divides the same bytes at every one and every two places, and into single bytes.
func TestDividedBytes(t *testing.T) {
	front := "P09g all a zE01gS00Q40" + digits(40) + "000X01 "
	list := letters(letter("P", "g all a z"), letter("E", "g"), letter("S", ""), letter("Q", digits(40)), letter("0", ""), letter("X", " "))
	streams := map[string]received{
		front:             {list, "", impl.LetterFine},
		front + "Q":       {list, "Q", impl.LetterWait},
		front + "Q0":      {list, "Q0", impl.LetterWait},
		front + "Q4":      {list, "Q4", impl.LetterWait},
		front + "Q05":     {list, "Q05", impl.LetterWait},
		front + "Q05get ": {list, "Q05get ", impl.LetterWait},
		front + "q":       {list, "q", impl.LetterBad},
		front + "Q5":      {list, "Q5", impl.LetterBad},
		front + "Q41abc":  {list, "Q41abc", impl.LetterBad},
		front + "Q0x":     {list, "Q0x", impl.LetterBad},
		front + "Q02a\nS": {list, "Q02a\nS", impl.LetterBad},
	}
	for bytes, want := range streams {
		expectReceived(t, []string{bytes}, want)
		expectReceived(t, strings.Split(bytes, ""), want)
		for i := range len(bytes) + 1 {
			expectReceived(t, []string{bytes[:i], bytes[i:]}, want)
			for j := i; j <= len(bytes); j++ {
				expectReceived(t, []string{bytes[:i], bytes[i:j], bytes[j:]}, want)
			}
		}
	}
}

// plainTake decodes the first message as the document defines it: it encodes all
// messages of which bytes might be a prefix or which they might start with.
func plainTake(bytes string) (impl.Letter, int, int) {
	sign, body := "A", ""
	if bytes != "" {
		sign = bytes[:1]
	}
	if len(bytes) > 3 {
		body = bytes[3:]
	}
	waits := false
	for length := range 41 {
		l := letter(sign, (body + strings.Repeat("a", 40))[:length])
		if strings.Trim(l.Sign, "ABCDEFGHIJKLMNOPQRSTUVWXYZ0123456789") != "" || strings.ContainsFunc(l.Body, func(r rune) bool { return r < ' ' || r > '~' }) {
			continue
		}
		text := fmt.Sprintf("%s%02d%s", l.Sign, length, l.Body)
		if strings.HasPrefix(bytes, text) {
			return l, len(text), 0
		}
		waits = waits || strings.HasPrefix(text, bytes)
	}
	if waits {
		return impl.Letter{}, 0, 1
	}
	return impl.Letter{}, 0, 2
}

// TestShortBytes holds all short texts of some bytes against the definition.
func TestShortBytes(t *testing.T) {
	const alphabet = "QZz0145a ~\n\xff"
	texts := []string{""}
	for range 4 {
		var longer []string
		for _, text := range texts {
			l, count, code := plainTake(text)
			expectTake(t, text, l, count, code)
			for i := range len(alphabet) {
				longer = append(longer, text+alphabet[i:i+1])
			}
		}
		texts = longer
	}
}

// randomLetter is a valid message.
func randomLetter(random *rand.Rand) impl.Letter {
	const types = "ABCDEFGHIJKLMNOPQRSTUVWXYZ0123456789"
	at := random.Intn(len(types))
	body := make([]byte, random.Intn(41))
	if random.Intn(3) == 0 {
		body = nil
	}
	for i := range body {
		body[i] = byte(32 + random.Intn(95))
	}
	return letter(types[at:at+1], string(body))
}

// dividedBytes is bytes in random pieces.
func dividedBytes(random *rand.Rand, bytes string) []string {
	var pieces []string
	for bytes != "" {
		end := 1 + random.Intn(min(len(bytes), 1+random.Intn(50)))
		pieces = append(pieces, bytes[:end])
		bytes = bytes[end:]
	}
	return pieces
}

// TestRandomMessages encodes messages, spoils some of their bytes or cuts them
// off, and decodes them at once and in pieces.
func TestRandomMessages(t *testing.T) {
	random := rand.New(rand.NewSource(5))
	counts := map[int]int{}
	for range 5000 {
		list := make([]impl.Letter, 1+random.Intn(9))
		for i := range list {
			list[i] = randomLetter(random)
		}
		bytes := impl.LettersText(list)
		expectReceived(t, []string{bytes}, received{list, "", impl.LetterFine})
		expectReceived(t, dividedBytes(random, bytes), received{list, "", impl.LetterFine})
		if random.Intn(2) == 0 {
			bytes = bytes[:1+random.Intn(len(bytes))]
		}
		if random.Intn(2) == 0 {
			at := random.Intn(len(bytes))
			bytes = bytes[:at] + string([]byte{byte(random.Intn(256))}) + bytes[at+1:]
		}
		want := received{rest: bytes}
		for want.rest != "" {
			l, count, code := plainTake(want.rest)
			expectTake(t, want.rest, l, count, code)
			want.code = code
			if code != impl.LetterFine {
				break
			}
			want.list = append(want.list, l)
			want.rest = want.rest[count:]
		}
		counts[want.code]++
		expectAll(t, bytes, want.list, want.rest, want.code)
		// Once bytes are bad, more of them do not help: the pieces give the same in the end.
		expectReceived(t, dividedBytes(random, bytes), want)
	}
	for code := range 3 {
		if counts[code] < 300 {
			t.Errorf("the code %d came up only %d times", code, counts[code])
		}
	}
}

func TestLettersShareNoMemory(t *testing.T) {
	const bytes = "S00Q05get aX00Q0"
	want := letters(letter("S", ""), letter("Q", "get a"), letter("X", ""))
	first, _, _ := impl.LetterAll(bytes)
	for i := range first[:cap(first)] {
		first[:cap(first)][i] = letter("?", "spoiled")
	}
	expectAll(t, bytes, want, "Q0", impl.LetterWait)
	list := append(slices.Clone(want), letter("?", "behind its length"))
	if got := impl.LettersText(list[:3]); got != "S00Q05get aX00" {
		t.Errorf("LettersText(%q) = %q", list[:3], got)
	}
	expectLetters(t, "the argument", list, append(want, letter("?", "behind its length")))
}
