package tests

import (
	"regexp"
	"strconv"
	"strings"
	"testing"

	"loop.example/g00804/impl"
)

func checkToken(t *testing.T, data string, want impl.TokenResult) {
	t.Helper()
	if got := impl.FirstToken([]byte(data)); !sameToken(got, want) {
		t.Errorf("FirstToken of %d bytes, %.60q = %+v, want %+v", len(data), data, got, want)
	}
}

func checkFlush(t *testing.T, data string, want impl.TokenResult) {
	t.Helper()
	if got := impl.FlushToken([]byte(data), false); !sameToken(got, want) {
		t.Errorf("FlushToken of %d bytes, %.60q = %+v, want %+v", len(data), data, got, want)
	}
}

func startOfPaste(size int64) impl.TokenResult {
	return impl.TokenResult{Token: impl.Token{Size: size, Paste: true, None: true}}
}

func TestFirstTokenNoBytes(t *testing.T) {
	for _, data := range [][]byte{nil, {}} {
		for _, got := range []impl.TokenResult{impl.FirstToken(data), impl.FirstPaste(data), impl.FlushToken(data, false), impl.FlushToken(data, true)} {
			if !sameToken(got, codeOf(impl.ErrNone)) {
				t.Errorf("no bytes: %+v", got)
			}
		}
	}
}

func TestFirstTokenExamples(t *testing.T) {
	checkToken(t, "a", keyOf('a', 0, 1))
	checkToken(t, "\x01", keyOf('a', impl.ModCtrl, 1))
	checkToken(t, "\x1bx", keyOf('x', impl.ModAlt, 2))
	checkToken(t, "\x1b[A", keyOf(impl.KeyUp, 0, 3))
	checkToken(t, "\x1b[1;5C", keyOf(impl.KeyRight, impl.ModCtrl, 6))
	checkToken(t, "\x1b[3~", keyOf(impl.KeyDelete, 0, 4))
	checkToken(t, "\x1b[5;3~x", keyOf(impl.KeyPageUp, impl.ModAlt, 6))
	checkToken(t, "\x1b[97;5u\x1b", keyOf('a', impl.ModCtrl, 7))
	checkToken(t, "\x1b[13;2u", keyOf(impl.KeyEnter, impl.ModShift, 7))
	checkToken(t, "\x1b[127u", keyOf(impl.KeyBack, 0, 6))
	checkToken(t, "\x1b[128u", keyOf(128, 0, 6))
	checkToken(t, "\x1b[<36;5;3M", withSize(mouseOf(0, impl.MouseDrag, impl.ModShift, 4, 2), 10))
	checkToken(t, "\x1b[<0;5;3m", withSize(mouseOf(0, impl.MouseRelease, 0, 4, 2), 9))
	checkToken(t, "\x1b[<2;200;200Mz", withSize(mouseOf(2, impl.MousePress, 0, 199, 199), 13))
	checkToken(t, "\x1b[<0;201;3M", rawOf("\x1b[<0;201;3M"))
	checkToken(t, "\x1b[<35;1;1M", rawOf("\x1b[<35;1;1M"))
	checkToken(t, "\x1b[99z!", rawOf("\x1b[99z"))
	checkToken(t, "\x1b[1A", rawOf("\x1b[1A"))
	checkToken(t, "\x1b[M !!", rawOf("\x1b[M"))
}

func TestFirstTokenOneByte(t *testing.T) {
	for n := range 128 {
		b := string([]byte{byte(n)})
		want := expectedKey(byte(n))
		if n >= 28 && n <= 31 {
			want = rawOf(b)
		}
		if n == 27 {
			checkToken(t, b, codeOf(impl.ErrFull))
			continue
		}
		for _, tail := range []string{"", "a", "\x1b", "[A", "\xa9"} {
			checkToken(t, b+tail, want)
		}
	}
}

func TestFirstTokenPoints(t *testing.T) {
	for n := int64(128); n < 160; n++ {
		data := string(encodingOf(n))
		checkToken(t, data, rawOf(data[:1]))
		checkToken(t, data+"a", rawOf("\xc2"))
	}
	for _, n := range []int64{160, 161, 255, 256, 2047, 2048, 8364, 55295, 57344, 65533, 65535, 65536, 1114111} {
		data := string(encodingOf(n))
		for _, tail := range []string{"", "a", "\x1b", "\x80", "\xff", data} {
			checkToken(t, data+tail, keyOf(n, 0, int64(len(data))))
		}
		for size := 1; size < len(data); size++ {
			checkToken(t, data[:size], codeOf(impl.ErrFull))
			checkFlush(t, data[:size], rawOf(data[:size]))
			checkToken(t, data[:size]+"a", rawOf(data[:1]))
			checkFlush(t, data[:size]+"a", rawOf(data[:1]))
		}
	}
}

func TestFirstTokenNoPoints(t *testing.T) {
	for _, data := range []string{"\x80", "\xbf", "\xa9a", "\xc0\x80", "\xc1", "\xc3(", "\xc3\x1b", "\xe0\x80", "\xe2\x82a", "\xed\xa0", "\xed\xa0\x80", "\xf0\x80", "\xf4\x90", "\xf4\x90\x80\x80", "\xf5", "\xff", "\xfe\x80"} {
		checkToken(t, data, rawOf(data[:1]))
		checkFlush(t, data, rawOf(data[:1]))
	}
	for n := 0xc2; n <= 0xf4; n++ {
		checkToken(t, string([]byte{byte(n)}), codeOf(impl.ErrFull))
	}
}

func TestFirstTokenSecondByte(t *testing.T) {
	for n := range 256 {
		b := string([]byte{byte(n)})
		want := keyOf(impl.KeyEscape, 0, 1)
		switch {
		case n == '[' || n == 'O':
			checkToken(t, "\x1b"+b, codeOf(impl.ErrFull))
			checkFlush(t, "\x1b"+b, keyOf(int64(n), impl.ModAlt, 2))
			continue
		case n >= 32 && n <= 126:
			want = keyOf(int64(n), impl.ModAlt, 2)
		}
		for _, tail := range []string{"", "a", "\x1b", "[A", "OA", "\xa9"} {
			checkToken(t, "\x1b"+b+tail, want)
			checkFlush(t, "\x1b"+b+tail, want)
		}
	}
}

func TestFirstTokenEscapeAfterEscape(t *testing.T) {
	for _, tail := range []string{"\x1b", "\x1b\x1b", "\x1b[A", "\x1bOA", "\x1bx", "\x1b[200~"} {
		checkToken(t, "\x1b"+tail, keyOf(impl.KeyEscape, 0, 1))
		checkFlush(t, "\x1b"+tail, keyOf(impl.KeyEscape, 0, 1))
	}
	// Behind the [ or O an escape is a byte like any other that does not fit.
	checkToken(t, "\x1b[\x1b[A", rawOf("\x1b[\x1b"))
	checkToken(t, "\x1b[1;\x1b[A", rawOf("\x1b[1;\x1b"))
	checkToken(t, "\x1bO\x1bOA", rawOf("\x1bO\x1b"))
}

func TestFirstTokenLetters(t *testing.T) {
	for n := range 256 {
		data := "\x1bO" + string([]byte{byte(n)})
		want := rawOf(data)
		if code, found := letterKeys()[byte(n)]; found {
			want = keyOf(code, 0, 3)
		}
		for _, tail := range []string{"", "A", "\x1b", "~", "\xff"} {
			checkToken(t, data+tail, want)
			checkFlush(t, data+tail, want)
		}
	}
	checkToken(t, "\x1bO", codeOf(impl.ErrFull))
}

func TestFirstTokenLongSequences(t *testing.T) {
	digits := strings.Repeat("0", 30)
	// The final byte is the last of so many bytes.
	upTo := func(size int, start string, end string) string {
		return start + digits[:size-len(start)-len(end)] + end
	}
	for size := 4; size <= 24; size++ {
		data := upTo(size, "\x1b[", "3~")
		for _, tail := range []string{"", "x", "~", strings.Repeat("1", 30)} {
			checkToken(t, data+tail, keyOf(impl.KeyDelete, 0, int64(size)))
		}
	}
	checkToken(t, upTo(24, "\x1b[<", "1;2;3M"), withSize(mouseOf(1, impl.MousePress, 0, 1, 2), 24))
	checkToken(t, upTo(24, "\x1b[", "200~"), startOfPaste(24))
	checkToken(t, upTo(24, "\x1b[", "9z"), rawOf(upTo(24, "\x1b[", "9z")))
	for _, end := range []string{"3~", "200~", "97u", "9z", "1 ", "1\x1b", "1;2;3;4;5x"} {
		data := upTo(25, "\x1b[", end)
		checkToken(t, data, rawOf(data[:24]))
		checkToken(t, data+"x", rawOf(data[:24]))
		checkToken(t, data[:24], rawOf(data[:24]))
		checkToken(t, data[:23], codeOf(impl.ErrFull))
		checkFlush(t, data[:23], rawOf(data[:23]))
		checkFlush(t, data[:24], rawOf(data[:24]))
		checkFlush(t, data, rawOf(data[:24]))
	}
	// A byte that is not allowed as the 23rd and 24th byte.
	checkToken(t, upTo(23, "\x1b[", " ")+"AA", rawOf(upTo(23, "\x1b[", " ")))
	checkToken(t, upTo(24, "\x1b[", " ")+"AA", rawOf(upTo(24, "\x1b[", " ")))
	for _, fill := range []string{"1", ";", "9", "1;"} {
		data := "\x1b[" + strings.Repeat(fill, 40)
		checkToken(t, data, rawOf(data[:24]))
		checkToken(t, data[:25], rawOf(data[:24]))
		checkToken(t, data[:24], rawOf(data[:24]))
		for size := 2; size < 24; size++ {
			checkToken(t, data[:size], codeOf(impl.ErrFull))
		}
	}
	private := "\x1b[<" + strings.Repeat("1", 22)
	checkToken(t, private[:23], codeOf(impl.ErrFull))
	checkToken(t, private, rawOf(private[:24]))
}

func TestFirstTokenBytesNotAllowed(t *testing.T) {
	for n := range 256 {
		if n >= 64 && n <= 126 || n >= 48 && n <= 57 || n == ';' {
			continue
		}
		for _, start := range []string{"\x1b[", "\x1b[1", "\x1b[1;5", "\x1b[<", "\x1b[<0;1;1", "\x1b[1;2;3;4;5"} {
			if n == '<' && start == "\x1b[" {
				continue
			}
			data := start + string([]byte{byte(n)})
			for _, tail := range []string{"", "A", "~", " "} {
				checkToken(t, data+tail, rawOf(data))
			}
		}
	}
}

func TestFirstTokenManyParts(t *testing.T) {
	for _, data := range []string{"\x1b[1;2;3;4;5A", "\x1b[;;;;~", "\x1b[200;0;0;0;0~", "\x1b[<0;1;1;1;1M", "\x1b[1;5;;;A", "\x1b[1;2;3;4A", "\x1b[1;5;1A"} {
		checkToken(t, data, rawOf(data))
		checkToken(t, data+"A", rawOf(data))
	}
}

func TestFirstTokenStartOfPaste(t *testing.T) {
	for _, tail := range []string{"", "x", "\x1b[201~", "~", "\xff"} {
		checkToken(t, "\x1b[200~"+tail, startOfPaste(6))
		checkFlush(t, "\x1b[200~"+tail, startOfPaste(6))
		checkToken(t, "\x1b[0200~"+tail, startOfPaste(7))
	}
	for _, data := range []string{"\x1b[<200~", "\x1b[200;1~", "\x1b[200;200~", "\x1b[1;200~", "\x1b[;200~", "\x1b[200;~", "\x1b[201~", "\x1b[199~", "\x1b[20~", "\x1b[2000~", "\x1b[200z", "\x1b[200A"} {
		checkToken(t, data, rawOf(data))
	}
	checkToken(t, "\x1b[200u", keyOf(200, 0, 6))
	for size := 1; size < 6; size++ {
		checkToken(t, "\x1b[200~"[:size], codeOf(impl.ErrFull))
	}
}

func TestFlushTokenOutside(t *testing.T) {
	checkFlush(t, "\x1b", keyOf(impl.KeyEscape, 0, 1))
	checkFlush(t, "\x1b[", keyOf('[', impl.ModAlt, 2))
	checkFlush(t, "\x1bO", keyOf('O', impl.ModAlt, 2))
	for _, data := range []string{"\x1b[1", "\x1b[<", "\x1b[;", "\x1b[1;5", "\x1b[200", "\x1b[<0;1;1", "\x1b[1;2;3;4;5", "\xc3", "\xe2\x82", "\xf0\x9f\x98"} {
		checkToken(t, data, codeOf(impl.ErrFull))
		checkFlush(t, data, rawOf(data))
	}
	for _, data := range []string{"a", "ab", "\x1c", "\x1bx", "\x1b[A", "\x1b[1 ", "\x1bOx", "\xc3\xa9", "\xff", "\x1b[<0;1;1M"} {
		checkFlush(t, data, impl.FirstToken([]byte(data)))
	}
}

var beginsSequence = regexp.MustCompile(`^\x1b\[<?[0-9;]*$`)
var wholeSequence = regexp.MustCompile(`^\x1b\[<?[0-9;]*[@-~]`)
var innerBytes = regexp.MustCompile(`^\x1b\[<?[0-9;]*`)
var letterSequence = regexp.MustCompile(`^\x1b\[(?:0*1;0*([1-8]))?([ABCDHF])$`)
var numberSequence = regexp.MustCompile(`^\x1b\[0*([1-6])(?:;0*([1-8]))?~$`)
var codeSequence = regexp.MustCompile(`^\x1b\[([0-9]+)(?:;0*([1-8]))?u$`)
var mouseSequence = regexp.MustCompile(`^\x1b\[<([0-9]*);([0-9]+);([0-9]+)([Mm])$`)
var pasteSequence = regexp.MustCompile(`^\x1b\[0*200~$`)

func number(digits string) int64 {
	// No digits are 0, and a number beyond the type is its greatest value.
	value, _ := strconv.ParseInt(digits, 10, 64)
	return value
}

func modsIn(digits string) int64 {
	return max(number(digits)-1, 0)
}

// expectedSequence follows the text of the chapter with patterns for a whole sequence.
func expectedSequence(data string) impl.TokenResult {
	size := int64(len(data))
	if pasteSequence.MatchString(data) {
		return startOfPaste(size)
	}
	if m := letterSequence.FindStringSubmatch(data); m != nil {
		return keyOf(letterKeys()[m[2][0]], modsIn(m[1]), size)
	}
	if m := numberSequence.FindStringSubmatch(data); m != nil {
		return keyOf(numberKeys()[number(m[1])], modsIn(m[2]), size)
	}
	if m := codeSequence.FindStringSubmatch(data); m != nil {
		code := number(m[1])
		special := map[int64]int64{13: impl.KeyEnter, 9: impl.KeyTab, 127: impl.KeyBack, 27: impl.KeyEscape}
		if special[code] != 0 {
			return keyOf(special[code], modsIn(m[2]), size)
		}
		if isPoint(code) && code >= 32 {
			return keyOf(code, modsIn(m[2]), size)
		}
	}
	if m := mouseSequence.FindStringSubmatch(data); m != nil {
		return expectedMouse(data, number(m[1]), number(m[2]), number(m[3]), m[4])
	}
	return rawOf(data)
}

func expectedMouse(data string, sum int64, col int64, row int64, final string) impl.TokenResult {
	act := int64(impl.MousePress)
	switch {
	case final == "m":
		act = impl.MouseRelease
	case sum >= 32:
		act = impl.MouseDrag
	}
	if sum > 63 || sum%4 == 3 || final == "m" && sum > 31 || col < 1 || col > 200 || row < 1 || row > 200 {
		return rawOf(data)
	}
	return withSize(mouseOf(sum&3, act, sum>>2&7, col-1, row-1), int64(len(data)))
}

func expectedToken(data string) impl.TokenResult {
	switch {
	case data == "":
		return codeOf(impl.ErrNone)
	case data == "\x1b" || data == "\x1bO":
		return codeOf(impl.ErrFull)
	case strings.HasPrefix(data, "\x1bO"):
		if code, found := letterKeys()[data[2]]; found {
			return keyOf(code, 0, 3)
		}
		return rawOf(data[:3])
	case strings.HasPrefix(data, "\x1b["):
		window := data[:min(len(data), 24)]
		if beginsSequence.MatchString(window) {
			if len(data) < 24 {
				return codeOf(impl.ErrFull)
			}
			return rawOf(window)
		}
		if found := wholeSequence.FindString(window); found != "" {
			return expectedSequence(found)
		}
		return rawOf(window[:len(innerBytes.FindString(window))+1])
	case data[0] == 27:
		if data[1] >= 32 && data[1] <= 126 {
			return keyOf(int64(data[1]), impl.ModAlt, 2)
		}
		return keyOf(impl.KeyEscape, 0, 1)
	case data[0] < 128:
		if want := expectedKey(data[0]); want.Code == impl.OK {
			return want
		}
		return rawOf(data[:1])
	}
	p := impl.FirstPoint([]byte(data))
	switch {
	case p.Code == impl.ErrFull:
		return codeOf(impl.ErrFull)
	case p.Code == impl.OK && p.Point >= 160:
		return keyOf(p.Point, 0, p.Size)
	}
	return rawOf(data[:1])
}

func expectedFlush(data string) impl.TokenResult {
	want := expectedToken(data)
	switch {
	case want.Code != impl.ErrFull:
		return want
	case data == "\x1b":
		return keyOf(impl.KeyEscape, 0, 1)
	case data == "\x1b[" || data == "\x1bO":
		return keyOf(int64(data[1]), impl.ModAlt, 2)
	}
	return rawOf(data)
}

// eachSequence calls back with all sequences of up to so many bytes of the alphabet behind the start.
func eachSequence(start string, alphabet string, most int, call func(string)) {
	call(start)
	if most == 0 {
		return
	}
	for i := range len(alphabet) {
		eachSequence(start+alphabet[i:i+1], alphabet, most-1, call)
	}
}

func checkExpected(t *testing.T, data string) {
	t.Helper()
	checkToken(t, data, expectedToken(data))
	checkFlush(t, data, expectedFlush(data))
	if t.Failed() {
		t.FailNow()
	}
}

func TestFirstTokenShortSequences(t *testing.T) {
	call := func(data string) { checkExpected(t, data) }
	eachSequence("", "\x1b[O<1;A~u\x1c\x7fa \x00\xc2\xc3\x85\xa9\xe2\xff", 4, call)
	eachSequence("\x1b[", "<129;A~umM \x1b", 5, call)
	eachSequence("\x1b[<", "0123;mM", 6, call)
}

func randomData(seed *uint64, alphabet string, most int) string {
	data := make([]byte, next(seed, most+1))
	for i := range data {
		data[i] = alphabet[next(seed, len(alphabet))]
	}
	return string(data)
}

func TestFirstTokenRandomSequences(t *testing.T) {
	seed := uint64(3)
	for range 60000 {
		first := strconv.Itoa(next(&seed, 1<<next(&seed, 22)))
		second := strconv.Itoa(next(&seed, 11))
		checkExpected(t, "\x1b["+first+";"+second+string("A~uHFz"[next(&seed, 6)]))
		checkExpected(t, "\x1b["+first+string("~uM"[next(&seed, 3)]))
		cells := strconv.Itoa(next(&seed, 205)) + ";" + strconv.Itoa(next(&seed, 205))
		checkExpected(t, "\x1b[<"+strconv.Itoa(next(&seed, 70))+";"+cells+string("Mm"[next(&seed, 2)]))
		checkExpected(t, "\x1b["+randomData(&seed, "000000111123456789;;<A~", 30))
		checkExpected(t, randomData(&seed, "\x1b\x1b\x1b[[O<1259;AMmu~ax\x00\x1d\x7f\x80\xa0\xbf\xc2\xe2\xed\xf0\xf4\xff", 12))
	}
}
