package tests

import (
	"bytes"
	"strconv"
	"strings"
	"testing"

	"loop.example/g00804/impl"
)

func bytesOf(text string) impl.BytesResult {
	return impl.BytesResult{Bytes: []byte(text)}
}

// noBytes has nothing beside its code, as the general conventions ask.
func noBytes(code int64) impl.BytesResult {
	return impl.BytesResult{Code: code}
}

func sameBytesResult(a impl.BytesResult, b impl.BytesResult) bool {
	return a.Code == b.Code && bytes.Equal(a.Bytes, b.Bytes)
}

// allModes returns all modes without a fault.
func allModes() []impl.Modes {
	var out []impl.Modes
	for n := range 64 {
		out = append(out, impl.Modes{Cursor: n&1 != 0, Coded: n&2 != 0, Sgr: n&4 != 0, Paste: n&8 != 0, Mouse: int64(n / 16)})
	}
	return out
}

// checkKeyText also checks that EncodeEvent encodes a key as EncodeKey does.
func checkKeyText(t *testing.T, m impl.Modes, code int64, mods int64, want string) {
	t.Helper()
	e := impl.Event{Kind: impl.EvKey, Code: code, Mods: mods}
	if got := impl.EncodeKey(m, e); !sameBytesResult(got, bytesOf(want)) {
		t.Errorf("EncodeKey(%+v, %+v) = %d, %q, want %q", m, e, got.Code, got.Bytes, want)
	}
	if got := impl.EncodeEvent(m, e); !sameBytesResult(got, bytesOf(want)) {
		t.Errorf("EncodeEvent(%+v, %+v) = %d, %q, want %q", m, e, got.Code, got.Bytes, want)
	}
}

// checkTyped checks a key over all modes, as only Coded counts for it.
func checkTyped(t *testing.T, code int64, mods int64, plain string, coded string) {
	t.Helper()
	for _, m := range allModes() {
		want := plain
		if m.Coded {
			want = coded
		}
		checkKeyText(t, m, code, mods, want)
	}
	if t.Failed() {
		t.FailNow()
	}
}

func TestEncodeKeyLetters(t *testing.T) {
	numbers := []string{"", "2", "3", "4", "5", "6", "7", "8"}
	for letter, code := range map[string]int64{"A": 2000005, "B": 2000006, "C": 2000007, "D": 2000008, "H": 2000009, "F": 2000010} {
		for _, m := range allModes() {
			want := "\x1b[" + letter
			if m.Cursor {
				want = "\x1bO" + letter
			}
			checkKeyText(t, m, code, 0, want)
			for mods := int64(1); mods <= 7; mods++ {
				checkKeyText(t, m, code, mods, "\x1b[1;"+numbers[mods]+letter)
			}
		}
	}
}

func TestEncodeKeyNumbers(t *testing.T) {
	numbers := []string{"", ";2", ";3", ";4", ";5", ";6", ";7", ";8"}
	for number, code := range map[string]int64{"2": 2000011, "3": 2000012, "5": 2000013, "6": 2000014} {
		for mods := range int64(8) {
			want := "\x1b[" + number + numbers[mods] + "~"
			checkTyped(t, code, mods, want, want)
		}
	}
}

func TestEncodeKeyByteKeys(t *testing.T) {
	keys := []struct {
		code   int64
		plain  string
		number string
	}{{impl.KeyEnter, "\r", "13"}, {impl.KeyTab, "\t", "9"}, {impl.KeyBack, "\x7f", "127"}, {impl.KeyEscape, "\x1b", "27"}}
	for _, k := range keys {
		coded := "\x1b[" + k.number
		checkTyped(t, k.code, 0, k.plain, k.plain)
		checkTyped(t, k.code, 1, k.plain, coded+";2u")
		checkTyped(t, k.code, 2, "\x1b"+k.plain, coded+";3u")
		checkTyped(t, k.code, 3, "\x1b"+k.plain, coded+";4u")
		checkTyped(t, k.code, 4, k.plain, coded+";5u")
		checkTyped(t, k.code, 5, k.plain, coded+";6u")
		checkTyped(t, k.code, 6, "\x1b"+k.plain, coded+";7u")
		checkTyped(t, k.code, 7, "\x1b"+k.plain, coded+";8u")
	}
}

// Only these keys have a byte of their own with ModCtrl.
func TestEncodeKeyControlBytes(t *testing.T) {
	for _, k := range []struct {
		key     byte
		control string
	}{{' ', "\x00"}, {'a', "\x01"}, {'b', "\x02"}, {'h', "\x08"}, {'j', "\x0a"}, {'l', "\x0c"}, {'n', "\x0e"}, {'z', "\x1a"}} {
		code, text := int64(k.key), string([]byte{k.key})
		coded := "\x1b[" + strconv.Itoa(int(k.key))
		checkTyped(t, code, 0, text, text)
		checkTyped(t, code, 1, text, coded+";2u")
		checkTyped(t, code, 2, "\x1b"+text, "\x1b"+text)
		checkTyped(t, code, 3, "\x1b"+text, coded+";4u")
		checkTyped(t, code, 4, k.control, k.control)
		checkTyped(t, code, 5, text, coded+";6u")
		checkTyped(t, code, 6, "\x1b"+k.control, coded+";7u")
		checkTyped(t, code, 7, "\x1b"+text, coded+";8u")
	}
}

// The letters i and m, capital letters, digits and signs have no such byte.
func TestEncodeKeyWithoutAByteOfItsOwn(t *testing.T) {
	for _, key := range []byte("imAIMZ019@[]^_`{~!/?") {
		code, text := int64(key), string([]byte{key})
		coded := "\x1b[" + strconv.Itoa(int(key))
		checkTyped(t, code, 0, text, text)
		checkTyped(t, code, 1, text, coded+";2u")
		checkTyped(t, code, 2, "\x1b"+text, "\x1b"+text)
		checkTyped(t, code, 3, "\x1b"+text, coded+";4u")
		checkTyped(t, code, 4, text, coded+";5u")
		checkTyped(t, code, 5, text, coded+";6u")
		checkTyped(t, code, 6, "\x1b"+text, coded+";7u")
		checkTyped(t, code, 7, "\x1b"+text, coded+";8u")
	}
}

// Beyond 126 ModAlt alone is written with the key code too.
func TestEncodeKeyLongPoints(t *testing.T) {
	for _, k := range []struct {
		code int64
		text string
	}{{128, "\xc2\x80"}, {159, "\xc2\x9f"}, {160, "\xc2\xa0"}, {233, "\xc3\xa9"}, {2047, "\xdf\xbf"}, {2048, "\xe0\xa0\x80"}, {8364, "\xe2\x82\xac"}, {55295, "\xed\x9f\xbf"}, {57344, "\xee\x80\x80"},
		{65533, "\xef\xbf\xbd"}, {65535, "\xef\xbf\xbf"}, {65536, "\xf0\x90\x80\x80"}, {128512, "\xf0\x9f\x98\x80"}, {1114111, "\xf4\x8f\xbf\xbf"}} {
		coded := "\x1b[" + strconv.FormatInt(k.code, 10)
		checkTyped(t, k.code, 0, k.text, k.text)
		checkTyped(t, k.code, 1, k.text, coded+";2u")
		checkTyped(t, k.code, 2, "\x1b"+k.text, coded+";3u")
		checkTyped(t, k.code, 3, "\x1b"+k.text, coded+";4u")
		checkTyped(t, k.code, 4, k.text, coded+";5u")
		checkTyped(t, k.code, 5, k.text, coded+";6u")
		checkTyped(t, k.code, 6, "\x1b"+k.text, coded+";7u")
		checkTyped(t, k.code, 7, "\x1b"+k.text, coded+";8u")
	}
}

// controlKeys has each key at the place of the byte that it has with ModCtrl.
const controlKeys = " abcdefgh\x00jkl\x00nopqrstuvwxyz"

// expectedTyped follows the text of the chapter for a code point.
func expectedTyped(coded bool, code int64, mods int64) string {
	text, control := string(encodingOf(code)), ""
	if at := strings.IndexRune(controlKeys, rune(code)); at >= 0 {
		control = string([]byte{byte(at)})
	}
	switch {
	case mods == 0:
		return text
	case mods == impl.ModCtrl && control != "":
		return control
	case mods == impl.ModAlt && code <= 126:
		return "\x1b" + text
	case coded:
		return "\x1b[" + strconv.FormatInt(code, 10) + ";" + strconv.FormatInt(mods+1, 10) + "u"
	}
	if mods == impl.ModCtrl+impl.ModAlt && control != "" {
		text = control
	}
	if mods&impl.ModAlt != 0 {
		return "\x1b" + text
	}
	return text
}

func TestEncodeKeyEveryShortPoint(t *testing.T) {
	for code := int64(32); code <= 126; code++ {
		for mods := range int64(8) {
			checkTyped(t, code, mods, expectedTyped(false, code, mods), expectedTyped(true, code, mods))
		}
	}
}

func TestEncodeKeyManyPoints(t *testing.T) {
	for code := int64(128); code <= lastPoint; code += 1 + code/64 {
		if !isPoint(code) {
			continue
		}
		for mods := range int64(8) {
			for _, coded := range []bool{false, true} {
				checkKeyText(t, impl.Modes{Coded: coded}, code, mods, expectedTyped(coded, code, mods))
			}
		}
	}
}
