package tests

import (
	"strings"
	"testing"

	"loop.example/g00804/impl"
)

func checkExact(t *testing.T, m impl.Modes, e impl.Event, want bool) {
	t.Helper()
	if got := impl.IsExact(m, e); got != want {
		t.Errorf("IsExact(%+v, %+v), data %q = %v", m, e, e.Data, got)
	}
}

// allExpressed asks for all that the modes can express.
func allExpressed() impl.Modes {
	return impl.Modes{Coded: true, Mouse: impl.MouseAll, Sgr: true, Paste: true}
}

func TestIsExactOfFaults(t *testing.T) {
	for _, m := range faultyModes() {
		for _, e := range validEvents() {
			checkExact(t, m, e, false)
		}
		checkExact(t, m, impl.Event{}, false)
	}
	for _, m := range allModes() {
		for _, list := range faultyEvents() {
			for _, e := range list {
				checkExact(t, m, e, false)
			}
		}
	}
}

// Keys with a letter or a number keep everything in all modes.
func TestIsExactOfSequenceKeys(t *testing.T) {
	for code := int64(impl.KeyUp); code <= impl.KeyPageDown; code++ {
		for mods := range int64(8) {
			for _, m := range allModes() {
				checkExact(t, m, aKey(code, mods), true)
			}
		}
	}
}

// Without Coded these keys lose their modifiers, or become two keys with ModAlt.
func TestIsExactOfByteKeys(t *testing.T) {
	for _, code := range []int64{impl.KeyEnter, impl.KeyTab, impl.KeyBack, impl.KeyEscape} {
		for mods := range int64(8) {
			for _, m := range allModes() {
				checkExact(t, m, aKey(code, mods), mods == 0 || m.Coded)
			}
		}
	}
}

func TestIsExactOfShortPoints(t *testing.T) {
	for code := int64(32); code <= 126; code++ {
		hasControl := strings.ContainsRune(controlKeys, rune(code))
		for mods := range int64(8) {
			isPlain := mods == 0 || mods == impl.ModAlt || mods == impl.ModCtrl && hasControl
			for _, m := range allModes() {
				checkExact(t, m, aKey(code, mods), isPlain || m.Coded)
			}
		}
	}
}

// The decoder takes the code points below 160 for raw bytes, unless they are written as a number.
func TestIsExactOfLongPoints(t *testing.T) {
	for _, code := range []int64{128, 133, 159, 160, 233, 2047, 2048, 8364, 55295, 57344, 65533, 65535, 65536, 128512, 1114111} {
		for _, m := range allModes() {
			checkExact(t, m, aKey(code, 0), code >= 160)
			for mods := int64(1); mods <= 7; mods++ {
				checkExact(t, m, aKey(code, mods), m.Coded)
			}
		}
	}
}

func TestIsExactOfKeysThatLoseAModifier(t *testing.T) {
	none, coded := impl.Modes{}, impl.Modes{Coded: true}
	for _, e := range []impl.Event{aKey('i', impl.ModCtrl), aKey('m', impl.ModCtrl), aKey('a', impl.ModShift), aKey('a', impl.ModCtrl+impl.ModShift), aKey('A', impl.ModCtrl), aKey('5', impl.ModCtrl), aKey('[', impl.ModCtrl),
		aKey('x', impl.ModAlt+impl.ModShift), aKey('a', impl.ModCtrl+impl.ModAlt), aKey(' ', impl.ModCtrl+impl.ModAlt), aKey(impl.KeyTab, impl.ModShift), aKey(impl.KeyEnter, impl.ModAlt), aKey(impl.KeyEscape, impl.ModAlt), aKey(233, impl.ModAlt), aKey(233, impl.ModCtrl)} {
		checkExact(t, none, e, false)
		checkExact(t, coded, e, true)
	}
	// What is incomplete is resolved at the timeout.
	for _, e := range []impl.Event{aKey('[', impl.ModAlt), aKey('O', impl.ModAlt), aKey(impl.KeyEscape, 0)} {
		checkExact(t, none, e, true)
		checkExact(t, coded, e, true)
	}
}

// Only the SGR form is decoded to a mouse event.
func TestIsExactOfMouseEvents(t *testing.T) {
	for _, e := range mouseEvents() {
		for _, m := range allModes() {
			isReported := m.Mouse == impl.MouseAll || m.Mouse == impl.MouseButtons && e.Act != impl.MouseDrag || m.Mouse == impl.MouseClicks && e.Act == impl.MousePress
			checkExact(t, m, e, isReported && m.Sgr)
		}
	}
}

func TestIsExactOfPastes(t *testing.T) {
	long := strings.Repeat("abcdefgh", 4)
	exact := []string{"a", "hi", "\r", "\x00", "\xff", "\x1b", "\x1b[", "\x1b[2", "\x1b[20", "\x1b[201", "ab\x1b[201", "\x1b[201\x1b[201", "\x1b[200~", "\x1b[A", "201~", "[201~", "\x1b[202~", long, long[:31], long[:27] + "\x1b[201", long[:31] + "\x1b"}
	for _, text := range exact {
		checkExact(t, impl.Modes{Paste: true}, aPaste(text), true)
		checkExact(t, impl.Modes{}, aPaste(text), false)
	}
	for _, text := range []string{endOfPaste, "a" + endOfPaste, endOfPaste + "a", "ab" + endOfPaste + "cd", endOfPaste + endOfPaste, "\x1b[200~" + endOfPaste, long[:26] + endOfPaste, long[:25] + endOfPaste + "x", "\x1b[201" + endOfPaste} {
		checkExact(t, impl.Modes{Paste: true}, aPaste(text), false)
		checkExact(t, impl.Modes{}, aPaste(text), false)
	}
}

func TestIsExactOfRawEvents(t *testing.T) {
	exact := []string{"\x1c", "\x1f", "\xff", "\x80", "\xc3", "\xe2\x82", "\xf0\x9f\x98", "\x1b[99z", "\x1b[1 ", "\x1bOx", "\x1b[1", "\x1b[1;5", "\x1b[<", "\x1b[200", "\x1b[M", "\x1b[1;2;3;4;5x", endOfPaste, "\x1b[<3;1;1M", "\x1b[1;9A",
		"\x1b[" + strings.Repeat("1", 22), "\x1b[" + strings.Repeat("1", 20), "\x1b[" + strings.Repeat("1", 21) + "z"}
	// Keys, mouse events and the start of a paste; several events; and no event that is whole.
	others := []string{"a", "\r", "\x00", "\x1b", "\x7f", "\x01", "\x1b[", "\x1bO", "\x1bx", "\x1b[A", "\x1bOA", "\x1b[3~", "\x1b[97;5u", "\x1b[<0;1;1M", "\xc3\xa9", "\x1b[200~", "\x1c\x1c", "\xff\xff", "\xc2\x80", "ab", "\x1ca", "a\x1c", "\x1c\x1b[200~", "\x1b[200~a", "\x1b\x1b",
		"\x1b[99z\x1b[99z", "\x1b\x1c", "\x1b[M !!", strings.Repeat("x", 24)}
	for _, m := range allModes() {
		for _, text := range exact {
			checkExact(t, m, aRaw(text), true)
		}
		for _, text := range others {
			checkExact(t, m, aRaw(text), false)
		}
	}
}
