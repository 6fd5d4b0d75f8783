package tests

import (
	"math"
	"strings"
	"testing"

	"loop.example/g00804/impl"
)

func mouseModesOutOfRange() []int64 {
	return []int64{-1, 4, 5, 1 << 32, math.MinInt64, math.MaxInt64}
}

// faultyModes has every other field at each value.
func faultyModes() []impl.Modes {
	var out []impl.Modes
	for _, m := range allModes() {
		for _, mouse := range mouseModesOutOfRange() {
			m.Mouse = mouse
			out = append(out, m)
		}
	}
	return out
}

func TestModesFault(t *testing.T) {
	for _, m := range allModes() {
		if got := impl.ModesFault(m); got != impl.OK {
			t.Errorf("ModesFault(%+v) = %d", m, got)
		}
	}
	for _, m := range faultyModes() {
		if got := impl.ModesFault(m); got != impl.ErrRange {
			t.Errorf("ModesFault(%+v) = %d", m, got)
		}
	}
	for mouse, want := range map[int64]int64{-1: impl.ErrRange, 0: impl.OK, 3: impl.OK, 4: impl.ErrRange} {
		if got := impl.ModesFault(impl.Modes{Mouse: mouse}); got != want {
			t.Errorf("ModesFault with the Mouse %d = %d, want %d", mouse, got, want)
		}
	}
}

func validEvents() []impl.Event {
	return []impl.Event{keyEvent(), aKey(impl.KeyUp, 0), aKey(impl.KeyEnter, 7), mouseEvent(), aMouse(0, impl.MousePress, 0, 0, 0), aPaste("a"), aPaste(strings.Repeat("x", 32)), aRaw("a"), aRaw(strings.Repeat("x", 24))}
}

// faultyEvents returns events by the code of their fault.
func faultyEvents() map[int64][]impl.Event {
	return map[int64][]impl.Event{
		impl.ErrForm: {{}, {Kind: 5}, {Kind: -1}, with(keyEvent(), "Col", 1), with(keyEvent(), "Act", 1), withData(keyEvent(), []byte{1}), with(mouseEvent(), "Code", 97), withData(mouseEvent(), []byte{1}),
			with(aPaste("a"), "Mods", 1), with(aRaw("a"), "Row", 1), with(with(keyEvent(), "Row", 1), "Mods", 8), with(pasteEvent(0), "Code", 1)},
		impl.ErrRange: {with(keyEvent(), "Code", 0), with(keyEvent(), "Code", 31), with(keyEvent(), "Code", 127), with(keyEvent(), "Code", 55296), with(keyEvent(), "Code", 1114112), with(keyEvent(), "Code", 2000000), with(keyEvent(), "Code", 2000015),
			with(keyEvent(), "Mods", 8), with(keyEvent(), "Mods", -1), with(keyEvent(), "Code", math.MinInt64), with(keyEvent(), "Mods", math.MaxInt64),
			with(mouseEvent(), "Button", 3), with(mouseEvent(), "Act", 0), with(mouseEvent(), "Act", 4), with(mouseEvent(), "Mods", 8), with(mouseEvent(), "Col", 200), with(mouseEvent(), "Row", -1), with(mouseEvent(), "Col", math.MaxInt64)},
		impl.ErrMany: {pasteEvent(0), pasteEvent(33), rawEvent(0), rawEvent(25)},
	}
}

type encoding func(m impl.Modes, e impl.Event) impl.BytesResult

func encodings() map[string]encoding {
	return map[string]encoding{"EncodeKey": impl.EncodeKey, "EncodeMouse": impl.EncodeMouse, "EncodeEvent": impl.EncodeEvent}
}

func checkEncoding(t *testing.T, name string, m impl.Modes, e impl.Event, want impl.BytesResult) {
	t.Helper()
	if got := encodings()[name](m, e); !sameBytesResult(got, want) {
		t.Errorf("%s(%+v, %+v) = %d, %q, want %d, %q", name, m, e, got.Code, got.Bytes, want.Code, want.Bytes)
	}
}

// A fault of the modes comes before all that is wrong with the event.
func TestEncodingModesFaultFirst(t *testing.T) {
	for name := range encodings() {
		for _, m := range faultyModes() {
			for _, e := range validEvents() {
				checkEncoding(t, name, m, e, noBytes(impl.ErrRange))
			}
			for _, list := range faultyEvents() {
				for _, e := range list {
					checkEncoding(t, name, m, e, noBytes(impl.ErrRange))
				}
			}
		}
	}
}

// A fault of the event comes before its kind, and before whether the modes report it.
func TestEncodingEventFaultSecond(t *testing.T) {
	for name := range encodings() {
		for _, m := range allModes() {
			for code, list := range faultyEvents() {
				for _, e := range list {
					checkEncoding(t, name, m, e, noBytes(code))
				}
			}
		}
	}
}

// Another kind is refused before it is asked whether the modes report the event.
func TestEncodingOfOtherKinds(t *testing.T) {
	for _, m := range allModes() {
		for _, e := range validEvents() {
			if e.Kind != impl.EvKey {
				checkEncoding(t, "EncodeKey", m, e, noBytes(impl.ErrForm))
			}
			if e.Kind != impl.EvMouse {
				checkEncoding(t, "EncodeMouse", m, e, noBytes(impl.ErrForm))
			}
		}
	}
}

func TestEncodeEventPaste(t *testing.T) {
	texts := []string{"a", "hi", "\x00", "\x1b", "\r", "\xff\xfe", "\x1b[200~", endOfPaste, "a" + endOfPaste + "b", strings.Repeat("abcdefgh", 4), strings.Repeat("\x1b", 32)}
	for _, m := range allModes() {
		for _, text := range texts {
			want := text
			if m.Paste {
				want = "\x1b[200~" + text + "\x1b[201~"
			}
			checkEncoding(t, "EncodeEvent", m, aPaste(text), bytesOf(want))
		}
	}
	for size := 1; size <= 32; size++ {
		text := strings.Repeat("p", size)
		checkEncoding(t, "EncodeEvent", impl.Modes{}, aPaste(text), bytesOf(text))
		checkEncoding(t, "EncodeEvent", impl.Modes{Paste: true}, aPaste(text), bytesOf("\x1b[200~"+text+"\x1b[201~"))
	}
}

func TestEncodeEventRaw(t *testing.T) {
	texts := []string{"a", "\x00", "\x1c", "\x1b", "\x1b[", "\xff", "\x1b[A", "\x1b[99z", "\x1b[200~", endOfPaste, strings.Repeat("abcdefgh", 3), "\x1b[" + strings.Repeat("1", 22)}
	for _, m := range allModes() {
		for _, text := range texts {
			checkEncoding(t, "EncodeEvent", m, aRaw(text), bytesOf(text))
		}
	}
	for size := 1; size <= 24; size++ {
		text := strings.Repeat("r", size)
		checkEncoding(t, "EncodeEvent", impl.Modes{Paste: true}, aRaw(text), bytesOf(text))
	}
}

// An empty list is like none, so that it is no fault of a key or a mouse event.
func TestEncodingWithEmptyData(t *testing.T) {
	m := impl.Modes{Mouse: impl.MouseAll, Sgr: true}
	checkEncoding(t, "EncodeKey", m, withData(keyEvent(), []byte{}), bytesOf("\x01"))
	checkEncoding(t, "EncodeMouse", m, withData(mouseEvent(), []byte{}), bytesOf("\x1b[<41;21;11M"))
	if !impl.IsExact(m, withData(keyEvent(), []byte{})) || !impl.IsExact(m, withData(mouseEvent(), []byte{})) {
		t.Error("events with an empty list are not exact")
	}
}
