package tests

import (
	"slices"
	"strings"
	"testing"

	"loop.example/g00804/impl"
)

// conveyed returns what a new decoder makes of the bytes until the timeout.
func conveyed(t *testing.T, data []byte) []impl.Event {
	t.Helper()
	fed := impl.FeedDecoder(impl.Decoder{}, data, 0)
	ticked := impl.TickDecoder(fed.Decoder, impl.EscapeTime)
	if fed.Code != impl.OK || ticked.Code != impl.OK {
		t.Fatalf("%q is decoded to %+v, then %+v", data, fed, ticked)
	}
	return append(fed.Events, ticked.Events...)
}

// isAskedFor reports whether the modes want to be told of the event.
func isAskedFor(m impl.Modes, e impl.Event) bool {
	if e.Kind != impl.EvMouse {
		return true
	}
	reported := map[int64]string{impl.MouseOff: "", impl.MouseClicks: "P", impl.MouseButtons: "PR", impl.MouseAll: "PRD"}
	return strings.Contains(reported[m.Mouse], string(" PRD"[e.Act]))
}

// checkP6 checks the promise for modes and an event without a fault.
func checkP6(t *testing.T, m impl.Modes, e impl.Event) {
	t.Helper()
	r := impl.EncodeEvent(m, e)
	if !isAskedFor(m, e) {
		if !sameBytesResult(r, noBytes(impl.ErrNone)) || impl.IsExact(m, e) {
			t.Fatalf("%+v, which %+v does not ask for, is encoded to %d, %q", e, m, r.Code, r.Bytes)
		}
		return
	}
	if r.Code != impl.OK || len(r.Bytes) == 0 {
		t.Fatalf("%+v is encoded by %+v to %d, %q", e, m, r.Code, r.Bytes)
	}
	isSame := unchanged(conveyed(t, r.Bytes), []impl.Event{e})
	if impl.IsExact(m, e) != isSame {
		t.Fatalf("%+v, encoded by %+v to %q, is decoded to the same event: %v, IsExact: %v", e, m, r.Bytes, isSame, !isSame)
	}
	// The tests of chapters 3 and 4 know the events without the program's decoder.
	known := expectedAll([]string{string(r.Bytes), ""}, []int64{0, 50}).Events
	if unchanged(known, []impl.Event{e}) != isSame {
		t.Fatalf("%+v, encoded by %+v to %q, is decoded to %+v", e, m, r.Bytes, known)
	}
}

func keyEvents() []impl.Event {
	codes := append(specialKeys(), 128, 133, 159, 160, 233, 2047, 2048, 8364, 55295, 57344, 65533, 65536, 128512, lastPoint)
	for code := int64(32); code <= 126; code++ {
		codes = append(codes, code)
	}
	var out []impl.Event
	for _, code := range codes {
		for mods := range int64(8) {
			out = append(out, aKey(code, mods))
		}
	}
	return out
}

func pasteTexts() []string {
	long := strings.Repeat("abcdefgh", 4)
	return []string{"a", "\x1b", "\x1b[201", "ab\x1b[2", "\x1b[200~", endOfPaste, "ab" + endOfPaste + "cd", endOfPaste + "\x1b", long, long[:26] + endOfPaste, long[:27] + "\x1b[201", long[:31] + "\x1b", strings.Repeat("\x1b[20", 8), "\xff\xc3", "\x1b[A\r\x00"}
}

func rawTexts() []string {
	return []string{"a", "\x1b", "\x1b[", "\x1b[A", "\x1b[99z", "\x1c", "\x1c\x1c", "\xff", "\xc3", "\xc3\xa9", "\x1b[1", "\x1b[200~", "\x1c\x1b[200~", endOfPaste, "\x1b[M !!", "\x1b[" + strings.Repeat("1", 22), strings.Repeat("x", 24)}
}

func encodedEvents() []impl.Event {
	out := append(keyEvents(), mouseEvents()...)
	for _, text := range pasteTexts() {
		out = append(out, aPaste(text))
	}
	for _, text := range rawTexts() {
		out = append(out, aRaw(text))
	}
	return out
}

func TestP6EveryKindInAllModes(t *testing.T) {
	for _, e := range encodedEvents() {
		for _, m := range allModes() {
			checkP6(t, m, e)
		}
	}
}

func TestP6RandomData(t *testing.T) {
	seed := uint64(13)
	for range 4000 {
		text := randomInput(&seed, 32)
		if text == "" {
			continue
		}
		for _, m := range []impl.Modes{{}, allExpressed()} {
			checkP6(t, m, aPaste(text))
			checkP6(t, m, aRaw(text[:min(len(text), 24)]))
			checkP6(t, m, aRaw(text[len(text)-min(len(text), 5):]))
		}
	}
}

func TestP6ManyPoints(t *testing.T) {
	for code := int64(160); code <= lastPoint; code += 1 + code/256 {
		if !isPoint(code) {
			continue
		}
		for mods := range int64(8) {
			checkP6(t, impl.Modes{}, aKey(code, mods))
			checkP6(t, impl.Modes{Coded: true}, aKey(code, mods))
		}
	}
}

// The greatest modes express every event, but for a control character without modifiers and the end of a paste in its text.
func TestP6WhatTheModesCanExpress(t *testing.T) {
	for _, cursor := range []bool{false, true} {
		m := allExpressed()
		m.Cursor = cursor
		for _, e := range append(keyEvents(), mouseEvents()...) {
			checkExact(t, m, e, !(e.Code >= 128 && e.Code < 160 && e.Mods == 0))
		}
		for _, text := range pasteTexts() {
			checkExact(t, m, aPaste(text), !strings.Contains(text, endOfPaste))
		}
	}
}

// roomyEvent has other bytes behind its Data in the same memory.
func roomyEvent(e impl.Event) impl.Event {
	e.Data = roomy(string(e.Data))
	return e
}

func argumentsOfEncodings(visit func(name string, call encoding, m impl.Modes, e impl.Event)) {
	events := []impl.Event{{}, withData(keyEvent(), []byte("abc")), pasteEvent(33), rawEvent(25), with(aPaste("ab"), "Row", 1)}
	for name, call := range encodings() {
		for _, m := range append(allModes(), impl.Modes{Mouse: 4}, impl.Modes{Mouse: -1, Paste: true}) {
			for _, e := range append(events, validEvents()...) {
				visit(name, call, m, e)
			}
			for _, text := range append(pasteTexts(), rawTexts()...) {
				visit(name, call, m, aPaste(text))
				visit(name, call, m, aRaw(text))
			}
		}
	}
}

func TestP1EncodingArgumentsStay(t *testing.T) {
	argumentsOfEncodings(func(name string, call encoding, m impl.Modes, start impl.Event) {
		e := roomyEvent(start)
		room := wholeRoom(e.Data)
		fault, got, exact := impl.ModesFault(m), call(m, e), impl.IsExact(m, e)
		if wholeRoom(e.Data) != room {
			t.Fatalf("%s of %+v: the data %q became %q", name, start, room, wholeRoom(e.Data))
		}
		if again := call(m, start); !sameBytesResult(again, got) || impl.ModesFault(m) != fault || impl.IsExact(m, start) != exact {
			t.Fatalf("%s of %+v and %+v: %+v, then %+v", name, m, start, got, again)
		}
	})
}

func TestP1EncodingResultsAreNew(t *testing.T) {
	argumentsOfEncodings(func(name string, call encoding, m impl.Modes, start impl.Event) {
		e := roomyEvent(start)
		room := wholeRoom(e.Data)
		one, two := call(m, e), call(m, e)
		want := impl.BytesResult{Code: one.Code, Bytes: slices.Clone(one.Bytes)}
		spoil(one.Bytes)
		if wholeRoom(e.Data) != room {
			t.Fatalf("%s of %+v and %+v: the event shares memory with the result", name, m, start)
		}
		spoil(e.Data)
		if !sameBytesResult(two, want) || !sameBytesResult(call(m, start), want) {
			t.Fatalf("%s of %+v and %+v: the results share memory", name, m, start)
		}
	})
}

// The results for keys and mouse events have no data to share, but may share a table.
func TestP1KeyAndMouseResultsAreNew(t *testing.T) {
	for _, e := range append(keyEvents(), mouseEvents()...) {
		for _, m := range []impl.Modes{{Mouse: impl.MouseAll}, {Cursor: true, Mouse: impl.MouseAll}, allExpressed()} {
			one, two := impl.EncodeEvent(m, e), impl.EncodeEvent(m, e)
			want := slices.Clone(one.Bytes)
			spoil(one.Bytes)
			if !slices.Equal(two.Bytes, want) || !slices.Equal(impl.EncodeEvent(m, e).Bytes, want) {
				t.Fatalf("%+v and %+v: the results share memory", m, e)
			}
		}
	}
}
