package tests

import (
	"bytes"
	"math"
	"strings"
	"testing"

	"loop.example/g00804/impl"
)

func decoder(pend string, paste bool, due int64) impl.Decoder {
	return impl.Decoder{Pend: []byte(pend), Paste: paste, Due: due}
}

func aKey(code int64, mods int64) impl.Event {
	return keyOf(code, mods, 1).Token.Event
}

func aRaw(data string) impl.Event {
	return rawOf(data).Token.Event
}

func aPaste(data string) impl.Event {
	return pasteOf(data).Token.Event
}

func decoded(d impl.Decoder, events ...impl.Event) impl.DecodeResult {
	return impl.DecodeResult{Decoder: d, Events: events}
}

// refused has nothing beside its code, as the general conventions ask.
func refused(code int64) impl.DecodeResult {
	return impl.DecodeResult{Code: code}
}

// equalDecoders compares without the program's own functions, as these are under test.
func equalDecoders(a impl.Decoder, b impl.Decoder) bool {
	return bytes.Equal(a.Pend, b.Pend) && a.Paste == b.Paste && a.Due == b.Due
}

func sameDecode(a impl.DecodeResult, b impl.DecodeResult) bool {
	return a.Code == b.Code && equalDecoders(a.Decoder, b.Decoder) && unchanged(a.Events, b.Events)
}

func checkDecoderFault(t *testing.T, d impl.Decoder, want int64) {
	t.Helper()
	if got := impl.DecoderFault(d); got != want {
		t.Errorf("DecoderFault(%+v), pending %.60q = %d, want %d", d, d.Pend, got, want)
	}
}

func TestConstantsOfDecoders(t *testing.T) {
	if impl.EscapeTime != 50 || impl.MaxClock != 1000000 || impl.MaxChunk != 200 {
		t.Errorf("EscapeTime %d, MaxClock %d, MaxChunk %d", impl.EscapeTime, impl.MaxClock, impl.MaxChunk)
	}
}

// waitingOutside lists bytes that are incomplete outside a paste.
func waitingOutside() []string {
	return []string{"\x1b", "\x1b[", "\x1bO", "\x1b[1", "\x1b[1;", "\x1b[<", "\x1b[<0;3;4", "\x1b[200", "\x1b[;;;;;", "\x1b[" + strings.Repeat("1", 21), "\xc3", "\xe2\x82", "\xf0\x9f\x98"}
}

// waitingWithin lists bytes that are incomplete within a paste.
func waitingWithin() []string {
	text := strings.Repeat("abcdefgh", 4)
	return []string{"a", "ab", "\x1b", "\x1b[201", "ab\x1b[2", "\x1b[A", "\x1bx", "\r", "\x00", "\xff", "\x1b[200~", text[:31], text[:31] + "\x1b", text[:31] + "\x1b[201", "\x1b[\x1b[20\x1b"}
}

func completeOutside() []string {
	return []string{"a", "\r", "\x1c", "\x00", "\xff", "\x80", "\xc3\xa9", "\xc3a", "\x1bx", "\x1b\x1b", "\x1b\x00", "\x1b[A", "\x1b[A1", "\x1b[1 ", "\x1b[99z", "\x1bOA", "\x1bOx", "\x1b[200~", "\x1b[<0;3;4M", "a\x1b",
		"\x1b[" + strings.Repeat("1", 22), "\x1b[" + strings.Repeat("1", 23), strings.Repeat("x", 300)}
}

func completeWithin() []string {
	text := strings.Repeat("abcdefgh", 4)
	return []string{endOfPaste, endOfPaste + "a", "ab" + endOfPaste, "ab" + endOfPaste + "\x1b", text, text + "a", text + "\x1b[2", text[:31] + "\x1bx", strings.Repeat(text, 20)}
}

func TestDecoderFaultPending(t *testing.T) {
	for _, due := range []int64{0, 1, 50, impl.MaxClock, impl.MaxClock + 50, 2 * impl.MaxClock} {
		for _, pend := range waitingOutside() {
			checkDecoderFault(t, decoder(pend, false, due), impl.OK)
		}
		for _, pend := range completeOutside() {
			checkDecoderFault(t, decoder(pend, false, due), impl.ErrState)
		}
		for _, pend := range waitingWithin() {
			checkDecoderFault(t, decoder(pend, true, due), impl.OK)
		}
		for _, pend := range completeWithin() {
			checkDecoderFault(t, decoder(pend, true, due), impl.ErrState)
		}
	}
}

func TestDecoderFaultTheSameBytesWithinAndOutside(t *testing.T) {
	for _, pend := range []string{"a", "\x1bx", "\x1b[A", "\x1b[200~", "\xc3\xa9", "\r"} {
		checkDecoderFault(t, decoder(pend, false, 5), impl.ErrState)
		checkDecoderFault(t, decoder(pend, true, 5), impl.OK)
	}
	for _, pend := range []string{"\x1b", "\x1b[2", "\x1b[201"} {
		checkDecoderFault(t, decoder(pend, false, 5), impl.OK)
		checkDecoderFault(t, decoder(pend, true, 5), impl.OK)
	}
}

func TestDecoderFaultNothingPending(t *testing.T) {
	for _, paste := range []bool{false, true} {
		for _, pend := range [][]byte{nil, {}} {
			checkDecoderFault(t, impl.Decoder{Pend: pend, Paste: paste}, impl.OK)
			for _, due := range []int64{1, 50, impl.MaxClock, 2 * impl.MaxClock} {
				checkDecoderFault(t, impl.Decoder{Pend: pend, Paste: paste, Due: due}, impl.ErrState)
			}
		}
	}
}

func dueOutOfRange() []int64 {
	return []int64{-1, 2*impl.MaxClock + 1, math.MinInt64, math.MaxInt64}
}

// A Due out of range comes first, whatever is pending.
func TestDecoderFaultDueFirst(t *testing.T) {
	for _, due := range dueOutOfRange() {
		for _, pend := range []string{"", "a", "\x1b", "\x1b[", endOfPaste, strings.Repeat("x", 32)} {
			checkDecoderFault(t, decoder(pend, false, due), impl.ErrRange)
			checkDecoderFault(t, decoder(pend, true, due), impl.ErrRange)
		}
	}
}

func TestSameDecodersFields(t *testing.T) {
	base := decoder("\x1b[1", true, 70)
	others := []impl.Decoder{
		decoder("\x1b[2", true, 70), decoder("\x1b[", true, 70), decoder("\x1b[1;", true, 70), decoder("", true, 70),
		decoder("\x1b[1", false, 70), decoder("\x1b[1", true, 71), decoder("\x1b[1", true, -70), decoder("\x1b[1", true, 0),
	}
	for _, other := range others {
		if impl.SameDecoders(base, other) || impl.SameDecoders(other, base) {
			t.Errorf("%+v and %+v are the same", base, other)
		}
	}
	for _, d := range append(others, base, impl.Decoder{}) {
		if !impl.SameDecoders(d, decoder(string(d.Pend), d.Paste, d.Due)) {
			t.Errorf("%+v and its copy differ", d)
		}
	}
}

func TestSameDecodersNilAndEmpty(t *testing.T) {
	none, empty := impl.Decoder{}, impl.Decoder{Pend: []byte{}}
	if !impl.SameDecoders(none, empty) || !impl.SameDecoders(empty, none) || !impl.SameDecoders(none, none) || !impl.SameDecoders(empty, empty) {
		t.Error("nil and empty differ")
	}
	zero := impl.Decoder{Pend: []byte{0}}
	if impl.SameDecoders(none, zero) || impl.SameDecoders(zero, empty) {
		t.Error("a byte of 0 counts as no byte")
	}
}

// It accepts decoders that have a fault.
func TestSameDecodersOfAnyArguments(t *testing.T) {
	list := []impl.Decoder{decoder("a", false, -1), decoder("a", true, -1), decoder("", false, math.MinInt64), decoder("", false, math.MaxInt64), decoder(strings.Repeat("x", 1000), false, 5), decoder(strings.Repeat("x", 999)+"y", false, 5)}
	for i, a := range list {
		for k, b := range list {
			if impl.SameDecoders(a, b) != (i == k) {
				t.Errorf("decoders %d and %d: %v", i, k, i != k)
			}
		}
	}
}
