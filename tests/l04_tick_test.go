package tests

import (
	"strings"
	"testing"

	"loop.example/g00804/impl"
)

func checkTick(t *testing.T, d impl.Decoder, now int64, want impl.DecodeResult) {
	t.Helper()
	if got := impl.TickDecoder(d, now); !sameDecode(got, want) {
		t.Errorf("TickDecoder(%+v, pending %q, %d) = %+v, want %+v", d, d.Pend, now, got, want)
	}
}

func TestTickDecoderCodes(t *testing.T) {
	for code, list := range faultyDecoders() {
		for _, d := range list {
			for _, now := range append(clockOutOfRange(), 0, 50, impl.MaxClock) {
				checkTick(t, d, now, refused(code))
			}
		}
	}
	for _, d := range []impl.Decoder{{}, {Paste: true}, decoder("\x1b", false, 50), decoder("ab", true, 50), decoder("\x1b", false, 2*impl.MaxClock)} {
		for _, now := range clockOutOfRange() {
			checkTick(t, d, now, refused(impl.ErrRange))
		}
	}
}

// checkTimeout checks the times around Due, which is 150.
func checkTimeout(t *testing.T, pend string, paste bool, events ...impl.Event) {
	t.Helper()
	d := decoder(pend, paste, 150)
	for _, now := range []int64{0, 100, 149} {
		checkTick(t, d, now, decoded(d))
	}
	for _, now := range []int64{150, 151, 9999, impl.MaxClock} {
		checkTick(t, d, now, decoded(decoder("", paste, 0), events...))
	}
}

func TestTickDecoderOutsideAPaste(t *testing.T) {
	checkTimeout(t, "\x1b", false, aKey(impl.KeyEscape, 0))
	checkTimeout(t, "\x1b[", false, aKey('[', impl.ModAlt))
	checkTimeout(t, "\x1bO", false, aKey('O', impl.ModAlt))
	for _, pend := range []string{"\x1b[1", "\x1b[1;5", "\x1b[<", "\x1b[<0;3;4", "\x1b[200", "\x1b[;", "\x1b[" + strings.Repeat("1", 21), "\xc3", "\xe2", "\xe2\x82", "\xf0\x9f\x98"} {
		checkTimeout(t, pend, false, aRaw(pend))
	}
}

func TestTickDecoderWithinAPaste(t *testing.T) {
	text := strings.Repeat("abcdefgh", 4)
	for _, pend := range []string{"a", "ab", "\x1b", "\x1b[", "\x1bO", "\x1b[201", "ab\x1b[2", "\xc3", "\r", "\x1b[A", text[:31], text[:30] + "\x1b[", text[:27] + "\x1b[201", text[:31] + "\x1b"} {
		checkTimeout(t, pend, true, aPaste(pend))
	}
	// The possible end of a paste may be behind all the bytes that one event has.
	for size := 2; size < 6; size++ {
		start := endOfPaste[:size]
		checkTimeout(t, text[:31]+start, true, aPaste(text[:31]+"\x1b"), aPaste(start[1:]))
	}
}

func TestTickDecoderNothingPending(t *testing.T) {
	for _, paste := range []bool{false, true} {
		for _, now := range []int64{0, 1, 50, impl.MaxClock} {
			checkTick(t, impl.Decoder{Paste: paste}, now, decoded(impl.Decoder{Paste: paste}))
			checkTick(t, impl.Decoder{Pend: []byte{}, Paste: paste}, now, decoded(impl.Decoder{Paste: paste}))
		}
	}
}

func TestTickDecoderEndsOfTheClock(t *testing.T) {
	// A decoder may have pending bytes that were due from the start.
	for _, now := range []int64{0, 1, impl.MaxClock} {
		checkTick(t, decoder("\x1b", false, 0), now, decoded(impl.Decoder{}, aKey(impl.KeyEscape, 0)))
	}
	// What is due after the end of the clock goes on waiting.
	last := impl.FeedDecoder(impl.Decoder{}, []byte("\x1b"), impl.MaxClock)
	checkTick(t, last.Decoder, impl.MaxClock, decoded(decoder("\x1b", false, impl.MaxClock+50)))
	checkTick(t, last.Decoder, impl.MaxClock+50, refused(impl.ErrRange))
	checkTick(t, decoder("\x1b", false, impl.MaxClock), impl.MaxClock-1, decoded(decoder("\x1b", false, impl.MaxClock)))
	checkTick(t, decoder("\x1b", false, impl.MaxClock), impl.MaxClock, decoded(impl.Decoder{}, aKey(impl.KeyEscape, 0)))
	checkTick(t, decoder("\x1b", false, 2*impl.MaxClock), impl.MaxClock, decoded(decoder("\x1b", false, 2*impl.MaxClock)))
}

// The timeout hands the bytes on, but the paste stays open until its end.
func TestTickDecoderLeavesThePasteOpen(t *testing.T) {
	fed := impl.FeedDecoder(impl.Decoder{}, []byte("\x1b[200~ab\x1b[20"), 0)
	ticked := impl.TickDecoder(fed.Decoder, 50)
	if !sameDecode(ticked, decoded(decoder("", true, 0), aPaste("ab\x1b[20"))) {
		t.Errorf("the timeout within a paste: %+v", ticked)
	}
	checkFeed(t, ticked.Decoder, "1~c", 60, decoded(decoder("1~c", true, 110)))
	checkFeed(t, ticked.Decoder, "1~c"+endOfPaste+"d", 60, decoded(impl.Decoder{}, aPaste("1~c"), aKey('d', 0)))
	checkTick(t, ticked.Decoder, 5000, decoded(decoder("", true, 0)))
}
