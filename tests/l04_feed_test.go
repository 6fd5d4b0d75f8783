package tests

import (
	"math"
	"strings"
	"testing"

	"loop.example/g00804/impl"
)

func checkFeed(t *testing.T, d impl.Decoder, data string, now int64, want impl.DecodeResult) {
	t.Helper()
	if got := impl.FeedDecoder(d, []byte(data), now); !sameDecode(got, want) {
		t.Errorf("FeedDecoder(%+v, pending %q, %.80q, %d) = %+v, want %+v", d, d.Pend, data, now, got, want)
	}
}

// faultyDecoders have the codes of their faults.
func faultyDecoders() map[int64][]impl.Decoder {
	return map[int64][]impl.Decoder{
		impl.ErrRange: {decoder("", false, -1), decoder("\x1b", false, -1), decoder("a", false, 2*impl.MaxClock+1), decoder("a", true, math.MaxInt64)},
		impl.ErrState: {decoder("", false, 1), decoder("", true, 50), decoder("a", false, 50), decoder("\x1b[A", false, 0), decoder(endOfPaste, true, 50), decoder(strings.Repeat("x", 500), true, 0)},
	}
}

func clockOutOfRange() []int64 {
	return []int64{-1, impl.MaxClock + 1, 2 * impl.MaxClock, math.MinInt64, math.MaxInt64}
}

func TestFeedDecoderCodes(t *testing.T) {
	long := strings.Repeat("a", 201)
	for code, list := range faultyDecoders() {
		for _, d := range list {
			// The fault comes first, whatever else applies.
			for _, data := range []string{"", "a", long} {
				for _, now := range []int64{0, 100, -1, impl.MaxClock + 1} {
					checkFeed(t, d, data, now, refused(code))
				}
			}
		}
	}
	for _, d := range []impl.Decoder{{}, decoder("\x1b[", false, 150), decoder("ab", true, 150)} {
		checkFeed(t, d, long, 100, refused(impl.ErrMany))
		checkFeed(t, d, strings.Repeat("\x1b", 5000), 100, refused(impl.ErrMany))
		for _, now := range clockOutOfRange() {
			checkFeed(t, d, long, now, refused(impl.ErrMany))
			checkFeed(t, d, "A", now, refused(impl.ErrRange))
			checkFeed(t, d, "", now, refused(impl.ErrRange))
		}
	}
}

func TestFeedDecoderSizeOfChunks(t *testing.T) {
	text := strings.Repeat("a", 200)
	keys := make([]impl.Event, 200)
	for i := range keys {
		keys[i] = aKey('a', 0)
	}
	checkFeed(t, impl.Decoder{}, text[:199], 0, decoded(impl.Decoder{}, keys[:199]...))
	checkFeed(t, impl.Decoder{}, text, 0, decoded(impl.Decoder{}, keys...))
	checkFeed(t, impl.Decoder{}, text+"a", 0, refused(impl.ErrMany))
	// The pending bytes do not count.
	behind := append([]impl.Event{aKey('a', impl.ModAlt)}, keys[:199]...)
	checkFeed(t, decoder("\x1b", false, 50), text, 0, decoded(impl.Decoder{}, behind...))
}

func TestFeedDecoderClock(t *testing.T) {
	for _, now := range []int64{0, 1, 999, impl.MaxClock - 1, impl.MaxClock} {
		checkFeed(t, impl.Decoder{}, "x", now, decoded(impl.Decoder{}, aKey('x', 0)))
		checkFeed(t, impl.Decoder{}, "x\x1b", now, decoded(decoder("\x1b", false, now+50), aKey('x', 0)))
		checkFeed(t, decoder("\x1b", false, 2*impl.MaxClock), "[", now, decoded(decoder("\x1b[", false, now+50)))
	}
	// The pending bytes are used even if their time is over: only TickDecoder resolves them.
	checkFeed(t, decoder("\x1b[", false, 50), "A", 900, decoded(impl.Decoder{}, aKey(impl.KeyUp, 0)))
	checkFeed(t, decoder("\x1b[", false, 0), "A", 900, decoded(impl.Decoder{}, aKey(impl.KeyUp, 0)))
}

func TestFeedDecoderNoBytes(t *testing.T) {
	for _, data := range [][]byte{nil, {}} {
		for _, paste := range []bool{false, true} {
			d := impl.Decoder{Paste: paste}
			if got := impl.FeedDecoder(d, data, 70); !sameDecode(got, decoded(d)) {
				t.Errorf("no bytes: %+v", got)
			}
			d = decoder("\x1b[2", paste, 60)
			if got := impl.FeedDecoder(d, data, 70); !sameDecode(got, decoded(decoder("\x1b[2", paste, 120))) {
				t.Errorf("no bytes behind pending ones: %+v", got)
			}
		}
	}
	for _, pend := range waitingOutside() {
		checkFeed(t, decoder(pend, false, 3), "", 7, decoded(decoder(pend, false, 57)))
	}
	for _, pend := range waitingWithin() {
		checkFeed(t, decoder(pend, true, 3), "", 7, decoded(decoder(pend, true, 57)))
	}
}

func TestFeedDecoderTokens(t *testing.T) {
	mouse := withSize(mouseOf(0, impl.MousePress, 0, 2, 3), 9).Token.Event
	checkFeed(t, impl.Decoder{}, "ab\x1b[A\x1bx\x01\xc3\xa9\x1c\x1b[99z\x1bOB\x1b[<0;3;4M\r", 5, decoded(impl.Decoder{},
		aKey('a', 0), aKey('b', 0), aKey(impl.KeyUp, 0), aKey('x', impl.ModAlt), aKey('a', impl.ModCtrl), aKey(233, 0), aRaw("\x1c"), aRaw("\x1b[99z"), aKey(impl.KeyDown, 0), mouse, aKey(impl.KeyEnter, 0)))
	for _, pend := range waitingOutside() {
		checkFeed(t, impl.Decoder{}, pend, 5, decoded(decoder(pend, false, 55)))
		checkFeed(t, impl.Decoder{}, "x"+pend, 5, decoded(decoder(pend, false, 55), aKey('x', 0)))
	}
	checkFeed(t, impl.Decoder{}, "\x1b\x1b\x1b", 5, decoded(decoder("\x1b", false, 55), aKey(impl.KeyEscape, 0), aKey(impl.KeyEscape, 0)))
	// A code point that stays incomplete is resolved by the byte behind it.
	checkFeed(t, decoder("\xe2\x82", false, 50), "a", 5, decoded(impl.Decoder{}, aRaw("\xe2"), aRaw("\x82"), aKey('a', 0)))
	checkFeed(t, decoder("\xe2\x82", false, 50), "\xac", 5, decoded(impl.Decoder{}, aKey(8364, 0)))
}

func TestFeedDecoderLongSequences(t *testing.T) {
	ones := "\x1b[" + strings.Repeat("1", 22)
	checkFeed(t, impl.Decoder{}, ones[:23], 5, decoded(decoder(ones[:23], false, 55)))
	checkFeed(t, impl.Decoder{}, ones, 5, decoded(impl.Decoder{}, aRaw(ones)))
	checkFeed(t, impl.Decoder{}, ones+"A", 5, decoded(impl.Decoder{}, aRaw(ones), aKey('A', 0)))
	checkFeed(t, decoder(ones[:23], false, 50), "1", 5, decoded(impl.Decoder{}, aRaw(ones)))
	checkFeed(t, decoder(ones[:23], false, 50), "1A\x1b", 5, decoded(decoder("\x1b", false, 55), aRaw(ones), aKey('A', 0)))
	// The final byte may be the last one that fits.
	zeros := "\x1b[" + strings.Repeat("0", 20) + "3"
	checkFeed(t, decoder(zeros, false, 50), "~", 5, decoded(impl.Decoder{}, aKey(impl.KeyDelete, 0)))
}

func TestFeedDecoderPasteInOneChunk(t *testing.T) {
	checkFeed(t, impl.Decoder{}, "a\x1b[200~bc\x1b[201~d", 5, decoded(impl.Decoder{}, aKey('a', 0), aPaste("bc"), aKey('d', 0)))
	checkFeed(t, impl.Decoder{}, "\x1b[200~\x1b[201~", 5, decoded(impl.Decoder{}))
	checkFeed(t, impl.Decoder{}, "\x1b[200~\x1b[201~\x1b[200~x\x1b[201~\x1b", 5, decoded(decoder("\x1b", false, 55), aPaste("x")))
	// Within a paste there are no keys, and a start is not the end.
	checkFeed(t, impl.Decoder{}, "\x1b[200~\x1b[A\r\x1b[200~\xff\x1b[201~", 5, decoded(impl.Decoder{}, aPaste("\x1b[A\r\x1b[200~\xff")))
	// Outside a paste its end is a sequence like others.
	checkFeed(t, impl.Decoder{}, "\x1b[201~x", 5, decoded(impl.Decoder{}, aRaw("\x1b[201~"), aKey('x', 0)))
	text := strings.Repeat("abcdefgh", 12)
	checkFeed(t, impl.Decoder{}, "\x1b[200~"+text[:64]+endOfPaste, 5, decoded(impl.Decoder{}, aPaste(text[:32]), aPaste(text[32:64])))
	checkFeed(t, impl.Decoder{}, "\x1b[200~"+text[:70]+endOfPaste+"z", 5, decoded(impl.Decoder{}, aPaste(text[:32]), aPaste(text[32:64]), aPaste(text[64:70]), aKey('z', 0)))
}

func TestFeedDecoderPasteInTwoChunks(t *testing.T) {
	checkFeed(t, impl.Decoder{}, "x\x1b[200~ab", 5, decoded(decoder("ab", true, 55), aKey('x', 0)))
	checkFeed(t, decoder("ab", true, 55), "c\x1b[201~d", 9, decoded(impl.Decoder{}, aPaste("abc"), aKey('d', 0)))
	checkFeed(t, decoder("ab", true, 55), endOfPaste, 9, decoded(impl.Decoder{}, aPaste("ab")))
	checkFeed(t, decoder("ab", true, 55), "c", 9, decoded(decoder("abc", true, 59)))
	checkFeed(t, decoder("", true, 0), "c\x1b[201~d", 9, decoded(impl.Decoder{}, aPaste("c"), aKey('d', 0)))
	checkFeed(t, decoder("", true, 0), endOfPaste, 9, decoded(impl.Decoder{}))
	checkFeed(t, decoder("\x1b[20", false, 50), "0~ab", 9, decoded(decoder("ab", true, 59)))
	checkFeed(t, decoder("\x1b[20", false, 50), "0~", 9, decoded(decoder("", true, 0)))
}

func TestFeedDecoderEndOfPasteIsCut(t *testing.T) {
	text := strings.Repeat("abcdefgh", 12)
	for size := 1; size < 6; size++ {
		start, end := endOfPaste[:size], endOfPaste[size:]
		for _, count := range []int{0, 1, 31} {
			first := impl.FeedDecoder(impl.Decoder{}, []byte("\x1b[200~"+text[:count]+start), 5)
			if !sameDecode(first, decoded(decoder(text[:count]+start, true, 55))) {
				t.Errorf("%d bytes and %q: %+v", count, start, first)
			}
			var events []impl.Event
			if count > 0 {
				events = append(events, aPaste(text[:count]))
			}
			checkFeed(t, first.Decoder, end+"z", 9, decoded(impl.Decoder{}, append(events, aKey('z', 0))...))
			checkFeed(t, first.Decoder, end, 9, decoded(impl.Decoder{}, events...))
		}
		// What looked like the end belongs to the paste if it goes on otherwise.
		checkFeed(t, decoder("ab"+start, true, 50), "x", 9, decoded(decoder("ab"+start+"x", true, 59)))
		checkFeed(t, decoder("ab"+start, true, 50), endOfPaste, 9, decoded(impl.Decoder{}, aPaste("ab"+start)))
	}
}

func TestFeedDecoderPasteWithoutItsEnd(t *testing.T) {
	text := strings.Repeat("abcdefgh", 25)
	checkFeed(t, impl.Decoder{}, "\x1b[200~", 5, decoded(decoder("", true, 0)))
	checkFeed(t, impl.Decoder{}, "\x1b[200~"+text[:31], 5, decoded(decoder(text[:31], true, 55)))
	checkFeed(t, impl.Decoder{}, "\x1b[200~"+text[:32], 5, decoded(decoder("", true, 0), aPaste(text[:32])))
	checkFeed(t, impl.Decoder{}, "\x1b[200~"+text[:33], 5, decoded(decoder("a", true, 55), aPaste(text[:32])))
	checkFeed(t, decoder("", true, 0), text[:200], 5, decoded(decoder(text[192:200], true, 55),
		aPaste(text[:32]), aPaste(text[32:64]), aPaste(text[64:96]), aPaste(text[96:128]), aPaste(text[128:160]), aPaste(text[160:192])))
	checkFeed(t, decoder(text[:31]+"\x1b[201", true, 50), "x", 5, decoded(decoder("[201x", true, 55), aPaste(text[:31]+"\x1b")))
	checkFeed(t, decoder(text[:31], true, 50), "z\x1b", 5, decoded(decoder("\x1b", true, 55), aPaste(text[:31]+"z")))
}

// expectedFeed follows the text of the chapter with the tokens that the tests of chapter 3 expect.
func expectedFeed(d impl.Decoder, data string, now int64) impl.DecodeResult {
	rest, paste := string(d.Pend)+data, d.Paste
	var events []impl.Event
	for {
		want := expectedToken(rest)
		if paste {
			want = expectedPaste(rest)
		}
		if want.Code != impl.OK {
			break
		}
		if !want.Token.None {
			events = append(events, want.Token.Event)
		}
		rest, paste = rest[want.Token.Size:], want.Token.Paste
	}
	due := int64(0)
	if rest != "" {
		due = now + 50
	}
	return decoded(decoder(rest, paste, due), events...)
}

func inputPieces() []string {
	return []string{"\x1b", "\x1b[", "\x1bO", "\x1b[200~", "\x1b[200~", endOfPaste, endOfPaste, "\x1b[A", "\x1b[1;5", "\x1b[<0;3;4M", "\x1b[2", "0", "1", "~", "a", "bcdefgh", "ABCDEFGHIJKLMNOPQRSTUVWXYZabcdef", "\xc3", "\xa9", "\xe2\x82\xac", "\x1c", "\r", "\x1b[99z",
		"\x1b[" + strings.Repeat("1", 25)}
}

// randomInput returns at most so many bytes.
func randomInput(seed *uint64, most int) string {
	data := ""
	pieces := inputPieces()
	for range next(seed, 16) {
		data += pieces[next(seed, len(pieces))]
	}
	return data[:min(len(data), most)]
}

func TestFeedDecoderRandomChunks(t *testing.T) {
	seed := uint64(7)
	for range 3000 {
		d := impl.Decoder{}
		for now := range int64(6) {
			data := randomInput(&seed, 200)
			want := expectedFeed(d, data, now)
			checkFeed(t, d, data, now, want)
			if t.Failed() {
				t.FailNow()
			}
			d = want.Decoder
			checkDecoderFault(t, d, impl.OK)
		}
	}
}
