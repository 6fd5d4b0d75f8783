package tests

import (
	"strings"
	"testing"

	"loop.example/g00804/impl"
)

const endOfPaste = "\x1b[201~"

func checkPaste(t *testing.T, data string, want impl.TokenResult) {
	t.Helper()
	if got := impl.FirstPaste([]byte(data)); !sameToken(got, want) {
		t.Errorf("FirstPaste of %d bytes, %.80q = %+v, want %+v", len(data), data, got, want)
	}
}

func checkFlushPaste(t *testing.T, data string, want impl.TokenResult) {
	t.Helper()
	if got := impl.FlushToken([]byte(data), true); !sameToken(got, want) {
		t.Errorf("FlushToken within a paste of %d bytes, %.80q = %+v, want %+v", len(data), data, got, want)
	}
}

func endToken() impl.TokenResult {
	return impl.TokenResult{Token: impl.Token{Size: 6, None: true}}
}

func TestFirstPasteEnd(t *testing.T) {
	for _, tail := range []string{"", "c", "~", endOfPaste, "\x1b", "\x1b[200~", strings.Repeat("z", 100)} {
		checkPaste(t, endOfPaste+tail, endToken())
		checkPaste(t, "a"+endOfPaste+tail, pasteOf("a"))
		checkPaste(t, "ab\x00\xff"+endOfPaste+tail, pasteOf("ab\x00\xff"))
	}
	// Other sequences, and other forms of the same numbers, belong to the paste.
	for _, other := range []string{"\x1b[200~", "\x1b[0201~", "\x1b[201;~", "\x1b[<201~", "\x1b[A", "\x1b\x1b", "\x1b[201", "\x1b[20", "\x1b["} {
		checkPaste(t, other+"x"+endOfPaste, pasteOf(other+"x"))
		checkPaste(t, other+endOfPaste, pasteOf(other))
	}
}

func TestFirstPasteCertainBytesAheadOfTheEnd(t *testing.T) {
	text := strings.Repeat("abcdefgh", 12)
	for size := 1; size <= 31; size++ {
		checkPaste(t, text[:size]+endOfPaste, pasteOf(text[:size]))
		checkPaste(t, text[:size]+endOfPaste+text, pasteOf(text[:size]))
		checkPaste(t, text[:size], codeOf(impl.ErrFull))
	}
	for size := 32; size <= 70; size++ {
		checkPaste(t, text[:size]+endOfPaste, pasteOf(text[:32]))
		checkPaste(t, text[:size], pasteOf(text[:32]))
		checkPaste(t, text[:size]+"\x1b[2", pasteOf(text[:32]))
	}
}

func TestFirstPastePossibleEnd(t *testing.T) {
	text := strings.Repeat("abcdefgh", 12)
	for size := 1; size < 6; size++ {
		start := endOfPaste[:size]
		checkPaste(t, start, codeOf(impl.ErrFull))
		checkPaste(t, "ab"+start, codeOf(impl.ErrFull))
		// The possible end is not certain, so that 31 bytes ahead of it are too few.
		checkPaste(t, text[:31]+start, codeOf(impl.ErrFull))
		checkPaste(t, text[:32]+start, pasteOf(text[:32]))
		checkPaste(t, text[:33]+start, pasteOf(text[:32]))
		// A prefix that goes on otherwise is part of the paste.
		checkPaste(t, start+"x", codeOf(impl.ErrFull))
		checkPaste(t, "ab"+start+"x"+endOfPaste, pasteOf("ab"+start+"x"))
		checkPaste(t, start+start+endOfPaste, pasteOf(start+start))
		whole := text[:31] + start + "x" + text
		checkPaste(t, whole, pasteOf(whole[:32]))
		checkPaste(t, start+start, codeOf(impl.ErrFull))
		again := text[:31-size] + start + "\x1b"
		checkPaste(t, again, codeOf(impl.ErrFull))
		checkPaste(t, text[:32-size]+start+"\x1b", pasteOf(text[:32-size]+start))
	}
	checkPaste(t, text[:31]+"\x1b[201x", pasteOf(text[:31]+"\x1b"))
}

func TestFlushTokenWithinAPaste(t *testing.T) {
	text := strings.Repeat("abcdefgh", 12)
	for size := 1; size <= 96; size++ {
		checkFlushPaste(t, text[:size], pasteOf(text[:min(size, 32)]))
	}
	for _, data := range []string{"\x1b", "\x1b[", "\x1b[201", "a\x1b", "\xc3", "\x00", "\x1b[A", "\x1b[200~", "\r"} {
		checkFlushPaste(t, data, pasteOf(data))
	}
	// It is asked for the bytes alone, whether an end is among them or not.
	checkFlushPaste(t, endOfPaste, pasteOf(endOfPaste))
	checkFlushPaste(t, "a"+endOfPaste+"b", pasteOf("a"+endOfPaste+"b"))
	checkFlushPaste(t, text[:30]+endOfPaste, pasteOf(text[:30]+"\x1b["))
}

// expectedPaste follows the text of the chapter with the first position of each sequence that counts.
func expectedPaste(data string) impl.TokenResult {
	if data == "" {
		return codeOf(impl.ErrNone)
	}
	certain := len(data)
	for size := 1; size < 6; size++ {
		if strings.HasSuffix(data, endOfPaste[:size]) {
			certain = min(certain, len(data)-size)
		}
	}
	end := strings.Index(data, endOfPaste)
	if end >= 0 {
		certain = min(certain, end)
	}
	switch {
	case certain >= 32:
		return pasteOf(data[:32])
	case certain == end && end == 0:
		return endToken()
	case certain == end:
		return pasteOf(data[:end])
	}
	return codeOf(impl.ErrFull)
}

func TestFirstPasteSequences(t *testing.T) {
	call := func(data string) {
		checkPaste(t, data, expectedPaste(data))
		checkFlushPaste(t, data+"!", pasteOf((data + "!")[:min(32, len(data)+1)]))
		if t.Failed() {
			t.FailNow()
		}
	}
	for _, start := range []string{"", strings.Repeat("x", 28), strings.Repeat("\x1b[201", 5)} {
		eachSequence(start, "\x1b[201~", 6, call)
	}
	pieces := []string{"\x1b", "\x1b[", "\x1b[2", "\x1b[20", "\x1b[201", endOfPaste, "a", "abcdefg", "[201~", "\xff"}
	seed := uint64(4)
	for range 60000 {
		data := ""
		for range next(&seed, 12) {
			data += pieces[next(&seed, len(pieces))]
		}
		call(data)
	}
}
