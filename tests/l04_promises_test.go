package tests

import (
	"bytes"
	"slices"
	"strings"
	"testing"

	"loop.example/g00804/impl"
)

// fedIn feeds the chunks one after another at the same time.
func fedIn(t *testing.T, d impl.Decoder, now int64, texts ...string) impl.DecodeResult {
	t.Helper()
	all := decoded(d)
	for _, text := range texts {
		r := impl.FeedDecoder(all.Decoder, []byte(text), now)
		if r.Code != impl.OK || impl.DecoderFault(r.Decoder) != impl.OK {
			t.Fatalf("FeedDecoder(%+v, %q, %d) = %+v", all.Decoder, text, now, r)
		}
		all = decoded(r.Decoder, append(all.Events, r.Events...)...)
	}
	return all
}

func checkCut(t *testing.T, d impl.Decoder, want impl.DecodeResult, texts ...string) {
	t.Helper()
	if got := fedIn(t, d, 100, texts...); !sameDecode(got, want) {
		t.Fatalf("%+v, fed with %.200q: %+v, want %+v", d, texts, got, want)
	}
}

func singleBytes(data string) []string {
	out := make([]string, len(data))
	for i := range out {
		out[i] = data[i : i+1]
	}
	return out
}

// checkP5 feeds the data whole, byte by byte, and cut at every place.
func checkP5(t *testing.T, d impl.Decoder, data string) {
	t.Helper()
	whole := fedIn(t, d, 100, data)
	// Without a byte there would be no call at all, and Due would not be set anew.
	if len(data) > 0 {
		checkCut(t, d, whole, singleBytes(data)...)
	}
	for i := range len(data) + 1 {
		checkCut(t, d, whole, data[:i], data[i:])
		checkCut(t, d, whole, data[:i], "", data[i:], "")
	}
}

// startingDecoders have nothing pending or something, outside a paste or within.
func startingDecoders() []impl.Decoder {
	return []impl.Decoder{{}, {Paste: true}, decoder("\x1b", false, 90), decoder("\x1b[2", false, 2000), decoder("\xe2\x82", false, 0), decoder("ab\x1b[2", true, 90), decoder(strings.Repeat("y", 31)+"\x1b", true, 150)}
}

func wholeInputs() []string {
	text := strings.Repeat("abcdefgh", 25)
	return []string{"", "a", "\x1b", "\x1b[A", "\x1bOA", "\x1b[1;5A\x1b[<0;3;4Mx", "\xf0\x9f\x98\x80\xe2\x82", "\x1b\x1b\x1b[", "\x1b[200~ab\x1b[201~c", "\x1b[200~" + text[:70] + endOfPaste + "\x1b[A",
		"\x1b[200~" + text[:31] + "\x1b[201", "\x1b[200~ab\x1b[20x\x1b[2", "\x1b[200~\x1b[201~\x1b[200~\x1b[201~", "\x1b[200~" + strings.Repeat("\x1b[20", 12), "\x1b[" + strings.Repeat("1", 40) + "A", "\x1b[1;2;3;4;5x\x1b[99z\x1b[1 ", "\xff\xc3a\xe2\x82\x1b\x1cO", text,
		"\x1b[200~" + text[:194], text[:180] + "\x1b[200~" + endOfPaste + "\x1b[1;5"}
}

func TestP5EveryCutOfKnownInputs(t *testing.T) {
	for _, d := range startingDecoders() {
		for _, data := range wholeInputs() {
			checkP5(t, d, data)
		}
	}
}

func TestP5EveryCutOfShortInputs(t *testing.T) {
	call := func(data string) {
		checkP5(t, impl.Decoder{}, data)
		checkP5(t, impl.Decoder{Paste: true}, data)
	}
	eachSequence("", "\x1b[O201~\xc3\xa9", 4, call)
	eachSequence("\x1b[20", "\x1b[01~", 4, call)
	eachSequence("\x1b[200~\x1b[20", "\x1b[1~", 3, call)
}

func TestP5EveryCutOfRandomInputs(t *testing.T) {
	seed := uint64(9)
	for range 300 {
		data := randomInput(&seed, 150)
		for _, d := range startingDecoders() {
			checkP5(t, d, data)
		}
	}
}

func TestP5RandomCuts(t *testing.T) {
	seed := uint64(10)
	for range 5000 {
		data := randomInput(&seed, 200)
		whole := fedIn(t, impl.Decoder{}, 100, data)
		var texts []string
		for rest := data; rest != ""; {
			size := min(len(rest), next(&seed, 30))
			texts = append(texts, rest[:size])
			rest = rest[size:]
		}
		checkCut(t, impl.Decoder{}, whole, texts...)
		if len(texts) > 0 && len(texts) <= 40 {
			checkAll(t, texts, slices.Repeat([]int64{100}, len(texts)), whole)
		}
	}
}

// After the timeout nothing is pending, and before it nothing happens.
func checkTimeoutP5(t *testing.T, d impl.Decoder) {
	t.Helper()
	for _, now := range []int64{0, d.Due - 1} {
		if now >= 0 && now < d.Due {
			checkTick(t, d, now, decoded(d))
		}
	}
	for _, now := range []int64{d.Due, d.Due + 1, impl.MaxClock} {
		r := impl.TickDecoder(d, now)
		if r.Code != impl.OK || !equalDecoders(r.Decoder, decoder("", d.Paste, 0)) || (len(r.Events) == 0) != (len(d.Pend) == 0) {
			t.Fatalf("TickDecoder(%+v, pending %q, %d) = %+v", d, d.Pend, now, r)
		}
		for _, e := range r.Events {
			if impl.EventFault(e) != impl.OK {
				t.Fatalf("TickDecoder(%+v, pending %q, %d) has the event %+v", d, d.Pend, now, e)
			}
		}
	}
}

func TestP5NothingIsPendingAfterTheTimeout(t *testing.T) {
	for _, pend := range waitingOutside() {
		checkTimeoutP5(t, decoder(pend, false, 70))
	}
	for _, pend := range waitingWithin() {
		checkTimeoutP5(t, decoder(pend, true, 70))
	}
	seed := uint64(11)
	inputs := wholeInputs()
	for range 400 {
		inputs = append(inputs, randomInput(&seed, 120))
	}
	for _, d := range startingDecoders() {
		for _, data := range inputs {
			for size := range len(data) + 1 {
				checkTimeoutP5(t, fedIn(t, d, 100, data[:size]).Decoder)
			}
		}
	}
}

// Data without an end of the paste is handed on byte for byte, whatever the timeout resolves.
func TestP5NoByteOfAPasteIsLost(t *testing.T) {
	seed := uint64(12)
	for range 2000 {
		data := randomData(&seed, "\x1b[20ax", 150)
		r := fedIn(t, impl.Decoder{Paste: true}, 100, data)
		r.Events = append(r.Events, impl.TickDecoder(r.Decoder, 150).Events...)
		var out []byte
		for _, e := range r.Events {
			out = append(out, e.Data...)
		}
		if string(out) != data {
			t.Fatalf("%q is handed on as %q", data, out)
		}
	}
}

// roomy returns the bytes with other ones behind them in the same memory.
func roomy(text string) []byte {
	return []byte(text + "[A~\x1b[201~zzzzzzzzzzzzzzzzzzzzzzzzzzzzzzzzzzzz")[:len(text)]
}

func decodeInputs() []string {
	return append(wholeInputs(), "x\x1c\x1b[99z\x1b[200~ab\x1b[201~\x1b[1 \x1b[", strings.Repeat("a", 201), "\x1c\x1c\x1c\xff\xc3", "c\x1b[200~"+strings.Repeat("d", 100))
}

type decoderCall func(d impl.Decoder, data []byte) impl.DecodeResult

// eachDecoderCall calls back for each of the decoders with each input and each way to call the program.
func eachDecoderCall(decoders []impl.Decoder, visit func(d impl.Decoder, text string, call decoderCall)) {
	for _, now := range []int64{0, 100, 150, impl.MaxClock, -1} {
		feed := func(d impl.Decoder, data []byte) impl.DecodeResult { return impl.FeedDecoder(d, data, now) }
		tick := func(d impl.Decoder, data []byte) impl.DecodeResult { return impl.TickDecoder(d, now) }
		for _, d := range decoders {
			for _, text := range decodeInputs() {
				visit(d, text, feed)
			}
			visit(d, "", tick)
		}
	}
}

func roomyDecoder(d impl.Decoder) impl.Decoder {
	return impl.Decoder{Pend: roomy(string(d.Pend)), Paste: d.Paste, Due: d.Due}
}

// wholeRoom copies the memory of a slice, beyond its length too.
func wholeRoom(data []byte) string {
	return string(data[:cap(data)])
}

func TestP1DecoderArgumentsStay(t *testing.T) {
	decoders := append(startingDecoders(), decoder("a", false, 5), decoder("", false, -1))
	eachDecoderCall(decoders, func(start impl.Decoder, text string, call decoderCall) {
		d, data := roomyDecoder(start), roomy(text)
		pendRoom, dataRoom := wholeRoom(d.Pend), wholeRoom(data)
		fault := impl.DecoderFault(d)
		got := call(d, data)
		if !impl.SameDecoders(d, start) || !equalDecoders(d, start) || wholeRoom(d.Pend) != pendRoom || wholeRoom(data) != dataRoom {
			t.Fatalf("the arguments %+v and %q became %+v and %q", start, text, d, data)
		}
		if again := call(start, []byte(text)); !sameDecode(again, got) || impl.DecoderFault(start) != fault {
			t.Fatalf("%+v and %q: %+v, then %+v", start, text, got, again)
		}
	})
}

func copyOfDecode(r impl.DecodeResult) impl.DecodeResult {
	r.Decoder.Pend = slices.Clone(r.Decoder.Pend)
	r.Events = cloneEvents(r.Events)
	return r
}

// checkApart spoils one slice of the result after another, and finds the others as they were.
func checkApart(t *testing.T, r impl.DecodeResult) {
	t.Helper()
	want := copyOfDecode(r)
	spoil(r.Decoder.Pend)
	if !unchanged(r.Events, want.Events) {
		t.Fatalf("the pending bytes share memory with the events %+v", want.Events)
	}
	pend := slices.Clone(r.Decoder.Pend)
	for i := range r.Events {
		spoil(r.Events[i].Data)
		want.Events[i].Data = slices.Clone(r.Events[i].Data)
		if !unchanged(r.Events, want.Events) || !bytes.Equal(r.Decoder.Pend, pend) {
			t.Fatalf("event %d shares memory: %+v", i, r)
		}
	}
}

func TestP1DecoderResultsAreNew(t *testing.T) {
	eachDecoderCall(startingDecoders(), func(start impl.Decoder, text string, call decoderCall) {
		d, data := roomyDecoder(start), roomy(text)
		one, two := call(d, data), call(d, data)
		want := copyOfDecode(one)
		spoil(d.Pend)
		spoil(data)
		if !sameDecode(one, want) || !sameDecode(two, want) {
			t.Fatalf("%+v and %q: the result shares memory with an argument", start, text)
		}
		pendRoom, dataRoom := wholeRoom(d.Pend), wholeRoom(data)
		checkApart(t, one)
		// An empty result too may lie in the memory of an argument.
		if wholeRoom(d.Pend) != pendRoom || wholeRoom(data) != dataRoom {
			t.Fatalf("%+v and %q: an argument shares memory with the result", start, text)
		}
		clear(one.Events)
		if !sameDecode(two, want) || !sameDecode(call(start, []byte(text)), want) {
			t.Fatalf("%+v and %q: the results share memory", start, text)
		}
	})
}

// manyChunks returns chunks that have other bytes behind them in memory, and their times.
func manyChunks() ([][]byte, []int64) {
	var chunks [][]byte
	var times []int64
	now := int64(0)
	for i, text := range decodeInputs() {
		if len(text) > 200 {
			continue
		}
		now += int64(i % 3 * 30)
		chunks, times = append(chunks, roomy(text)), append(times, now)
	}
	return chunks, times
}

func TestP1DecodeAll(t *testing.T) {
	chunks, times := manyChunks()
	for count := range len(chunks) + 1 {
		given, at := manyChunks()
		got := impl.DecodeAll(given[:count], at[:count])
		for i, chunk := range given {
			if len(chunk) != len(chunks[i]) || wholeRoom(chunk) != wholeRoom(chunks[i]) {
				t.Fatalf("chunk %d became %q", i, chunk)
			}
		}
		if !slices.Equal(at, times) {
			t.Fatalf("the times became %v", at)
		}
		want := copyOfDecode(got)
		for _, chunk := range given {
			spoil(chunk)
		}
		again := impl.DecodeAll(chunks[:count], times[:count])
		if !sameDecode(got, want) || !sameDecode(again, want) {
			t.Fatalf("%d chunks: %+v, then %+v", count, got, again)
		}
		checkApart(t, got)
		clear(got.Events)
		if !sameDecode(again, want) {
			t.Fatalf("%d chunks: the results share memory", count)
		}
	}
}
