package tests

import (
	"math"
	"slices"
	"strings"
	"testing"

	"loop.example/g00804/impl"
)

func chunksOf(texts ...string) [][]byte {
	chunks := make([][]byte, len(texts))
	for i, text := range texts {
		chunks[i] = []byte(text)
	}
	return chunks
}

func checkAll(t *testing.T, texts []string, times []int64, want impl.DecodeResult) {
	t.Helper()
	if got := impl.DecodeAll(chunksOf(texts...), times); !sameDecode(got, want) {
		t.Errorf("DecodeAll(%.80q, %v) = %+v, want %+v", texts, times, got, want)
	}
}

func TestDecodeAllNoChunks(t *testing.T) {
	for _, chunks := range [][][]byte{nil, {}} {
		for _, times := range [][]int64{nil, {}} {
			if got := impl.DecodeAll(chunks, times); !sameDecode(got, refused(impl.OK)) {
				t.Errorf("no chunks: %+v", got)
			}
		}
	}
	if got := impl.DecodeAll([][]byte{nil, {}, nil}, []int64{0, 0, 9}); !sameDecode(got, refused(impl.OK)) {
		t.Errorf("chunks of no bytes: %+v", got)
	}
}

func TestDecodeAllCounts(t *testing.T) {
	xs := slices.Repeat([]string{"x"}, 50)
	keys := slices.Repeat([]impl.Event{aKey('x', 0)}, 50)
	times := make([]int64, 50)
	for _, count := range []int{1, 2, 39, 40} {
		checkAll(t, xs[:count], times[:count], decoded(impl.Decoder{}, keys[:count]...))
		checkAll(t, xs[:count], times[:count-1], refused(impl.ErrMany))
		checkAll(t, xs[:count], times[:count+1], refused(impl.ErrMany))
	}
	for _, count := range []int{41, 50} {
		checkAll(t, xs[:count], times[:count], refused(impl.ErrMany))
	}
	checkAll(t, nil, times[:1], refused(impl.ErrMany))
	checkAll(t, xs[:1], nil, refused(impl.ErrMany))
	// The count comes before everything that a chunk may have.
	checkAll(t, []string{"x"}, []int64{-1, 5}, refused(impl.ErrMany))
	times[0], times[1] = 9, -1
	checkAll(t, xs[:41], times[:41], refused(impl.ErrMany))
}

func TestDecodeAllTimes(t *testing.T) {
	ab := []string{"a", "b"}
	both := []impl.Event{aKey('a', 0), aKey('b', 0)}
	for _, times := range [][]int64{{0, 0}, {5, 5}, {5, 6}, {0, impl.MaxClock}, {impl.MaxClock, impl.MaxClock}} {
		checkAll(t, ab, times, decoded(impl.Decoder{}, both...))
	}
	for _, times := range [][]int64{{5, 4}, {1, 0}, {impl.MaxClock, 0}, {0, -1}, {-1, 0}, {-1, -1}, {0, impl.MaxClock + 1}, {impl.MaxClock + 1, impl.MaxClock + 1}, {math.MinInt64, 0}, {0, math.MaxInt64}} {
		checkAll(t, ab, times, refused(impl.ErrRange))
		checkAll(t, []string{"", ""}, times, refused(impl.ErrRange))
	}
	checkAll(t, []string{"a", "b", "c"}, []int64{0, 10, 9}, refused(impl.ErrRange))
	checkAll(t, []string{"a", "b", "c"}, []int64{7, 3, 5}, refused(impl.ErrRange))
}

func TestDecodeAllOrderOfCodes(t *testing.T) {
	long := strings.Repeat("a", 201)
	checkAll(t, []string{long}, []int64{0}, refused(impl.ErrMany))
	checkAll(t, []string{"a", long}, []int64{0, 5}, refused(impl.ErrMany))
	checkAll(t, []string{"a\x1b", long, "b"}, []int64{0, 500, 600}, refused(impl.ErrMany))
	// Chunk by chunk: the first chunk with a code decides.
	checkAll(t, []string{long, "a"}, []int64{5, 4}, refused(impl.ErrMany))
	checkAll(t, []string{long, "a"}, []int64{5, impl.MaxClock + 1}, refused(impl.ErrMany))
	checkAll(t, []string{"a", "b", long}, []int64{5, 4, 6}, refused(impl.ErrRange))
	// The time of a chunk comes before its bytes.
	checkAll(t, []string{long}, []int64{-1}, refused(impl.ErrRange))
	checkAll(t, []string{long}, []int64{impl.MaxClock + 1}, refused(impl.ErrRange))
	checkAll(t, []string{"a", long}, []int64{5, 4}, refused(impl.ErrRange))
}

func TestDecodeAllTimeout(t *testing.T) {
	far := []impl.Event{aKey(impl.KeyEscape, 0), aKey('[', 0), aKey('A', 0)}
	for _, start := range []int64{0, 7, 1000} {
		for _, wait := range []int64{0, 1, 49} {
			checkAll(t, []string{"\x1b", "[A"}, []int64{start, start + wait}, decoded(impl.Decoder{}, aKey(impl.KeyUp, 0)))
		}
		for _, wait := range []int64{50, 51, 4000} {
			checkAll(t, []string{"\x1b", "[A"}, []int64{start, start + wait}, decoded(impl.Decoder{}, far...))
		}
	}
	// Each chunk starts the time anew, even one of no bytes.
	checkAll(t, []string{"\x1b", "[", "A"}, []int64{0, 49, 98}, decoded(impl.Decoder{}, aKey(impl.KeyUp, 0)))
	checkAll(t, []string{"\x1b", "", "[A"}, []int64{0, 49, 98}, decoded(impl.Decoder{}, aKey(impl.KeyUp, 0)))
	checkAll(t, []string{"\x1b", "", "[A"}, []int64{0, 49, 99}, decoded(impl.Decoder{}, far...))
	checkAll(t, []string{"\x1b", "", "[A"}, []int64{0, 50, 51}, decoded(impl.Decoder{}, far...))
	checkAll(t, []string{"a\x1b[", "Ab", "c\xe2\x82", "\xac"}, []int64{0, 50, 60, 109}, decoded(impl.Decoder{},
		aKey('a', 0), aKey('[', impl.ModAlt), aKey('A', 0), aKey('b', 0), aKey('c', 0), aKey(8364, 0)))
}

// Nothing is resolved after the last chunk.
func TestDecodeAllFinalDecoder(t *testing.T) {
	checkAll(t, []string{"a", "b\x1b[1"}, []int64{5, 9}, decoded(decoder("\x1b[1", false, 59), aKey('a', 0), aKey('b', 0)))
	checkAll(t, []string{"\x1b"}, []int64{impl.MaxClock}, decoded(decoder("\x1b", false, impl.MaxClock+50)))
	checkAll(t, []string{"\x1b[200~ab"}, []int64{5}, decoded(decoder("ab", true, 55)))
	checkAll(t, []string{"\x1b[200~ab", "c"}, []int64{5, 54}, decoded(decoder("abc", true, 104)))
	checkAll(t, []string{"\x1b[200~ab", "c"}, []int64{5, 55}, decoded(decoder("c", true, 105), aPaste("ab")))
	checkAll(t, []string{"\x1b[200~ab", ""}, []int64{5, 55}, decoded(decoder("", true, 0), aPaste("ab")))
	checkAll(t, []string{"\x1b[200~ab\x1b[2", "01~c"}, []int64{5, 54}, decoded(impl.Decoder{}, aPaste("ab"), aKey('c', 0)))
	checkAll(t, []string{"\x1b[200~ab\x1b[2", "01~c"}, []int64{5, 55}, decoded(decoder("01~c", true, 105), aPaste("ab\x1b[2")))
}

// expectedAll follows the text of the chapter with the tokens that the tests of chapter 3 expect.
func expectedAll(texts []string, times []int64) impl.DecodeResult {
	all := impl.DecodeResult{}
	for i, text := range texts {
		d := all.Decoder
		if pend := string(d.Pend); pend != "" && d.Due <= times[i] {
			if d.Paste {
				for rest := pend; rest != ""; rest = rest[min(len(rest), 32):] {
					all.Events = append(all.Events, aPaste(rest[:min(len(rest), 32)]))
				}
			} else {
				all.Events = append(all.Events, expectedFlush(pend).Token.Event)
			}
			d = decoder("", d.Paste, 0)
		}
		fed := expectedFeed(d, text, times[i])
		all = decoded(fed.Decoder, append(all.Events, fed.Events...)...)
	}
	return all
}

func TestDecodeAllRandomChunks(t *testing.T) {
	seed := uint64(8)
	for range 3000 {
		texts := make([]string, next(&seed, 12))
		times := make([]int64, len(texts))
		now := int64(next(&seed, 100))
		for i := range texts {
			now += int64([]int{0, 1, 20, 49, 50, 51, 200}[next(&seed, 7)])
			texts[i], times[i] = randomInput(&seed, next(&seed, 60)), now
		}
		checkAll(t, texts, times, expectedAll(texts, times))
		if t.Failed() {
			t.FailNow()
		}
	}
}
