package tests

import (
	"math"
	"slices"
	"testing"

	"loop.example/g00804/impl"
)

const lastPoint = 1114111

func isPoint(n int64) bool {
	return n >= 0 && n <= lastPoint && (n < 55296 || n > 57343)
}

// encodingOf follows the table of RFC 3629, chapter 3, independently of the program.
func encodingOf(n int64) []byte {
	switch {
	case n < 128:
		return []byte{byte(n)}
	case n < 2048:
		return []byte{byte(192 + n/64), byte(128 + n%64)}
	case n < 65536:
		return []byte{byte(224 + n/4096), byte(128 + n/64%64), byte(128 + n%64)}
	}
	return []byte{byte(240 + n/262144), byte(128 + n/4096%64), byte(128 + n/64%64), byte(128 + n%64)}
}

func joined(a []byte, b []byte) []byte {
	return append(slices.Clone(a), b...)
}

func checkPoint(t *testing.T, data []byte, want impl.PointResult) {
	t.Helper()
	if got := impl.FirstPoint(data); got != want {
		t.Fatalf("FirstPoint(%v) = %+v, want %+v", data, got, want)
	}
}

func TestP2EndsOfRanges(t *testing.T) {
	cases := []struct {
		point int64
		bytes []byte
	}{
		{0, []byte{0}},
		{127, []byte{127}},
		{128, []byte{194, 128}},
		{233, []byte{195, 169}},
		{2047, []byte{223, 191}},
		{2048, []byte{224, 160, 128}},
		{8364, []byte{226, 130, 172}},
		{55295, []byte{237, 159, 191}},
		{57344, []byte{238, 128, 128}},
		{65533, []byte{239, 191, 189}},
		{65535, []byte{239, 191, 191}},
		{65536, []byte{240, 144, 128, 128}},
		{1114111, []byte{244, 143, 191, 191}},
	}
	for _, c := range cases {
		put := impl.PutPoint(c.point)
		if put.Code != impl.OK || !slices.Equal(put.Bytes, c.bytes) {
			t.Errorf("PutPoint(%d) = %+v, want %v", c.point, put, c.bytes)
		}
		checkPoint(t, c.bytes, impl.PointResult{Point: c.point, Size: int64(len(c.bytes))})
	}
}

func TestP2EveryPointIsDecodedWhateverFollows(t *testing.T) {
	tails := [][]byte{nil, {0}, {65, 66}, {128}, {191, 191, 191, 191}, {192}, {195, 169}, {237, 160}, {255}, make([]byte, 100)}
	for n := int64(0); n <= lastPoint; n++ {
		if !isPoint(n) {
			continue
		}
		put := impl.PutPoint(n)
		if put.Code != impl.OK || !slices.Equal(put.Bytes, encodingOf(n)) {
			t.Fatalf("PutPoint(%d) = %+v, want %v", n, put, encodingOf(n))
		}
		want := impl.PointResult{Point: n, Size: int64(len(put.Bytes))}
		checkPoint(t, put.Bytes, want)
		checkPoint(t, joined(put.Bytes, tails[n%int64(len(tails))]), want)
	}
}

func TestP2EachLengthWithEachTail(t *testing.T) {
	for _, n := range []int64{0, 65, 127, 128, 233, 2047, 2048, 8364, 55295, 57344, 65535, 65536, 128512, 1114111} {
		code := encodingOf(n)
		want := impl.PointResult{Point: n, Size: int64(len(code))}
		for first := range 256 {
			checkPoint(t, joined(code, []byte{byte(first)}), want)
			for _, second := range []byte{0, 65, 127, 128, 191, 192, 224, 240, 255} {
				checkPoint(t, joined(code, []byte{byte(first), second}), want)
			}
		}
	}
}

func TestP2EveryProperPrefixIsFull(t *testing.T) {
	for n := int64(128); n <= lastPoint; n++ {
		if !isPoint(n) {
			continue
		}
		code := encodingOf(n)
		for size := 1; size < len(code); size++ {
			checkPoint(t, code[:size], impl.PointResult{Code: impl.ErrFull})
		}
	}
}

func TestP2NoBytes(t *testing.T) {
	checkPoint(t, nil, impl.PointResult{Code: impl.ErrNone})
	checkPoint(t, []byte{}, impl.PointResult{Code: impl.ErrNone})
	checkPoint(t, []byte{65}[:0], impl.PointResult{Code: impl.ErrNone})
}

func TestP2NoEncoding(t *testing.T) {
	cases := [][]byte{
		// A continuation byte in front.
		{128}, {191}, {128, 65}, {191, 128, 128},
		// Overlong forms, whole and cut off.
		{192}, {193}, {192, 128}, {193, 191}, {224, 128}, {224, 159}, {224, 128, 128}, {224, 159, 191},
		{240, 128}, {240, 143}, {240, 128, 128}, {240, 143, 191, 191},
		// 55296 to 57343.
		{237, 160}, {237, 191}, {237, 160, 128}, {237, 175, 191}, {237, 191, 191}, {237, 160, 128, 237, 176, 128},
		// Above 1114111.
		{244, 144}, {244, 144, 128}, {244, 144, 128, 128}, {244, 191, 191, 191}, {245}, {245, 128, 128, 128}, {247, 191, 191, 191},
		// Bytes that start no encoding.
		{248}, {248, 136, 128, 128, 128}, {252}, {254}, {255},
		// An encoding that breaks off.
		{195, 65}, {195, 195, 169}, {226, 65}, {226, 130, 65}, {226, 192}, {240, 159, 65}, {240, 159, 152, 65}, {240, 159, 152, 195},
	}
	for _, data := range cases {
		checkPoint(t, data, impl.PointResult{Code: impl.ErrText})
	}
}

// knownPoints returns every encoding with its code point, and every proper prefix of one.
func knownPoints() (map[string]int64, map[string]bool) {
	points := map[string]int64{}
	prefixes := map[string]bool{}
	for n := int64(0); n <= lastPoint; n++ {
		if !isPoint(n) {
			continue
		}
		code := string(encodingOf(n))
		points[code] = n
		for size := 1; size < len(code); size++ {
			prefixes[code[:size]] = true
		}
	}
	return points, prefixes
}

func expectedPoint(data []byte, points map[string]int64, prefixes map[string]bool) impl.PointResult {
	for size := 1; size <= 4 && size <= len(data); size++ {
		if n, ok := points[string(data[:size])]; ok {
			return impl.PointResult{Point: n, Size: int64(size)}
		}
	}
	if prefixes[string(data)] {
		return impl.PointResult{Code: impl.ErrFull}
	}
	return impl.PointResult{Code: impl.ErrText}
}

func TestP2ShortSequences(t *testing.T) {
	points, prefixes := knownPoints()
	more := []byte{0, 65, 127, 128, 143, 144, 159, 160, 191, 192, 224, 255}
	for a := range 256 {
		one := []byte{byte(a)}
		checkPoint(t, one, expectedPoint(one, points, prefixes))
		for b := range 256 {
			two := []byte{byte(a), byte(b)}
			checkPoint(t, two, expectedPoint(two, points, prefixes))
			for _, c := range more {
				three := []byte{byte(a), byte(b), c}
				checkPoint(t, three, expectedPoint(three, points, prefixes))
				for _, d := range more {
					four := []byte{byte(a), byte(b), c, d}
					checkPoint(t, four, expectedPoint(four, points, prefixes))
				}
			}
		}
	}
}

func TestP2NoCodePoint(t *testing.T) {
	cases := []int64{-1, -65, -1114111, math.MinInt64, 1114112, 2000001, math.MaxInt32, math.MaxInt64,
		1<<32 + 65, -1<<32 + 65, 1 << 40, 1<<63 - 1<<32 + 65}
	for n := int64(55296); n <= 57343; n++ {
		cases = append(cases, n)
	}
	for _, n := range cases {
		got := impl.PutPoint(n)
		if got.Code != impl.ErrRange || len(got.Bytes) != 0 {
			t.Errorf("PutPoint(%d) = %+v, want ErrRange", n, got)
		}
	}
}

func TestP1PointArgumentsStay(t *testing.T) {
	for _, start := range [][]byte{{65}, {195, 169}, {195}, {226, 130, 172, 65}, {237, 160}, {128}, {240, 159, 152, 128}, {}} {
		room := append(slices.Clone(start), 1, 2, 3, 4, 5, 6, 7, 8)
		before := slices.Clone(room)
		first := impl.FirstPoint(room[:len(start)])
		if !slices.Equal(room, before) {
			t.Errorf("FirstPoint(%v) changed its argument to %v", start, room)
		}
		if again := impl.FirstPoint(slices.Clone(start)); again != first {
			t.Errorf("FirstPoint(%v) = %+v, then %+v", start, first, again)
		}
	}
}

func TestP1PointResultsAreNew(t *testing.T) {
	for _, n := range []int64{0, 65, 127, 128, 233, 8364, 1114111} {
		first := impl.PutPoint(n)
		second := impl.PutPoint(n)
		spoil(first.Bytes)
		third := impl.PutPoint(n)
		if !slices.Equal(second.Bytes, encodingOf(n)) || !slices.Equal(third.Bytes, encodingOf(n)) {
			t.Errorf("the results of PutPoint(%d) share memory: %v, %v", n, second.Bytes, third.Bytes)
		}
	}
}

// spoil overwrites the whole memory of a slice, beyond its length too.
func spoil(data []byte) {
	data = data[:cap(data)]
	for i := range data {
		data[i] ^= 255
	}
}
