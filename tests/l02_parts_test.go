package tests

import (
	"bytes"
	"math"
	"math/big"
	"regexp"
	"slices"
	"strings"
	"testing"

	"loop.example/g00804/impl"
)

func checkNumber(t *testing.T, text string, want impl.IntResult) {
	t.Helper()
	if got := impl.NumberOf([]byte(text)); got != want {
		t.Errorf("NumberOf of %d bytes, %.40q = %+v, want %+v", len(text), text, got, want)
	}
}

func sameParts(a impl.PartsResult, b impl.PartsResult) bool {
	return a.Code == b.Code && a.Private == b.Private && slices.Equal(a.Numbers, b.Numbers) && a.Final == b.Final && a.Size == b.Size
}

func checkParts(t *testing.T, data string, want impl.PartsResult) {
	t.Helper()
	if got := impl.PartsOf([]byte(data)); !sameParts(got, want) {
		t.Fatalf("PartsOf of %d bytes, %.60q = %+v, want %+v", len(data), data, got, want)
	}
}

func checkPut(t *testing.T, private bool, numbers []int64, final byte, code int64, text string) {
	t.Helper()
	got := impl.PartsBytes(private, numbers, final)
	if got.Code != code || string(got.Bytes) != text {
		t.Errorf("PartsBytes(%v, %v, %d) = %d, %q, want %d, %q", private, numbers, final, got.Code, got.Bytes, code, text)
	}
}

func TestConstantsOfParts(t *testing.T) {
	if impl.MaxNumber != 9999999 || impl.MaxParts != 4 {
		t.Errorf("MaxNumber %d, MaxParts %d", impl.MaxNumber, impl.MaxParts)
	}
}

func TestP3NumberOfDigits(t *testing.T) {
	cases := []struct {
		text  string
		value int64
	}{
		{"", 0}, {"0", 0}, {"00", 0}, {"7", 7}, {"9", 9}, {"007", 7}, {"10", 10}, {"010", 10}, {"1234567", 1234567},
		{"9999998", 9999998}, {"9999999", 9999999}, {"09999999", 9999999}, {"0009999998", 9999998},
	}
	for _, c := range cases {
		checkNumber(t, c.text, impl.IntResult{Value: c.value})
	}
	if got := impl.NumberOf(nil); got != (impl.IntResult{}) {
		t.Errorf("NumberOf(nil) = %+v", got)
	}
	checkNumber(t, strings.Repeat("0", 10000), impl.IntResult{})
	checkNumber(t, strings.Repeat("0", 10000)+"42", impl.IntResult{Value: 42})
}

func TestP3NumberSaturates(t *testing.T) {
	most := impl.IntResult{Value: impl.MaxNumber}
	cases := []string{
		"10000000", "10000001", "99999990", "99999999", "2147483648", "4294967296", "4294967297",
		"9223372036854775807", "9223372036854775808", "18446744073709551616", "18446744073709551617", "100000000000000000000",
		// The digits behind the saturation are zeros or a small number.
		"1" + strings.Repeat("0", 64), "9999999" + strings.Repeat("0", 64) + "1", "00010000000",
	}
	for _, text := range cases {
		checkNumber(t, text, most)
	}
	for size := 8; size <= 200; size++ {
		for _, digit := range []string{"1", "5", "8", "9"} {
			checkNumber(t, strings.Repeat(digit, size), most)
		}
	}
	checkNumber(t, strings.Repeat("9", 100000), most)
}

func TestP3NumberIsTheValueOfItsDigits(t *testing.T) {
	seed := uint64(1)
	for range 20000 {
		text := ""
		for range next(&seed, 24) {
			text += string(rune('0' + next(&seed, 10)))
		}
		value, _ := new(big.Int).SetString("0"+text, 10)
		if value.Cmp(big.NewInt(9999999)) > 0 {
			value.SetInt64(9999999)
		}
		checkNumber(t, text, impl.IntResult{Value: value.Int64()})
	}
}

// next returns a number below n; the same seed yields the same numbers.
func next(seed *uint64, n int) int {
	*seed = *seed*6364136223846793005 + 1442695040888963407
	return int(*seed >> 33 % uint64(n))
}

func TestNumberOfOtherBytes(t *testing.T) {
	long := strings.Repeat("9", 1000)
	for b := range 256 {
		if b >= '0' && b <= '9' {
			continue
		}
		text := string([]byte{byte(b)})
		for _, data := range []string{text, text + "1", "1" + text, "1" + text + "2", "0" + text, text + text, long + text, text + long, long + text + long} {
			checkNumber(t, data, impl.IntResult{Code: impl.ErrText})
		}
	}
	for _, data := range []string{"-1", "+1", " 1", "1 ", "1_0", "0x1", "1.0", "1e3", "\u0661", "1;2"} {
		checkNumber(t, data, impl.IntResult{Code: impl.ErrText})
	}
}

func TestPartsOfExamples(t *testing.T) {
	cases := []struct {
		data    string
		private bool
		numbers []int64
		final   byte
		size    int64
	}{
		{"1;5A", false, []int64{1, 5}, 'A', 4},
		{"1;5A!", false, []int64{1, 5}, 'A', 4},
		{"200~", false, []int64{200}, '~', 4},
		{"<0;3;4m", true, []int64{0, 3, 4}, 'm', 7},
		{"<0;3;4M\x1b[A", true, []int64{0, 3, 4}, 'M', 7},
		// Neither digits nor semicolons.
		{"A", false, nil, 'A', 1},
		{"@", false, nil, '@', 1},
		{"~", false, nil, '~', 1},
		{"AB", false, nil, 'A', 1},
		{"[A", false, nil, '[', 1},
		{"<A", true, nil, 'A', 2},
		{"<~1", true, nil, '~', 2},
		// Parameters without digits.
		{";H", false, []int64{0, 0}, 'H', 2},
		{"1;A", false, []int64{1, 0}, 'A', 3},
		{";1A", false, []int64{0, 1}, 'A', 3},
		{";;m", false, []int64{0, 0, 0}, 'm', 3},
		{"1;;3m", false, []int64{1, 0, 3}, 'm', 5},
		{"<;M", true, []int64{0, 0}, 'M', 3},
		{";;;m", false, []int64{0, 0, 0, 0}, 'm', 4},
		{"<;;;m", true, []int64{0, 0, 0, 0}, 'm', 5},
		// As many as there may be.
		{"1;2;3;4x", false, []int64{1, 2, 3, 4}, 'x', 8},
		{"<1;2;3;4x", true, []int64{1, 2, 3, 4}, 'x', 9},
		{"1;2;3;x", false, []int64{1, 2, 3, 0}, 'x', 7},
		// Leading zeros, and numbers that are too great.
		{"0A", false, []int64{0}, 'A', 2},
		{"007;0002A", false, []int64{7, 2}, 'A', 9},
		{"9999999;10000000;99999999999999999999;1A", false, []int64{9999999, 9999999, 9999999, 1}, 'A', 40},
	}
	for _, c := range cases {
		checkParts(t, c.data, impl.PartsResult{Private: c.private, Numbers: c.numbers, Final: c.final, Size: c.size})
	}
}

func TestP3PartsSaturateInLongSequences(t *testing.T) {
	long := strings.Repeat("9", 5000)
	checkParts(t, long+"A", impl.PartsResult{Numbers: []int64{9999999}, Final: 'A', Size: 5001})
	checkParts(t, "<"+long+";5;"+long+"m", impl.PartsResult{Private: true, Numbers: []int64{9999999, 5, 9999999}, Final: 'm', Size: 10005})
}

func TestPartsOfTooManyPieces(t *testing.T) {
	cases := []string{"1;2;3;4;5x", ";;;;x", "1;2;3;4;x", ";2;3;4;5x", "<1;2;3;4;5m", "<;;;;m", "1;2;3;4;5;6~", "1;2;3;4;5@", "1;2;3;4;5~"}
	for _, data := range cases {
		many := impl.PartsResult{Code: impl.ErrMany, Size: int64(len(data))}
		for _, tail := range []string{"", "x", " ", "\x7f", ";1A", strings.Repeat("A", 100)} {
			checkParts(t, data+tail, many)
		}
		// As long as the final byte is missing, there may be too many as well.
		for size := range len(data) {
			checkParts(t, data[:size], impl.PartsResult{Code: impl.ErrFull})
		}
		// The byte that is not allowed comes first, and no final byte is present.
		body := data[:len(data)-1]
		checkParts(t, body+" x", impl.PartsResult{Code: impl.ErrText, Size: int64(len(data))})
	}
	long := strings.Repeat(";", 1000)
	checkParts(t, long+"x", impl.PartsResult{Code: impl.ErrMany, Size: 1001})
	checkParts(t, long, impl.PartsResult{Code: impl.ErrFull})
	checkParts(t, long+"\x80", impl.PartsResult{Code: impl.ErrText, Size: 1001})
}

func TestPartsOfBytesNotAllowed(t *testing.T) {
	fronts := []string{"", "1", ";", "1;", "12;3", "1;2;3;4", "1;2;3;4;5", "<", "<1", "<;", "<0;3;4", strings.Repeat("9", 300)}
	for b := range 256 {
		allowed := b >= 48 && b <= 57 || b == 59 || b >= 64 && b <= 126
		for _, front := range fronts {
			if allowed || b == '<' && front == "" {
				continue
			}
			data := front + string([]byte{byte(b)})
			want := impl.PartsResult{Code: impl.ErrText, Size: int64(len(data))}
			for _, tail := range []string{"", "A", "1;2A", " ", "<"} {
				checkParts(t, data+tail, want)
			}
		}
	}
	checkParts(t, "1 A", impl.PartsResult{Code: impl.ErrText, Size: 2})
	checkParts(t, "<<A", impl.PartsResult{Code: impl.ErrText, Size: 2})
	checkParts(t, "1<A", impl.PartsResult{Code: impl.ErrText, Size: 2})
	checkParts(t, "1;-1A", impl.PartsResult{Code: impl.ErrText, Size: 3})
}

func TestPartsOfIncomplete(t *testing.T) {
	full := impl.PartsResult{Code: impl.ErrFull}
	if got := impl.PartsOf(nil); !sameParts(got, full) {
		t.Errorf("PartsOf(nil) = %+v", got)
	}
	for _, data := range []string{"", "<", ";", "1", "1;", "1;5", "<0;3;4", "<;", ";;;", "<1;2;3;4;5", strings.Repeat("1", 1000)} {
		checkParts(t, data, full)
	}
}

var validSequence = regexp.MustCompile(`^(<?)([0-9;]*)([@-~])`)
var beginning = regexp.MustCompile(`^<?[0-9;]*$`)
var allowedBytes = regexp.MustCompile(`^<?[0-9;]*`)

// expectedParts follows the text of the chapter with patterns; its numbers are too short to saturate.
func expectedParts(data string) impl.PartsResult {
	if beginning.MatchString(data) {
		return impl.PartsResult{Code: impl.ErrFull}
	}
	found := validSequence.FindStringSubmatch(data)
	if found == nil {
		return impl.PartsResult{Code: impl.ErrText, Size: int64(len(allowedBytes.FindString(data)) + 1)}
	}
	size := int64(len(found[0]))
	var numbers []int64
	if found[2] != "" {
		for _, piece := range strings.Split(found[2], ";") {
			value, _ := new(big.Int).SetString("0"+piece, 10)
			numbers = append(numbers, value.Int64())
		}
	}
	if len(numbers) > 4 {
		return impl.PartsResult{Code: impl.ErrMany, Size: size}
	}
	return impl.PartsResult{Private: found[1] == "<", Numbers: numbers, Final: found[3][0], Size: size}
}

func TestPartsOfShortSequences(t *testing.T) {
	alphabet := "<0;9A~ \xff"
	level := []string{""}
	for range 6 {
		var longer []string
		for _, data := range level {
			checkParts(t, data, expectedParts(data))
			for i := range len(alphabet) {
				longer = append(longer, data+alphabet[i:i+1])
			}
		}
		level = longer
	}
	for _, data := range level {
		checkParts(t, data, expectedParts(data))
	}
}

var tails = []string{"", "A", "~", "0", "9", ";", "1;2A", "<", " ", "\x1b[A", "\x00", "\x7f", "\xff", strings.Repeat("5;", 200)}

var numberLists = [][]int64{
	nil, {}, {0}, {1}, {5}, {10}, {200}, {impl.MaxNumber - 1}, {impl.MaxNumber},
	{0, 0}, {1, 5}, {impl.MaxNumber, 0}, {0, impl.MaxNumber},
	{0, 3, 4}, {35, 200, 200}, {0, 0, 0}, {1, 2, 3, 4}, {0, 0, 0, 0},
	{impl.MaxNumber, impl.MaxNumber, impl.MaxNumber, impl.MaxNumber},
}

func checkReadBack(t *testing.T, private bool, numbers []int64, final byte, tail string) {
	t.Helper()
	put := impl.PartsBytes(private, numbers, final)
	if put.Code != impl.OK {
		t.Fatalf("PartsBytes(%v, %v, %d) = %+v", private, numbers, final, put)
	}
	size := len(put.Bytes)
	checkParts(t, string(put.Bytes)+tail, impl.PartsResult{Private: private, Numbers: numbers, Final: final, Size: int64(size)})
	if tail == "" {
		for n := range size {
			checkParts(t, string(put.Bytes[:n]), impl.PartsResult{Code: impl.ErrFull})
		}
	}
}

func TestP3EncodingIsReadBack(t *testing.T) {
	for _, numbers := range numberLists {
		for _, final := range []byte{64, 'A', 'M', '[', 'm', 'u', 125, 126} {
			for _, tail := range tails {
				checkReadBack(t, false, numbers, final, tail)
				checkReadBack(t, true, numbers, final, tail)
			}
		}
	}
	for final := byte(64); final <= 126; final++ {
		checkReadBack(t, false, []int64{1, 5}, final, "")
		checkReadBack(t, true, nil, final, "Z")
	}
	for n := int64(0); n <= impl.MaxNumber; n += 997 {
		checkReadBack(t, n%2 == 0, []int64{n, impl.MaxNumber - n}, 'A', ";")
	}
	for follow := range 256 {
		checkReadBack(t, true, []int64{0, 3, 4}, 'm', string([]byte{byte(follow)}))
	}
}

func TestPartsBytesText(t *testing.T) {
	checkPut(t, false, nil, 'A', 0, "A")
	checkPut(t, false, []int64{}, 'A', 0, "A")
	checkPut(t, true, nil, 'A', 0, "<A")
	checkPut(t, false, []int64{0}, 'A', 0, "0A")
	checkPut(t, false, []int64{1, 5}, 'A', 0, "1;5A")
	checkPut(t, false, []int64{200}, '~', 0, "200~")
	checkPut(t, true, []int64{0, 3}, 'M', 0, "<0;3M")
	checkPut(t, true, []int64{0, 3, 4}, 'm', 0, "<0;3;4m")
	checkPut(t, false, []int64{1, 20, 300, 4000}, 64, 0, "1;20;300;4000@")
	checkPut(t, false, []int64{0, 0, 0, 0}, 126, 0, "0;0;0;0~")
	checkPut(t, true, []int64{9999999, 9999998, 1000000, 9999999}, 'x', 0, "<9999999;9999998;1000000;9999999x")
}

func TestPartsBytesFinal(t *testing.T) {
	for b := range 256 {
		if b >= 64 && b <= 126 {
			checkPut(t, false, nil, byte(b), 0, string([]byte{byte(b)}))
			continue
		}
		checkPut(t, false, nil, byte(b), impl.ErrRange, "")
		checkPut(t, true, []int64{1, 2}, byte(b), impl.ErrRange, "")
	}
}

func TestPartsBytesNumbers(t *testing.T) {
	wrong := []int64{-1, impl.MaxNumber + 1, 1 << 32, 1<<32 + 5, -1<<32 + 5, math.MaxInt32, math.MinInt64, math.MaxInt64}
	for _, n := range wrong {
		for size := 1; size <= 4; size++ {
			for at := range size {
				numbers := make([]int64, size)
				numbers[at] = n
				checkPut(t, false, numbers, 'A', impl.ErrRange, "")
				checkPut(t, true, numbers, 'm', impl.ErrRange, "")
			}
		}
	}
}

func TestPartsBytesTooManyNumbers(t *testing.T) {
	checkPut(t, false, []int64{1, 2, 3, 4, 5}, 'A', impl.ErrMany, "")
	checkPut(t, true, []int64{0, 0, 0, 0, 0}, 'm', impl.ErrMany, "")
	checkPut(t, false, make([]int64, 6), 64, impl.ErrMany, "")
	checkPut(t, false, make([]int64, 1000), 126, impl.ErrMany, "")
}

func TestPartsBytesOrder(t *testing.T) {
	checkPut(t, false, []int64{1, 2, 3, 4, 5}, 63, impl.ErrRange, "")
	checkPut(t, true, []int64{1, 2, 3, 4, 5}, 127, impl.ErrRange, "")
	for at := range 6 {
		for _, n := range []int64{-1, impl.MaxNumber + 1, math.MinInt64, math.MaxInt64} {
			numbers := make([]int64, 6)
			numbers[at] = n
			checkPut(t, false, numbers, 'A', impl.ErrRange, "")
			checkPut(t, false, numbers, 0, impl.ErrRange, "")
		}
	}
}

func TestP1PartsArgumentsStay(t *testing.T) {
	for _, start := range []string{"", "1;5A", "<0;3;4m", ";;m", "1;2;3;4;5x", "1 A", "<<", "1;5", "9999999999A", "007"} {
		room := []byte(start + "12;3A9")
		before := bytes.Clone(room)
		data := room[:len(start)]
		parts, number := impl.PartsOf(data), impl.NumberOf(data)
		if !bytes.Equal(room, before) {
			t.Errorf("the argument %q became %q", before, room)
		}
		if again := impl.PartsOf([]byte(start)); !sameParts(again, parts) {
			t.Errorf("PartsOf(%q) = %+v, then %+v", start, parts, again)
		}
		if again := impl.NumberOf([]byte(start)); again != number {
			t.Errorf("NumberOf(%q) = %+v, then %+v", start, number, again)
		}
	}
	for _, numbers := range [][]int64{{}, {1}, {3, 2, 1}, {1, 2, 3, 4}, {1, 2, 3, 4, 5}, {-1, 2}, {7, impl.MaxNumber + 1}} {
		room := append(slices.Clone(numbers), 11, 12, 13)
		before := slices.Clone(room)
		impl.PartsBytes(true, room[:len(numbers)], 'A')
		impl.PartsBytes(false, room[:len(numbers)], 0)
		if !slices.Equal(room, before) {
			t.Errorf("the numbers %v became %v", before, room)
		}
	}
}

func TestP1PartsResultsAreNew(t *testing.T) {
	data := []byte("<1;2;3;4m")
	first, second := impl.PartsOf(data), impl.PartsOf(data)
	spoil(data)
	for i := range first.Numbers[:cap(first.Numbers)] {
		first.Numbers[:cap(first.Numbers)][i] = -1
	}
	if !slices.Equal(second.Numbers, []int64{1, 2, 3, 4}) {
		t.Errorf("the numbers share memory: %v", second.Numbers)
	}
	checkParts(t, "<1;2;3;4m", impl.PartsResult{Private: true, Numbers: []int64{1, 2, 3, 4}, Final: 'm', Size: 9})
	for _, list := range [][]int64{nil, {0}, {1, 2, 3, 4}} {
		want := string(impl.PartsBytes(true, list, 'A').Bytes)
		one, two := impl.PartsBytes(true, list, 'A'), impl.PartsBytes(true, list, 'A')
		spoil(one.Bytes)
		if string(two.Bytes) != want {
			t.Errorf("the bytes share memory: %q, want %q", two.Bytes, want)
		}
		checkPut(t, true, list, 'A', 0, want)
	}
}
