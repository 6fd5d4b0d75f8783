package tests

import (
	"math"
	"strings"
	"testing"

	"loop.example/g00804/impl"
)

func keyOf(code int64, mods int64, size int64) impl.TokenResult {
	return impl.TokenResult{Token: impl.Token{Event: impl.Event{Kind: impl.EvKey, Code: code, Mods: mods}, Size: size}}
}

func rawOf(data string) impl.TokenResult {
	return impl.TokenResult{Token: impl.Token{Event: impl.Event{Kind: impl.EvRaw, Data: []byte(data)}, Size: int64(len(data))}}
}

func pasteOf(data string) impl.TokenResult {
	return impl.TokenResult{Token: impl.Token{Event: impl.Event{Kind: impl.EvPaste, Data: []byte(data)}, Size: int64(len(data)), Paste: true}}
}

func codeOf(code int64) impl.TokenResult {
	return impl.TokenResult{Code: code}
}

func withSize(r impl.TokenResult, size int64) impl.TokenResult {
	r.Token.Size = size
	return r
}

func sameToken(a impl.TokenResult, b impl.TokenResult) bool {
	return a.Code == b.Code && a.Token.Size == b.Token.Size && a.Token.Paste == b.Token.Paste && a.Token.None == b.Token.None &&
		unchanged([]impl.Event{a.Token.Event}, []impl.Event{b.Token.Event})
}

func checkKeyParts(t *testing.T, p impl.PartsResult, want impl.TokenResult) {
	t.Helper()
	if got := impl.KeyOfParts(p); !sameToken(got, want) {
		t.Errorf("KeyOfParts(%+v) = %+v, want %+v", p, got, want)
	}
}

func checkMouseParts(t *testing.T, p impl.PartsResult, want impl.TokenResult) {
	t.Helper()
	if got := impl.MouseOfParts(p); !sameToken(got, want) {
		t.Errorf("MouseOfParts(%+v) = %+v, want %+v", p, got, want)
	}
}

func TestConstantOfTokens(t *testing.T) {
	if impl.Escape != 27 {
		t.Errorf("Escape %d", impl.Escape)
	}
}

func expectedKey(b byte) impl.TokenResult {
	special := map[byte]int64{9: impl.KeyTab, 13: impl.KeyEnter, 27: impl.KeyEscape, 127: impl.KeyBack}
	if code, found := special[b]; found {
		return keyOf(code, 0, 1)
	}
	if at := strings.IndexByte("\x00\x01\x02\x03\x04\x05\x06\x07\x08\x09\x0a\x0b\x0c\x0d\x0e\x0f\x10\x11\x12\x13\x14\x15\x16\x17\x18\x19\x1a", b); at >= 0 {
		return keyOf(int64(" abcdefghijklmnopqrstuvwxyz"[at]), impl.ModCtrl, 1)
	}
	if b >= 32 && b <= 126 {
		return keyOf(int64(b), 0, 1)
	}
	return codeOf(impl.ErrText)
}

func TestKeyOfEveryByte(t *testing.T) {
	for n := range 256 {
		if got, want := impl.KeyOfByte(byte(n)), expectedKey(byte(n)); !sameToken(got, want) {
			t.Errorf("KeyOfByte(%d) = %+v, want %+v", n, got, want)
		}
	}
}

func TestKeyOfListedBytes(t *testing.T) {
	cases := []struct {
		b    byte
		want impl.TokenResult
	}{
		{9, keyOf(impl.KeyTab, 0, 1)}, {13, keyOf(impl.KeyEnter, 0, 1)}, {27, keyOf(impl.KeyEscape, 0, 1)}, {127, keyOf(impl.KeyBack, 0, 1)},
		{0, keyOf(32, impl.ModCtrl, 1)}, {1, keyOf(97, impl.ModCtrl, 1)}, {8, keyOf(104, impl.ModCtrl, 1)}, {10, keyOf(106, impl.ModCtrl, 1)},
		{12, keyOf(108, impl.ModCtrl, 1)}, {14, keyOf(110, impl.ModCtrl, 1)}, {26, keyOf(122, impl.ModCtrl, 1)},
		{32, keyOf(32, 0, 1)}, {65, keyOf(65, 0, 1)}, {97, keyOf(97, 0, 1)}, {126, keyOf(126, 0, 1)},
		{28, codeOf(impl.ErrText)}, {29, codeOf(impl.ErrText)}, {30, codeOf(impl.ErrText)}, {31, codeOf(impl.ErrText)},
		{128, codeOf(impl.ErrText)}, {155, codeOf(impl.ErrText)}, {195, codeOf(impl.ErrText)}, {255, codeOf(impl.ErrText)},
	}
	for _, c := range cases {
		if got := impl.KeyOfByte(c.b); !sameToken(got, c.want) {
			t.Errorf("KeyOfByte(%d) = %+v, want %+v", c.b, got, c.want)
		}
	}
}

func letterKeys() map[byte]int64 {
	return map[byte]int64{'A': impl.KeyUp, 'B': impl.KeyDown, 'C': impl.KeyRight, 'D': impl.KeyLeft, 'H': impl.KeyHome, 'F': impl.KeyEnd}
}

func numberKeys() map[int64]int64 {
	return map[int64]int64{1: impl.KeyHome, 2: impl.KeyInsert, 3: impl.KeyDelete, 4: impl.KeyEnd, 5: impl.KeyPageUp, 6: impl.KeyPageDown}
}

// expectedKeyParts follows the text of the chapter for valid modifiers and no private sequence.
func expectedKeyParts(p impl.PartsResult) impl.TokenResult {
	count, mods, first := len(p.Numbers), int64(0), int64(-1)
	if count > 0 {
		first = p.Numbers[0]
	}
	if count > 1 {
		mods = p.Numbers[1] - 1
	}
	if code, found := letterKeys()[p.Final]; found && (count == 0 || count == 2 && first == 1) {
		return keyOf(code, mods, p.Size)
	}
	if code, found := numberKeys()[first]; found && p.Final == '~' && count <= 2 {
		return keyOf(code, mods, p.Size)
	}
	if p.Final == 'u' && (count == 1 || count == 2) {
		if first == 13 || first == 9 || first == 127 || first == 27 {
			return keyOf(impl.KeyOfByte(byte(first)).Token.Event.Code, mods, p.Size)
		}
		if isPoint(first) && first >= 32 {
			return keyOf(first, mods, p.Size)
		}
	}
	return codeOf(impl.ErrText)
}

func TestKeyOfPartsEveryFinal(t *testing.T) {
	lists := [][]int64{nil, {}, {0}, {1}, {2}, {3}, {4}, {5}, {6}, {7}, {13}, {97}, {200}, {1, 1}, {1, 5}, {1, 8}, {0, 1}, {2, 1}, {3, 5}, {7, 1}, {97, 5}}
	for final := range 256 {
		for i, numbers := range lists {
			p := impl.PartsResult{Numbers: numbers, Final: byte(final), Size: int64(i + 1)}
			checkKeyParts(t, p, expectedKeyParts(p))
		}
		for _, numbers := range [][]int64{{1, 5, 5}, {1, 1, 1}, {1, 5, 0}, {97, 5, 1}, {3, 2, 1}, {1, 2, 3, 4}, {1, 1, 1, 1, 1}} {
			checkKeyParts(t, impl.PartsResult{Numbers: numbers, Final: byte(final), Size: 7}, codeOf(impl.ErrText))
		}
	}
}

func TestKeyOfPartsLetters(t *testing.T) {
	for letter, code := range letterKeys() {
		checkKeyParts(t, impl.PartsResult{Final: letter, Size: 1}, keyOf(code, 0, 1))
		for mods := int64(0); mods <= 7; mods++ {
			checkKeyParts(t, impl.PartsResult{Numbers: []int64{1, mods + 1}, Final: letter, Size: 4}, keyOf(code, mods, 4))
		}
		for _, numbers := range [][]int64{{0}, {1}, {5}, {0, 1}, {2, 5}, {-1, 1}, {1 << 32, 1}, {1<<32 + 1, 1}, {5, 1}, {1, 1, 1}} {
			checkKeyParts(t, impl.PartsResult{Numbers: numbers, Final: letter, Size: 4}, codeOf(impl.ErrText))
		}
	}
}

func TestKeyOfPartsNumbers(t *testing.T) {
	for number, code := range numberKeys() {
		checkKeyParts(t, impl.PartsResult{Numbers: []int64{number}, Final: '~', Size: 2}, keyOf(code, 0, 2))
		for mods := int64(0); mods <= 7; mods++ {
			checkKeyParts(t, impl.PartsResult{Numbers: []int64{number, mods + 1}, Final: '~', Size: 4}, keyOf(code, mods, 4))
		}
		checkKeyParts(t, impl.PartsResult{Numbers: []int64{number, 1, 1}, Final: '~', Size: 6}, codeOf(impl.ErrText))
	}
	for _, number := range []int64{0, 7, 8, 15, 200, 201, -1, -5, 1<<32 + 3, impl.MaxNumber, math.MaxInt64, math.MinInt64} {
		checkKeyParts(t, impl.PartsResult{Numbers: []int64{number}, Final: '~', Size: 2}, codeOf(impl.ErrText))
		checkKeyParts(t, impl.PartsResult{Numbers: []int64{number, 1}, Final: '~', Size: 2}, codeOf(impl.ErrText))
	}
	checkKeyParts(t, impl.PartsResult{Final: '~', Size: 1}, codeOf(impl.ErrText))
}

func TestKeyOfPartsModifiers(t *testing.T) {
	for _, last := range []int64{0, 9, 10, 16, -1, -7, 1<<32 + 1, 257, impl.MaxNumber, math.MaxInt64, math.MinInt64} {
		for _, p := range []impl.PartsResult{{Numbers: []int64{1, last}, Final: 'A'}, {Numbers: []int64{3, last}, Final: '~'}, {Numbers: []int64{97, last}, Final: 'u'}, {Numbers: []int64{13, last}, Final: 'u'}} {
			checkKeyParts(t, p, codeOf(impl.ErrText))
		}
	}
}

func TestKeyOfPartsCodes(t *testing.T) {
	codes := map[int64]int64{13: impl.KeyEnter, 9: impl.KeyTab, 127: impl.KeyBack, 27: impl.KeyEscape}
	for _, point := range []int64{32, 65, 97, 126, 128, 159, 160, 233, 8364, 55295, 57344, 65535, 65536, 1114111} {
		codes[point] = point
	}
	for number, code := range codes {
		checkKeyParts(t, impl.PartsResult{Numbers: []int64{number}, Final: 'u', Size: 3}, keyOf(code, 0, 3))
		for mods := int64(0); mods <= 7; mods++ {
			checkKeyParts(t, impl.PartsResult{Numbers: []int64{number, mods + 1}, Final: 'u', Size: 5}, keyOf(code, mods, 5))
		}
		checkKeyParts(t, impl.PartsResult{Numbers: []int64{number, 1, 1}, Final: 'u', Size: 7}, codeOf(impl.ErrText))
	}
	wrong := []int64{55296, 56000, 57343, 1114112, 2000001, impl.MaxNumber, -1, -97, -243, 1<<32 + 97, 1<<32 + 13, math.MaxInt64, math.MinInt64}
	for number := range int64(32) {
		if codes[number] == 0 {
			wrong = append(wrong, number)
		}
	}
	for _, number := range wrong {
		checkKeyParts(t, impl.PartsResult{Numbers: []int64{number}, Final: 'u', Size: 3}, codeOf(impl.ErrText))
		checkKeyParts(t, impl.PartsResult{Numbers: []int64{number, 5}, Final: 'u', Size: 5}, codeOf(impl.ErrText))
	}
	// The remainder by 256 is not what counts.
	checkKeyParts(t, impl.PartsResult{Numbers: []int64{256 + 13}, Final: 'u', Size: 4}, keyOf(269, 0, 4))
	checkKeyParts(t, impl.PartsResult{Final: 'u', Size: 1}, codeOf(impl.ErrText))
}

func TestKeyOfPartsPrivate(t *testing.T) {
	for _, p := range []impl.PartsResult{{Final: 'A', Size: 2}, {Numbers: []int64{1, 5}, Final: 'A', Size: 5}, {Numbers: []int64{3}, Final: '~', Size: 3}, {Numbers: []int64{97, 5}, Final: 'u', Size: 6}} {
		if impl.KeyOfParts(p).Code != impl.OK {
			t.Errorf("KeyOfParts(%+v) = %+v", p, impl.KeyOfParts(p))
		}
		p.Private = true
		checkKeyParts(t, p, codeOf(impl.ErrText))
	}
}

func TestPartsWithACode(t *testing.T) {
	for _, data := range []string{"", "1;5", "1 A", "1;2;3;4;5A", "<0;1;1", "<0;1 1M", "<0;1;1;1;1M"} {
		p := impl.PartsOf([]byte(data))
		checkKeyParts(t, p, codeOf(impl.ErrText))
		checkMouseParts(t, p, codeOf(impl.ErrText))
	}
	for _, code := range []int64{impl.ErrForm, impl.ErrMany, impl.ErrText, impl.ErrFull, -1, 99} {
		checkKeyParts(t, impl.PartsResult{Code: code, Final: 'A', Size: 1}, codeOf(impl.ErrText))
		checkMouseParts(t, impl.PartsResult{Code: code, Private: true, Numbers: []int64{0, 1, 1}, Final: 'M', Size: 7}, codeOf(impl.ErrText))
	}
}

func mouseParts(final byte, numbers ...int64) impl.PartsResult {
	return impl.PartsResult{Private: true, Numbers: numbers, Final: final, Size: 9}
}

func mouseOf(button int64, act int64, mods int64, col int64, row int64) impl.TokenResult {
	e := impl.Event{Kind: impl.EvMouse, Button: button, Act: act, Mods: mods, Col: col, Row: row}
	return impl.TokenResult{Token: impl.Token{Event: e, Size: 9}}
}

func TestMouseOfPartsExamples(t *testing.T) {
	checkMouseParts(t, mouseParts('M', 0, 5, 3), mouseOf(0, impl.MousePress, 0, 4, 2))
	checkMouseParts(t, mouseParts('m', 0, 5, 3), mouseOf(0, impl.MouseRelease, 0, 4, 2))
	checkMouseParts(t, mouseParts('M', 32, 5, 3), mouseOf(0, impl.MouseDrag, 0, 4, 2))
	checkMouseParts(t, mouseParts('M', 36, 5, 3), mouseOf(0, impl.MouseDrag, impl.ModShift, 4, 2))
	checkMouseParts(t, mouseParts('M', 5, 1, 1), mouseOf(1, impl.MousePress, impl.ModShift, 0, 0))
	checkMouseParts(t, mouseParts('M', 10, 1, 1), mouseOf(2, impl.MousePress, impl.ModAlt, 0, 0))
	checkMouseParts(t, mouseParts('m', 16, 1, 1), mouseOf(0, impl.MouseRelease, impl.ModCtrl, 0, 0))
	checkMouseParts(t, mouseParts('M', 62, 200, 200), mouseOf(2, impl.MouseDrag, 7, 199, 199))
	checkMouseParts(t, mouseParts('m', 30, 200, 1), mouseOf(2, impl.MouseRelease, 7, 199, 0))
}

func TestMouseOfPartsEverySum(t *testing.T) {
	valid := map[int64]bool{}
	for button := range int64(3) {
		for mods := range int64(8) {
			number := button
			for bit, value := range map[int64]int64{impl.ModShift: 4, impl.ModAlt: 8, impl.ModCtrl: 16} {
				if mods&bit != 0 {
					number += value
				}
			}
			valid[number] = true
			checkMouseParts(t, mouseParts('M', number, 7, 9), mouseOf(button, impl.MousePress, mods, 6, 8))
			checkMouseParts(t, mouseParts('m', number, 7, 9), mouseOf(button, impl.MouseRelease, mods, 6, 8))
			checkMouseParts(t, mouseParts('M', number+32, 7, 9), mouseOf(button, impl.MouseDrag, mods, 6, 8))
			checkMouseParts(t, mouseParts('m', number+32, 7, 9), codeOf(impl.ErrText))
		}
	}
	for number := int64(-70); number <= 300; number++ {
		if !valid[number] {
			checkMouseParts(t, mouseParts('m', number, 7, 9), codeOf(impl.ErrText))
		}
		if !valid[number] && !valid[number-32] {
			checkMouseParts(t, mouseParts('M', number, 7, 9), codeOf(impl.ErrText))
		}
	}
	for _, number := range []int64{1 << 32, impl.MaxNumber, math.MaxInt64, math.MinInt64} {
		checkMouseParts(t, mouseParts('M', number, 7, 9), codeOf(impl.ErrText))
		checkMouseParts(t, mouseParts('m', number, 7, 9), codeOf(impl.ErrText))
	}
}

func TestMouseOfPartsCells(t *testing.T) {
	for _, cell := range []int64{1, 2, 100, 199, 200} {
		checkMouseParts(t, mouseParts('M', 0, cell, 50), mouseOf(0, impl.MousePress, 0, cell-1, 49))
		checkMouseParts(t, mouseParts('m', 0, 50, cell), mouseOf(0, impl.MouseRelease, 0, 49, cell-1))
		checkMouseParts(t, mouseParts('M', 32, cell, cell), mouseOf(0, impl.MouseDrag, 0, cell-1, cell-1))
	}
	for _, cell := range []int64{0, 201, 256, -1, 1<<32 + 1, impl.MaxNumber, math.MaxInt64, math.MinInt64} {
		for _, final := range []byte{'M', 'm'} {
			checkMouseParts(t, mouseParts(final, 0, cell, 50), codeOf(impl.ErrText))
			checkMouseParts(t, mouseParts(final, 0, 50, cell), codeOf(impl.ErrText))
			checkMouseParts(t, mouseParts(final, 0, cell, cell), codeOf(impl.ErrText))
		}
	}
}

func TestMouseOfPartsForm(t *testing.T) {
	for final := range 256 {
		p := mouseParts(byte(final), 0, 1, 1)
		if final != 'M' && final != 'm' {
			checkMouseParts(t, p, codeOf(impl.ErrText))
		}
		p.Private = false
		checkMouseParts(t, p, codeOf(impl.ErrText))
	}
	for _, numbers := range [][]int64{nil, {}, {0}, {1, 1}, {0, 1}, {0, 1, 1, 1}, {0, 1, 1, 0}, {0, 0, 1, 1}, {0, 1, 1, 1, 1}} {
		checkMouseParts(t, mouseParts('M', numbers...), codeOf(impl.ErrText))
		checkMouseParts(t, mouseParts('m', numbers...), codeOf(impl.ErrText))
	}
}

func TestSizeIsThatOfTheParts(t *testing.T) {
	for _, size := range []int64{0, 1, 9, 22, 1000, -1, math.MaxInt64, math.MinInt64} {
		checkKeyParts(t, impl.PartsResult{Final: 'A', Size: size}, keyOf(impl.KeyUp, 0, size))
		p := mouseParts('M', 0, 1, 1)
		p.Size = size
		checkMouseParts(t, p, withSize(mouseOf(0, impl.MousePress, 0, 0, 0), size))
	}
}
