package impl

import (
	"bytes"
	"slices"
	"unicode/utf8"
)

const OK = 0
const ErrForm = 1
const ErrMany = 2
const ErrRange = 3
const ErrNone = 4
const ErrText = 5
const ErrFull = 6
const ErrState = 7

const (
	EvKey = iota + 1
	EvMouse
	EvPaste
	EvRaw
)

const ModShift = 1
const ModAlt = 2
const ModCtrl = 4
const KeyEnter = 2000001
const KeyTab = 2000002
const KeyBack = 2000003
const KeyEscape = 2000004
const KeyUp = 2000005
const KeyDown = 2000006
const KeyRight = 2000007
const KeyLeft = 2000008
const KeyHome = 2000009
const KeyEnd = 2000010
const KeyInsert = 2000011
const KeyDelete = 2000012
const KeyPageUp = 2000013
const KeyPageDown = 2000014
const MousePress = 1
const MouseRelease = 2
const MouseDrag = 3
const MaxCell = 200
const MaxPaste = 32
const MaxPend = 24

const lastPoint = 1114111
const firstSurrogate = 55296
const lastSurrogate = 57343
const allMods = ModShift + ModAlt + ModCtrl

type Event struct {
	Kind   int64
	Code   int64
	Mods   int64
	Button int64
	Act    int64
	Col    int64
	Row    int64
	Data   []byte
}
type IntResult struct {
	Code  int64
	Value int64
}
type BytesResult struct {
	Code  int64
	Bytes []byte
}
type PointResult struct {
	Code  int64
	Point int64
	Size  int64
}

func PutPoint(point int64) BytesResult {
	// The conversion to rune drops the upper bits, so the range is checked first.
	if !isPoint(point) {
		return BytesResult{Code: ErrRange}
	}
	return BytesResult{Bytes: utf8.AppendRune(nil, rune(point))}
}

func FirstPoint(data []byte) PointResult {
	if len(data) == 0 {
		return PointResult{Code: ErrNone}
	}
	// FullRune also counts bytes that no encoding starts with as full.
	if !utf8.FullRune(data) {
		return PointResult{Code: ErrFull}
	}
	point, size := utf8.DecodeRune(data)
	// The replacement character itself has an encoding of three bytes.
	if point == utf8.RuneError && size == 1 {
		return PointResult{Code: ErrText}
	}
	return PointResult{Point: int64(point), Size: int64(size)}
}

func IsSpecial(code int64) bool {
	return isWithin(code, KeyEnter, KeyPageDown)
}

func EventFault(e Event) int64 {
	switch {
	case !hasForm(e):
		return ErrForm
	case !numbersFit(e):
		return ErrRange
	case !dataFits(e):
		return ErrMany
	}
	return OK
}

func SameEvents(a []Event, b []Event) bool {
	return slices.EqualFunc(a, b, sameEvent)
}

func SameBytes(a []byte, b []byte) bool {
	return bytes.Equal(a, b)
}

func isPoint(point int64) bool {
	return isWithin(point, 0, firstSurrogate-1, lastSurrogate+1, lastPoint)
}

func isKeyCode(code int64) bool {
	return IsSpecial(code) || isPoint(code) && code >= 32 && code != 127
}

// hasForm reports whether the kind exists and the fields that it does not use are zero.
func hasForm(e Event) bool {
	switch e.Kind {
	case EvKey:
		return areZero(e.Button, e.Act, e.Col, e.Row) && len(e.Data) == 0
	case EvMouse:
		return e.Code == 0 && len(e.Data) == 0
	case EvPaste, EvRaw:
		return areZero(e.Code, e.Mods, e.Button, e.Act, e.Col, e.Row)
	}
	return false
}

func numbersFit(e Event) bool {
	switch e.Kind {
	case EvKey:
		return isKeyCode(e.Code) && isWithin(e.Mods, 0, allMods)
	case EvMouse:
		return isWithin(e.Button, 0, 2) &&
			isWithin(e.Act, MousePress, MouseDrag) &&
			isWithin(e.Mods, 0, allMods) &&
			isWithin(e.Col, 0, MaxCell-1) &&
			isWithin(e.Row, 0, MaxCell-1)
	}
	return true
}

func dataFits(e Event) bool {
	switch e.Kind {
	case EvPaste:
		return isWithin(int64(len(e.Data)), 1, MaxPaste)
	case EvRaw:
		return isWithin(int64(len(e.Data)), 1, MaxPend)
	}
	return true
}

func sameEvent(a Event, b Event) bool {
	return a.Kind == b.Kind &&
		a.Code == b.Code &&
		a.Mods == b.Mods &&
		a.Button == b.Button &&
		a.Act == b.Act &&
		a.Col == b.Col &&
		a.Row == b.Row &&
		SameBytes(a.Data, b.Data)
}

// isWithin takes the bounds as pairs, each the first and the last number of a
// range, because some numbers are valid in several ranges.
func isWithin(value int64, bounds ...int64) bool {
	for i := 1; i < len(bounds); i += 2 {
		if bounds[i-1] <= value && value <= bounds[i] {
			return true
		}
	}
	return false
}

func areZero(values ...int64) bool {
	for _, v := range values {
		if v != 0 {
			return false
		}
	}
	return true
}
