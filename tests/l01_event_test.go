package tests

import (
	"math"
	"slices"
	"testing"

	"loop.example/g00804/impl"
)

func keyEvent() impl.Event {
	return impl.Event{Kind: impl.EvKey, Code: 97, Mods: impl.ModCtrl}
}

func mouseEvent() impl.Event {
	return impl.Event{Kind: impl.EvMouse, Mods: impl.ModAlt, Button: 1, Act: impl.MouseDrag, Col: 20, Row: 10}
}

func pasteEvent(size int) impl.Event {
	return impl.Event{Kind: impl.EvPaste, Data: make([]byte, size)}
}

func rawEvent(size int) impl.Event {
	return impl.Event{Kind: impl.EvRaw, Data: make([]byte, size)}
}

// fieldOf returns the number of an event that has this name.
func fieldOf(e *impl.Event, name string) *int64 {
	switch name {
	case "Kind":
		return &e.Kind
	case "Code":
		return &e.Code
	case "Mods":
		return &e.Mods
	case "Button":
		return &e.Button
	case "Act":
		return &e.Act
	case "Col":
		return &e.Col
	}
	return &e.Row
}

func with(e impl.Event, name string, value int64) impl.Event {
	*fieldOf(&e, name) = value
	return e
}

func withData(e impl.Event, data []byte) impl.Event {
	e.Data = data
	return e
}

func checkFault(t *testing.T, e impl.Event, want int64) {
	t.Helper()
	if got := impl.EventFault(e); got != want {
		t.Errorf("EventFault(%+v) = %d, want %d", e, got, want)
	}
}

func TestConstantsOfEvents(t *testing.T) {
	got := []int64{impl.OK, impl.ErrForm, impl.ErrMany, impl.ErrRange, impl.ErrNone, impl.ErrText, impl.ErrFull, impl.ErrState,
		impl.EvKey, impl.EvMouse, impl.EvPaste, impl.EvRaw, impl.ModShift, impl.ModAlt, impl.ModCtrl,
		impl.MousePress, impl.MouseRelease, impl.MouseDrag, impl.MaxCell, impl.MaxPaste, impl.MaxPend}
	want := []int64{0, 1, 2, 3, 4, 5, 6, 7, 1, 2, 3, 4, 1, 2, 4, 1, 2, 3, 200, 32, 24}
	if !slices.Equal(got, want) {
		t.Errorf("constants %v, want %v", got, want)
	}
}

func specialKeys() []int64 {
	return []int64{impl.KeyEnter, impl.KeyTab, impl.KeyBack, impl.KeyEscape, impl.KeyUp, impl.KeyDown, impl.KeyRight,
		impl.KeyLeft, impl.KeyHome, impl.KeyEnd, impl.KeyInsert, impl.KeyDelete, impl.KeyPageUp, impl.KeyPageDown}
}

func TestIsSpecial(t *testing.T) {
	for i, code := range specialKeys() {
		if code != 2000001+int64(i) || !impl.IsSpecial(code) {
			t.Errorf("special key %d has the code %d, IsSpecial %v", i, code, impl.IsSpecial(code))
		}
	}
	for _, code := range []int64{2000000, 2000015, 0, 9, 13, 65, 1114111, -1, -2000001, 1<<32 + 2000001, math.MinInt64, math.MaxInt64} {
		if impl.IsSpecial(code) {
			t.Errorf("IsSpecial(%d) is true", code)
		}
	}
}

func TestEventFaultValid(t *testing.T) {
	for mods := int64(0); mods <= 7; mods++ {
		checkFault(t, with(keyEvent(), "Mods", mods), 0)
		checkFault(t, with(mouseEvent(), "Mods", mods), 0)
	}
	for _, code := range append(specialKeys(), 32, 33, 126, 128, 159, 160, 55295, 57344, 65536, 1114111) {
		checkFault(t, with(keyEvent(), "Code", code), 0)
	}
	for button := int64(0); button <= 2; button++ {
		for _, act := range []int64{impl.MousePress, impl.MouseRelease, impl.MouseDrag} {
			checkFault(t, with(with(mouseEvent(), "Button", button), "Act", act), 0)
		}
	}
	for _, cell := range []int64{0, 1, 198, 199} {
		checkFault(t, with(mouseEvent(), "Col", cell), 0)
		checkFault(t, with(mouseEvent(), "Row", cell), 0)
	}
	checkFault(t, withData(keyEvent(), []byte{}), 0)
	checkFault(t, withData(mouseEvent(), []byte{}), 0)
}

func TestEventFaultKind(t *testing.T) {
	for _, e := range []impl.Event{{}, keyEvent(), mouseEvent(), pasteEvent(1), rawEvent(1)} {
		for _, kind := range []int64{0, 5, -1, 1<<32 + 1, math.MinInt64, math.MaxInt64} {
			checkFault(t, with(e, "Kind", kind), impl.ErrForm)
		}
	}
}

func TestEventFaultUnusedFields(t *testing.T) {
	cases := []struct {
		event  impl.Event
		unused []string
	}{
		{keyEvent(), []string{"Button", "Act", "Col", "Row"}},
		{mouseEvent(), []string{"Code"}},
		{pasteEvent(3), []string{"Code", "Mods", "Button", "Act", "Col", "Row"}},
		{rawEvent(3), []string{"Code", "Mods", "Button", "Act", "Col", "Row"}},
	}
	for _, c := range cases {
		checkFault(t, c.event, 0)
		for _, name := range c.unused {
			for _, value := range []int64{1, -1, 97, 1 << 32, math.MinInt64, math.MaxInt64} {
				checkFault(t, with(c.event, name, value), impl.ErrForm)
			}
		}
	}
	for _, data := range [][]byte{{0}, {1}, make([]byte, 100)} {
		checkFault(t, withData(keyEvent(), data), impl.ErrForm)
		checkFault(t, withData(mouseEvent(), data), impl.ErrForm)
	}
}

func TestEventFaultNumbers(t *testing.T) {
	cases := []struct {
		event  impl.Event
		name   string
		values []int64
	}{
		{keyEvent(), "Code", []int64{-1, 0, 9, 27, 31, 127, 55296, 56000, 57343, 1114112, 2000000, 2000015}},
		{keyEvent(), "Mods", []int64{-1, 8}},
		{mouseEvent(), "Mods", []int64{-1, 8}},
		{mouseEvent(), "Button", []int64{-1, 3}},
		{mouseEvent(), "Act", []int64{-1, 0, 4}},
		{mouseEvent(), "Col", []int64{-1, 200}},
		{mouseEvent(), "Row", []int64{-1, 200}},
	}
	for _, c := range cases {
		for _, value := range append(c.values, 1<<32+1, -1<<32+97, math.MinInt64, math.MaxInt64) {
			checkFault(t, with(c.event, c.name, value), impl.ErrRange)
		}
	}
}

func TestEventFaultData(t *testing.T) {
	checkFault(t, impl.Event{Kind: impl.EvPaste}, impl.ErrMany)
	checkFault(t, impl.Event{Kind: impl.EvRaw}, impl.ErrMany)
	for size := 0; size <= 300; size++ {
		checkFault(t, pasteEvent(size), manyUnless(size >= 1 && size <= 32))
		checkFault(t, rawEvent(size), manyUnless(size >= 1 && size <= 24))
	}
}

func manyUnless(fits bool) int64 {
	if fits {
		return 0
	}
	return impl.ErrMany
}

func TestEventFaultOrder(t *testing.T) {
	// A wrong form beside a number out of range.
	checkFault(t, with(with(keyEvent(), "Code", 127), "Row", 1), impl.ErrForm)
	checkFault(t, with(with(keyEvent(), "Mods", 8), "Button", 1), impl.ErrForm)
	checkFault(t, withData(with(keyEvent(), "Code", 0), []byte{1}), impl.ErrForm)
	checkFault(t, with(with(mouseEvent(), "Col", 200), "Code", 97), impl.ErrForm)
	checkFault(t, withData(with(mouseEvent(), "Act", 0), []byte{1}), impl.ErrForm)
	checkFault(t, with(with(keyEvent(), "Mods", 8), "Kind", 5), impl.ErrForm)
	// A wrong form beside a wrong number of bytes.
	checkFault(t, with(pasteEvent(0), "Code", 1), impl.ErrForm)
	checkFault(t, with(pasteEvent(33), "Mods", 1), impl.ErrForm)
	checkFault(t, with(rawEvent(0), "Col", 1), impl.ErrForm)
	checkFault(t, with(rawEvent(25), "Act", 1), impl.ErrForm)
	checkFault(t, with(pasteEvent(33), "Kind", 0), impl.ErrForm)
	// A number out of range in a field that the kind does not use.
	checkFault(t, with(pasteEvent(1), "Mods", 8), impl.ErrForm)
	checkFault(t, with(rawEvent(1), "Col", 200), impl.ErrForm)
	checkFault(t, with(keyEvent(), "Col", 200), impl.ErrForm)
}

func checkSame(t *testing.T, a []impl.Event, b []impl.Event, want bool) {
	t.Helper()
	if impl.SameEvents(a, b) != want || impl.SameEvents(b, a) != want {
		t.Errorf("SameEvents(%+v, %+v) is not %v both ways", a, b, want)
	}
}

// fullEvent is of no kind, so that each of its fields can be told from zero.
func fullEvent() impl.Event {
	return impl.Event{Kind: 11, Code: 12, Mods: 13, Button: 14, Act: 15, Col: 16, Row: 17, Data: []byte{18, 19}}
}

func TestSameEventsFields(t *testing.T) {
	one := []impl.Event{fullEvent()}
	checkSame(t, one, []impl.Event{fullEvent()}, true)
	for _, name := range []string{"Kind", "Code", "Mods", "Button", "Act", "Col", "Row"} {
		for _, value := range []int64{0, 1, -1, math.MaxInt64, *fieldOf(&one[0], name) + 1<<32} {
			other := with(fullEvent(), name, value)
			checkSame(t, one, []impl.Event{other}, false)
			checkSame(t, []impl.Event{keyEvent(), one[0], mouseEvent()}, []impl.Event{keyEvent(), other, mouseEvent()}, false)
		}
	}
	for _, data := range [][]byte{nil, {}, {18}, {19}, {19, 18}, {18, 20}, {17, 19}, {18, 19, 0}} {
		checkSame(t, one, []impl.Event{withData(fullEvent(), data)}, false)
	}
	checkSame(t, []impl.Event{withData(fullEvent(), nil)}, []impl.Event{withData(fullEvent(), []byte{})}, true)
}

func TestSameEventsLists(t *testing.T) {
	checkSame(t, nil, nil, true)
	checkSame(t, nil, []impl.Event{}, true)
	checkSame(t, nil, []impl.Event{{}}, false)
	checkSame(t, []impl.Event{}, []impl.Event{{}}, false)
	checkSame(t, []impl.Event{{}}, []impl.Event{{}, {}}, false)
	three := []impl.Event{keyEvent(), mouseEvent(), pasteEvent(2)}
	checkSame(t, three, []impl.Event{keyEvent(), mouseEvent(), pasteEvent(2)}, true)
	checkSame(t, three, three[:2], false)
	checkSame(t, three, three[1:], false)
	checkSame(t, three, []impl.Event{mouseEvent(), keyEvent(), pasteEvent(2)}, false)
}

func TestSameBytes(t *testing.T) {
	cases := []struct {
		a, b []byte
		want bool
	}{
		{nil, nil, true},
		{nil, []byte{}, true},
		{[]byte{}, []byte{}, true},
		{nil, []byte{0}, false},
		{[]byte{}, []byte{0}, false},
		{[]byte{1}, []byte{1}, true},
		{[]byte{1}, []byte{2}, false},
		{[]byte{1, 2, 3}, []byte{1, 2, 3}, true},
		{[]byte{1, 2, 3}, []byte{0, 2, 3}, false},
		{[]byte{1, 2, 3}, []byte{1, 0, 3}, false},
		{[]byte{1, 2, 3}, []byte{1, 2, 0}, false},
		{[]byte{1, 2, 3}, []byte{1, 2}, false},
		{[]byte{1, 2, 3}, []byte{3, 2, 1}, false},
		{[]byte{255}, []byte{127}, false},
		{make([]byte, 300, 400), make([]byte, 300), true},
		{make([]byte, 300), make([]byte, 301), false},
	}
	for _, c := range cases {
		if impl.SameBytes(c.a, c.b) != c.want || impl.SameBytes(c.b, c.a) != c.want {
			t.Errorf("SameBytes(%v, %v) is not %v both ways", c.a, c.b, c.want)
		}
	}
}

func cloneEvents(list []impl.Event) []impl.Event {
	out := slices.Clone(list)
	for i := range out {
		out[i].Data = slices.Clone(out[i].Data)
	}
	return out
}

// unchanged compares without the program's own functions, as these are under test.
func unchanged(a []impl.Event, b []impl.Event) bool {
	return slices.EqualFunc(a, b, func(x impl.Event, y impl.Event) bool {
		for _, name := range []string{"Kind", "Code", "Mods", "Button", "Act", "Col", "Row"} {
			if *fieldOf(&x, name) != *fieldOf(&y, name) {
				return false
			}
		}
		return slices.Equal(x.Data, y.Data)
	})
}

func TestP1EventArgumentsStay(t *testing.T) {
	raw := []byte{5, 6, 7, 8}
	list := []impl.Event{keyEvent(), mouseEvent(), withData(pasteEvent(0), []byte{1, 2, 3}), withData(rawEvent(0), raw[:2]), fullEvent(), {}}
	before := cloneEvents(list)
	for i, e := range list {
		fault := impl.EventFault(e)
		if again := impl.EventFault(before[i]); again != fault {
			t.Errorf("EventFault(%+v) = %d, then %d", e, fault, again)
		}
	}
	other := cloneEvents(list)
	if !impl.SameEvents(list, other) || impl.SameEvents(list[:3], other) {
		t.Error("SameEvents of equal lists or of a shorter one")
	}
	if !unchanged(list, before) || !unchanged(other, before) || !slices.Equal(raw, []byte{5, 6, 7, 8}) {
		t.Errorf("the events became %+v and %+v", list, other)
	}
	a, b := []byte{1, 2, 3, 4}, []byte{1, 2, 3, 5}
	if !impl.SameBytes(a[:3], b[:3]) || !slices.Equal(a, []byte{1, 2, 3, 4}) || !slices.Equal(b, []byte{1, 2, 3, 5}) {
		t.Errorf("the bytes became %v and %v", a, b)
	}
}
