package tests

import (
	"strconv"
	"testing"

	"loop.example/g00804/impl"
)

func checkMouse(t *testing.T, m impl.Modes, e impl.Event, want impl.BytesResult) {
	t.Helper()
	if got := impl.EncodeMouse(m, e); !sameBytesResult(got, want) {
		t.Errorf("EncodeMouse(%+v, %+v) = %d, %q, want %d, %q", m, e, got.Code, got.Bytes, want.Code, want.Bytes)
	}
	if got := impl.EncodeEvent(m, e); !sameBytesResult(got, want) {
		t.Errorf("EncodeEvent(%+v, %+v) = %d, %q, want %d, %q", m, e, got.Code, got.Bytes, want.Code, want.Bytes)
	}
}

func aMouse(button int64, act int64, mods int64, col int64, row int64) impl.Event {
	return mouseOf(button, act, mods, col, row).Token.Event
}

func TestConstantsOfModes(t *testing.T) {
	if impl.MouseOff != 0 || impl.MouseClicks != 1 || impl.MouseButtons != 2 || impl.MouseAll != 3 {
		t.Errorf("MouseOff %d, MouseClicks %d, MouseButtons %d, MouseAll %d", impl.MouseOff, impl.MouseClicks, impl.MouseButtons, impl.MouseAll)
	}
}

func TestEncodeMouseExamples(t *testing.T) {
	sgr, short := impl.Modes{Mouse: impl.MouseAll, Sgr: true}, impl.Modes{Mouse: impl.MouseAll}
	cases := []struct {
		event impl.Event
		sgr   string
		short string
	}{
		{aMouse(0, impl.MousePress, 0, 0, 0), "\x1b[<0;1;1M", "\x1b[M !!"},
		{aMouse(2, impl.MousePress, 0, 4, 2), "\x1b[<2;5;3M", "\x1b[M\"%#"},
		{aMouse(0, impl.MousePress, impl.ModShift, 4, 2), "\x1b[<4;5;3M", "\x1b[M$%#"},
		{aMouse(0, impl.MousePress, impl.ModAlt, 4, 2), "\x1b[<8;5;3M", "\x1b[M(%#"},
		{aMouse(0, impl.MousePress, impl.ModCtrl, 4, 2), "\x1b[<16;5;3M", "\x1b[M0%#"},
		{aMouse(1, impl.MouseDrag, 0, 4, 2), "\x1b[<33;5;3M", "\x1b[MA%#"},
		{aMouse(2, impl.MouseDrag, 7, 199, 199), "\x1b[<62;200;200M", "\x1b[M^\xe8\xe8"},
		{aMouse(0, impl.MouseRelease, 0, 0, 0), "\x1b[<0;1;1m", "\x1b[M#!!"},
		{aMouse(1, impl.MouseRelease, 0, 4, 2), "\x1b[<1;5;3m", "\x1b[M#%#"},
		{aMouse(2, impl.MouseRelease, impl.ModCtrl, 4, 2), "\x1b[<18;5;3m", "\x1b[M3%#"},
		{aMouse(2, impl.MouseRelease, 7, 199, 0), "\x1b[<30;200;1m", "\x1b[M?\xe8!"},
		{aMouse(0, impl.MousePress, 0, 0, 199), "\x1b[<0;1;200M", "\x1b[M !\xe8"},
		{aMouse(0, impl.MousePress, 0, 94, 95), "\x1b[<0;95;96M", "\x1b[M \x7f\x80"},
	}
	for _, c := range cases {
		checkMouse(t, sgr, c.event, bytesOf(c.sgr))
		checkMouse(t, short, c.event, bytesOf(c.short))
	}
}

func TestEncodeMouseReportedActs(t *testing.T) {
	reported := map[int64][]int64{
		impl.MouseOff:     {},
		impl.MouseClicks:  {impl.MousePress},
		impl.MouseButtons: {impl.MousePress, impl.MouseRelease},
		impl.MouseAll:     {impl.MousePress, impl.MouseRelease, impl.MouseDrag},
	}
	sgr := map[int64]string{impl.MousePress: "\x1b[<1;21;11M", impl.MouseRelease: "\x1b[<1;21;11m", impl.MouseDrag: "\x1b[<33;21;11M"}
	short := map[int64]string{impl.MousePress: "\x1b[M!5+", impl.MouseRelease: "\x1b[M#5+", impl.MouseDrag: "\x1b[MA5+"}
	for _, m := range allModes() {
		want := map[int64]impl.BytesResult{impl.MousePress: noBytes(impl.ErrNone), impl.MouseRelease: noBytes(impl.ErrNone), impl.MouseDrag: noBytes(impl.ErrNone)}
		for _, act := range reported[m.Mouse] {
			want[act] = bytesOf(short[act])
			if m.Sgr {
				want[act] = bytesOf(sgr[act])
			}
		}
		for act, result := range want {
			checkMouse(t, m, aMouse(1, act, 0, 20, 10), result)
		}
	}
}

// expectedMouseText adds up the event number bit by bit.
func expectedMouseText(sgr bool, e impl.Event) string {
	number := e.Button
	if !sgr && e.Act == impl.MouseRelease {
		number = 3
	}
	for bit, value := range map[int64]int64{impl.ModShift: 4, impl.ModAlt: 8, impl.ModCtrl: 16} {
		if e.Mods&bit != 0 {
			number += value
		}
	}
	if e.Act == impl.MouseDrag {
		number += 32
	}
	if !sgr {
		return "\x1b[M" + string([]byte{byte(32 + number), byte(33 + e.Col), byte(33 + e.Row)})
	}
	final := map[int64]string{impl.MousePress: "M", impl.MouseRelease: "m", impl.MouseDrag: "M"}[e.Act]
	return "\x1b[<" + strconv.FormatInt(number, 10) + ";" + strconv.FormatInt(e.Col+1, 10) + ";" + strconv.FormatInt(e.Row+1, 10) + final
}

// mouseEvents returns each Button with each Act and each sum of modifiers, at several cells.
func mouseEvents() []impl.Event {
	var out []impl.Event
	for button := range int64(3) {
		for act := int64(1); act <= 3; act++ {
			for mods := range int64(8) {
				for _, cell := range [][2]int64{{0, 0}, {0, 199}, {199, 0}, {199, 199}, {8, 98}} {
					out = append(out, aMouse(button, act, mods, cell[0], cell[1]))
				}
			}
		}
	}
	return out
}

func TestEncodeMouseEveryButton(t *testing.T) {
	for _, e := range mouseEvents() {
		for _, m := range allModes() {
			if m.Mouse == impl.MouseAll {
				checkMouse(t, m, e, bytesOf(expectedMouseText(m.Sgr, e)))
			}
		}
	}
}

func TestEncodeMouseEveryCell(t *testing.T) {
	for cell := range int64(200) {
		for _, sgr := range []bool{false, true} {
			m := impl.Modes{Mouse: impl.MouseAll, Sgr: sgr}
			for _, e := range []impl.Event{aMouse(0, impl.MousePress, 0, cell, 7), aMouse(1, impl.MouseDrag, 0, 7, cell)} {
				checkMouse(t, m, e, bytesOf(expectedMouseText(sgr, e)))
			}
		}
	}
}
