package tests

import (
	"math"
	"slices"
	"strings"
	"testing"

	"loop.example/g00804/impl"
)

func command(kind int64, n int64, data string) impl.Command {
	return impl.Command{Kind: kind, N: n, Data: []byte(data)}
}

func sized(size int) string {
	return strings.Repeat("x", size)
}

// kindsWithoutNumber lists the commands that are only a Kind.
func kindsWithoutNumber() []int64 {
	return []int64{impl.CmNext, impl.CmBeside, impl.CmAbove, impl.CmKill, impl.CmZoom, impl.CmSync}
}

func everyKind() []int64 {
	return append(kindsWithoutNumber(), impl.CmTable, impl.CmFocus, impl.CmSend)
}

func wrongKinds() []int64 {
	return []int64{0, 10, 11, -1, -9, 1 << 32, 1<<32 + 1, math.MinInt64, math.MaxInt64}
}

// validCommands has each kind, with the numbers and the bytes at both ends.
func validCommands() []impl.Command {
	out := []impl.Command{command(impl.CmTable, 0, ""), command(impl.CmTable, 2, ""), command(impl.CmFocus, 0, ""), command(impl.CmFocus, 5, ""),
		command(impl.CmSend, 0, "a"), command(impl.CmSend, 5, sized(16)), command(impl.CmSend, 3, "\x00\xff"), {Kind: impl.CmTable, N: 1}}
	for _, kind := range kindsWithoutNumber() {
		out = append(out, command(kind, 0, ""))
	}
	return out
}

// faultyCommands returns commands by the code of their fault.
func faultyCommands() map[int64][]impl.Command {
	return map[int64][]impl.Command{
		impl.ErrForm:  {{}, command(10, 0, ""), command(-1, 0, ""), command(impl.CmNext, 1, ""), command(impl.CmZoom, -1, ""), command(impl.CmKill, 0, "a"), command(impl.CmTable, 0, "a"), command(impl.CmFocus, 6, "a")},
		impl.ErrRange: {command(impl.CmTable, 3, ""), command(impl.CmTable, -1, ""), command(impl.CmFocus, 6, ""), command(impl.CmSend, 6, "a"), command(impl.CmSend, -1, ""), command(impl.CmSend, math.MaxInt64, sized(17))},
		impl.ErrMany:  {command(impl.CmSend, 0, ""), command(impl.CmSend, 5, sized(17)), {Kind: impl.CmSend, N: 2}},
	}
}

func checkCommandFault(t *testing.T, c impl.Command, want int64) {
	t.Helper()
	if got := impl.CommandFault(c); got != want {
		t.Errorf("CommandFault(%+v), %d bytes, = %d, want %d", c, len(c.Data), got, want)
	}
}

func TestConstantsOfTables(t *testing.T) {
	got := []int64{impl.MaxTables, impl.AnyCode, impl.CmTable, impl.CmFocus, impl.CmNext, impl.CmSend, impl.CmBeside, impl.CmAbove, impl.CmKill, impl.CmZoom, impl.CmSync, impl.MaxSendBytes, impl.MaxBinds}
	if want := []int64{3, -1, 1, 2, 3, 4, 5, 6, 7, 8, 9, 16, 20}; !slices.Equal(got, want) {
		t.Errorf("constants %v, want %v", got, want)
	}
}

func TestCommandFaultOfListedCommands(t *testing.T) {
	for _, c := range validCommands() {
		checkCommandFault(t, c, impl.OK)
	}
	for code, list := range faultyCommands() {
		for _, c := range list {
			checkCommandFault(t, c, code)
		}
	}
}

func TestCommandFaultKind(t *testing.T) {
	for kind := int64(1); kind <= 9; kind++ {
		data := ""
		if kind == impl.CmSend {
			data = "a"
		}
		checkCommandFault(t, command(kind, 0, data), impl.OK)
		checkCommandFault(t, impl.Command{Kind: kind, Data: append([]byte{}, data...)}, impl.OK)
	}
	for _, kind := range wrongKinds() {
		for _, n := range []int64{0, 1, 6, -1} {
			for _, size := range []int{0, 1, 16, 17} {
				checkCommandFault(t, command(kind, n, sized(size)), impl.ErrForm)
			}
		}
	}
}

func TestCommandFaultUnusedNumber(t *testing.T) {
	for _, kind := range kindsWithoutNumber() {
		for _, n := range []int64{1, -1, 2, 3, 5, 6, 1 << 32, math.MinInt64, math.MaxInt64} {
			checkCommandFault(t, command(kind, n, ""), impl.ErrForm)
			checkCommandFault(t, command(kind, n, "a"), impl.ErrForm)
			checkCommandFault(t, command(kind, n, sized(17)), impl.ErrForm)
		}
	}
}

// Only CmSend has Data; a number out of range beside unused Data comes second.
func TestCommandFaultUnusedData(t *testing.T) {
	for _, kind := range everyKind() {
		if kind == impl.CmSend {
			continue
		}
		checkCommandFault(t, impl.Command{Kind: kind}, impl.OK)
		checkCommandFault(t, impl.Command{Kind: kind, Data: []byte{}}, impl.OK)
		for _, data := range []string{"\x00", "a", sized(16), sized(17), sized(1000)} {
			for _, n := range []int64{0, 1, -1, 3, 6, math.MinInt64, math.MaxInt64} {
				checkCommandFault(t, command(kind, n, data), impl.ErrForm)
			}
		}
	}
}

func TestCommandFaultNumber(t *testing.T) {
	counts := map[int64]int64{impl.CmTable: impl.MaxTables, impl.CmFocus: impl.MaxPanes, impl.CmSend: impl.MaxPanes}
	for kind, count := range counts {
		data := ""
		if kind == impl.CmSend {
			data = "ab"
		}
		for n := range count {
			checkCommandFault(t, command(kind, n, data), impl.OK)
		}
		for _, n := range []int64{-1, count, count + 1, -count, 1 << 32, 1<<32 + 1, -1<<32 + 1, math.MinInt64, math.MaxInt64} {
			checkCommandFault(t, command(kind, n, data), impl.ErrRange)
		}
	}
}

func TestCommandFaultNumberOfBytes(t *testing.T) {
	checkCommandFault(t, impl.Command{Kind: impl.CmSend}, impl.ErrMany)
	for size := 0; size <= 300; size++ {
		want := manyUnless(size >= 1 && size <= 16)
		checkCommandFault(t, command(impl.CmSend, 0, sized(size)), want)
		checkCommandFault(t, command(impl.CmSend, 5, sized(size)), want)
		checkCommandFault(t, impl.Command{Kind: impl.CmSend, N: 3, Data: make([]byte, size)}, want)
	}
}

// A number out of range comes before a wrong number of bytes.
func TestCommandFaultNumberBeforeBytes(t *testing.T) {
	for _, n := range []int64{-1, 6, math.MinInt64, math.MaxInt64} {
		for _, size := range []int{0, 1, 16, 17, 1000} {
			checkCommandFault(t, command(impl.CmSend, n, sized(size)), impl.ErrRange)
		}
		checkCommandFault(t, impl.Command{Kind: impl.CmSend, N: n}, impl.ErrRange)
	}
}

// expectedCommandFault follows the document sentence by sentence.
func expectedCommandFault(c impl.Command) int64 {
	hasNumber, count := false, int64(0)
	switch c.Kind {
	case 1:
		hasNumber, count = true, 3
	case 2, 4:
		hasNumber, count = true, 6
	}
	if c.Kind < 1 || c.Kind > 9 || !hasNumber && c.N != 0 || c.Kind != 4 && len(c.Data) != 0 {
		return impl.ErrForm
	}
	if hasNumber && (c.N < 0 || c.N >= count) {
		return impl.ErrRange
	}
	if c.Kind == 4 && (len(c.Data) == 0 || len(c.Data) > 16) {
		return impl.ErrMany
	}
	return impl.OK
}

func TestCommandFaultGreatNumbers(t *testing.T) {
	seen := map[int64]int{}
	for _, kind := range append(greatAndSmall(), everyKind()...) {
		for _, n := range append(greatAndSmall(), 4, 5) {
			for _, size := range []int{0, 1, 15, 16, 17, 18} {
				c := command(kind, n, sized(size))
				want := expectedCommandFault(c)
				checkCommandFault(t, c, want)
				seen[want]++
			}
		}
	}
	checkSeen(t, seen, impl.OK, impl.ErrForm, impl.ErrRange)
	if seen[impl.ErrMany] == 0 {
		t.Error("no command has a wrong number of bytes")
	}
}
