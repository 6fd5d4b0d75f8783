package tests

import (
	"bytes"
	"math"
	"slices"
	"testing"

	"loop.example/g00804/impl"
)

func zoom() impl.Command {
	return impl.Command{Kind: impl.CmZoom}
}

// bindTo has a command that has no fault.
func bindTo(table int64, code int64, mods int64) impl.Bind {
	return impl.Bind{Table: table, Code: code, Mods: mods, Cmd: zoom()}
}

func withCommand(b impl.Bind, c impl.Command) impl.Bind {
	b.Cmd = c
	return b
}

func withRepeat(b impl.Bind) impl.Bind {
	b.Repeat = true
	return b
}

// bindField returns the number of a binding that has this name; Kind and N are the command's.
func bindField(b *impl.Bind, name string) *int64 {
	switch name {
	case "Table":
		return &b.Table
	case "Code":
		return &b.Code
	case "Mods":
		return &b.Mods
	case "Kind":
		return &b.Cmd.Kind
	}
	return &b.Cmd.N
}

func bindFields() []string {
	return []string{"Table", "Code", "Mods", "Kind", "N"}
}

func withField(b impl.Bind, name string, value int64) impl.Bind {
	*bindField(&b, name) = value
	return b
}

func keyCodes() []int64 {
	return append(specialKeys(), 32, 33, 97, 126, 128, 159, 160, 233, 55295, 57344, 65536, lastPoint)
}

func wrongCodes() []int64 {
	return []int64{-2, 0, 1, 9, 13, 27, 31, 127, 55296, 56000, 57343, 1114112, 2000000, 2000015, -2000001, 1 << 32, 1<<32 + 97, 1<<32 - 1, math.MinInt64, math.MaxInt64}
}

func wrongMods() []int64 {
	return []int64{-1, 8, 9, 15, 1 << 32, -1 << 32, math.MinInt64, math.MaxInt64}
}

func wrongTables() []int64 {
	return []int64{-1, 3, 4, -3, 1 << 32, 1<<32 + 1, -1<<32 + 1, math.MinInt64, math.MaxInt64}
}

func checkBindFault(t *testing.T, b impl.Bind, want int64) {
	t.Helper()
	if got := impl.BindFault(b); got != want {
		t.Errorf("BindFault(%+v) = %d, want %d", b, got, want)
	}
}

func TestBindFaultValid(t *testing.T) {
	for table := range int64(3) {
		checkBindFault(t, bindTo(table, impl.AnyCode, 0), impl.OK)
		for _, code := range keyCodes() {
			for mods := range int64(8) {
				checkBindFault(t, bindTo(table, code, mods), impl.OK)
				checkBindFault(t, withRepeat(bindTo(table, code, mods)), impl.OK)
			}
		}
		for _, c := range validCommands() {
			checkBindFault(t, withCommand(bindTo(table, 97, 0), c), impl.OK)
			checkBindFault(t, withRepeat(withCommand(bindTo(table, impl.AnyCode, 0), c)), impl.OK)
		}
	}
}

func TestBindFaultTable(t *testing.T) {
	for _, table := range wrongTables() {
		for _, code := range []int64{97, impl.KeyUp, impl.AnyCode} {
			checkBindFault(t, bindTo(table, code, 0), impl.ErrRange)
		}
		checkBindFault(t, bindTo(table, 97, 7), impl.ErrRange)
	}
}

func TestBindFaultCode(t *testing.T) {
	for _, code := range wrongCodes() {
		for table := range int64(3) {
			for mods := range int64(8) {
				checkBindFault(t, bindTo(table, code, mods), impl.ErrRange)
			}
		}
	}
	for code := int64(-3); code <= 200; code++ {
		want := int64(impl.ErrRange)
		if code >= 32 && code != 127 || code == -1 {
			want = impl.OK
		}
		checkBindFault(t, bindTo(1, code, 0), want)
	}
}

func TestBindFaultMods(t *testing.T) {
	for _, mods := range wrongMods() {
		for _, code := range append(keyCodes(), impl.AnyCode) {
			checkBindFault(t, bindTo(0, code, mods), impl.ErrRange)
		}
	}
	for mods := int64(1); mods <= 7; mods++ {
		checkBindFault(t, bindTo(2, impl.AnyCode, mods), impl.ErrRange)
	}
}

func TestBindFaultCommand(t *testing.T) {
	for code, list := range faultyCommands() {
		for _, c := range list {
			checkBindFault(t, withCommand(bindTo(0, 97, 0), c), code)
			checkBindFault(t, withRepeat(withCommand(bindTo(2, impl.KeyPageDown, 7), c)), code)
			checkBindFault(t, withCommand(bindTo(1, impl.AnyCode, 0), c), code)
		}
	}
}

// A number of the binding itself that is out of range comes before all that is wrong with the command.
func TestBindFaultNumbersBeforeCommand(t *testing.T) {
	for _, list := range faultyCommands() {
		for _, c := range list {
			for _, b := range []impl.Bind{bindTo(-1, 97, 0), bindTo(3, 97, 0), bindTo(0, 31, 0), bindTo(0, 97, 8), bindTo(0, impl.AnyCode, 1), bindTo(math.MaxInt64, math.MinInt64, -1)} {
				checkBindFault(t, withCommand(b, c), impl.ErrRange)
			}
		}
	}
}

// expectedBindFault follows the document sentence by sentence; the tests of chapter 1 know the key events.
func expectedBindFault(b impl.Bind) int64 {
	isKey := isPoint(b.Code) && b.Code >= 32 && b.Code != 127 || slices.Contains(specialKeys(), b.Code)
	isKey = isKey && b.Mods >= 0 && b.Mods <= 7
	isAny := b.Code == -1 && b.Mods == 0
	if b.Table < 0 || b.Table > 2 || !isKey && !isAny {
		return impl.ErrRange
	}
	return expectedCommandFault(b.Cmd)
}

func TestBindFaultGreatNumbers(t *testing.T) {
	for _, start := range []impl.Bind{bindTo(1, 97, 3), bindTo(0, impl.AnyCode, 0), withCommand(bindTo(2, impl.KeyUp, 0), command(impl.CmSend, 2, "ab")), withCommand(bindTo(2, 233, 7), command(impl.CmTable, 2, ""))} {
		for _, name := range bindFields() {
			for _, value := range append(greatAndSmall(), wrongCodes()...) {
				b := withField(start, name, value)
				checkBindFault(t, b, expectedBindFault(b))
				for _, second := range bindFields() {
					again := withField(b, second, -value)
					checkBindFault(t, again, expectedBindFault(again))
				}
			}
		}
	}
}

func checkBindsFault(t *testing.T, list []impl.Bind, want int64) {
	t.Helper()
	if got := impl.BindsFault(list); got != want {
		t.Errorf("BindsFault(%+v), %d bindings, = %d, want %d", list, len(list), got, want)
	}
}

// manyBinds returns so many sorted bindings.
func manyBinds(count int) []impl.Bind {
	var out []impl.Bind
	for i := range int64(count) {
		out = append(out, bindTo(0, 160+i, 0))
	}
	return out
}

func TestBindsFaultValid(t *testing.T) {
	checkBindsFault(t, nil, impl.OK)
	checkBindsFault(t, []impl.Bind{}, impl.OK)
	for count := 0; count <= 20; count++ {
		checkBindsFault(t, manyBinds(count), impl.OK)
	}
	for table := range int64(3) {
		checkBindsFault(t, []impl.Bind{bindTo(table, impl.AnyCode, 0)}, impl.OK)
	}
	checkBindsFault(t, mixedBinds(), impl.OK)
}

// mixedBinds has two tables that are used, in each of them AnyCode and a key with several Mods.
func mixedBinds() []impl.Bind {
	return []impl.Bind{
		bindTo(0, impl.AnyCode, 0), withRepeat(bindTo(0, 97, 0)), withCommand(bindTo(0, 97, 5), command(impl.CmSend, 1, "ab")), bindTo(0, impl.KeyUp, 0),
		withCommand(bindTo(2, impl.AnyCode, 0), command(impl.CmTable, 1, "")), bindTo(2, 97, 1), withCommand(bindTo(2, 98, 0), command(impl.CmSend, 5, sized(16))),
	}
}

func TestBindsFaultNumberOfBinds(t *testing.T) {
	for _, count := range []int{21, 22, 40, 256, 100000} {
		checkBindsFault(t, manyBinds(count), impl.ErrMany)
		checkBindsFault(t, make([]impl.Bind, count), impl.ErrMany)
		checkBindsFault(t, slices.Repeat([]impl.Bind{bindTo(0, 97, 0)}, count), impl.ErrMany)
	}
	for at := range 21 {
		list := manyBinds(21)
		list[at].Table = 3
		checkBindsFault(t, list, impl.ErrMany)
		list[at] = impl.Bind{}
		checkBindsFault(t, list, impl.ErrMany)
	}
}

func TestBindsFaultOfOneBinding(t *testing.T) {
	for code, list := range faultyCommands() {
		for _, c := range list {
			for _, count := range []int{1, 2, 20} {
				for at := range count {
					binds := manyBinds(count)
					binds[at].Cmd = c
					checkBindsFault(t, binds, code)
				}
			}
		}
	}
	for at := range 20 {
		for _, bad := range []impl.Bind{bindTo(3, 97, 0), bindTo(-1, 97, 0), bindTo(0, 127, 0), bindTo(0, 97, 8), bindTo(0, impl.AnyCode, 1)} {
			binds := manyBinds(20)
			binds[at] = bad
			checkBindsFault(t, binds, impl.ErrRange)
		}
	}
}

// The first of several faulty bindings has the code.
func TestBindsFaultOneByOne(t *testing.T) {
	faults := faultyCommands()
	for first, firstList := range faults {
		for _, secondList := range faults {
			binds := manyBinds(6)
			binds[2].Cmd, binds[4].Cmd = firstList[0], secondList[0]
			checkBindsFault(t, binds, first)
		}
	}
	checkBindsFault(t, []impl.Bind{withCommand(bindTo(0, 97, 0), command(impl.CmSend, 0, "")), bindTo(3, 97, 0)}, impl.ErrMany)
	checkBindsFault(t, []impl.Bind{bindTo(3, 97, 0), withCommand(bindTo(0, 97, 0), command(impl.CmSend, 0, ""))}, impl.ErrRange)
	checkBindsFault(t, []impl.Bind{withCommand(bindTo(0, 97, 0), impl.Command{}), bindTo(3, 97, 0)}, impl.ErrForm)
}

// Every binding is checked before the order, even one behind two that are not sorted.
func TestBindsFaultBindsBeforeOrder(t *testing.T) {
	for _, pair := range [][]impl.Bind{{bindTo(1, 97, 0), bindTo(0, 97, 0)}, {bindTo(0, 98, 0), bindTo(0, 97, 0)}, {bindTo(0, 97, 0), bindTo(0, 97, 0)}} {
		checkBindsFault(t, pair, impl.ErrForm)
		checkBindsFault(t, append(slices.Clone(pair), bindTo(2, 97, 0)), impl.ErrForm)
		checkBindsFault(t, append(slices.Clone(pair), bindTo(3, 97, 0)), impl.ErrRange)
		checkBindsFault(t, append(slices.Clone(pair), bindTo(2, 97, 8)), impl.ErrRange)
		checkBindsFault(t, append(slices.Clone(pair), bindTo(2, 97, 0), withCommand(bindTo(2, 98, 0), command(impl.CmSend, 0, ""))), impl.ErrMany)
	}
}

// The Table counts before the Code, and the Code before the Mods.
func TestBindsFaultOrder(t *testing.T) {
	sorted := []impl.Bind{
		bindTo(0, impl.AnyCode, 0), bindTo(0, 32, 7), bindTo(0, 97, 0), bindTo(0, 97, 1), bindTo(0, 97, 7), bindTo(0, 98, 0), bindTo(0, lastPoint, 2), bindTo(0, impl.KeyEnter, 0), bindTo(0, impl.KeyPageDown, 7),
		bindTo(1, impl.AnyCode, 0), bindTo(1, 97, 0), bindTo(1, 97, 3), bindTo(1, impl.KeyUp, 0), bindTo(2, impl.AnyCode, 0), bindTo(2, 32, 0),
	}
	checkBindsFault(t, sorted, impl.OK)
	for i, a := range sorted {
		for k, b := range sorted {
			want := int64(impl.ErrForm)
			if i < k {
				want = impl.OK
			}
			checkBindsFault(t, []impl.Bind{a, b}, want)
			swapped := slices.Clone(sorted)
			swapped[i], swapped[k] = b, a
			if i != k {
				checkBindsFault(t, swapped, impl.ErrForm)
			}
		}
	}
}

// Two bindings with the same Table, Code and Mods are not sorted, whatever else differs.
func TestBindsFaultTheSameKeyTwice(t *testing.T) {
	for _, b := range []impl.Bind{bindTo(0, 97, 0), bindTo(2, impl.KeyUp, 5), bindTo(1, impl.AnyCode, 0)} {
		for _, other := range []impl.Bind{b, withRepeat(b), withCommand(b, command(impl.CmFocus, 2, "")), withCommand(b, command(impl.CmSend, 2, "x"))} {
			checkBindsFault(t, []impl.Bind{b, other}, impl.ErrForm)
			checkBindsFault(t, []impl.Bind{other, b}, impl.ErrForm)
			checkBindsFault(t, []impl.Bind{b, bindTo(2, lastPoint, 0), other}, impl.ErrForm)
		}
	}
	for at := 1; at < 20; at++ {
		list := manyBinds(20)
		list[at] = list[at-1]
		checkBindsFault(t, list, impl.ErrForm)
	}
}

// isBefore reports whether a comes before b in a sorted list.
func isBefore(a impl.Bind, b impl.Bind) bool {
	if a.Table != b.Table {
		return a.Table < b.Table
	}
	if a.Code != b.Code {
		return a.Code < b.Code
	}
	return a.Mods < b.Mods
}

// expectedBindsFault follows the document sentence by sentence.
func expectedBindsFault(list []impl.Bind) int64 {
	if len(list) > 20 {
		return impl.ErrMany
	}
	for _, b := range list {
		if fault := expectedBindFault(b); fault != impl.OK {
			return fault
		}
	}
	for i := range list {
		for k := range i {
			if !isBefore(list[k], list[i]) {
				return impl.ErrForm
			}
		}
	}
	return impl.OK
}

func TestBindsFaultGreatNumbers(t *testing.T) {
	for _, start := range [][]impl.Bind{mixedBinds(), manyBinds(20), manyBinds(1)} {
		for at := range start {
			for _, name := range bindFields() {
				for _, value := range greatAndSmall() {
					list := slices.Clone(start)
					list[at] = withField(list[at], name, value)
					checkBindsFault(t, list, expectedBindsFault(list))
				}
			}
		}
	}
}

// randomBind has no fault; few keys make it likely that a list has the same one.
func randomBind(seed *uint64) impl.Bind {
	codes := []int64{impl.AnyCode, impl.AnyCode, 32, 97, 98, lastPoint, impl.KeyEnter, impl.KeyPageDown}
	b := impl.Bind{Table: int64(next(seed, 3)), Code: codes[next(seed, len(codes))], Repeat: next(seed, 2) == 1}
	if b.Code != impl.AnyCode {
		b.Mods = int64(next(seed, 3) * 3)
	}
	b.Cmd = validCommands()[next(seed, len(validCommands()))]
	if b.Cmd.Kind == impl.CmSend {
		b.Cmd.Data = make([]byte, next(seed, 16)+1)
		for i := range b.Cmd.Data {
			b.Cmd.Data[i] = byte(next(seed, 256))
		}
	}
	return b
}

// sortedRandom returns a list of so many bindings without a fault.
func sortedRandom(seed *uint64, count int) []impl.Bind {
	var out []impl.Bind
	for len(out) < count {
		b, at := randomBind(seed), 0
		for at < len(out) && isBefore(out[at], b) {
			at++
		}
		if at == len(out) || isBefore(b, out[at]) {
			out = slices.Insert(out, at, b)
		}
	}
	return out
}

// spoiledBinds returns a list that may have one or several faults.
func spoiledBinds(seed *uint64) []impl.Bind {
	list := sortedRandom(seed, next(seed, 21))
	for range next(seed, 3) {
		if len(list) == 0 {
			break
		}
		at, other := next(seed, len(list)), next(seed, len(list))
		switch next(seed, 4) {
		case 0:
			list[at], list[other] = list[other], list[at]
		case 1:
			list[at] = list[other]
		case 2:
			list[at] = withField(list[at], bindFields()[next(seed, 5)], int64(next(seed, 14)-3))
		case 3:
			list[at].Cmd.Data = make([]byte, next(seed, 19))
		}
	}
	return list
}

func TestBindsFaultRandomLists(t *testing.T) {
	seed := uint64(31)
	seen := map[int64]int{}
	for range 20000 {
		list := spoiledBinds(&seed)
		if next(&seed, 20) == 0 {
			list = append(list, manyBinds(next(&seed, 22))...)
		}
		want := expectedBindsFault(list)
		if got := impl.BindsFault(list); got != want {
			t.Fatalf("BindsFault(%+v) = %d, want %d", list, got, want)
		}
		seen[want]++
	}
	checkSeen(t, seen, impl.OK, impl.ErrForm, impl.ErrRange, impl.ErrMany)
}

// equalBind compares without the program's own functions, as these are under test.
func equalBind(a impl.Bind, b impl.Bind) bool {
	for _, name := range bindFields() {
		if *bindField(&a, name) != *bindField(&b, name) {
			return false
		}
	}
	return a.Repeat == b.Repeat && bytes.Equal(a.Cmd.Data, b.Cmd.Data)
}

func equalBinds(a []impl.Bind, b []impl.Bind) bool {
	return slices.EqualFunc(a, b, equalBind)
}

func cloneBinds(list []impl.Bind) []impl.Bind {
	out := slices.Clone(list)
	for i := range out {
		out[i].Cmd.Data = slices.Clone(out[i].Cmd.Data)
	}
	return out
}
