package tests

import (
	"math"
	"slices"
	"testing"

	"loop.example/g00804/impl"
)

func bound(list ...impl.Bind) impl.BindsResult {
	return impl.BindsResult{Binds: list}
}

func notBound(code int64) impl.BindsResult {
	return impl.BindsResult{Code: code}
}

func samePut(a impl.BindsResult, b impl.BindsResult) bool {
	return a.Code == b.Code && equalBinds(a.Binds, b.Binds)
}

// checkPutBind also checks that there are no Binds beside a code.
func checkPutBind(t *testing.T, list []impl.Bind, b impl.Bind, want impl.BindsResult) {
	t.Helper()
	if got := impl.PutBind(list, b); !samePut(got, want) {
		t.Errorf("PutBind(%+v, %+v) = %+v, want %+v", list, b, got, want)
	}
}

func TestPutBindIntoNoBinds(t *testing.T) {
	for _, c := range validCommands() {
		for table := range int64(3) {
			for _, b := range []impl.Bind{bindTo(table, 97, 0), bindTo(table, impl.KeyUp, 7), bindTo(table, impl.AnyCode, 0)} {
				b = withCommand(b, c)
				checkPutBind(t, nil, b, bound(b))
				checkPutBind(t, []impl.Bind{}, b, bound(b))
				checkPutBind(t, nil, withRepeat(b), bound(withRepeat(b)))
			}
		}
	}
}

func TestPutBindAtItsPosition(t *testing.T) {
	list := mixedBinds()
	for _, c := range []struct {
		b  impl.Bind
		at int
	}{
		{bindTo(0, 32, 0), 1}, {bindTo(0, 96, 7), 1}, {bindTo(0, 97, 1), 2}, {bindTo(0, 97, 4), 2}, {bindTo(0, 97, 6), 3}, {bindTo(0, 98, 0), 3}, {bindTo(0, impl.KeyEnter, 0), 3}, {bindTo(0, impl.KeyUp, 1), 4}, {bindTo(0, impl.KeyPageDown, 7), 4},
		{bindTo(1, impl.AnyCode, 0), 4}, {bindTo(1, 97, 0), 4}, {bindTo(1, impl.KeyPageDown, 7), 4},
		{bindTo(2, 32, 0), 5}, {bindTo(2, 97, 0), 5}, {bindTo(2, 97, 2), 6}, {bindTo(2, 98, 1), 7}, {bindTo(2, impl.KeyUp, 0), 7},
	} {
		checkPutBind(t, list, c.b, bound(slices.Insert(slices.Clone(list), c.at, c.b)...))
	}
	first := bindTo(0, impl.AnyCode, 0)
	checkPutBind(t, list[1:], first, bound(slices.Insert(slices.Clone(list[1:]), 0, first)...))
	checkPutBind(t, list[4:], first, bound(slices.Insert(slices.Clone(list[4:]), 0, first)...))
}

// Put in any order, the bindings are sorted in the end.
func TestPutBindInEveryOrder(t *testing.T) {
	seed := uint64(33)
	for range 300 {
		want := sortedRandom(&seed, next(&seed, 21))
		order := slices.Clone(want)
		for i := range order {
			k := i + next(&seed, len(order)-i)
			order[i], order[k] = order[k], order[i]
		}
		var list []impl.Bind
		for _, b := range order {
			r := impl.PutBind(list, b)
			if r.Code != impl.OK {
				t.Fatalf("PutBind(%+v, %+v) = %+v", list, b, r)
			}
			list = r.Binds
		}
		if !equalBinds(list, want) {
			t.Fatalf("put in the order %+v: %+v, want %+v", order, list, want)
		}
	}
}

func TestPutBindReplaces(t *testing.T) {
	list := mixedBinds()
	for i, old := range list {
		others := []impl.Bind{old, withCommand(old, command(impl.CmKill, 0, "")), withCommand(old, command(impl.CmSend, 1, "ac")), withCommand(old, command(impl.CmSend, 1, "a")), withCommand(old, command(impl.CmTable, 2, "")), withCommand(old, command(impl.CmFocus, 2, ""))}
		for _, b := range others {
			for _, repeat := range []bool{false, true} {
				b.Repeat = repeat
				want := slices.Clone(list)
				want[i] = b
				checkPutBind(t, list, b, bound(want...))
			}
		}
	}
	for _, b := range list {
		checkPutBind(t, []impl.Bind{b}, withRepeat(b), bound(withRepeat(b)))
	}
}

func TestPutBindIntoAFullList(t *testing.T) {
	list := manyBinds(20)
	for i, old := range list {
		b := withRepeat(withCommand(old, command(impl.CmSend, 4, "new")))
		want := slices.Clone(list)
		want[i] = b
		checkPutBind(t, list, b, bound(want...))
		checkPutBind(t, list, withField(old, "Mods", 1), notBound(impl.ErrFull))
		checkPutBind(t, list, withField(old, "Table", 1), notBound(impl.ErrFull))
		// The other key takes the place that the missing one has left.
		rest := slices.Delete(slices.Clone(list), i, i+1)
		checkPutBind(t, rest, b, bound(want...))
		want[i] = withField(old, "Mods", 1)
		checkPutBind(t, rest, want[i], bound(want...))
	}
	for _, b := range []impl.Bind{bindTo(0, impl.AnyCode, 0), bindTo(0, 97, 0), bindTo(0, impl.KeyUp, 0), bindTo(2, impl.AnyCode, 0)} {
		checkPutBind(t, list, b, notBound(impl.ErrFull))
	}
}

func TestPutBindFillsAList(t *testing.T) {
	for count := range 20 {
		list := manyBinds(count)
		for _, b := range []impl.Bind{bindTo(0, impl.AnyCode, 0), bindTo(0, 32, 0)} {
			checkPutBind(t, list, b, bound(slices.Concat([]impl.Bind{b}, list)...))
		}
		last := bindTo(2, impl.KeyPageDown, 7)
		checkPutBind(t, list, last, bound(slices.Concat(list, []impl.Bind{last})...))
	}
}

// faultyBinds returns bindings by the code of their fault.
func faultyBinds() map[int64][]impl.Bind {
	out := map[int64][]impl.Bind{
		impl.ErrRange: {bindTo(3, 97, 0), bindTo(-1, 97, 0), bindTo(0, 31, 0), bindTo(0, 127, 0), bindTo(0, 97, 8), bindTo(0, 97, -1), bindTo(0, impl.AnyCode, 1), bindTo(math.MinInt64, 97, 0), bindTo(0, math.MaxInt64, 0), withCommand(bindTo(3, 97, 0), impl.Command{})},
	}
	for code, list := range faultyCommands() {
		for _, c := range list {
			out[code] = append(out[code], withCommand(bindTo(0, 97, 0), c), withCommand(bindTo(1, impl.AnyCode, 0), c))
		}
	}
	return out
}

// A binding that is refused replaces none, and is refused before the list is found full.
func TestPutBindOfAFaultyBinding(t *testing.T) {
	for code, binds := range faultyBinds() {
		for _, b := range binds {
			for _, list := range [][]impl.Bind{nil, {}, {bindTo(0, 97, 0)}, {bindTo(1, impl.AnyCode, 0)}, mixedBinds(), manyBinds(19), manyBinds(20)} {
				checkPutBind(t, list, b, notBound(code))
			}
		}
	}
}

// The list's fault comes first, whatever the binding.
func TestPutBindListFirst(t *testing.T) {
	for code, lists := range faultyLists() {
		for _, list := range lists {
			for _, b := range mixedBinds() {
				checkPutBind(t, list, b, notBound(code))
			}
			for _, binds := range faultyBinds() {
				for _, b := range binds {
					checkPutBind(t, list, b, notBound(code))
				}
			}
		}
	}
}

// The result would have no fault, but the list has one.
func TestPutBindThatWouldRemoveAFault(t *testing.T) {
	twice := []impl.Bind{bindTo(0, 97, 0), bindTo(0, 97, 0)}
	checkPutBind(t, twice, bindTo(0, 97, 0), notBound(impl.ErrForm))
	bad := []impl.Bind{withCommand(bindTo(0, 97, 0), command(impl.CmTable, 3, ""))}
	checkPutBind(t, bad, bindTo(0, 97, 0), notBound(impl.ErrRange))
	checkPutBind(t, manyBinds(21), bindTo(0, 160, 0), notBound(impl.ErrMany))
}

// expectedPut follows the document sentence by sentence.
func expectedPut(list []impl.Bind, b impl.Bind) impl.BindsResult {
	if fault := expectedBindsFault(list); fault != impl.OK {
		return notBound(fault)
	}
	if fault := expectedBindFault(b); fault != impl.OK {
		return notBound(fault)
	}
	var before, after []impl.Bind
	for _, old := range list {
		if isBefore(old, b) {
			before = append(before, old)
		}
		if isBefore(b, old) {
			after = append(after, old)
		}
	}
	if len(before)+len(after) == 20 {
		return notBound(impl.ErrFull)
	}
	return bound(slices.Concat(before, []impl.Bind{b}, after)...)
}

func TestPutBindRandomLists(t *testing.T) {
	seed := uint64(34)
	seen := map[int64]int{}
	for range 20000 {
		list := sortedRandom(&seed, next(&seed, 21))
		b := randomBind(&seed)
		switch next(&seed, 10) {
		case 0:
			list = spoiledBinds(&seed)
		case 1:
			b = withField(b, bindFields()[next(&seed, 5)], int64(next(&seed, 14)-3))
		case 2:
			b.Cmd.Data = make([]byte, next(&seed, 19))
		case 3:
			list = manyBinds(20)
		}
		want := expectedPut(list, b)
		if got := impl.PutBind(list, b); !samePut(got, want) {
			t.Fatalf("PutBind(%+v, %+v) = %+v, want %+v", list, b, got, want)
		}
		seen[want.Code]++
	}
	checkSeen(t, seen, impl.OK, impl.ErrForm, impl.ErrMany, impl.ErrRange, impl.ErrFull)
}

func TestPutBindGreatNumbers(t *testing.T) {
	for _, list := range [][]impl.Bind{nil, mixedBinds(), manyBinds(20)} {
		for _, start := range append(mixedBinds(), bindTo(1, 97, 0)) {
			for _, name := range bindFields() {
				for _, value := range greatAndSmall() {
					b := withField(start, name, value)
					checkPutBind(t, list, b, expectedPut(list, b))
				}
			}
		}
	}
}
