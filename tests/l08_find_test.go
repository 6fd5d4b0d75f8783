package tests

import (
	"math"
	"slices"
	"testing"

	"loop.example/g00804/impl"
)

func foundAt(index int64) impl.IntResult {
	return impl.IntResult{Value: index}
}

func notFound(code int64) impl.IntResult {
	return impl.IntResult{Code: code}
}

// checkFind also checks that there is no Value beside a code.
func checkFind(t *testing.T, list []impl.Bind, table int64, e impl.Event, want impl.IntResult) {
	t.Helper()
	if got := impl.FindBind(list, table, e); got != want {
		t.Errorf("FindBind(%+v, %d, %+v) = %+v, want %+v", list, table, e, got, want)
	}
}

func TestFindBindOfMixedBinds(t *testing.T) {
	list := mixedBinds()
	checkFind(t, list, 0, aKey(97, 0), foundAt(1))
	checkFind(t, list, 0, aKey(97, 5), foundAt(2))
	checkFind(t, list, 0, aKey(impl.KeyUp, 0), foundAt(3))
	checkFind(t, list, 2, aKey(97, 1), foundAt(5))
	checkFind(t, list, 2, aKey(98, 0), foundAt(6))
	// The Code with other Mods, or in the other table only, is left to AnyCode.
	for _, mods := range []int64{1, 2, 3, 4, 6, 7} {
		checkFind(t, list, 0, aKey(97, mods), foundAt(0))
		checkFind(t, list, 0, aKey(impl.KeyUp, mods), foundAt(0))
		checkFind(t, list, 2, aKey(98, mods), foundAt(4))
	}
	checkFind(t, list, 2, aKey(97, 0), foundAt(4))
	checkFind(t, list, 2, aKey(impl.KeyUp, 0), foundAt(4))
	checkFind(t, list, 0, aKey(98, 0), foundAt(0))
	for _, code := range keyCodes() {
		checkFind(t, list, 1, aKey(code, 0), notFound(impl.ErrNone))
		checkFind(t, list, 1, aKey(code, 5), notFound(impl.ErrNone))
	}
}

func TestFindBindWithoutAnyCode(t *testing.T) {
	list := []impl.Bind{bindTo(0, 97, 1), bindTo(1, 97, 2), bindTo(1, 98, 2), bindTo(2, impl.KeyUp, 0)}
	for table := range int64(3) {
		for _, code := range []int64{97, 98, 99, impl.KeyUp, impl.KeyDown} {
			for mods := range int64(8) {
				want := notFound(impl.ErrNone)
				for i, b := range list {
					if b.Table == table && b.Code == code && b.Mods == mods {
						want = foundAt(int64(i))
					}
				}
				checkFind(t, list, table, aKey(code, mods), want)
			}
		}
	}
}

func TestFindBindOnlyAnyCode(t *testing.T) {
	for table := range int64(3) {
		list := []impl.Bind{bindTo(table, impl.AnyCode, 0)}
		for _, code := range keyCodes() {
			for mods := range int64(8) {
				checkFind(t, list, table, aKey(code, mods), foundAt(0))
				checkFind(t, list, (table+1)%3, aKey(code, mods), notFound(impl.ErrNone))
				checkFind(t, list, (table+2)%3, aKey(code, mods), notFound(impl.ErrNone))
			}
		}
	}
}

func TestFindBindOfNoBinds(t *testing.T) {
	for table := range int64(3) {
		for _, e := range validEvents() {
			checkFind(t, nil, table, e, notFound(impl.ErrNone))
			checkFind(t, []impl.Bind{}, table, e, notFound(impl.ErrNone))
		}
	}
}

func TestFindBindEachOfManyBinds(t *testing.T) {
	list := manyBinds(20)
	for i, b := range list {
		checkFind(t, list, b.Table, aKey(b.Code, b.Mods), foundAt(int64(i)))
		checkFind(t, list, b.Table, aKey(b.Code, 1), notFound(impl.ErrNone))
		checkFind(t, list, b.Table+1, aKey(b.Code, b.Mods), notFound(impl.ErrNone))
	}
}

// AnyCode is for keys only, and no event has it as its own Code.
func TestFindBindOfOtherEvents(t *testing.T) {
	for _, e := range append(mouseEvents(), aPaste("a"), aPaste(sized(32)), aRaw("a"), aRaw(sized(24))) {
		for table := range int64(3) {
			checkFind(t, mixedBinds(), table, e, notFound(impl.ErrNone))
			checkFind(t, []impl.Bind{bindTo(table, impl.AnyCode, 0)}, table, e, notFound(impl.ErrNone))
		}
	}
	checkFind(t, []impl.Bind{bindTo(0, impl.AnyCode, 0)}, 0, aKey(impl.AnyCode, 0), notFound(impl.ErrRange))
}

func TestFindBindOfFaultyEvents(t *testing.T) {
	for code, events := range faultyEvents() {
		for _, e := range events {
			for table := range int64(3) {
				checkFind(t, mixedBinds(), table, e, notFound(code))
				checkFind(t, nil, table, e, notFound(code))
			}
		}
	}
}

// A table out of range comes before all that is wrong with the event.
func TestFindBindTableBeforeEvent(t *testing.T) {
	events := validEvents()
	for _, list := range faultyEvents() {
		events = append(events, list...)
	}
	for _, table := range wrongTables() {
		for _, e := range events {
			checkFind(t, mixedBinds(), table, e, notFound(impl.ErrRange))
			checkFind(t, nil, table, e, notFound(impl.ErrRange))
		}
	}
}

// faultyLists returns lists by the code of their fault.
func faultyLists() map[int64][][]impl.Bind {
	return map[int64][][]impl.Bind{
		impl.ErrForm:  {{bindTo(1, 97, 0), bindTo(0, 97, 0)}, {bindTo(0, 97, 0), bindTo(0, 97, 0)}, {impl.Bind{Code: 97}}, {bindTo(0, 97, 0), withCommand(bindTo(0, 98, 0), command(impl.CmNext, 1, ""))}},
		impl.ErrRange: {{bindTo(3, 97, 0)}, {bindTo(0, 97, 0), bindTo(0, 127, 0)}, {bindTo(0, 97, 8)}, {bindTo(0, impl.AnyCode, 1)}, {withCommand(bindTo(0, 97, 0), command(impl.CmFocus, 6, ""))}},
		impl.ErrMany:  {manyBinds(21), make([]impl.Bind, 21), {withCommand(bindTo(0, 97, 0), command(impl.CmSend, 0, ""))}, {bindTo(0, 97, 0), withCommand(bindTo(0, 98, 0), command(impl.CmSend, 0, sized(17)))}},
	}
}

// The list's fault comes first, whatever the table and the event.
func TestFindBindListFirst(t *testing.T) {
	for code, lists := range faultyLists() {
		for _, list := range lists {
			checkBindsFault(t, list, code)
			for _, table := range []int64{0, 1, 2, -1, 3, math.MinInt64, math.MaxInt64} {
				for _, e := range validEvents() {
					checkFind(t, list, table, e, notFound(code))
				}
				for _, events := range faultyEvents() {
					for _, e := range events {
						checkFind(t, list, table, e, notFound(code))
					}
				}
				checkFind(t, list, table, aKey(97, 0), notFound(code))
			}
		}
	}
}

// expectedFind follows the document sentence by sentence; the event's fault is that of chapter 1.
func expectedFind(list []impl.Bind, table int64, e impl.Event) impl.IntResult {
	if fault := expectedBindsFault(list); fault != impl.OK {
		return notFound(fault)
	}
	if table < 0 || table > 2 {
		return notFound(impl.ErrRange)
	}
	if fault := impl.EventFault(e); fault != impl.OK {
		return notFound(fault)
	}
	best := notFound(impl.ErrNone)
	for i, b := range list {
		switch {
		case e.Kind != impl.EvKey || b.Table != table:
		case b.Code == e.Code && b.Mods == e.Mods:
			return foundAt(int64(i))
		case b.Code == -1:
			best = foundAt(int64(i))
		}
	}
	return best
}

func TestFindBindRandomLists(t *testing.T) {
	seed := uint64(32)
	seen, exact, others := map[int64]int{}, 0, 0
	events := slices.Concat(validEvents(), faultyEvents()[impl.ErrForm], faultyEvents()[impl.ErrMany])
	for range 20000 {
		list := sortedRandom(&seed, next(&seed, 21))
		if next(&seed, 5) == 0 {
			list = spoiledBinds(&seed)
		}
		b := randomBind(&seed)
		table, e := b.Table, aKey(b.Code, b.Mods)
		switch next(&seed, 12) {
		case 0:
			table = int64(next(&seed, 6) - 1)
		case 1:
			e = events[next(&seed, len(events))]
		}
		want := expectedFind(list, table, e)
		if got := impl.FindBind(list, table, e); got != want {
			t.Fatalf("FindBind(%+v, %d, %+v) = %+v, want %+v", list, table, e, got, want)
		}
		seen[want.Code]++
		if want.Code == impl.OK && list[want.Value].Code == impl.AnyCode {
			others++
		} else if want.Code == impl.OK {
			exact++
		}
	}
	checkSeen(t, seen, impl.OK, impl.ErrForm, impl.ErrMany, impl.ErrRange, impl.ErrNone)
	if exact < 100 || others < 100 {
		t.Errorf("%d bindings with the key itself, %d with AnyCode", exact, others)
	}
}

func TestFindBindGreatNumbers(t *testing.T) {
	for _, list := range [][]impl.Bind{mixedBinds(), manyBinds(20), nil} {
		for _, value := range greatAndSmall() {
			for _, e := range []impl.Event{aKey(97, 0), aKey(impl.KeyUp, 0), mouseEvent(), aRaw("a")} {
				checkFind(t, list, value, e, expectedFind(list, value, e))
				for _, name := range []string{"Kind", "Code", "Mods", "Button", "Act", "Col", "Row"} {
					changed := with(e, name, value)
					for table := range int64(3) {
						checkFind(t, list, table, changed, expectedFind(list, table, changed))
					}
				}
			}
		}
	}
}
