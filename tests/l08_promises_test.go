package tests

import (
	"slices"
	"testing"

	"loop.example/g00804/impl"
)

// keysOf returns events that the binding is for in this list: its own key, or for AnyCode such keys as have no binding of their own.
func keysOf(list []impl.Bind, b impl.Bind) []impl.Event {
	if b.Code != impl.AnyCode {
		return []impl.Event{aKey(b.Code, b.Mods)}
	}
	var out []impl.Event
	for _, code := range []int64{32, 97, 98, 160, lastPoint, impl.KeyEnter, impl.KeyUp, impl.KeyPageDown} {
		for mods := range int64(8) {
			hasOwn := slices.ContainsFunc(list, func(old impl.Bind) bool {
				return old.Table == b.Table && old.Code == code && old.Mods == mods
			})
			if !hasOwn {
				out = append(out, aKey(code, mods))
			}
		}
	}
	return out
}

// checkP9 reports whether there was room, and whether the binding has replaced another.
func checkP9(t *testing.T, list []impl.Bind, b impl.Bind) (bool, bool) {
	t.Helper()
	isSame := func(old impl.Bind) bool {
		return old.Table == b.Table && old.Code == b.Code && old.Mods == b.Mods
	}
	replaces := slices.ContainsFunc(list, isSame)
	r := impl.PutBind(list, b)
	if r.Code != impl.OK {
		if r.Code != impl.ErrFull || len(list) != impl.MaxBinds || replaces || len(r.Binds) != 0 {
			t.Fatalf("PutBind(%+v, %+v) = %+v", list, b, r)
		}
		return false, false
	}
	if fault := impl.BindsFault(r.Binds); fault != impl.OK || expectedBindsFault(r.Binds) != impl.OK {
		t.Fatalf("PutBind(%+v, %+v) = %+v, with the fault %d", list, b, r, fault)
	}
	found := int64(-1)
	for _, e := range keysOf(list, b) {
		hit := impl.FindBind(r.Binds, b.Table, e)
		if hit.Code != impl.OK || !equalBind(r.Binds[hit.Value], b) {
			t.Fatalf("after PutBind(%+v, %+v): FindBind of %+v = %+v in %+v", list, b, e, hit, r.Binds)
		}
		found = hit.Value
	}
	if found < 0 {
		t.Fatalf("no key for %+v is tested in %+v", b, list)
	}
	rest := slices.Delete(slices.Clone(r.Binds), int(found), int(found)+1)
	if old := slices.DeleteFunc(slices.Clone(list), isSame); !equalBinds(rest, old) {
		t.Fatalf("PutBind(%+v, %+v): the other bindings are %+v, want %+v", list, b, rest, old)
	}
	if grown := len(r.Binds) - len(list); replaces && grown != 0 || !replaces && grown != 1 {
		t.Fatalf("PutBind(%+v, %+v) = %+v, %d bindings more", list, b, r, grown)
	}
	return true, replaces
}

func TestP9KnownLists(t *testing.T) {
	for _, list := range [][]impl.Bind{nil, {}, mixedBinds(), manyBinds(1), manyBinds(19), manyBinds(20)} {
		for _, c := range validCommands() {
			for table := range int64(3) {
				for _, code := range append(keyCodes(), 161, 179) {
					for mods := range int64(8) {
						checkP9(t, list, withCommand(bindTo(table, code, mods), c))
					}
				}
				checkP9(t, list, withCommand(bindTo(table, impl.AnyCode, 0), c))
				checkP9(t, list, withRepeat(withCommand(bindTo(table, impl.AnyCode, 0), c)))
			}
		}
	}
}

func TestP9RandomListsOfEveryLength(t *testing.T) {
	seed := uint64(36)
	for count := 0; count <= 20; count++ {
		full, replaced, inserted, tables, anyCodes := 0, 0, 0, map[int64]int{}, map[bool]int{}
		for range 600 {
			list, b := sortedRandom(&seed, count), randomBind(&seed)
			room, replaces := checkP9(t, list, b)
			switch {
			case !room:
				full++
			case replaces:
				replaced++
			default:
				inserted++
			}
			tables[b.Table]++
			anyCodes[slices.ContainsFunc(list, func(old impl.Bind) bool { return old.Code == impl.AnyCode })]++
		}
		if (full > 0) != (count == 20) || (inserted > 0) != (count < 20) || (replaced > 0) != (count > 0) || len(tables) != 3 {
			t.Errorf("lists of %d: %d full, %d replaced, %d inserted, in the tables %v", count, full, replaced, inserted, tables)
		}
		if anyCodes[false] == 0 && count < 8 || anyCodes[true] == 0 && count > 0 {
			t.Errorf("lists of %d: with AnyCode or without: %v", count, anyCodes)
		}
	}
}

// Each of many bindings put one after another is the one that is found from then on.
func TestP9AgainAndAgain(t *testing.T) {
	seed := uint64(37)
	for range 100 {
		var list []impl.Bind
		for range 60 {
			b := randomBind(&seed)
			if room, _ := checkP9(t, list, b); room {
				list = impl.PutBind(list, b).Binds
			}
		}
		if len(list) != impl.MaxBinds {
			t.Fatalf("%d bindings in the end", len(list))
		}
	}
}

// roomyBinds has other bindings behind the list and other bytes behind each Data in the same memory.
func roomyBinds(list []impl.Bind) []impl.Bind {
	out := append(slices.Clone(list), bindTo(2, impl.KeyPageDown, 7), fullBind(), impl.Bind{Table: 99})
	for i := range out {
		out[i].Cmd.Data = roomy(string(out[i].Cmd.Data))
	}
	return out[:len(list)]
}

// wholeBinds copies the memory of a list, beyond its length and that of each Data too.
func wholeBinds(list []impl.Bind) []impl.Bind {
	out := slices.Clone(list[:cap(list)])
	for i := range out {
		out[i].Cmd.Data = []byte(wholeRoom(out[i].Cmd.Data))
	}
	return out
}

func spoilBinds(list []impl.Bind) {
	list = list[:cap(list)]
	for i := range list {
		spoil(list[i].Cmd.Data)
		list[i] = impl.Bind{Table: 91, Code: 92, Mods: 93, Repeat: true, Cmd: impl.Command{Kind: 94, N: 95, Data: []byte("spoiled")}}
	}
}

func argumentLists() [][]impl.Bind {
	out := [][]impl.Bind{nil, {}, mixedBinds(), manyBinds(1), manyBinds(19), manyBinds(20), {withCommand(bindTo(1, 97, 0), command(impl.CmSend, 2, sized(16)))}}
	for _, code := range []int64{impl.ErrForm, impl.ErrRange, impl.ErrMany} {
		out = append(out, faultyLists()[code]...)
	}
	seed := uint64(38)
	for range 40 {
		out = append(out, sortedRandom(&seed, next(&seed, 21)))
	}
	return out
}

func argumentBinds() []impl.Bind {
	out := append(mixedBinds(), bindTo(1, impl.AnyCode, 0), withCommand(bindTo(1, 97, 0), command(impl.CmSend, 0, "xyz")), withCommand(bindTo(0, 160, 0), command(impl.CmSend, 4, sized(16))))
	for _, code := range []int64{impl.ErrForm, impl.ErrRange, impl.ErrMany} {
		out = append(out, faultyBinds()[code]...)
	}
	return out
}

// bindAnswers is what the functions of the chapter return for a list and a binding.
type bindAnswers struct {
	faults []int64
	finds  []impl.IntResult
	put    impl.BindsResult
	same   []bool
}

func bindAnswersFor(list []impl.Bind, b impl.Bind) bindAnswers {
	out := bindAnswers{faults: []int64{impl.BindsFault(list), impl.BindFault(b), impl.CommandFault(b.Cmd)}}
	for table := int64(-1); table <= 3; table++ {
		for _, e := range append(validEvents(), aKey(97, 0), aKey(98, 0), roomyEvent(aRaw("ab")), impl.Event{}) {
			out.finds = append(out.finds, impl.FindBind(list, table, e))
		}
	}
	out.put = impl.PutBind(list, b)
	out.same = []bool{impl.SameBinds(list, list), impl.SameBinds(list, []impl.Bind{b}), impl.SameBinds(nil, list)}
	return out
}

func (a bindAnswers) equal(b bindAnswers) bool {
	return slices.Equal(a.faults, b.faults) && slices.Equal(a.finds, b.finds) && slices.Equal(a.same, b.same) && samePut(a.put, b.put)
}

func TestP1BindArgumentsStay(t *testing.T) {
	for _, start := range argumentLists() {
		for _, b := range argumentBinds() {
			list, given := roomyBinds(start), roomyBinds([]impl.Bind{b})
			listRoom, givenRoom := wholeBinds(list), wholeBinds(given)
			got := bindAnswersFor(list, given[0])
			if !equalBinds(list, start) || !equalBind(given[0], b) || !equalBinds(wholeBinds(list), listRoom) || !equalBinds(wholeBinds(given), givenRoom) {
				t.Fatalf("the arguments %+v and %+v became %+v and %+v", start, b, list, given[0])
			}
			if again := bindAnswersFor(start, b); !again.equal(got) {
				t.Fatalf("%+v and %+v: %+v, then %+v", start, b, got, again)
			}
		}
	}
}

func TestP1FindBindEventStays(t *testing.T) {
	events := validEvents()
	for _, list := range faultyEvents() {
		events = append(events, list...)
	}
	for _, start := range events {
		e := roomyEvent(start)
		room := wholeRoom(e.Data)
		got := impl.FindBind(mixedBinds(), 0, e)
		if !unchanged([]impl.Event{e}, []impl.Event{start}) || wholeRoom(e.Data) != room || impl.FindBind(mixedBinds(), 0, start) != got {
			t.Fatalf("the event %+v became %+v, found %+v", start, e, got)
		}
	}
}

func TestP1PutBindResultsAreNew(t *testing.T) {
	for _, start := range argumentLists() {
		for _, b := range argumentBinds() {
			list, given := roomyBinds(start), roomyBinds([]impl.Bind{b})
			one, two := impl.PutBind(list, given[0]), impl.PutBind(list, given[0])
			want := impl.BindsResult{Code: one.Code, Binds: cloneBinds(one.Binds)}
			listRoom, givenRoom := wholeBinds(list), wholeBinds(given)
			spoilBinds(one.Binds)
			if !equalBinds(wholeBinds(list), listRoom) || !equalBinds(wholeBinds(given), givenRoom) {
				t.Fatalf("%+v and %+v: the arguments share memory with the result", start, b)
			}
			spoilBinds(list)
			spoilBinds(given)
			if !samePut(two, want) || !samePut(impl.PutBind(start, b), want) {
				t.Fatalf("%+v and %+v: the results share memory", start, b)
			}
		}
	}
}

// One Data that several bindings of the arguments share is a Data for each in the result.
func TestP1PutBindDataApart(t *testing.T) {
	shared := roomy("shared")
	var list []impl.Bind
	for _, b := range manyBinds(19) {
		list = append(list, withCommand(b, impl.Command{Kind: impl.CmSend, N: 1, Data: shared}))
	}
	for _, b := range []impl.Bind{bindTo(0, impl.AnyCode, 0), bindTo(0, 165, 0), bindTo(2, 97, 0)} {
		r := impl.PutBind(list, withCommand(b, list[0].Cmd))
		if r.Code != impl.OK {
			t.Fatalf("PutBind of %+v = %+v", b, r)
		}
		want := cloneBinds(r.Binds)
		for i := range r.Binds {
			spoil(r.Binds[i].Cmd.Data)
			want[i].Cmd.Data = slices.Clone(r.Binds[i].Cmd.Data)
			if !equalBinds(r.Binds, want) || string(shared) != "shared" {
				t.Fatalf("the Data %d shares memory: %+v", i, r.Binds)
			}
		}
	}
}

// A result depends on no order but that of the bindings.
func TestP1PutBindIsTheSameAtEveryCall(t *testing.T) {
	seed := uint64(39)
	for range 20 {
		list, b := sortedRandom(&seed, 19), randomBind(&seed)
		want := impl.PutBind(list, b)
		for range 100 {
			if got := impl.PutBind(list, b); !samePut(got, want) {
				t.Fatalf("PutBind(%+v, %+v) = %+v, then %+v", list, b, want, got)
			}
		}
	}
}
