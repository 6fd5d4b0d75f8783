package tests

import (
	"math"
	"slices"
	"testing"

	"loop.example/g00804/impl"
)

func checkSameBinds(t *testing.T, a []impl.Bind, b []impl.Bind, want bool) {
	t.Helper()
	if impl.SameBinds(a, b) != want || impl.SameBinds(b, a) != want {
		t.Errorf("SameBinds(%+v, %+v) is not %v both ways", a, b, want)
	}
}

// fullBind has a fault, so that each of its fields can be told from zero.
func fullBind() impl.Bind {
	return impl.Bind{Table: 11, Code: 12, Mods: 13, Repeat: true, Cmd: impl.Command{Kind: 14, N: 15, Data: []byte{18, 19}}}
}

func withSent(b impl.Bind, data []byte) impl.Bind {
	b.Cmd.Data = data
	return b
}

func checkDifferent(t *testing.T, other impl.Bind) {
	t.Helper()
	checkSameBinds(t, []impl.Bind{fullBind()}, []impl.Bind{other}, false)
	around := []impl.Bind{bindTo(0, 97, 0), fullBind(), bindTo(2, 97, 0)}
	checkSameBinds(t, around, slices.Replace(slices.Clone(around), 1, 2, other), false)
}

func TestSameBindsFields(t *testing.T) {
	one := fullBind()
	checkSameBinds(t, []impl.Bind{one}, []impl.Bind{fullBind()}, true)
	for _, name := range bindFields() {
		for _, value := range []int64{0, 1, -1, math.MaxInt64, math.MinInt64, *bindField(&one, name) + 1<<32} {
			checkDifferent(t, withField(fullBind(), name, value))
		}
	}
	other := fullBind()
	other.Repeat = false
	checkDifferent(t, other)
	for _, data := range [][]byte{nil, {}, {18}, {19}, {19, 18}, {18, 20}, {17, 19}, {18, 19, 0}} {
		checkDifferent(t, withSent(fullBind(), data))
	}
	// The same numbers in other fields.
	checkDifferent(t, impl.Bind{Table: 12, Code: 11, Mods: 13, Repeat: true, Cmd: one.Cmd})
	checkDifferent(t, impl.Bind{Table: 11, Code: 13, Mods: 12, Repeat: true, Cmd: one.Cmd})
	checkDifferent(t, withCommand(one, impl.Command{Kind: 15, N: 14, Data: one.Cmd.Data}))
}

func TestSameBindsData(t *testing.T) {
	list := mixedBinds()
	for i, b := range list {
		if b.Cmd.Kind != impl.CmSend {
			// No Data is the same as none.
			other := slices.Clone(list)
			other[i] = withSent(b, nil)
			checkSameBinds(t, list, other, true)
			other[i] = withSent(b, []byte{})
			checkSameBinds(t, list, other, true)
			continue
		}
		for k := range b.Cmd.Data {
			other := cloneBinds(list)
			checkSameBinds(t, list, other, true)
			other[i].Cmd.Data[k] ^= 128
			checkSameBinds(t, list, other, false)
		}
	}
	checkSameBinds(t, []impl.Bind{withSent(fullBind(), nil)}, []impl.Bind{withSent(fullBind(), []byte{})}, true)
	checkSameBinds(t, []impl.Bind{withSent(fullBind(), nil)}, []impl.Bind{withSent(fullBind(), []byte{0})}, false)
}

func TestSameBindsLists(t *testing.T) {
	checkSameBinds(t, nil, nil, true)
	checkSameBinds(t, nil, []impl.Bind{}, true)
	checkSameBinds(t, []impl.Bind{}, []impl.Bind{}, true)
	checkSameBinds(t, nil, []impl.Bind{{}}, false)
	checkSameBinds(t, []impl.Bind{}, []impl.Bind{{}}, false)
	checkSameBinds(t, []impl.Bind{{}}, []impl.Bind{{}, {}}, false)
	list := mixedBinds()
	checkSameBinds(t, list, mixedBinds(), true)
	for count := range list {
		checkSameBinds(t, list, list[:count], false)
		checkSameBinds(t, list, list[len(list)-count:], false)
	}
	turned := mixedBinds()
	turned[1], turned[2] = turned[2], turned[1]
	checkSameBinds(t, list, turned, false)
}

// It accepts lists that have a fault: the same ones are equal, others are not.
func TestSameBindsOfAnyArguments(t *testing.T) {
	var all [][]impl.Bind
	for _, lists := range faultyLists() {
		all = append(all, lists...)
	}
	all = append(all, manyBinds(22), make([]impl.Bind, 1000), slices.Repeat([]impl.Bind{fullBind()}, 1000), []impl.Bind{bindTo(math.MinInt64, math.MaxInt64, math.MinInt64)}, []impl.Bind{bindTo(math.MaxInt64, math.MinInt64, math.MinInt64)},
		[]impl.Bind{withCommand(bindTo(0, 97, 0), command(impl.CmSend, 0, sized(1000)))}, []impl.Bind{withCommand(bindTo(0, 97, 0), command(impl.CmSend, 0, sized(999)+"y"))})
	for i, a := range all {
		for k, b := range all {
			checkSameBinds(t, a, cloneBinds(b), i == k)
		}
	}
}

func TestSameBindsRandomLists(t *testing.T) {
	seed := uint64(35)
	same, others := 0, 0
	for range 5000 {
		a := spoiledBinds(&seed)
		b := cloneBinds(a)
		if len(b) > 0 && next(&seed, 2) == 0 {
			k := next(&seed, len(b))
			b[k] = withField(b[k], bindFields()[next(&seed, 5)], int64(next(&seed, 6)-1))
		}
		want := equalBinds(a, b)
		checkSameBinds(t, a, b, want)
		if want {
			same++
		} else {
			others++
		}
	}
	if same < 100 || others < 100 {
		t.Errorf("%d equal lists and %d others", same, others)
	}
}
