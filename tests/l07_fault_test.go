package tests

import (
	"fmt"
	"math"
	"slices"
	"testing"

	"loop.example/g00804/impl"
)

// branch is a node that has its parts themselves instead of their numbers.
type branch struct {
	node impl.Node
	a    *branch
	b    *branch
}

func branchOf(l impl.Layout, at int64) *branch {
	n := l.Nodes[at]
	if n.Kind == impl.NodePane {
		return &branch{node: n}
	}
	return &branch{node: impl.Node{Kind: n.Kind, First: n.First}, a: branchOf(l, n.A), b: branchOf(l, n.B)}
}

// nodesFrom numbers the nodes in depth-first order, this one first.
func (b *branch) nodesFrom(number int64) []impl.Node {
	if b.a == nil {
		return []impl.Node{b.node}
	}
	n := b.node
	n.A = number + 1
	left := b.a.nodesFrom(n.A)
	n.B = n.A + int64(len(left))
	return slices.Concat([]impl.Node{n}, left, b.b.nodesFrom(n.B))
}

func (b *branch) isPane(pane int64) bool {
	return b.a == nil && b.node.Pane == pane
}

// changed replaces each branch that the change applies to.
func (b *branch) changed(change func(*branch) *branch) *branch {
	if b.a == nil {
		return change(b)
	}
	return change(&branch{node: b.node, a: b.a.changed(change), b: b.b.changed(change)})
}

func noLayout(code int64) impl.LayoutResult {
	return impl.LayoutResult{Code: code}
}

func layoutAs(l impl.Layout, root *branch) impl.LayoutResult {
	return impl.LayoutResult{Layout: layoutOf(l.Wide, l.High, root.nodesFrom(0)...)}
}

// expectedTidy and the functions below follow the document sentence by sentence.
func expectedTidy(l impl.Layout) impl.LayoutResult {
	if fault := expectedLayoutFault(l); fault != impl.OK {
		return noLayout(fault)
	}
	return layoutAs(l, branchOf(l, 0))
}

func rectFor(l impl.Layout, pane int64) (impl.Rect, bool) {
	for _, r := range expectedRects(l) {
		if r.Pane == pane {
			return r, true
		}
	}
	return impl.Rect{}, false
}

func expectedSplit(l impl.Layout, pane int64, kind int64, fresh int64) impl.LayoutResult {
	if fault := expectedLayoutFault(l); fault != impl.OK {
		return noLayout(fault)
	}
	if kind != impl.NodeBeside && kind != impl.NodeAbove || fresh < 0 || fresh > 5 {
		return noLayout(impl.ErrRange)
	}
	r, exists := rectFor(l, pane)
	if !exists {
		return noLayout(impl.ErrNone)
	}
	if _, taken := rectFor(l, fresh); taken {
		return noLayout(impl.ErrState)
	}
	room := r.Wide
	if kind == impl.NodeAbove {
		room = r.High
	}
	if room < 3 {
		return noLayout(impl.ErrFull)
	}
	// The border and the B have the other half of the cells, and the one left over.
	first := int64(0)
	for 2*(first+1) <= room-1 {
		first++
	}
	return layoutAs(l, branchOf(l, 0).changed(func(b *branch) *branch {
		if !b.isPane(pane) {
			return b
		}
		return &branch{node: impl.Node{Kind: kind, First: first}, a: b, b: &branch{node: paneNode(fresh)}}
	}))
}

func expectedPart(l impl.Layout, pane int64) int64 {
	if fault := expectedLayoutFault(l); fault != impl.OK {
		return fault
	}
	if _, exists := rectFor(l, pane); !exists {
		return impl.ErrNone
	}
	if len(l.Nodes) == 1 {
		return impl.ErrState
	}
	return impl.OK
}

func expectedKill(l impl.Layout, pane int64) impl.LayoutResult {
	if code := expectedPart(l, pane); code != impl.OK {
		return noLayout(code)
	}
	return layoutAs(l, branchOf(l, 0).changed(func(b *branch) *branch {
		switch {
		case b.a != nil && b.a.isPane(pane):
			return b.b
		case b.a != nil && b.b.isPane(pane):
			return b.a
		}
		return b
	}))
}

func expectedResize(l impl.Layout, pane int64, by int64) impl.LayoutResult {
	if code := expectedPart(l, pane); code != impl.OK {
		return noLayout(code)
	}
	if by < -200 || by > 200 {
		return noLayout(impl.ErrRange)
	}
	out := layoutAs(l, branchOf(l, 0).changed(func(b *branch) *branch {
		if b.a != nil && (b.a.isPane(pane) || b.b.isPane(pane)) {
			b.node.First += by
		}
		return b
	}))
	if expectedLayoutFault(out.Layout) != impl.OK {
		return noLayout(impl.ErrFull)
	}
	return out
}

func expectedNext(l impl.Layout, pane int64) impl.IntResult {
	if fault := expectedLayoutFault(l); fault != impl.OK {
		return impl.IntResult{Code: fault}
	}
	rects := expectedRects(l)
	for i, r := range rects {
		if r.Pane == pane && i+1 < len(rects) {
			return impl.IntResult{Value: rects[i+1].Pane}
		}
		if r.Pane == pane {
			return impl.IntResult{Value: rects[0].Pane}
		}
	}
	return impl.IntResult{Code: impl.ErrNone}
}

// isNormal visits the nodes depth first and counts them.
func isNormal(l impl.Layout) bool {
	count, ordered := int64(0), true
	var visit func(at int64)
	visit = func(at int64) {
		ordered = ordered && at == count
		count++
		if n := l.Nodes[at]; ordered && n.Kind != impl.NodePane {
			visit(n.A)
			visit(n.B)
		}
	}
	visit(0)
	return ordered
}

func sameLayoutResult(a impl.LayoutResult, b impl.LayoutResult) bool {
	return a.Code == b.Code && a.Layout.Wide == b.Layout.Wide && a.Layout.High == b.Layout.High && slices.Equal(a.Layout.Nodes, b.Layout.Nodes)
}

// checkEdit also checks that a layout in the result has no fault and is in normal form.
func checkEdit(t *testing.T, call string, l impl.Layout, got impl.LayoutResult, want impl.LayoutResult) {
	t.Helper()
	if !sameLayoutResult(got, want) {
		t.Errorf("%s of %+v = %+v, want %+v", call, l, got, want)
		return
	}
	if got.Code != impl.OK {
		return
	}
	if fault := impl.LayoutFault(got.Layout); fault != impl.OK || !isNormal(got.Layout) {
		t.Errorf("%s of %+v = %+v, with the fault %d, in normal form: %v", call, l, got, fault, isNormal(got.Layout))
	}
	if tidy := impl.TidyLayout(got.Layout); !sameLayoutResult(tidy, got) {
		t.Errorf("%s of %+v = %+v, but TidyLayout of it = %+v", call, l, got, tidy)
	}
}

func checkSplit(t *testing.T, l impl.Layout, pane int64, kind int64, fresh int64, want impl.LayoutResult) {
	t.Helper()
	checkEdit(t, fmt.Sprintf("SplitPane(%d, %d, %d)", pane, kind, fresh), l, impl.SplitPane(l, pane, kind, fresh), want)
}

func checkKill(t *testing.T, l impl.Layout, pane int64, want impl.LayoutResult) {
	t.Helper()
	checkEdit(t, fmt.Sprintf("KillPane(%d)", pane), l, impl.KillPane(l, pane), want)
}

func checkResize(t *testing.T, l impl.Layout, pane int64, by int64, want impl.LayoutResult) {
	t.Helper()
	checkEdit(t, fmt.Sprintf("ResizePane(%d, %d)", pane, by), l, impl.ResizePane(l, pane, by), want)
}

func checkNext(t *testing.T, l impl.Layout, pane int64, want impl.IntResult) {
	t.Helper()
	if got := impl.NextPane(l, pane); got != want {
		t.Errorf("NextPane(%+v, %d) = %+v, want %+v", l, pane, got, want)
	}
}

func checkTidy(t *testing.T, l impl.Layout, want impl.LayoutResult) {
	t.Helper()
	checkEdit(t, "TidyLayout", l, impl.TidyLayout(l), want)
}

// checkSeen checks that a test with random layouts has met each of the codes often enough.
func checkSeen(t *testing.T, seen map[int64]int, codes ...int64) {
	t.Helper()
	for _, code := range codes {
		if seen[code] < 20 {
			t.Errorf("the code %d has come %d times", code, seen[code])
		}
	}
}

// checkEditFault checks that each function returns the layout's fault before anything else, and nothing beside it.
func checkEditFault(t *testing.T, l impl.Layout, code int64) {
	t.Helper()
	numbers := []int64{-1, 0, 1, 3, 5, 6, math.MinInt64, math.MaxInt64}
	for _, pane := range numbers {
		for _, kind := range []int64{impl.NodeBeside, impl.NodeAbove, 0, 1, 4} {
			for _, fresh := range append(numbers, 2) {
				checkSplit(t, l, pane, kind, fresh, noLayout(code))
			}
		}
		checkKill(t, l, pane, noLayout(code))
		for _, by := range []int64{0, 1, -1, 200, 201, -200, -201, math.MinInt64, math.MaxInt64} {
			checkResize(t, l, pane, by, noLayout(code))
		}
		checkNext(t, l, pane, impl.IntResult{Code: code})
	}
	checkTidy(t, l, noLayout(code))
}

func TestEditsOfLayoutsWithAFault(t *testing.T) {
	seen := map[int64]int{}
	for _, l := range argumentLayouts() {
		if fault := expectedLayoutFault(l); fault != impl.OK {
			checkEditFault(t, l, fault)
			seen[fault]++
		}
	}
	for _, code := range []int64{impl.ErrForm, impl.ErrMany, impl.ErrRange, impl.ErrState} {
		if seen[code] == 0 {
			t.Errorf("no layout has the fault %d", code)
		}
	}
}

// A single pane with a fault is not refused for being the only one.
func TestEditsOfASinglePaneWithAFault(t *testing.T) {
	checkEditFault(t, layoutOf(0, 24, paneNode(0)), impl.ErrRange)
	checkEditFault(t, layoutOf(80, 201, paneNode(0)), impl.ErrRange)
	checkEditFault(t, layoutOf(80, 24, paneNode(6)), impl.ErrRange)
	checkEditFault(t, layoutOf(80, 24, impl.Node{Kind: impl.NodePane, First: 1}), impl.ErrForm)
	checkEditFault(t, layoutOf(80, 24, paneNode(0), paneNode(1)), impl.ErrState)
	checkEditFault(t, layoutOf(80, 24, make([]impl.Node, 100000)...), impl.ErrMany)
}

// The result of an edit would have no fault, but the layout itself has one.
func TestEditsThatWouldRemoveAFault(t *testing.T) {
	checkEditFault(t, layoutOf(20, 9, besideNode(19, 1, 2), paneNode(0), paneNode(1)), impl.ErrRange)
	checkEditFault(t, layoutOf(20, 9, besideNode(0, 1, 2), paneNode(0), paneNode(1)), impl.ErrRange)
	checkEditFault(t, layoutOf(20, 9, besideNode(9, 1, 2), paneNode(0), paneNode(0)), impl.ErrState)
	checkEditFault(t, layoutOf(20, 9, besideNode(9, 1, 2), paneNode(0), paneNode(9)), impl.ErrRange)
}
