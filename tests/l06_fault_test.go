package tests

import (
	"math"
	"slices"
	"testing"

	"loop.example/g00804/impl"
)

func paneNode(number int64) impl.Node {
	return impl.Node{Kind: impl.NodePane, Pane: number}
}

func besideNode(first int64, a int64, b int64) impl.Node {
	return impl.Node{Kind: impl.NodeBeside, First: first, A: a, B: b}
}

func aboveNode(first int64, a int64, b int64) impl.Node {
	return impl.Node{Kind: impl.NodeAbove, First: first, A: a, B: b}
}

func layoutOf(wide int64, high int64, nodes ...impl.Node) impl.Layout {
	return impl.Layout{Wide: wide, High: high, Nodes: nodes}
}

// fourPanes has splits of both kinds, nested, and nodes that are not in depth-first order.
func fourPanes() impl.Layout {
	return layoutOf(20, 9, besideNode(9, 2, 1), aboveNode(3, 4, 3), aboveNode(4, 6, 5), paneNode(5), paneNode(1), paneNode(0), paneNode(3))
}

// chainOf has this many panes side by side, each split within the B of the one before.
func chainOf(panes int64) impl.Layout {
	l := layoutOf(200, 200)
	for i := range panes - 1 {
		l.Nodes = append(l.Nodes, paneNode(i))
		l.Nodes = slices.Insert(l.Nodes, int(2*i), besideNode(1, 2*i+1, 2*i+2))
	}
	l.Nodes = append(l.Nodes, paneNode(panes-1))
	return l
}

func nodeField(n *impl.Node, name string) *int64 {
	switch name {
	case "Kind":
		return &n.Kind
	case "Pane":
		return &n.Pane
	case "First":
		return &n.First
	case "A":
		return &n.A
	case "B":
		return &n.B
	}
	panic("no field " + name)
}

func nodeFields() []string {
	return []string{"Kind", "Pane", "First", "A", "B"}
}

// withNode returns a copy of the layout in which one field of one node has another value.
func withNode(l impl.Layout, at int, name string, value int64) impl.Layout {
	l.Nodes = slices.Clone(l.Nodes)
	*nodeField(&l.Nodes[at], name) = value
	return l
}

func resized(l impl.Layout, wide int64, high int64) impl.Layout {
	l.Wide, l.High = wide, high
	return l
}

func sameRects(a impl.RectsResult, b impl.RectsResult) bool {
	return a.Code == b.Code && slices.Equal(a.Rects, b.Rects)
}

// checkLayoutFault also checks that every other function returns the fault first, and nothing beside it.
func checkLayoutFault(t *testing.T, l impl.Layout, want int64) {
	t.Helper()
	if got := impl.LayoutFault(l); got != want {
		t.Errorf("LayoutFault(%+v) = %d, want %d", l, got, want)
	}
	if want == impl.OK {
		return
	}
	if got := impl.RectsOf(l); got.Code != want || len(got.Rects) != 0 {
		t.Errorf("RectsOf(%+v) = %+v, want the code %d", l, got, want)
	}
	for _, n := range []int64{-1, 0, 1, 5, 6, math.MinInt64, math.MaxInt64} {
		if got := impl.RectOf(l, n); got.Code != want || len(got.Rects) != 0 {
			t.Errorf("RectOf(%+v, %d) = %+v, want the code %d", l, n, got, want)
		}
		if impl.HasPane(l, n) {
			t.Errorf("HasPane(%+v, %d) with the fault %d", l, n, want)
		}
		for _, row := range []int64{n, 0, 7} {
			if got := impl.HitAt(l, n, row); got != (impl.IntResult{Code: want}) {
				t.Errorf("HitAt(%+v, %d, %d) = %+v, want the code %d", l, n, row, got, want)
			}
		}
	}
}

func TestConstantsOfLayouts(t *testing.T) {
	if impl.NodePane != 1 || impl.NodeBeside != 2 || impl.NodeAbove != 3 || impl.MaxPanes != 6 || impl.Border != -1 || impl.MaxSide != 200 {
		t.Errorf("NodePane %d, NodeBeside %d, NodeAbove %d, MaxPanes %d, Border %d, MaxSide %d", impl.NodePane, impl.NodeBeside, impl.NodeAbove, impl.MaxPanes, impl.Border, impl.MaxSide)
	}
}

func TestLayoutFaultNumberOfNodes(t *testing.T) {
	for panes := int64(1); panes <= 6; panes++ {
		checkLayoutFault(t, chainOf(panes), impl.OK)
	}
	checkLayoutFault(t, layoutOf(80, 24), impl.ErrMany)
	checkLayoutFault(t, impl.Layout{Wide: 80, High: 24, Nodes: []impl.Node{}}, impl.ErrMany)
	if most := chainOf(6); len(most.Nodes) != 11 {
		t.Fatalf("%d nodes", len(most.Nodes))
	}
	for _, extra := range []impl.Node{paneNode(0), paneNode(6), besideNode(1, 1, 2), {}} {
		l := chainOf(6)
		l.Nodes = append(l.Nodes, extra)
		checkLayoutFault(t, l, impl.ErrMany)
	}
	checkLayoutFault(t, chainOf(7), impl.ErrMany)
	checkLayoutFault(t, layoutOf(80, 24, make([]impl.Node, 100000)...), impl.ErrMany)
}

// The number of nodes comes before the size, and before all that is wrong with a node.
func TestLayoutFaultNumberOfNodesFirst(t *testing.T) {
	for _, side := range []int64{0, -1, 201, 80, math.MinInt64, math.MaxInt64} {
		checkLayoutFault(t, layoutOf(side, 24), impl.ErrMany)
		checkLayoutFault(t, layoutOf(24, side), impl.ErrMany)
		checkLayoutFault(t, layoutOf(side, side, make([]impl.Node, 12)...), impl.ErrMany)
		checkLayoutFault(t, layoutOf(side, 24, slices.Repeat([]impl.Node{paneNode(0)}, 12)...), impl.ErrMany)
	}
}

func TestLayoutFaultSize(t *testing.T) {
	for _, side := range []int64{1, 2, 100, 199, 200} {
		checkLayoutFault(t, layoutOf(side, 24, paneNode(0)), impl.OK)
		checkLayoutFault(t, layoutOf(80, side, paneNode(0)), impl.OK)
		checkLayoutFault(t, layoutOf(side, side, paneNode(0)), impl.OK)
	}
	for _, side := range []int64{0, -1, 201, 202, -200, 1 << 32, 1<<32 + 1, math.MinInt64, math.MaxInt64} {
		checkLayoutFault(t, layoutOf(side, 24, paneNode(0)), impl.ErrRange)
		checkLayoutFault(t, layoutOf(80, side, paneNode(0)), impl.ErrRange)
		checkLayoutFault(t, layoutOf(side, side, paneNode(0)), impl.ErrRange)
	}
}

// The size comes before all that is wrong with a node and with the tree.
func TestLayoutFaultSizeSecond(t *testing.T) {
	for _, bad := range []int64{0, 201} {
		for _, l := range []impl.Layout{layoutOf(80, 24, impl.Node{}), layoutOf(80, 24, impl.Node{Kind: 4}), layoutOf(80, 24, impl.Node{Kind: 1, A: 1}), layoutOf(80, 24, paneNode(0), paneNode(0)), layoutOf(80, 24, besideNode(9, 1, 2), paneNode(0), paneNode(0))} {
			checkLayoutFault(t, resized(l, bad, 24), impl.ErrRange)
			checkLayoutFault(t, resized(l, 80, bad), impl.ErrRange)
		}
	}
}

func TestLayoutFaultKind(t *testing.T) {
	l := fourPanes()
	checkLayoutFault(t, l, impl.OK)
	for at := range l.Nodes {
		for _, kind := range []int64{0, 4, -1, 5, 1<<32 + 1, math.MinInt64, math.MaxInt64} {
			checkLayoutFault(t, withNode(l, at, "Kind", kind), impl.ErrForm)
		}
	}
	checkLayoutFault(t, layoutOf(80, 24, impl.Node{}), impl.ErrForm)
	// With another kind that exists, the fields of the former one are in the way.
	checkLayoutFault(t, withNode(l, 0, "Kind", impl.NodePane), impl.ErrForm)
	checkLayoutFault(t, withNode(l, 3, "Kind", impl.NodeBeside), impl.ErrForm)
	checkLayoutFault(t, withNode(l, 3, "Kind", impl.NodeAbove), impl.ErrForm)
	checkLayoutFault(t, withNode(l, 5, "Kind", impl.NodeAbove), impl.ErrRange)
}

func TestLayoutFaultUnusedFields(t *testing.T) {
	values := []int64{1, 2, 5, -1, 6, 1 << 32, math.MinInt64, math.MaxInt64}
	l := fourPanes()
	for at, n := range l.Nodes {
		for _, value := range values {
			if n.Kind != impl.NodePane {
				checkLayoutFault(t, withNode(l, at, "Pane", value), impl.ErrForm)
				continue
			}
			for _, name := range []string{"First", "A", "B"} {
				checkLayoutFault(t, withNode(l, at, name, value), impl.ErrForm)
			}
		}
	}
}

func TestLayoutFaultPane(t *testing.T) {
	for pane := range int64(6) {
		checkLayoutFault(t, layoutOf(80, 24, paneNode(pane)), impl.OK)
	}
	for _, pane := range []int64{-1, 6, 7, -6, 1 << 32, 1<<32 + 1, math.MinInt64, math.MaxInt64} {
		checkLayoutFault(t, layoutOf(80, 24, paneNode(pane)), impl.ErrRange)
		for at := 3; at < 7; at++ {
			checkLayoutFault(t, withNode(fourPanes(), at, "Pane", pane), impl.ErrRange)
		}
	}
}

func TestLayoutFaultParts(t *testing.T) {
	l := fourPanes()
	count := int64(len(l.Nodes))
	for at := range 3 {
		own := int64(at)
		for _, part := range []int64{own, own - 1, 0, -1, count, count + 1, -count, 1 << 32, 1<<32 + 3, math.MinInt64, math.MaxInt64} {
			checkLayoutFault(t, withNode(l, at, "A", part), impl.ErrRange)
			checkLayoutFault(t, withNode(l, at, "B", part), impl.ErrRange)
			checkLayoutFault(t, withNode(withNode(l, at, "A", part), at, "B", part), impl.ErrRange)
		}
	}
	for _, n := range []impl.Node{besideNode(1, 0, 0), aboveNode(1, 0, 0), besideNode(1, 1, 1), besideNode(1, 1, 2)} {
		checkLayoutFault(t, layoutOf(80, 24, n), impl.ErrRange)
	}
	// Two splits that are part of each other.
	checkLayoutFault(t, layoutOf(80, 24, besideNode(1, 1, 2), besideNode(1, 0, 2), paneNode(0)), impl.ErrRange)
}

// The nodes are checked one by one, the form of each before its numbers.
func TestLayoutFaultNodeByNode(t *testing.T) {
	form, number := withNode(fourPanes(), 3, "Kind", 4), withNode(fourPanes(), 3, "Pane", 6)
	for _, at := range []int{4, 5, 6} {
		checkLayoutFault(t, withNode(form, at, "Pane", 6), impl.ErrForm)
		checkLayoutFault(t, withNode(number, at, "Kind", 4), impl.ErrRange)
		checkLayoutFault(t, withNode(number, at, "First", 1), impl.ErrRange)
	}
	for _, at := range []int{0, 1, 2} {
		checkLayoutFault(t, withNode(form, at, "A", 0), impl.ErrRange)
		checkLayoutFault(t, withNode(form, at, "B", 7), impl.ErrRange)
		checkLayoutFault(t, withNode(number, at, "Pane", 1), impl.ErrForm)
		checkLayoutFault(t, withNode(withNode(fourPanes(), at, "Pane", 1), at, "A", 7), impl.ErrForm)
	}
	for _, at := range []int{3, 4, 5, 6} {
		checkLayoutFault(t, withNode(withNode(fourPanes(), at, "Pane", -1), at, "First", 1), impl.ErrForm)
		checkLayoutFault(t, withNode(withNode(fourPanes(), at, "Pane", 9), at, "B", 1), impl.ErrForm)
		checkLayoutFault(t, withNode(withNode(fourPanes(), at, "Pane", 9), at, "Kind", 0), impl.ErrForm)
	}
}

// Each node is checked before the tree, even one that no split refers to.
func TestLayoutFaultNodesBeforeTree(t *testing.T) {
	twice := layoutOf(20, 9, besideNode(9, 1, 1), paneNode(0), paneNode(0))
	checkLayoutFault(t, twice, impl.ErrState)
	for at := 1; at < 3; at++ {
		checkLayoutFault(t, withNode(twice, at, "Kind", 0), impl.ErrForm)
		checkLayoutFault(t, withNode(twice, at, "First", -1), impl.ErrForm)
		checkLayoutFault(t, withNode(twice, at, "Pane", 6), impl.ErrRange)
		checkLayoutFault(t, withNode(twice, at, "Pane", -1), impl.ErrRange)
	}
}

func TestLayoutFaultTree(t *testing.T) {
	for _, l := range []impl.Layout{
		layoutOf(20, 9, besideNode(9, 1, 1), paneNode(0)),
		layoutOf(20, 9, aboveNode(4, 1, 1), paneNode(0)),
		layoutOf(20, 9, besideNode(9, 1, 1), paneNode(0), paneNode(1)),
		layoutOf(20, 9, besideNode(9, 2, 2), paneNode(0), paneNode(1)),
		layoutOf(20, 9, paneNode(0), paneNode(1)),
		layoutOf(20, 9, paneNode(0), paneNode(1), paneNode(2)),
		layoutOf(20, 9, besideNode(9, 1, 2), paneNode(0), paneNode(1), paneNode(2)),
		layoutOf(20, 9, besideNode(9, 2, 3), paneNode(0), paneNode(1), paneNode(2)),
		layoutOf(20, 9, paneNode(5), besideNode(9, 2, 3), paneNode(0), paneNode(1)),
		// Node 3 is a part of two splits, and node 4 of none.
		layoutOf(20, 9, besideNode(9, 1, 3), aboveNode(4, 2, 3), paneNode(0), paneNode(1), paneNode(2)),
		// Every node is a part, but node 2 twice.
		layoutOf(20, 9, besideNode(9, 1, 2), aboveNode(4, 2, 3), paneNode(0), paneNode(1)),
		// A split of its own beside the root's tree.
		layoutOf(20, 9, besideNode(9, 1, 2), paneNode(0), paneNode(1), aboveNode(4, 4, 5), paneNode(2), paneNode(3)),
	} {
		checkLayoutFault(t, l, impl.ErrState)
	}
	for _, at := range []int{0, 1, 2} {
		l := fourPanes()
		checkLayoutFault(t, withNode(l, at, "A", l.Nodes[at].B), impl.ErrState)
		checkLayoutFault(t, withNode(l, at, "B", l.Nodes[at].A), impl.ErrState)
	}
}

func TestLayoutFaultSamePane(t *testing.T) {
	for pane := range int64(6) {
		checkLayoutFault(t, layoutOf(20, 9, besideNode(9, 1, 2), paneNode(pane), paneNode(pane)), impl.ErrState)
		checkLayoutFault(t, layoutOf(20, 9, aboveNode(4, 2, 1), paneNode(pane), paneNode((pane+1)%6)), impl.OK)
	}
	l := fourPanes()
	for at := 3; at < 7; at++ {
		for other := 3; other < 7; other++ {
			want := int64(impl.ErrState)
			if at == other {
				want = impl.OK
			}
			checkLayoutFault(t, withNode(l, at, "Pane", l.Nodes[other].Pane), want)
		}
	}
	// The first and the last of all panes; a split's Pane of 0 is none.
	checkLayoutFault(t, withNode(chainOf(6), 1, "Pane", 5), impl.ErrState)
	checkLayoutFault(t, withNode(chainOf(6), 10, "Pane", 0), impl.ErrState)
}

// What is wrong with the tree or its panes comes before a rectangle without a cell.
func TestLayoutFaultTreeBeforeRects(t *testing.T) {
	for _, first := range []int64{0, -1, 19, 200, math.MinInt64, math.MaxInt64} {
		checkLayoutFault(t, layoutOf(20, 9, besideNode(first, 1, 2), paneNode(0), paneNode(0)), impl.ErrState)
		checkLayoutFault(t, layoutOf(20, 9, besideNode(first, 1, 1), paneNode(0), paneNode(1)), impl.ErrState)
		checkLayoutFault(t, layoutOf(20, 9, besideNode(first, 1, 2), paneNode(0), paneNode(1)), impl.ErrRange)
		checkLayoutFault(t, layoutOf(20, 9, besideNode(first, 1, 2), paneNode(0), paneNode(6)), impl.ErrRange)
		checkLayoutFault(t, layoutOf(20, 9, besideNode(first, 1, 2), paneNode(0), impl.Node{}), impl.ErrForm)
	}
}

// A part has at least one cell of the side, and so has the border.
func TestLayoutFaultFirst(t *testing.T) {
	for _, side := range []int64{1, 2, 3, 4, 5, 20, 199, 200} {
		for _, first := range []int64{math.MinInt64, math.MinInt64 + 1, -1 << 32, -200, -2, -1, 0, 1, 2, 3, side - 3, side - 2, side - 1, side, side + 1, 200, 201, 1 << 32, 1<<32 + 1, math.MaxInt64 - 1, math.MaxInt64} {
			want := int64(impl.ErrRange)
			if first >= 1 && side >= 3 && first <= side-2 {
				want = impl.OK
			}
			for _, other := range []int64{1, 9, 200} {
				checkLayoutFault(t, layoutOf(side, other, besideNode(first, 1, 2), paneNode(0), paneNode(1)), want)
				checkLayoutFault(t, layoutOf(other, side, aboveNode(first, 1, 2), paneNode(0), paneNode(1)), want)
			}
		}
	}
}

// A single row or column, or two of them, cannot be split in this direction, but in the other.
func TestLayoutFaultOfShortSides(t *testing.T) {
	for _, short := range []int64{1, 2, 3} {
		want := int64(impl.ErrRange)
		if short == 3 {
			want = impl.OK
		}
		checkLayoutFault(t, layoutOf(80, short, aboveNode(1, 1, 2), paneNode(0), paneNode(1)), want)
		checkLayoutFault(t, layoutOf(short, 24, besideNode(1, 1, 2), paneNode(0), paneNode(1)), want)
		checkLayoutFault(t, layoutOf(80, short, besideNode(1, 1, 2), paneNode(0), paneNode(1)), impl.OK)
		checkLayoutFault(t, layoutOf(short, 24, aboveNode(1, 1, 2), paneNode(0), paneNode(1)), impl.OK)
		// The short part of a split is split again.
		for _, l := range []impl.Layout{
			layoutOf(80, 24, aboveNode(short, 1, 2), aboveNode(1, 3, 4), paneNode(0), paneNode(1), paneNode(2)),
			layoutOf(80, 24, aboveNode(23-short, 1, 2), paneNode(0), aboveNode(1, 3, 4), paneNode(1), paneNode(2)),
			layoutOf(80, 24, besideNode(short, 1, 2), besideNode(1, 3, 4), paneNode(0), paneNode(1), paneNode(2)),
			layoutOf(80, 24, besideNode(79-short, 1, 2), paneNode(0), besideNode(1, 3, 4), paneNode(1), paneNode(2)),
		} {
			checkLayoutFault(t, l, want)
		}
		checkLayoutFault(t, layoutOf(80, 24, aboveNode(short, 1, 2), besideNode(78, 3, 4), paneNode(0), paneNode(1), paneNode(2)), impl.OK)
		checkLayoutFault(t, layoutOf(80, 24, besideNode(short, 1, 2), aboveNode(22, 3, 4), paneNode(0), paneNode(1), paneNode(2)), impl.OK)
	}
}

// A split within a part has the cells of this part only, whichever of the parts it is.
func TestLayoutFaultFirstOfNestedSplits(t *testing.T) {
	for first := int64(-1); first <= 21; first++ {
		wantA, wantB := int64(impl.ErrRange), int64(impl.ErrRange)
		if first >= 1 && first <= 9-2 {
			wantA = impl.OK
		}
		if first >= 1 && first <= 10-2 {
			wantB = impl.OK
		}
		checkLayoutFault(t, layoutOf(20, 50, besideNode(9, 1, 2), besideNode(first, 3, 4), paneNode(0), paneNode(1), paneNode(2)), wantA)
		checkLayoutFault(t, layoutOf(20, 50, besideNode(9, 1, 2), paneNode(0), besideNode(first, 3, 4), paneNode(1), paneNode(2)), wantB)
		checkLayoutFault(t, layoutOf(50, 20, aboveNode(9, 1, 2), aboveNode(first, 3, 4), paneNode(0), paneNode(1), paneNode(2)), wantA)
		checkLayoutFault(t, layoutOf(50, 20, aboveNode(9, 1, 2), paneNode(0), aboveNode(first, 3, 4), paneNode(1), paneNode(2)), wantB)
	}
}

// The part that has to hold the others is as small as it can be.
func TestLayoutFaultOfFullScreens(t *testing.T) {
	l := chainOf(6)
	checkLayoutFault(t, resized(l, 11, 1), impl.OK)
	checkLayoutFault(t, resized(l, 10, 1), impl.ErrRange)
	for i := range l.Nodes {
		if l.Nodes[i].Kind == impl.NodeBeside {
			l.Nodes[i].Kind = impl.NodeAbove
		}
	}
	checkLayoutFault(t, resized(l, 1, 11), impl.OK)
	checkLayoutFault(t, resized(l, 1, 10), impl.ErrRange)
}

// expectedLayoutFault follows the document sentence by sentence.
func expectedLayoutFault(l impl.Layout) int64 {
	if len(l.Nodes) == 0 || len(l.Nodes) > 11 {
		return impl.ErrMany
	}
	if l.Wide < 1 || l.Wide > 200 || l.High < 1 || l.High > 200 {
		return impl.ErrRange
	}
	count := int64(len(l.Nodes))
	uses, panes := map[int64]int{0: 1}, map[int64]int{}
	for i, n := range l.Nodes {
		own := int64(i)
		isPane := n == paneNode(n.Pane)
		isSplit := n == besideNode(n.First, n.A, n.B) || n == aboveNode(n.First, n.A, n.B)
		if !isPane && !isSplit {
			return impl.ErrForm
		}
		if isPane && (n.Pane < 0 || n.Pane > 5) || isSplit && (n.A <= own || n.A >= count || n.B <= own || n.B >= count) {
			return impl.ErrRange
		}
		if isPane {
			panes[n.Pane]++
		} else {
			uses[n.A]++
			uses[n.B]++
		}
	}
	for i := range count {
		if uses[i] != 1 {
			return impl.ErrState
		}
	}
	for _, times := range panes {
		if times > 1 {
			return impl.ErrState
		}
	}
	if _, fits := painted(l); !fits {
		return impl.ErrRange
	}
	return impl.OK
}

func greatAndSmall() []int64 {
	return []int64{math.MinInt64, math.MinInt64 + 1, -1 << 32, -201, -1, 0, 1, 2, 3, 6, 7, 11, 200, 201, 1 << 31, 1 << 32, 1<<32 + 1, math.MaxInt64 - 1, math.MaxInt64}
}

// No computation overflows, whichever field is very great or very small.
func TestLayoutFaultOfGreatNumbers(t *testing.T) {
	for _, l := range []impl.Layout{layoutOf(80, 24, paneNode(2)), fourPanes(), chainOf(6)} {
		for _, value := range greatAndSmall() {
			for _, changed := range []impl.Layout{resized(l, value, l.High), resized(l, l.Wide, value), resized(l, value, value)} {
				checkLayoutFault(t, changed, expectedLayoutFault(changed))
			}
			for at := range l.Nodes {
				for _, name := range nodeFields() {
					changed := withNode(l, at, name, value)
					checkLayoutFault(t, changed, expectedLayoutFault(changed))
					for _, second := range []string{"First", "A", "B"} {
						again := withNode(changed, at, second, -value)
						checkLayoutFault(t, again, expectedLayoutFault(again))
					}
				}
			}
		}
	}
}

func TestLayoutFaultRandomLayouts(t *testing.T) {
	seed := uint64(14)
	seen := map[int64]int{}
	for range 60000 {
		l := randomLayout(&seed, next(&seed, 30)+1, next(&seed, 30)+1)
		for range next(&seed, 4) {
			name := nodeFields()[next(&seed, 5)]
			l = withNode(l, next(&seed, len(l.Nodes)), name, int64(next(&seed, 14)-2))
		}
		if next(&seed, 20) == 0 {
			l.Nodes = l.Nodes[:next(&seed, len(l.Nodes)+1)]
		}
		want := expectedLayoutFault(l)
		if got := impl.LayoutFault(l); got != want {
			t.Fatalf("LayoutFault(%+v) = %d, want %d", l, got, want)
		}
		seen[want]++
	}
	for _, code := range []int64{impl.OK, impl.ErrForm, impl.ErrMany, impl.ErrRange, impl.ErrState} {
		if seen[code] < 20 {
			t.Errorf("the code %d has %d layouts", code, seen[code])
		}
	}
}
