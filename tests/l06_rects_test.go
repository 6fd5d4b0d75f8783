package tests

import (
	"math"
	"slices"
	"testing"

	"loop.example/g00804/impl"
)

// painted returns the pane of each cell, row by row, or false if a node has no cell.
// It hands the numbers of columns and rows down the tree instead of computing rectangles.
func painted(l impl.Layout) ([][]int64, bool) {
	screen := make([][]int64, l.High)
	for row := range screen {
		screen[row] = slices.Repeat([]int64{-1}, int(l.Wide))
	}
	return screen, paint(screen, l.Nodes, 0, numbersTo(l.Wide), numbersTo(l.High))
}

func numbersTo(count int64) []int64 {
	var out []int64
	for i := range count {
		out = append(out, i)
	}
	return out
}

func paint(screen [][]int64, nodes []impl.Node, at int64, cols []int64, rows []int64) bool {
	n := nodes[at]
	switch n.Kind {
	case impl.NodeBeside:
		left, right, fits := cutNumbers(cols, n.First)
		return fits && paint(screen, nodes, n.A, left, rows) && paint(screen, nodes, n.B, right, rows)
	case impl.NodeAbove:
		top, bottom, fits := cutNumbers(rows, n.First)
		return fits && paint(screen, nodes, n.A, cols, top) && paint(screen, nodes, n.B, cols, bottom)
	}
	for _, row := range rows {
		for _, col := range cols {
			screen[row][col] = n.Pane
		}
	}
	return true
}

// cutNumbers leaves out the number of the border.
func cutNumbers(numbers []int64, first int64) ([]int64, []int64, bool) {
	if first < 1 || first > int64(len(numbers))-2 {
		return nil, nil, false
	}
	return numbers[:first], numbers[first+1:], true
}

// randomLayout returns a layout of 1 to 6 panes, or of fewer if there is no room, whose nodes lie in a random order.
func randomLayout(seed *uint64, wide int, high int) impl.Layout {
	l := layoutOf(int64(wide), int64(high), paneNode(0))
	sizes := [][2]int{{wide, high}}
	for range next(seed, 20) {
		at := next(seed, len(l.Nodes))
		kind, side := int64(impl.NodeBeside), 0
		if next(seed, 2) == 0 {
			kind, side = impl.NodeAbove, 1
		}
		room := sizes[at][side]
		if l.Nodes[at].Kind != impl.NodePane || room < 3 || len(l.Nodes) == 11 {
			continue
		}
		first := 1 + next(seed, room-2)
		a, b := sizes[at], sizes[at]
		a[side], b[side] = first, room-first-1
		count := int64(len(l.Nodes))
		l.Nodes[at] = impl.Node{Kind: kind, First: int64(first), A: count, B: count + 1}
		l.Nodes = append(l.Nodes, paneNode(0), paneNode(0))
		sizes = append(sizes, a, b)
	}
	return withRandomNumbers(seed, shuffled(seed, l))
}

// shuffled puts the nodes in another order, in which each split still comes before its parts.
func shuffled(seed *uint64, l impl.Layout) impl.Layout {
	var order []int64
	open := []int64{0}
	for len(open) > 0 {
		i := next(seed, len(open))
		at := open[i]
		open = slices.Delete(open, i, i+1)
		order = append(order, at)
		if n := l.Nodes[at]; n.Kind != impl.NodePane {
			open = append(open, n.A, n.B)
		}
	}
	var nodes []impl.Node
	for _, at := range order {
		n := l.Nodes[at]
		if n.Kind != impl.NodePane {
			n.A, n.B = int64(slices.Index(order, n.A)), int64(slices.Index(order, n.B))
		}
		nodes = append(nodes, n)
	}
	return impl.Layout{Wide: l.Wide, High: l.High, Nodes: nodes}
}

// withRandomNumbers gives each pane a number of its own.
func withRandomNumbers(seed *uint64, l impl.Layout) impl.Layout {
	free := []int64{0, 1, 2, 3, 4, 5}
	for i := range l.Nodes {
		if l.Nodes[i].Kind == impl.NodePane {
			k := next(seed, len(free))
			l.Nodes[i].Pane = free[k]
			free = slices.Delete(free, k, k+1)
		}
	}
	return l
}

// expectedRects finds the panes depth first, and measures their cells on the painted screen.
func expectedRects(l impl.Layout) []impl.Rect {
	screen, _ := painted(l)
	var out []impl.Rect
	var visit func(at int64)
	visit = func(at int64) {
		n := l.Nodes[at]
		if n.Kind != impl.NodePane {
			visit(n.A)
			visit(n.B)
			return
		}
		out = append(out, measured(screen, n.Pane))
	}
	visit(0)
	return out
}

func measured(screen [][]int64, pane int64) impl.Rect {
	r := impl.Rect{Pane: pane, Col: -1}
	lastCol, lastRow := int64(-1), int64(-1)
	for row, cells := range screen {
		for col, owner := range cells {
			if owner != pane {
				continue
			}
			if r.Col < 0 {
				r.Col, r.Row = int64(col), int64(row)
			}
			lastCol, lastRow = int64(col), int64(row)
		}
	}
	r.Wide, r.High = lastCol-r.Col+1, lastRow-r.Row+1
	return r
}

func checkRects(t *testing.T, l impl.Layout, want ...impl.Rect) {
	t.Helper()
	if got := impl.RectsOf(l); !sameRects(got, impl.RectsResult{Rects: want}) {
		t.Errorf("RectsOf(%+v) = %+v, want %+v", l, got, want)
	}
}

func TestRectsOfASinglePane(t *testing.T) {
	for pane := range int64(6) {
		checkRects(t, layoutOf(80, 24, paneNode(pane)), impl.Rect{Pane: pane, Wide: 80, High: 24})
		checkRects(t, layoutOf(1, 1, paneNode(pane)), impl.Rect{Pane: pane, Wide: 1, High: 1})
		checkRects(t, layoutOf(200, 200, paneNode(pane)), impl.Rect{Pane: pane, Wide: 200, High: 200})
	}
}

// The border's column or row belongs to neither part.
func TestRectsOfASplit(t *testing.T) {
	checkRects(t, layoutOf(20, 9, besideNode(9, 1, 2), paneNode(0), paneNode(1)), impl.Rect{Pane: 0, Wide: 9, High: 9}, impl.Rect{Pane: 1, Col: 10, Wide: 10, High: 9})
	checkRects(t, layoutOf(20, 9, aboveNode(5, 1, 2), paneNode(0), paneNode(1)), impl.Rect{Pane: 0, Wide: 20, High: 5}, impl.Rect{Pane: 1, Row: 6, Wide: 20, High: 3})
	checkRects(t, layoutOf(3, 1, besideNode(1, 1, 2), paneNode(4), paneNode(2)), impl.Rect{Pane: 4, Wide: 1, High: 1}, impl.Rect{Pane: 2, Col: 2, Wide: 1, High: 1})
	checkRects(t, layoutOf(1, 3, aboveNode(1, 1, 2), paneNode(4), paneNode(2)), impl.Rect{Pane: 4, Wide: 1, High: 1}, impl.Rect{Pane: 2, Row: 2, Wide: 1, High: 1})
	checkRects(t, layoutOf(200, 200, besideNode(198, 1, 2), paneNode(0), paneNode(1)), impl.Rect{Pane: 0, Wide: 198, High: 200}, impl.Rect{Pane: 1, Col: 199, Wide: 1, High: 200})
	checkRects(t, layoutOf(200, 200, aboveNode(1, 1, 2), paneNode(0), paneNode(1)), impl.Rect{Pane: 0, Wide: 200, High: 1}, impl.Rect{Pane: 1, Row: 2, Wide: 200, High: 198})
}

// The order is that of the tree, A before B, and neither that of the list nor that of the numbers.
func TestRectsOfOrder(t *testing.T) {
	checkRects(t, layoutOf(20, 9, besideNode(9, 2, 1), paneNode(0), paneNode(1)), impl.Rect{Pane: 1, Wide: 9, High: 9}, impl.Rect{Pane: 0, Col: 10, Wide: 10, High: 9})
	checkRects(t, fourPanes(),
		impl.Rect{Pane: 3, Wide: 9, High: 4}, impl.Rect{Pane: 0, Row: 5, Wide: 9, High: 4},
		impl.Rect{Pane: 1, Col: 10, Wide: 10, High: 3}, impl.Rect{Pane: 5, Col: 10, Row: 4, Wide: 10, High: 5})
	// A split as the B whose node comes before that of the A.
	checkRects(t, layoutOf(20, 9, aboveNode(2, 4, 1), besideNode(3, 3, 2), paneNode(0), paneNode(1), paneNode(2)),
		impl.Rect{Pane: 2, Wide: 20, High: 2}, impl.Rect{Pane: 1, Row: 3, Wide: 3, High: 6}, impl.Rect{Pane: 0, Col: 4, Row: 3, Wide: 16, High: 6})
}

func TestRectsOfDepth(t *testing.T) {
	checkRects(t, resized(chainOf(6), 11, 2), impl.Rect{Pane: 0, Wide: 1, High: 2}, impl.Rect{Pane: 1, Col: 2, Wide: 1, High: 2}, impl.Rect{Pane: 2, Col: 4, Wide: 1, High: 2},
		impl.Rect{Pane: 3, Col: 6, Wide: 1, High: 2}, impl.Rect{Pane: 4, Col: 8, Wide: 1, High: 2}, impl.Rect{Pane: 5, Col: 10, Wide: 1, High: 2})
	// Each split within the A of the one before, with the kinds in turn.
	deep := layoutOf(30, 30, besideNode(20, 1, 10), aboveNode(20, 2, 9), besideNode(15, 3, 8), aboveNode(15, 4, 7), besideNode(5, 5, 6), paneNode(0), paneNode(1), paneNode(2), paneNode(3), paneNode(4), paneNode(5))
	checkRects(t, deep, impl.Rect{Pane: 0, Wide: 5, High: 15}, impl.Rect{Pane: 1, Col: 6, Wide: 9, High: 15}, impl.Rect{Pane: 2, Row: 16, Wide: 15, High: 4},
		impl.Rect{Pane: 3, Col: 16, Wide: 4, High: 20}, impl.Rect{Pane: 4, Row: 21, Wide: 20, High: 9}, impl.Rect{Pane: 5, Col: 21, Wide: 9, High: 30})
}

func TestRectsOfRandomLayouts(t *testing.T) {
	seed := uint64(15)
	counts := map[int]int{}
	for range 3000 {
		l := randomLayout(&seed, next(&seed, 40)+1, next(&seed, 40)+1)
		want := expectedRects(l)
		checkRects(t, l, want...)
		counts[len(want)]++
	}
	for panes := 1; panes <= 6; panes++ {
		if counts[panes] < 20 {
			t.Errorf("%d layouts have %d panes", counts[panes], panes)
		}
	}
}

func panesThatDoNotExist() []int64 {
	return []int64{-1, 6, 7, -2, 200, 1 << 32, 1<<32 + 1, math.MinInt64, math.MaxInt64}
}

// checkPane checks RectOf and HasPane; a pane that does not exist has no rectangle.
func checkPane(t *testing.T, l impl.Layout, pane int64, want []impl.Rect) {
	t.Helper()
	code := int64(impl.OK)
	if len(want) == 0 {
		code = impl.ErrNone
	}
	if got := impl.RectOf(l, pane); !sameRects(got, impl.RectsResult{Code: code, Rects: want}) {
		t.Errorf("RectOf(%+v, %d) = %+v, want %d, %+v", l, pane, got, code, want)
	}
	if got := impl.HasPane(l, pane); got != (len(want) == 1) {
		t.Errorf("HasPane(%+v, %d) = %v", l, pane, got)
	}
}

func TestRectOfAndHasPaneExamples(t *testing.T) {
	l := fourPanes()
	checkPane(t, l, 0, []impl.Rect{{Pane: 0, Row: 5, Wide: 9, High: 4}})
	checkPane(t, l, 1, []impl.Rect{{Pane: 1, Col: 10, Wide: 10, High: 3}})
	checkPane(t, l, 2, nil)
	checkPane(t, l, 3, []impl.Rect{{Pane: 3, Wide: 9, High: 4}})
	checkPane(t, l, 4, nil)
	checkPane(t, l, 5, []impl.Rect{{Pane: 5, Col: 10, Row: 4, Wide: 10, High: 5}})
	for single := range int64(6) {
		for pane := range int64(6) {
			var want []impl.Rect
			if pane == single {
				want = []impl.Rect{{Pane: pane, Wide: 80, High: 24}}
			}
			checkPane(t, layoutOf(80, 24, paneNode(single)), pane, want)
		}
	}
}

func TestRectOfAndHasPaneOutOfRange(t *testing.T) {
	for _, l := range []impl.Layout{layoutOf(80, 24, paneNode(0)), layoutOf(80, 24, paneNode(5)), fourPanes(), chainOf(6)} {
		for _, pane := range panesThatDoNotExist() {
			checkPane(t, l, pane, nil)
		}
	}
}

func TestRectOfAndHasPaneRandomLayouts(t *testing.T) {
	seed := uint64(16)
	for range 1000 {
		l := randomLayout(&seed, next(&seed, 40)+1, next(&seed, 40)+1)
		all := expectedRects(l)
		for pane := int64(-1); pane <= 6; pane++ {
			var want []impl.Rect
			for _, r := range all {
				if r.Pane == pane {
					want = append(want, r)
				}
			}
			checkPane(t, l, pane, want)
		}
	}
}

// A fault hides the panes that the list has.
func TestHasPaneOfLayoutsWithAFault(t *testing.T) {
	l := fourPanes()
	for _, bad := range []impl.Layout{{}, layoutOf(80, 24), resized(l, 0, 9), resized(l, 20, 201), withNode(l, 0, "Kind", 4), withNode(l, 6, "First", 1), withNode(l, 2, "A", 7), withNode(l, 3, "Pane", 6), withNode(l, 0, "A", 1), withNode(l, 3, "Pane", 1), withNode(l, 0, "First", 19)} {
		if impl.LayoutFault(bad) == impl.OK {
			t.Errorf("%+v has no fault", bad)
		}
		for pane := int64(-1); pane <= 6; pane++ {
			if impl.HasPane(bad, pane) {
				t.Errorf("HasPane(%+v, %d)", bad, pane)
			}
		}
	}
}

func checkSameLayouts(t *testing.T, a impl.Layout, b impl.Layout, want bool) {
	t.Helper()
	if impl.SameLayouts(a, b) != want || impl.SameLayouts(b, a) != want {
		t.Errorf("SameLayouts(%+v, %+v) = %v, %v in the other order, want %v", a, b, impl.SameLayouts(a, b), impl.SameLayouts(b, a), want)
	}
}

func TestSameLayoutsFields(t *testing.T) {
	for _, l := range []impl.Layout{fourPanes(), chainOf(6), layoutOf(1, 1, paneNode(0))} {
		checkSameLayouts(t, l, l, true)
		checkSameLayouts(t, l, impl.Layout{Wide: l.Wide, High: l.High, Nodes: slices.Clone(l.Nodes)}, true)
		checkSameLayouts(t, l, resized(l, l.Wide+1, l.High), false)
		checkSameLayouts(t, l, resized(l, l.Wide, l.High+1), false)
		for at := range l.Nodes {
			for _, name := range nodeFields() {
				for _, by := range []int64{1, -1, 1 << 32, math.MinInt64} {
					checkSameLayouts(t, l, withNode(l, at, name, *nodeField(&l.Nodes[at], name)+by), false)
				}
			}
		}
	}
	checkSameLayouts(t, layoutOf(20, 9, paneNode(0)), layoutOf(9, 20, paneNode(0)), false)
}

// Layouts with the same rectangles are different ones if their nodes are.
func TestSameLayoutsOrderOfNodes(t *testing.T) {
	one := layoutOf(20, 9, besideNode(9, 1, 2), paneNode(0), paneNode(1))
	two := layoutOf(20, 9, besideNode(9, 2, 1), paneNode(1), paneNode(0))
	if !sameRects(impl.RectsOf(one), impl.RectsOf(two)) {
		t.Fatal("the rectangles differ")
	}
	checkSameLayouts(t, one, two, false)
}

func TestSameLayoutsLists(t *testing.T) {
	l := fourPanes()
	for count := range len(l.Nodes) {
		checkSameLayouts(t, l, layoutOf(20, 9, l.Nodes[:count]...), false)
		checkSameLayouts(t, l, layoutOf(20, 9, l.Nodes[count+1:]...), false)
	}
	none, empty := impl.Layout{Wide: 20, High: 9}, impl.Layout{Wide: 20, High: 9, Nodes: []impl.Node{}}
	checkSameLayouts(t, none, none, true)
	checkSameLayouts(t, none, empty, true)
	checkSameLayouts(t, empty, empty, true)
	checkSameLayouts(t, none, impl.Layout{}, false)
	// A node of zeros is a node.
	checkSameLayouts(t, none, layoutOf(20, 9, impl.Node{}), false)
	checkSameLayouts(t, empty, layoutOf(20, 9, impl.Node{}), false)
}

// It accepts layouts that have a fault.
func TestSameLayoutsOfAnyArguments(t *testing.T) {
	list := []impl.Layout{{}, {Wide: -1}, {High: -1}, {Wide: math.MinInt64, High: math.MaxInt64}, layoutOf(0, 0, impl.Node{}), layoutOf(0, 0, impl.Node{Kind: 4}), layoutOf(20, 9, besideNode(9, 0, 0)), layoutOf(20, 9, besideNode(9, 0, -1)),
		layoutOf(20, 9, paneNode(0), paneNode(0)), layoutOf(20, 9, make([]impl.Node, 1000)...), layoutOf(20, 9, make([]impl.Node, 1001)...), layoutOf(20, 9, append(make([]impl.Node, 999), paneNode(0))...)}
	for i, a := range list {
		for k, b := range list {
			checkSameLayouts(t, a, impl.Layout{Wide: b.Wide, High: b.High, Nodes: slices.Clone(b.Nodes)}, i == k)
		}
	}
}
