package tests

import (
	"slices"
	"testing"

	"loop.example/g00804/impl"
)

func isIn(r impl.Rect, col int64, row int64) bool {
	return col >= r.Col && col-r.Col < r.Wide && row >= r.Row && row-r.Row < r.High
}

// checkP7 checks each cell of the screen: it has one pane at most, and this one is hit.
func checkP7(t *testing.T, l impl.Layout) {
	t.Helper()
	rects := impl.RectsOf(l)
	screen, fits := painted(l)
	if rects.Code != impl.OK || !fits {
		t.Fatalf("RectsOf(%+v) = %+v", l, rects)
	}
	for row := range l.High {
		for col := range l.Wide {
			owner, count := int64(impl.Border), 0
			for _, r := range rects.Rects {
				if isIn(r, col, row) {
					owner = r.Pane
					count++
				}
			}
			if count > 1 {
				t.Fatalf("%+v: the cell %d, %d belongs to %d panes", l, col, row, count)
			}
			if got := impl.HitAt(l, col, row); got != (impl.IntResult{Value: owner}) || owner != screen[row][col] {
				t.Fatalf("%+v: the cell %d, %d is in the rectangle of %d, has the pane %d, and is hit as %+v", l, col, row, owner, screen[row][col], got)
			}
		}
	}
	for _, r := range rects.Rects {
		checkAround(t, l, r)
	}
}

// checkAround checks that the cells just outside a rectangle are not its pane's, if they are on the screen at all.
func checkAround(t *testing.T, l impl.Layout, r impl.Rect) {
	t.Helper()
	if r.Wide < 1 || r.High < 1 || r.Col < 0 || r.Row < 0 || r.Col+r.Wide > l.Wide || r.Row+r.High > l.High {
		t.Fatalf("%+v has the rectangle %+v", l, r)
	}
	if alone := impl.RectOf(l, r.Pane); !impl.HasPane(l, r.Pane) || !sameRects(alone, impl.RectsResult{Rects: []impl.Rect{r}}) {
		t.Fatalf("RectOf(%+v, %d) = %+v, want %+v", l, r.Pane, alone, r)
	}
	for col := r.Col - 1; col <= r.Col+r.Wide; col++ {
		for row := r.Row - 1; row <= r.Row+r.High; row++ {
			got := impl.HitAt(l, col, row)
			isHit := got == impl.IntResult{Value: r.Pane}
			if isHit != isIn(r, col, row) {
				t.Fatalf("HitAt(%+v, %d, %d) = %+v, beside the rectangle %+v", l, col, row, got, r)
			}
			if onScreen := col >= 0 && col < l.Wide && row >= 0 && row < l.High; onScreen != (got.Code == impl.OK) {
				t.Fatalf("HitAt(%+v, %d, %d) = %+v", l, col, row, got)
			}
		}
	}
}

func TestP7KnownLayouts(t *testing.T) {
	for panes := int64(1); panes <= 6; panes++ {
		checkP7(t, resized(chainOf(panes), 2*panes-1, 2))
		checkP7(t, resized(chainOf(panes), 30, 3))
	}
	checkP7(t, fourPanes())
	checkP7(t, layoutOf(1, 1, paneNode(5)))
	checkP7(t, layoutOf(200, 1, besideNode(198, 1, 2), paneNode(5), paneNode(4)))
	checkP7(t, layoutOf(1, 200, aboveNode(1, 1, 2), paneNode(5), paneNode(4)))
	checkP7(t, layoutOf(200, 200, besideNode(100, 1, 2), paneNode(5), aboveNode(99, 3, 4), paneNode(4), paneNode(3)))
}

// eachSplit calls back for each way to split a pane of the layout; the new pane has the least free number.
func eachSplit(l impl.Layout, visit func(impl.Layout)) {
	count := int64(len(l.Nodes))
	fresh := paneNode((count + 1) / 2)
	for at, n := range l.Nodes {
		for kind := int64(impl.NodeBeside); kind <= impl.NodeAbove && n.Kind == impl.NodePane; kind++ {
			for first := int64(1); first < max(l.Wide, l.High); first++ {
				for _, parts := range [][2]impl.Node{{n, fresh}, {fresh, n}} {
					nodes := append(slices.Clone(l.Nodes), parts[0], parts[1])
					nodes[at] = impl.Node{Kind: kind, First: first, A: count, B: count + 1}
					visit(impl.Layout{Wide: l.Wide, High: l.High, Nodes: nodes})
				}
			}
		}
	}
}

// everySmallLayout calls back for each layout of up to three panes on small screens; what visit refuses is not split any further.
func everySmallLayout(visit func(impl.Layout) bool) {
	for wide := int64(1); wide <= 6; wide++ {
		for high := int64(1); high <= 6; high++ {
			single := layoutOf(wide, high, paneNode(0))
			visit(single)
			eachSplit(single, func(two impl.Layout) {
				if visit(two) {
					eachSplit(two, func(three impl.Layout) { visit(three) })
				}
			})
		}
	}
}

// Those of the layouts that the document forbids have the fault, and the others keep the promise.
func TestP7EveryLayoutOfUpToThreePanes(t *testing.T) {
	kept := 0
	check := func(l impl.Layout) bool {
		if _, fits := painted(l); !fits {
			checkLayoutFault(t, l, impl.ErrRange)
			return false
		}
		kept++
		checkP7(t, l)
		return true
	}
	everySmallLayout(check)
	if kept < 1000 {
		t.Errorf("only %d layouts", kept)
	}
}

func TestP7RandomLayouts(t *testing.T) {
	seed := uint64(17)
	counts := map[int]int{}
	for range 2500 {
		l := randomLayout(&seed, next(&seed, 24)+1, next(&seed, 24)+1)
		checkP7(t, l)
		counts[len(l.Nodes)]++
	}
	for range 8 {
		checkP7(t, randomLayout(&seed, 200-next(&seed, 3), 200-next(&seed, 3)))
	}
	for panes := 1; panes <= 6; panes++ {
		if counts[2*panes-1] < 20 {
			t.Errorf("%d layouts have %d panes", counts[2*panes-1], panes)
		}
	}
}

// argumentLayouts has layouts with each fault and without one.
func argumentLayouts() []impl.Layout {
	l := fourPanes()
	out := []impl.Layout{l, chainOf(1), chainOf(6), layoutOf(1, 1, paneNode(3)), {}, layoutOf(20, 9), chainOf(7), resized(l, 0, 9), resized(l, 20, 201), withNode(l, 2, "Kind", 0), withNode(l, 4, "First", 1), withNode(l, 1, "B", 1), withNode(l, 0, "A", 0), withNode(l, 3, "Pane", 6), withNode(l, 0, "A", 1), withNode(l, 6, "Pane", 5), withNode(l, 1, "First", 8)}
	for _, value := range greatAndSmall() {
		for _, name := range nodeFields() {
			out = append(out, withNode(l, 0, name, value), withNode(l, 5, name, value))
		}
	}
	seed := uint64(18)
	for range 50 {
		out = append(out, randomLayout(&seed, next(&seed, 40)+1, next(&seed, 40)+1))
	}
	return out
}

// roomyLayout has other nodes behind its own in the same memory.
func roomyLayout(l impl.Layout) impl.Layout {
	nodes := append(slices.Clone(l.Nodes), besideNode(7, 8, 9), paneNode(2), impl.Node{Kind: 99})
	return impl.Layout{Wide: l.Wide, High: l.High, Nodes: nodes[:len(l.Nodes)]}
}

// layoutAnswers is what the functions of the chapter return for a layout.
type layoutAnswers struct {
	fault int64
	rects impl.RectsResult
	each  []impl.RectsResult
	has   []bool
	hits  []impl.IntResult
	same  bool
}

func answersFor(l impl.Layout) layoutAnswers {
	out := layoutAnswers{fault: impl.LayoutFault(l), rects: impl.RectsOf(l), same: impl.SameLayouts(l, fourPanes())}
	for _, n := range greatAndSmall() {
		out.each = append(out.each, impl.RectOf(l, n))
		out.has = append(out.has, impl.HasPane(l, n))
		for _, row := range greatAndSmall() {
			out.hits = append(out.hits, impl.HitAt(l, n, row))
		}
	}
	return out
}

func (a layoutAnswers) equal(b layoutAnswers) bool {
	return a.fault == b.fault && sameRects(a.rects, b.rects) && slices.EqualFunc(a.each, b.each, sameRects) && slices.Equal(a.has, b.has) && slices.Equal(a.hits, b.hits) && a.same == b.same
}

func (a layoutAnswers) copied() layoutAnswers {
	a.rects.Rects = slices.Clone(a.rects.Rects)
	a.each = slices.Clone(a.each)
	for i := range a.each {
		a.each[i].Rects = slices.Clone(a.each[i].Rects)
	}
	return a
}

func spoilRects(list []impl.Rect) {
	list = list[:cap(list)]
	for i := range list {
		list[i] = impl.Rect{Pane: 91, Col: 92, Row: 93, Wide: 94, High: 95}
	}
}

func TestP1LayoutArgumentsStay(t *testing.T) {
	for _, start := range argumentLayouts() {
		l := roomyLayout(start)
		room := slices.Clone(l.Nodes[:cap(l.Nodes)])
		got := answersFor(l)
		if l.Wide != start.Wide || l.High != start.High || !slices.Equal(l.Nodes, start.Nodes) || !slices.Equal(l.Nodes[:cap(l.Nodes)], room) {
			t.Fatalf("the layout %+v became %+v", start, l)
		}
		if again := answersFor(start); !again.equal(got) {
			t.Fatalf("%+v: %+v, then %+v", start, got, again)
		}
		other := roomyLayout(fourPanes())
		impl.SameLayouts(start, other)
		if !slices.Equal(other.Nodes, fourPanes().Nodes) {
			t.Fatalf("the second layout became %+v", other)
		}
	}
}

func TestP1LayoutResultsAreNew(t *testing.T) {
	for _, start := range argumentLayouts() {
		l := roomyLayout(start)
		one, two := answersFor(l), answersFor(l)
		want := one.copied()
		clear(l.Nodes[:cap(l.Nodes)])
		if !one.equal(want) || !two.equal(want) {
			t.Fatalf("%+v: the results share memory with the layout", start)
		}
		spoilRects(one.rects.Rects)
		if !slices.EqualFunc(one.each, want.each, sameRects) {
			t.Fatalf("%+v: the results of RectOf share memory with those of RectsOf", start)
		}
		for _, r := range one.each {
			spoilRects(r.Rects)
		}
		if !two.equal(want) || !answersFor(start).equal(want) {
			t.Fatalf("%+v: the results share memory", start)
		}
	}
}
