package tests

import (
	"math"
	"testing"

	"loop.example/g00804/impl"
)

// Both parts of a split move the same border in the same direction.
func TestResizePaneOfTwoPanes(t *testing.T) {
	for by := int64(-12); by <= 12; by++ {
		wantBeside, wantAbove := noLayout(impl.ErrFull), noLayout(impl.ErrFull)
		if 9+by >= 1 && 9+by <= 18 {
			wantBeside = layoutFor(20, 9, besideNode(9+by, 1, 2), paneNode(0), paneNode(1))
			wantAbove = layoutFor(9, 20, aboveNode(9+by, 1, 2), paneNode(0), paneNode(1))
		}
		for pane := range int64(2) {
			checkResize(t, twoPanes(), pane, by, wantBeside)
			checkResize(t, layoutOf(9, 20, aboveNode(9, 1, 2), paneNode(0), paneNode(1)), pane, by, wantAbove)
		}
	}
}

// The greatest and the smallest by that still fits, and those that only the range allows.
func TestResizePaneRange(t *testing.T) {
	low, high := layoutOf(200, 1, besideNode(1, 1, 2), paneNode(0), paneNode(1)), layoutOf(200, 1, besideNode(198, 1, 2), paneNode(0), paneNode(1))
	for pane := range int64(2) {
		checkResize(t, low, pane, 197, impl.LayoutResult{Layout: high})
		checkResize(t, high, pane, -197, impl.LayoutResult{Layout: low})
		for _, by := range []int64{198, 199, 200, -1, -199, -200} {
			checkResize(t, low, pane, by, noLayout(impl.ErrFull))
			checkResize(t, high, pane, -by, noLayout(impl.ErrFull))
		}
		for _, l := range []impl.Layout{low, high, twoPanes()} {
			for _, by := range []int64{201, -201, 202, -202, 1 << 32, 1<<32 + 1, -1 << 32, math.MinInt64, math.MinInt64 + 1, math.MaxInt64 - 1, math.MaxInt64} {
				checkResize(t, l, pane, by, noLayout(impl.ErrRange))
			}
			checkResize(t, l, pane, 200, noLayout(impl.ErrFull))
			checkResize(t, l, pane, -200, noLayout(impl.ErrFull))
		}
	}
}

// The only pane comes before a by out of range, and a pane that does not exist before both.
func TestResizePaneOfTheOnlyPane(t *testing.T) {
	for pane := range int64(6) {
		l := layoutOf(80, 24, paneNode(pane))
		for _, by := range []int64{0, 1, -1, 200, -200, 201, -201, math.MinInt64, math.MaxInt64} {
			checkResize(t, l, pane, by, noLayout(impl.ErrState))
			for _, other := range append(greatPanes(), (pane+1)%6, (pane+5)%6) {
				checkResize(t, l, other, by, noLayout(impl.ErrNone))
			}
		}
	}
}

func TestResizePaneThatDoesNotExist(t *testing.T) {
	for _, by := range []int64{0, 1, 200, 201, -201, math.MinInt64, math.MaxInt64} {
		for _, pane := range greatPanes() {
			checkResize(t, twoPanes(), pane, by, noLayout(impl.ErrNone))
			checkResize(t, chainOf(6), pane, by, noLayout(impl.ErrNone))
		}
		checkResize(t, fourPanes(), 2, by, noLayout(impl.ErrNone))
		checkResize(t, fourPanes(), 4, by, noLayout(impl.ErrNone))
	}
}

// Only the split directly around the pane changes, wherever it is in the list.
func TestResizePaneInTheDepth(t *testing.T) {
	with := func(outer int64, left int64, right int64) impl.LayoutResult {
		return layoutFor(20, 9, besideNode(outer, 1, 4), aboveNode(left, 2, 3), paneNode(3), paneNode(0), aboveNode(right, 5, 6), paneNode(1), paneNode(5))
	}
	l := fourPanes()
	for _, pane := range []int64{3, 0} {
		checkResize(t, l, pane, 3, with(9, 7, 3))
		checkResize(t, l, pane, 4, noLayout(impl.ErrFull))
		checkResize(t, l, pane, -3, with(9, 1, 3))
		checkResize(t, l, pane, -4, noLayout(impl.ErrFull))
		checkResize(t, l, pane, 0, with(9, 4, 3))
	}
	for _, pane := range []int64{1, 5} {
		checkResize(t, l, pane, 4, with(9, 4, 7))
		checkResize(t, l, pane, 5, noLayout(impl.ErrFull))
		checkResize(t, l, pane, -2, with(9, 4, 1))
		checkResize(t, l, pane, -3, noLayout(impl.ErrFull))
		checkResize(t, l, pane, 0, with(9, 4, 3))
	}
	// A pane whose split has another split as its other part.
	deep := layoutOf(30, 30, besideNode(20, 1, 2), aboveNode(9, 3, 4), paneNode(3), paneNode(0), besideNode(5, 5, 6), paneNode(1), paneNode(2))
	deepWith := func(outer int64, middle int64, inner int64) impl.LayoutResult {
		return layoutFor(30, 30, besideNode(outer, 1, 6), aboveNode(middle, 2, 3), paneNode(0), besideNode(inner, 4, 5), paneNode(1), paneNode(2), paneNode(3))
	}
	checkResize(t, deep, 3, 1, deepWith(21, 9, 5))
	checkResize(t, deep, 0, 2, deepWith(20, 11, 5))
	checkResize(t, deep, 1, 3, deepWith(20, 9, 8))
	checkResize(t, deep, 2, -4, deepWith(20, 9, 1))
}

// A rectangle further below has no cell left, although the parts of the resized split have some.
func TestResizePaneFurtherBelow(t *testing.T) {
	for shift, want := range map[int64]int64{0: impl.OK, -2: impl.OK, -3: impl.ErrFull, -7: impl.ErrFull, 9: impl.OK, 10: impl.ErrFull} {
		columns := layoutOf(20, 9, besideNode(9, 1, 4), besideNode(5, 2, 3), paneNode(0), paneNode(1), paneNode(2))
		rows := layoutOf(9, 20, aboveNode(9, 1, 4), aboveNode(5, 2, 3), paneNode(0), paneNode(1), paneNode(2))
		for _, l := range []impl.Layout{columns, rows} {
			if got := expectedResize(l, 2, shift); got.Code != want {
				t.Fatalf("%+v by %d: %+v", l, shift, got)
			}
			checkResize(t, l, 2, shift, expectedResize(l, 2, shift))
		}
	}
	// The split below is in the part that becomes smaller as First grows.
	beside := layoutOf(20, 9, besideNode(10, 1, 2), paneNode(2), besideNode(3, 3, 4), paneNode(0), paneNode(1))
	checkResize(t, beside, 2, 4, layoutFor(20, 9, besideNode(14, 1, 2), paneNode(2), besideNode(3, 3, 4), paneNode(0), paneNode(1)))
	checkResize(t, beside, 2, 5, noLayout(impl.ErrFull))
	checkResize(t, beside, 2, 8, noLayout(impl.ErrFull))
	// In the other direction the inner split has room enough.
	checkResize(t, layoutOf(20, 9, besideNode(10, 1, 2), paneNode(2), aboveNode(3, 3, 4), paneNode(0), paneNode(1)), 2, 8, layoutFor(20, 9, besideNode(18, 1, 2), paneNode(2), aboveNode(3, 3, 4), paneNode(0), paneNode(1)))
}

// A by of 0 changes nothing but the order of the list.
func TestResizePaneByNothing(t *testing.T) {
	for _, l := range []impl.Layout{twoPanes(), fourPanes(), chainOf(6)} {
		for _, r := range expectedRects(l) {
			checkResize(t, l, r.Pane, 0, expectedTidy(l))
		}
	}
	checkResize(t, twoPanes(), 0, 0, impl.LayoutResult{Layout: twoPanes()})
}

func TestResizePaneRandomLayouts(t *testing.T) {
	seed := uint64(21)
	seen := map[int64]int{}
	for range 1500 {
		l := randomLayout(&seed, next(&seed, 30)+1, next(&seed, 30)+1)
		for range 8 {
			pane, by := int64(next(&seed, 8)-1), int64(next(&seed, 13)-6)
			if next(&seed, 4) == 0 {
				by *= 40
			}
			want := expectedResize(l, pane, by)
			checkResize(t, l, pane, by, want)
			seen[want.Code]++
		}
	}
	checkSeen(t, seen, impl.OK, impl.ErrRange, impl.ErrNone, impl.ErrState, impl.ErrFull)
}
