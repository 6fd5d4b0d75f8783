package tests

import (
	"math"
	"testing"

	"loop.example/g00804/impl"
)

func TestKillPaneOfTheOnlyPane(t *testing.T) {
	for pane := range int64(6) {
		for _, side := range []int64{1, 3, 200} {
			checkKill(t, layoutOf(side, side, paneNode(pane)), pane, noLayout(impl.ErrState))
		}
		for other := range int64(6) {
			if other != pane {
				checkKill(t, layoutOf(80, 24, paneNode(pane)), other, noLayout(impl.ErrNone))
			}
		}
	}
}

func TestKillPaneThatDoesNotExist(t *testing.T) {
	for _, l := range []impl.Layout{layoutOf(80, 24, paneNode(0)), layoutOf(80, 24, paneNode(5)), twoPanes(), fourPanes(), chainOf(6)} {
		for _, pane := range greatPanes() {
			checkKill(t, l, pane, noLayout(impl.ErrNone))
		}
	}
	checkKill(t, fourPanes(), 2, noLayout(impl.ErrNone))
	checkKill(t, fourPanes(), 4, noLayout(impl.ErrNone))
}

// The split is the root, and the other part a pane.
func TestKillPaneOfTwoPanes(t *testing.T) {
	for _, split := range []impl.Node{besideNode(9, 1, 2), aboveNode(4, 1, 2)} {
		l := layoutOf(20, 9, split, paneNode(4), paneNode(0))
		checkKill(t, l, 4, layoutFor(20, 9, paneNode(0)))
		checkKill(t, l, 0, layoutFor(20, 9, paneNode(4)))
		split.A, split.B = 2, 1
		turned := layoutOf(20, 9, split, paneNode(4), paneNode(0))
		checkKill(t, turned, 4, layoutFor(20, 9, paneNode(0)))
		checkKill(t, turned, 0, layoutFor(20, 9, paneNode(4)))
	}
}

// The other part of the root becomes the root, with all that is within it.
func TestKillPaneBesideASplit(t *testing.T) {
	within := layoutFor(20, 9, aboveNode(2, 1, 4), besideNode(3, 2, 3), paneNode(1), paneNode(2), paneNode(3))
	checkKill(t, layoutOf(20, 9, besideNode(9, 1, 2), paneNode(0), aboveNode(2, 3, 6), besideNode(3, 4, 5), paneNode(1), paneNode(2), paneNode(3)), 0, within)
	checkKill(t, layoutOf(20, 9, besideNode(9, 1, 6), aboveNode(2, 2, 5), besideNode(3, 3, 4), paneNode(1), paneNode(2), paneNode(3), paneNode(0)), 0, within)
	// The same tree in another order of the list.
	checkKill(t, layoutOf(20, 9, besideNode(9, 2, 1), paneNode(0), aboveNode(2, 4, 3), paneNode(3), besideNode(3, 6, 5), paneNode(2), paneNode(1)), 0, within)
}

// A split in the depth is replaced within the split around it, as its A or as its B.
func TestKillPaneInTheDepth(t *testing.T) {
	l := fourPanes()
	checkKill(t, l, 3, layoutFor(20, 9, besideNode(9, 1, 2), paneNode(0), aboveNode(3, 3, 4), paneNode(1), paneNode(5)))
	checkKill(t, l, 0, layoutFor(20, 9, besideNode(9, 1, 2), paneNode(3), aboveNode(3, 3, 4), paneNode(1), paneNode(5)))
	checkKill(t, l, 1, layoutFor(20, 9, besideNode(9, 1, 4), aboveNode(4, 2, 3), paneNode(3), paneNode(0), paneNode(5)))
	checkKill(t, l, 5, layoutFor(20, 9, besideNode(9, 1, 4), aboveNode(4, 2, 3), paneNode(3), paneNode(0), paneNode(1)))
}

// The other part is a split, and so is what is around.
func TestKillPaneBesideASplitInTheDepth(t *testing.T) {
	asA := layoutOf(30, 30, besideNode(14, 1, 6), aboveNode(9, 2, 3), paneNode(0), besideNode(5, 4, 5), paneNode(1), paneNode(2), paneNode(3))
	checkKill(t, asA, 0, layoutFor(30, 30, besideNode(14, 1, 4), besideNode(5, 2, 3), paneNode(1), paneNode(2), paneNode(3)))
	asB := layoutOf(30, 30, besideNode(14, 1, 2), paneNode(3), aboveNode(9, 3, 6), besideNode(5, 4, 5), paneNode(1), paneNode(2), paneNode(0))
	checkKill(t, asB, 0, layoutFor(30, 30, besideNode(14, 1, 2), paneNode(3), besideNode(5, 3, 4), paneNode(1), paneNode(2)))
	// The split directly around the pane is removed, and not the one further up.
	checkKill(t, asA, 1, layoutFor(30, 30, besideNode(14, 1, 4), aboveNode(9, 2, 3), paneNode(0), paneNode(2), paneNode(3)))
	checkKill(t, asB, 2, layoutFor(30, 30, besideNode(14, 1, 2), paneNode(3), aboveNode(9, 3, 4), paneNode(1), paneNode(0)))
}

// First stays as it is, also where the part that remains has more cells than before.
func TestKillPaneKeepsFirst(t *testing.T) {
	l := layoutOf(200, 1, besideNode(198-3, 1, 2), paneNode(0), besideNode(1, 3, 4), paneNode(1), paneNode(2))
	checkKill(t, l, 0, layoutFor(200, 1, besideNode(1, 1, 2), paneNode(1), paneNode(2)))
	if got, want := impl.RectsOf(impl.KillPane(l, 0).Layout), (impl.RectsResult{Rects: []impl.Rect{{Pane: 1, Wide: 1, High: 1}, {Pane: 2, Col: 2, Wide: 198, High: 1}}}); !sameRects(got, want) {
		t.Errorf("%+v, want %+v", got, want)
	}
}

func TestKillPaneDownToTheLastOne(t *testing.T) {
	for last := range int64(6) {
		l := chainOf(6)
		for pane := range int64(6) {
			if pane == last {
				continue
			}
			checkKill(t, l, pane, expectedKill(l, pane))
			l = impl.KillPane(l, pane).Layout
			if impl.HasPane(l, pane) || !impl.HasPane(l, last) {
				t.Fatalf("after the end of %d: %+v", pane, l)
			}
		}
		if want := layoutFor(200, 200, paneNode(last)); !sameLayoutResult(impl.LayoutResult{Layout: l}, want) {
			t.Errorf("%+v, want %+v", l, want.Layout)
		}
		checkKill(t, l, last, noLayout(impl.ErrState))
	}
}

func TestKillPaneRandomLayouts(t *testing.T) {
	seed := uint64(20)
	seen := map[int64]int{}
	for range 1500 {
		l := randomLayout(&seed, next(&seed, 30)+1, next(&seed, 30)+1)
		for _, pane := range []int64{0, 1, 2, 3, 4, 5, -1, 6, math.MinInt64, math.MaxInt64} {
			want := expectedKill(l, pane)
			checkKill(t, l, pane, want)
			seen[want.Code]++
		}
	}
	checkSeen(t, seen, impl.OK, impl.ErrNone, impl.ErrState)
}
