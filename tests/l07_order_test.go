package tests

import (
	"slices"
	"testing"

	"loop.example/g00804/impl"
)

// checkRound checks NextPane for the panes in their order; the first follows the last.
func checkRound(t *testing.T, l impl.Layout, panes ...int64) {
	t.Helper()
	for i, pane := range panes {
		checkNext(t, l, pane, impl.IntResult{Value: panes[(i+1)%len(panes)]})
	}
	for pane := int64(-1); pane <= 6; pane++ {
		if !slices.Contains(panes, pane) {
			checkNext(t, l, pane, impl.IntResult{Code: impl.ErrNone})
		}
	}
	for _, pane := range greatPanes() {
		checkNext(t, l, pane, impl.IntResult{Code: impl.ErrNone})
	}
}

// The only pane follows itself.
func TestNextPaneOfTheOnlyPane(t *testing.T) {
	for pane := range int64(6) {
		checkRound(t, layoutOf(80, 24, paneNode(pane)), pane)
		checkRound(t, layoutOf(1, 1, paneNode(pane)), pane)
	}
}

func TestNextPaneOrder(t *testing.T) {
	checkRound(t, twoPanes(), 0, 1)
	checkRound(t, chainOf(6), 0, 1, 2, 3, 4, 5)
	// Neither the numbers nor the list tell the order.
	checkRound(t, fourPanes(), 3, 0, 1, 5)
	checkRound(t, layoutOf(20, 9, aboveNode(2, 4, 1), besideNode(3, 3, 2), paneNode(0), paneNode(1), paneNode(2)), 2, 1, 0)
	checkRound(t, layoutOf(20, 9, besideNode(9, 2, 1), paneNode(0), aboveNode(4, 4, 3), paneNode(1), paneNode(2)), 2, 1, 0)
}

func TestNextPaneRandomLayouts(t *testing.T) {
	seed := uint64(22)
	for range 1500 {
		l := randomLayout(&seed, next(&seed, 30)+1, next(&seed, 30)+1)
		for pane := int64(-1); pane <= 6; pane++ {
			checkNext(t, l, pane, expectedNext(l, pane))
		}
	}
}

// After as many steps as there are panes, each one has had its turn.
func TestNextPaneVisitsAllPanes(t *testing.T) {
	seed := uint64(23)
	for range 500 {
		l := randomLayout(&seed, next(&seed, 30)+1, next(&seed, 30)+1)
		rects := impl.RectsOf(l).Rects
		pane := rects[0].Pane
		for _, r := range rects {
			if r.Pane != pane {
				t.Fatalf("%+v: %d instead of %d", l, pane, r.Pane)
			}
			pane = impl.NextPane(l, pane).Value
		}
		if pane != rects[0].Pane {
			t.Fatalf("%+v: %d follows the last pane", l, pane)
		}
	}
}

func TestTidyLayoutInNormalForm(t *testing.T) {
	for _, l := range []impl.Layout{layoutOf(1, 1, paneNode(3)), layoutOf(80, 24, paneNode(5)), twoPanes(), layoutOf(20, 9, besideNode(9, 1, 4), aboveNode(4, 2, 3), paneNode(0), paneNode(2), paneNode(1)), layoutOf(20, 9, aboveNode(4, 1, 2), paneNode(2), besideNode(9, 3, 4), paneNode(1), paneNode(0))} {
		checkTidy(t, l, impl.LayoutResult{Layout: l})
	}
	for panes := int64(1); panes <= 6; panes++ {
		checkTidy(t, chainOf(panes), impl.LayoutResult{Layout: chainOf(panes)})
	}
}

func TestTidyLayoutInAnotherOrder(t *testing.T) {
	checkTidy(t, layoutOf(20, 9, besideNode(9, 2, 1), paneNode(1), paneNode(0)), impl.LayoutResult{Layout: twoPanes()})
	checkTidy(t, fourPanes(), layoutFor(20, 9, besideNode(9, 1, 4), aboveNode(4, 2, 3), paneNode(3), paneNode(0), aboveNode(3, 5, 6), paneNode(1), paneNode(5)))
	// Both splits come before the panes.
	checkTidy(t, layoutOf(20, 9, aboveNode(4, 1, 2), besideNode(9, 3, 4), paneNode(2), paneNode(1), paneNode(0)), layoutFor(20, 9, aboveNode(4, 1, 4), besideNode(9, 2, 3), paneNode(1), paneNode(0), paneNode(2)))
}

func TestTidyLayoutKeepsTheRects(t *testing.T) {
	seed := uint64(24)
	isNew := 0
	for range 2000 {
		l := randomLayout(&seed, next(&seed, 30)+1, next(&seed, 30)+1)
		checkTidy(t, l, expectedTidy(l))
		tidy := impl.TidyLayout(l)
		if want := (impl.RectsResult{Rects: expectedRects(l)}); !sameRects(impl.RectsOf(tidy.Layout), want) {
			t.Fatalf("%+v has the rectangles %+v, and %+v has %+v", l, want, tidy, impl.RectsOf(tidy.Layout))
		}
		if isNormal(l) != impl.SameLayouts(tidy.Layout, l) {
			t.Fatalf("TidyLayout(%+v) = %+v", l, tidy)
		}
		if !isNormal(l) {
			isNew++
		}
	}
	if isNew < 500 || isNew > 1990 {
		t.Errorf("%d layouts of 2000 are in no normal form", isNew)
	}
}
