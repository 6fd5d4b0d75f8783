package tests

import (
	"math"
	"testing"

	"loop.example/g00804/impl"
)

func layoutFor(wide int64, high int64, nodes ...impl.Node) impl.LayoutResult {
	return impl.LayoutResult{Layout: layoutOf(wide, high, nodes...)}
}

// twoPanes is in normal form.
func twoPanes() impl.Layout {
	return layoutOf(20, 9, besideNode(9, 1, 2), paneNode(0), paneNode(1))
}

func greatPanes() []int64 {
	return append(panesThatDoNotExist(), -6, -5, 1<<32+5, -1<<32, math.MinInt64+1, math.MaxInt64-1)
}

// The root itself becomes a split.
func TestSplitPaneOfTheRoot(t *testing.T) {
	for pane := range int64(6) {
		for fresh := range int64(6) {
			want := noLayout(impl.ErrState)
			if fresh != pane {
				want = layoutFor(80, 24, besideNode(39, 1, 2), paneNode(pane), paneNode(fresh))
			}
			checkSplit(t, layoutOf(80, 24, paneNode(pane)), pane, impl.NodeBeside, fresh, want)
			if fresh != pane {
				want = layoutFor(80, 24, aboveNode(11, 1, 2), paneNode(pane), paneNode(fresh))
			}
			checkSplit(t, layoutOf(80, 24, paneNode(pane)), pane, impl.NodeAbove, fresh, want)
		}
	}
}

// The nodes behind the new ones move, whichever part is split.
func TestSplitPaneOfTwoPanes(t *testing.T) {
	l := twoPanes()
	checkSplit(t, l, 0, impl.NodeAbove, 2, layoutFor(20, 9, besideNode(9, 1, 4), aboveNode(4, 2, 3), paneNode(0), paneNode(2), paneNode(1)))
	checkSplit(t, l, 0, impl.NodeBeside, 5, layoutFor(20, 9, besideNode(9, 1, 4), besideNode(4, 2, 3), paneNode(0), paneNode(5), paneNode(1)))
	checkSplit(t, l, 1, impl.NodeAbove, 2, layoutFor(20, 9, besideNode(9, 1, 2), paneNode(0), aboveNode(4, 3, 4), paneNode(1), paneNode(2)))
	checkSplit(t, l, 1, impl.NodeBeside, 5, layoutFor(20, 9, besideNode(9, 1, 2), paneNode(0), besideNode(4, 3, 4), paneNode(1), paneNode(5)))
}

// The nodes of fourPanes are not in normal form, but those of the result are.
func TestSplitPaneInTheDepth(t *testing.T) {
	l := fourPanes()
	checkSplit(t, l, 3, impl.NodeAbove, 2, layoutFor(20, 9, besideNode(9, 1, 6), aboveNode(4, 2, 5), aboveNode(1, 3, 4), paneNode(3), paneNode(2), paneNode(0), aboveNode(3, 7, 8), paneNode(1), paneNode(5)))
	checkSplit(t, l, 0, impl.NodeBeside, 4, layoutFor(20, 9, besideNode(9, 1, 6), aboveNode(4, 2, 3), paneNode(3), besideNode(4, 4, 5), paneNode(0), paneNode(4), aboveNode(3, 7, 8), paneNode(1), paneNode(5)))
	checkSplit(t, l, 1, impl.NodeAbove, 2, layoutFor(20, 9, besideNode(9, 1, 4), aboveNode(4, 2, 3), paneNode(3), paneNode(0), aboveNode(3, 5, 8), aboveNode(1, 6, 7), paneNode(1), paneNode(2), paneNode(5)))
	checkSplit(t, l, 5, impl.NodeBeside, 4, layoutFor(20, 9, besideNode(9, 1, 4), aboveNode(4, 2, 3), paneNode(3), paneNode(0), aboveNode(3, 5, 6), paneNode(1), besideNode(4, 7, 8), paneNode(5), paneNode(4)))
}

// The room decides about First and about ErrFull, and the other side of the pane does not.
func TestSplitPaneRoom(t *testing.T) {
	firsts := map[int64]int64{3: 1, 4: 1, 5: 2, 6: 2, 7: 3, 8: 3, 9: 4, 10: 4, 79: 39, 80: 39, 199: 99, 200: 99}
	for _, other := range []int64{1, 2, 3, 200} {
		for _, room := range []int64{1, 2} {
			checkSplit(t, layoutOf(room, other, paneNode(0)), 0, impl.NodeBeside, 1, noLayout(impl.ErrFull))
			checkSplit(t, layoutOf(other, room, paneNode(0)), 0, impl.NodeAbove, 1, noLayout(impl.ErrFull))
		}
		for room, first := range firsts {
			checkSplit(t, layoutOf(room, other, paneNode(0)), 0, impl.NodeBeside, 1, layoutFor(room, other, besideNode(first, 1, 2), paneNode(0), paneNode(1)))
			checkSplit(t, layoutOf(other, room, paneNode(0)), 0, impl.NodeAbove, 1, layoutFor(other, room, aboveNode(first, 1, 2), paneNode(0), paneNode(1)))
		}
	}
}

// The room is that of the pane, and not that of the screen.
func TestSplitPaneRoomOfAPart(t *testing.T) {
	for size := int64(1); size <= 4; size++ {
		for _, isFirst := range []bool{true, false} {
			first := size
			if !isFirst {
				first = 40 - 1 - size
			}
			beside := layoutOf(40, 30, besideNode(first, 1, 2), paneNode(0), paneNode(1))
			above := layoutOf(30, 40, aboveNode(first, 1, 2), paneNode(0), paneNode(1))
			pane := int64(0)
			if !isFirst {
				pane = 1
			}
			wantBeside, wantAbove := noLayout(impl.ErrFull), noLayout(impl.ErrFull)
			if size >= 3 {
				wantBeside, wantAbove = expectedSplit(beside, pane, impl.NodeBeside, 2), expectedSplit(above, pane, impl.NodeAbove, 2)
				if wantBeside.Code != impl.OK || wantAbove.Code != impl.OK {
					t.Fatalf("%+v and %+v", wantBeside, wantAbove)
				}
			}
			checkSplit(t, beside, pane, impl.NodeBeside, 2, wantBeside)
			checkSplit(t, above, pane, impl.NodeAbove, 2, wantAbove)
			// In the other direction there is room.
			checkSplit(t, beside, pane, impl.NodeAbove, 2, expectedSplit(beside, pane, impl.NodeAbove, 2))
			checkSplit(t, above, pane, impl.NodeBeside, 2, expectedSplit(above, pane, impl.NodeBeside, 2))
		}
	}
}

// A kind or a fresh out of range comes before a pane that does not exist.
func TestSplitPaneKindAndFreshOutOfRange(t *testing.T) {
	for _, l := range []impl.Layout{layoutOf(80, 24, paneNode(0)), layoutOf(1, 1, paneNode(0)), twoPanes(), fourPanes(), chainOf(6)} {
		for _, pane := range append(greatPanes(), 0, 1, 2, 3, 4, 5) {
			for _, kind := range []int64{0, 1, 4, -1, -2, 5, 1 << 32, 1<<32 + 2, 1<<32 + 3, math.MinInt64, math.MaxInt64} {
				for _, fresh := range []int64{0, 2, 5, -1, 6, pane} {
					checkSplit(t, l, pane, kind, fresh, noLayout(impl.ErrRange))
				}
			}
			for _, fresh := range greatPanes() {
				checkSplit(t, l, pane, impl.NodeBeside, fresh, noLayout(impl.ErrRange))
				checkSplit(t, l, pane, impl.NodeAbove, fresh, noLayout(impl.ErrRange))
			}
		}
	}
}

// A pane that does not exist comes before a fresh that exists, and this before the room.
func TestSplitPaneThatDoesNotExist(t *testing.T) {
	for _, kind := range []int64{impl.NodeBeside, impl.NodeAbove} {
		for _, pane := range append(greatPanes(), 2, 4) {
			for fresh := range int64(6) {
				checkSplit(t, fourPanes(), pane, kind, fresh, noLayout(impl.ErrNone))
				checkSplit(t, layoutOf(1, 1, paneNode(5)), pane, kind, fresh, noLayout(impl.ErrNone))
			}
		}
		for _, pane := range []int64{0, 1, 3, 5} {
			for _, fresh := range []int64{0, 1, 3, 5} {
				checkSplit(t, fourPanes(), pane, kind, fresh, noLayout(impl.ErrState))
			}
		}
		checkSplit(t, layoutOf(1, 1, paneNode(5)), 5, kind, 5, noLayout(impl.ErrState))
		checkSplit(t, layoutOf(1, 1, paneNode(5)), 5, kind, 4, noLayout(impl.ErrFull))
		narrow := layoutOf(3, 3, besideNode(1, 1, 2), aboveNode(1, 3, 4), paneNode(2), paneNode(0), paneNode(1))
		checkSplit(t, narrow, 0, kind, 2, noLayout(impl.ErrState))
		checkSplit(t, narrow, 0, kind, 3, noLayout(impl.ErrFull))
	}
}

// Each fresh exists, whether there is room or not.
func TestSplitPaneOfAllPanes(t *testing.T) {
	for _, l := range []impl.Layout{chainOf(6), resized(chainOf(6), 11, 1)} {
		for pane := range int64(6) {
			for fresh := range int64(6) {
				checkSplit(t, l, pane, impl.NodeBeside, fresh, noLayout(impl.ErrState))
				checkSplit(t, l, pane, impl.NodeAbove, fresh, noLayout(impl.ErrState))
			}
			checkSplit(t, l, pane, impl.NodeAbove, 6, noLayout(impl.ErrRange))
			checkSplit(t, l, 6, impl.NodeAbove, pane, noLayout(impl.ErrNone))
		}
	}
}

// Up to all panes, each one is split off the one before.
func TestSplitPaneAgainAndAgain(t *testing.T) {
	l := layoutOf(64, 1, paneNode(0))
	for fresh := int64(1); fresh < 6; fresh++ {
		want := expectedSplit(l, fresh-1, impl.NodeBeside, fresh)
		checkSplit(t, l, fresh-1, impl.NodeBeside, fresh, want)
		l = impl.SplitPane(l, fresh-1, impl.NodeBeside, fresh).Layout
	}
	want := layoutFor(64, 1, besideNode(31, 1, 2), paneNode(0), besideNode(15, 3, 4), paneNode(1), besideNode(7, 5, 6), paneNode(2), besideNode(3, 7, 8), paneNode(3), besideNode(1, 9, 10), paneNode(4), paneNode(5))
	if !sameLayoutResult(impl.LayoutResult{Layout: l}, want) {
		t.Errorf("%+v, want %+v", l, want.Layout)
	}
}

func TestSplitPaneRandomLayouts(t *testing.T) {
	seed := uint64(19)
	seen := map[int64]int{}
	for range 1500 {
		l := randomLayout(&seed, next(&seed, 30)+1, next(&seed, 30)+1)
		for range 8 {
			pane, kind, fresh := int64(next(&seed, 8)-1), int64(next(&seed, 10)+1), int64(next(&seed, 8)-1)
			if kind > 4 {
				kind = 2 + kind%2
			}
			want := expectedSplit(l, pane, kind, fresh)
			checkSplit(t, l, pane, kind, fresh, want)
			seen[want.Code]++
		}
	}
	checkSeen(t, seen, impl.OK, impl.ErrRange, impl.ErrNone, impl.ErrState, impl.ErrFull)
}
