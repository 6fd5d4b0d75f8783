package tests

import (
	"math"
	"testing"

	"loop.example/g00804/impl"
)

func checkHit(t *testing.T, l impl.Layout, col int64, row int64, want int64) {
	t.Helper()
	if got := impl.HitAt(l, col, row); got != (impl.IntResult{Value: want}) {
		t.Errorf("HitAt(%+v, %d, %d) = %+v, want %d", l, col, row, got, want)
	}
}

func checkNoCell(t *testing.T, l impl.Layout, col int64, row int64) {
	t.Helper()
	if got := impl.HitAt(l, col, row); got != (impl.IntResult{Code: impl.ErrRange}) {
		t.Errorf("HitAt(%+v, %d, %d) = %+v, want ErrRange", l, col, row, got)
	}
}

func TestHitAtASinglePane(t *testing.T) {
	for pane := range int64(6) {
		l := layoutOf(80, 24, paneNode(pane))
		for _, col := range []int64{0, 3, 79} {
			for _, row := range []int64{0, 4, 23} {
				checkHit(t, l, col, row, pane)
			}
		}
		checkHit(t, layoutOf(1, 1, paneNode(pane)), 0, 0, pane)
	}
}

func TestHitAtCornersOfRects(t *testing.T) {
	l := fourPanes()
	corners := map[int64][4]int64{3: {0, 8, 0, 3}, 0: {0, 8, 5, 8}, 1: {10, 19, 0, 2}, 5: {10, 19, 4, 8}}
	for pane, c := range corners {
		for _, col := range c[:2] {
			for _, row := range c[2:] {
				checkHit(t, l, col, row, pane)
			}
		}
	}
}

func TestHitAtBorders(t *testing.T) {
	l := fourPanes()
	for row := range int64(9) {
		checkHit(t, l, 9, row, impl.Border)
	}
	for col := range int64(9) {
		checkHit(t, l, col, 4, impl.Border)
	}
	for col := int64(10); col < 20; col++ {
		checkHit(t, l, col, 3, impl.Border)
	}
	// On the other side of the column the same row is a pane's.
	checkHit(t, l, 8, 3, 3)
	checkHit(t, l, 10, 4, 5)
}

// Where borders of both directions meet, there is a border, too.
func TestHitAtCrossingOfBorders(t *testing.T) {
	l := layoutOf(7, 5, besideNode(3, 1, 2), aboveNode(2, 3, 4), aboveNode(2, 5, 6), paneNode(0), paneNode(1), paneNode(2), paneNode(3))
	screen := []string{"000.222", "000.222", ".......", "111.333", "111.333"}
	for row, cells := range screen {
		for col, cell := range cells {
			want := int64(impl.Border)
			if cell != '.' {
				want = int64(cell - '0')
			}
			checkHit(t, l, int64(col), int64(row), want)
		}
	}
	turned := layoutOf(5, 7, aboveNode(3, 1, 2), besideNode(2, 3, 4), besideNode(2, 5, 6), paneNode(0), paneNode(1), paneNode(2), paneNode(3))
	checkHit(t, turned, 2, 3, impl.Border)
	checkHit(t, turned, 1, 2, 0)
	checkHit(t, turned, 3, 2, 1)
	checkHit(t, turned, 1, 4, 2)
	checkHit(t, turned, 3, 4, 3)
}

func TestHitAtEndsOfTheScreen(t *testing.T) {
	for _, l := range []impl.Layout{layoutOf(1, 1, paneNode(2)), layoutOf(80, 24, paneNode(2)), layoutOf(200, 200, paneNode(2)), fourPanes(), chainOf(6), layoutOf(5, 200, besideNode(2, 1, 2), paneNode(0), paneNode(1))} {
		screen, _ := painted(l)
		inCols, inRows := []int64{0, l.Wide - 1}, []int64{0, l.High - 1}
		for _, col := range inCols {
			for _, row := range inRows {
				checkHit(t, l, col, row, screen[row][col])
			}
		}
		for _, bad := range []int64{-1, math.MinInt64, -1 << 32, math.MaxInt64, 1 << 32, 1<<32 + 1} {
			for _, fine := range []int64{0, 1, -1, 300} {
				checkNoCell(t, l, bad, fine)
				checkNoCell(t, l, fine, bad)
			}
			checkNoCell(t, l, bad, bad)
		}
		for _, row := range inRows {
			checkNoCell(t, l, l.Wide, row)
			checkNoCell(t, l, l.Wide+1, row)
		}
		for _, col := range inCols {
			checkNoCell(t, l, col, l.High)
			checkNoCell(t, l, col, l.High+1)
		}
		checkNoCell(t, l, l.Wide, l.High)
	}
	// The bounds of columns and rows are not mixed up.
	checkHit(t, layoutOf(80, 24, paneNode(2)), 24, 23, 2)
	checkNoCell(t, layoutOf(80, 24, paneNode(2)), 23, 24)
	checkHit(t, layoutOf(24, 80, paneNode(2)), 23, 24, 2)
	checkNoCell(t, layoutOf(24, 80, paneNode(2)), 24, 23)
}

// The layout's fault comes before a cell out of range.
func TestHitAtFaultFirst(t *testing.T) {
	for _, at := range [][2]int64{{0, 0}, {-1, 0}, {0, -1}, {20, 9}, {math.MinInt64, math.MaxInt64}} {
		faults := map[int64]impl.Layout{impl.ErrMany: layoutOf(20, 9), impl.ErrForm: withNode(fourPanes(), 0, "Pane", 1), impl.ErrState: withNode(fourPanes(), 3, "Pane", 1), impl.ErrRange: withNode(fourPanes(), 0, "First", 19)}
		for code, l := range faults {
			if got := impl.HitAt(l, at[0], at[1]); got != (impl.IntResult{Code: code}) {
				t.Errorf("HitAt(%+v, %d, %d) = %+v, want the code %d", l, at[0], at[1], got, code)
			}
		}
	}
}
