package tests

import (
	"math"
	"slices"
	"testing"

	"loop.example/g00804/impl"
)

// checkP8 splits each pane in each way, and returns how many times there was room.
func checkP8(t *testing.T, l impl.Layout) int {
	t.Helper()
	before, tidy := expectedRects(l), expectedTidy(l)
	splits := 0
	for _, r := range before {
		for _, kind := range []int64{impl.NodeBeside, impl.NodeAbove} {
			for fresh := range int64(6) {
				split := impl.SplitPane(l, r.Pane, kind, fresh)
				if split.Code != impl.OK {
					continue
				}
				splits++
				checkFreshBeside(t, l, split.Layout, r, kind, fresh)
				killed := impl.KillPane(split.Layout, fresh)
				if !sameLayoutResult(killed, tidy) || !isNormal(killed.Layout) || impl.LayoutFault(killed.Layout) != impl.OK {
					t.Fatalf("%+v: after SplitPane(%d, %d, %d) and KillPane: %+v, want %+v", l, r.Pane, kind, fresh, killed, tidy)
				}
				if rects := impl.RectsOf(killed.Layout); !sameRects(rects, impl.RectsResult{Rects: before}) {
					t.Fatalf("%+v: after SplitPane(%d, %d, %d) and KillPane: %+v, before: %+v", l, r.Pane, kind, fresh, rects, before)
				}
			}
		}
	}
	return splits
}

// checkFreshBeside checks that the split pane and the new one share the cells of the former, and that no other pane changes.
func checkFreshBeside(t *testing.T, l impl.Layout, split impl.Layout, r impl.Rect, kind int64, fresh int64) {
	t.Helper()
	a, b := r, r
	if kind == impl.NodeBeside {
		a.Wide = (r.Wide - 1) / 2
		b.Col, b.Wide = r.Col+a.Wide+1, r.Wide-a.Wide-1
	} else {
		a.High = (r.High - 1) / 2
		b.Row, b.High = r.Row+a.High+1, r.High-a.High-1
	}
	b.Pane = fresh
	want := expectedRects(l)
	at := slices.Index(want, r)
	want = slices.Replace(want, at, at+1, a, b)
	if got := impl.RectsOf(split); !sameRects(got, impl.RectsResult{Rects: want}) || !isNormal(split) {
		t.Fatalf("%+v: SplitPane(%d, %d, %d) = %+v, with %+v, want %+v", l, r.Pane, kind, fresh, split, got, want)
	}
}

func TestP8KnownLayouts(t *testing.T) {
	for panes := int64(1); panes <= 6; panes++ {
		// Beside one another each pane but the last one is too narrow, but all can be split into rows.
		want := int((6 - panes) * (panes + 1))
		if got := checkP8(t, resized(chainOf(panes), 30, 20)); got != want {
			t.Errorf("%d panes have %d splits, want %d", panes, got, want)
		}
	}
	if checkP8(t, fourPanes()) == 0 || checkP8(t, twoPanes()) == 0 {
		t.Error("there is no room")
	}
	for room, want := range map[int64]int{1: 0, 2: 0, 3: 5, 4: 5, 200: 5} {
		if got := checkP8(t, layoutOf(room, 1, paneNode(2))); got != want {
			t.Errorf("%d columns have %d splits, want %d", room, got, want)
		}
		if got := checkP8(t, layoutOf(1, room, paneNode(2))); got != want {
			t.Errorf("%d rows have %d splits, want %d", room, got, want)
		}
	}
	checkP8(t, layoutOf(200, 200, besideNode(100, 1, 2), paneNode(0), aboveNode(99, 3, 4), paneNode(4), paneNode(3)))
}

func TestP8EveryLayoutOfUpToThreePanes(t *testing.T) {
	counts := [4]int{}
	everySmallLayout(func(l impl.Layout) bool {
		if impl.LayoutFault(l) != impl.OK {
			return false
		}
		counts[(len(l.Nodes)+1)/2] += checkP8(t, l)
		return true
	})
	for panes := 1; panes <= 3; panes++ {
		if counts[panes] < 200 {
			t.Errorf("layouts of %d panes have only %d splits", panes, counts[panes])
		}
	}
}

func TestP8RandomLayouts(t *testing.T) {
	seed := uint64(25)
	normal, others := map[int]int{}, map[int]int{}
	check := func(l impl.Layout) {
		splits := checkP8(t, l)
		if isNormal(l) {
			normal[len(l.Nodes)] += splits
		} else {
			others[len(l.Nodes)] += splits
		}
	}
	for range 1200 {
		l := randomLayout(&seed, next(&seed, 30)+1, next(&seed, 30)+1)
		check(l)
		check(expectedTidy(l).Layout)
	}
	for panes := 1; panes <= 5; panes++ {
		if normal[2*panes-1] < 100 || panes > 1 && others[2*panes-1] < 100 {
			t.Errorf("layouts of %d panes have %d splits in normal form and %d in another", panes, normal[2*panes-1], others[2*panes-1])
		}
	}
	// With all panes there is no number left for a new one.
	if normal[11]+others[11] != 0 {
		t.Errorf("layouts of all panes have %d splits", normal[11]+others[11])
	}
}

// Removing the split pane instead leaves its place to the new one.
func TestKillPaneOfTheSplitPane(t *testing.T) {
	seed := uint64(26)
	for range 500 {
		l := randomLayout(&seed, next(&seed, 30)+1, next(&seed, 30)+1)
		for _, r := range expectedRects(l) {
			split := impl.SplitPane(l, r.Pane, impl.NodeAbove, 5)
			if split.Code != impl.OK {
				continue
			}
			want := impl.RectsOf(l)
			at := slices.Index(want.Rects, r)
			want.Rects[at].Pane = 5
			if got := impl.RectsOf(impl.KillPane(split.Layout, r.Pane).Layout); !sameRects(got, want) {
				t.Fatalf("%+v: %+v, want %+v", l, got, want)
			}
		}
	}
}

// editAnswers is what the functions of the chapter return for a layout.
type editAnswers struct {
	layouts []impl.LayoutResult
	nexts   []impl.IntResult
}

func editAnswersFor(l impl.Layout) editAnswers {
	out := editAnswers{layouts: []impl.LayoutResult{impl.TidyLayout(l)}}
	for _, pane := range []int64{0, 1, 2, 3, 4, 5, -1, 6, math.MinInt64, math.MaxInt64} {
		for _, kind := range []int64{impl.NodeBeside, impl.NodeAbove, 1, math.MaxInt64} {
			for _, fresh := range []int64{0, 2, 4, 5, 6, math.MinInt64} {
				out.layouts = append(out.layouts, impl.SplitPane(l, pane, kind, fresh))
			}
		}
		out.layouts = append(out.layouts, impl.KillPane(l, pane))
		for _, by := range []int64{0, 1, -1, 200, 201, math.MinInt64, math.MaxInt64} {
			out.layouts = append(out.layouts, impl.ResizePane(l, pane, by))
		}
		out.nexts = append(out.nexts, impl.NextPane(l, pane))
	}
	return out
}

func (a editAnswers) equal(b editAnswers) bool {
	return slices.EqualFunc(a.layouts, b.layouts, sameLayoutResult) && slices.Equal(a.nexts, b.nexts)
}

func (a editAnswers) copied() editAnswers {
	a.layouts, a.nexts = slices.Clone(a.layouts), slices.Clone(a.nexts)
	for i := range a.layouts {
		a.layouts[i].Layout.Nodes = slices.Clone(a.layouts[i].Layout.Nodes)
	}
	return a
}

func TestP1EditArgumentsStay(t *testing.T) {
	for _, start := range argumentLayouts() {
		l := roomyLayout(start)
		room := slices.Clone(l.Nodes[:cap(l.Nodes)])
		got := editAnswersFor(l)
		if l.Wide != start.Wide || l.High != start.High || len(l.Nodes) != len(start.Nodes) || !slices.Equal(l.Nodes[:cap(l.Nodes)], room) {
			t.Fatalf("the layout %+v became %+v", start, l)
		}
		if again := editAnswersFor(start); !again.equal(got) {
			t.Fatalf("%+v: %+v, then %+v", start, got, again)
		}
	}
}

// Layouts in normal form are among them, whose answers may equal the argument.
func TestP1EditResultsAreNew(t *testing.T) {
	for _, start := range append(argumentLayouts(), twoPanes(), expectedTidy(fourPanes()).Layout) {
		l := roomyLayout(start)
		one, two := editAnswersFor(l), editAnswersFor(l)
		want := one.copied()
		clear(l.Nodes[:cap(l.Nodes)])
		if !one.equal(want) || !two.equal(want) {
			t.Fatalf("%+v: the results share memory with the layout", start)
		}
		for i := range one.layouts {
			spoilNodes(one.layouts[i].Layout.Nodes)
			if !slices.EqualFunc(one.layouts[i+1:], want.layouts[i+1:], sameLayoutResult) {
				t.Fatalf("%+v: the result %d shares memory with a later one", start, i)
			}
		}
		if !two.equal(want) || !editAnswersFor(start).equal(want) {
			t.Fatalf("%+v: the results share memory", start)
		}
	}
}

func spoilNodes(nodes []impl.Node) {
	nodes = nodes[:cap(nodes)]
	for i := range nodes {
		nodes[i] = impl.Node{Kind: 91, Pane: 92, First: 93, A: 94, B: 95}
	}
}

// The functions of chapter 6 accept the results, and the edits the results of edits.
func TestEditsAgainAndAgain(t *testing.T) {
	seed := uint64(27)
	for range 300 {
		l := layoutOf(int64(next(&seed, 60)+1), int64(next(&seed, 60)+1), paneNode(int64(next(&seed, 6))))
		for range 25 {
			pane := int64(next(&seed, 6))
			var got, want impl.LayoutResult
			switch next(&seed, 5) {
			case 0:
				got, want = impl.KillPane(l, pane), expectedKill(l, pane)
			case 1:
				by := int64(next(&seed, 9) - 4)
				got, want = impl.ResizePane(l, pane, by), expectedResize(l, pane, by)
			default:
				kind, fresh := int64(next(&seed, 2)+2), int64(next(&seed, 6))
				got, want = impl.SplitPane(l, pane, kind, fresh), expectedSplit(l, pane, kind, fresh)
			}
			checkEdit(t, "an edit", l, got, want)
			checkNext(t, l, pane, expectedNext(l, pane))
			if got.Code == impl.OK {
				l = got.Layout
			}
		}
	}
}
