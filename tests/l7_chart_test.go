package tests

import (
	"math"
	"slices"
	"strconv"
	"strings"
	"testing"

	"loop.example/g00939/impl"
)

// chartPick holds the forms of chapter 3, charts with equal X or Y, squares that tie, and charts that are their own mirror image.
func chartPick() [][]impl.Spot {
	return append(formPick(),
		[]impl.Spot{{X: 0, Y: 0}, {X: 0, Y: 10}, {X: 10, Y: 10}, {X: 10, Y: 0}},
		[]impl.Spot{{X: 50, Y: 50}, {X: 50, Y: 9}, {X: 50, Y: 400}, {X: 49, Y: 672}, {X: 51, Y: 0}, {X: 50, Y: 10}},
		[]impl.Spot{{X: 200, Y: 7}, {X: 1080, Y: 7}, {X: 640, Y: 7}, {X: 200, Y: 8}, {X: 1080, Y: 8}},
		[]impl.Spot{{X: 300, Y: 300}, {X: 0, Y: 0}},
		spotRow(impl.Spot{X: 83, Y: 667}, 12, 0, -60),
		spotRow(impl.Spot{X: 1279, Y: 3}, 12, -7, 0),
		blockSpots(impl.Spot{X: 630, Y: 320}, 3, 4),
	)
}

// blockSpots returns rows of neighbouring spots.
func blockSpots(a impl.Spot, rows int, files int) []impl.Spot {
	var l []impl.Spot
	for row := range rows {
		l = append(l, spotRow(impl.Spot{X: a.X, Y: a.Y + row}, files, 1, 0)...)
	}
	return l
}

// aroundMiddles holds all charts of one, two and three spots of a small square, in all orders.
func aroundMiddles() [][]impl.Spot {
	spots := blockSpots(impl.Spot{X: 639, Y: 0}, 3, 3)
	var charts [][]impl.Spot
	for _, a := range spots {
		charts = append(charts, []impl.Spot{a})
		for _, b := range spots {
			for _, c := range spots {
				if l := []impl.Spot{a, b, c}; isForm(l) {
					charts = append(charts, l)
				}
			}
			if l := []impl.Spot{a, b}; isForm(l) {
				charts = append(charts, l)
			}
		}
	}
	return charts
}

func everyChart() [][]impl.Spot {
	return append(chartPick(), aroundMiddles()...)
}

// badPerformers holds numbers that are no performer of n.
func badPerformers(n int) []int {
	return append(outside(n-1), n+1, 12, 13, -n, 1<<32, -1<<32, math.MaxInt32, math.MinInt+1, math.MaxInt-1)
}

// firstClosest returns the first two performers with the least square and this square, by looking at all pairs in their order.
func firstClosest(l []impl.Spot) (int, int, int) {
	first, second, least := 0, 0, math.MaxInt
	for i := range l {
		for k := i + 1; k < len(l); k++ {
			if n := squareFrom(l[i], l[k]); n < least {
				first, second, least = i, k, n
			}
		}
	}
	return first, second, least
}

func wantClosestPair(t *testing.T, l []impl.Spot, first int, second int, square int) {
	t.Helper()
	if i, k, ok := impl.ClosestPair(l); !ok || i != first || k != second {
		t.Error("ClosestPair", l, i, k, ok, "want", first, second)
	}
	if n, ok := impl.LeastSquare(l); !ok || n != square {
		t.Error("LeastSquare", l, n, ok, "want", square)
	}
}

func TestClosestPair(t *testing.T) {
	for _, c := range []struct {
		l                     []impl.Spot
		first, second, square int
	}{
		{[]impl.Spot{{X: 0, Y: 0}, {X: 24, Y: 32}, {X: 24, Y: 40}}, 1, 2, 64},
		{[]impl.Spot{{X: 0, Y: 0}, {X: 1280, Y: 672}}, 0, 1, 2089984},
		// Of several closest pairs the least first one comes first, and for it the least second one.
		{[]impl.Spot{{X: 0, Y: 0}, {X: 0, Y: 10}, {X: 10, Y: 10}, {X: 10, Y: 0}}, 0, 1, 100},
		{[]impl.Spot{{X: 0, Y: 0}, {X: 10, Y: 10}, {X: 10, Y: 0}, {X: 0, Y: 10}}, 0, 2, 100},
		{[]impl.Spot{{X: 0, Y: 0}, {X: 300, Y: 0}, {X: 303, Y: 4}, {X: 5, Y: 0}}, 0, 3, 25},
		{[]impl.Spot{{X: 90, Y: 90}, {X: 300, Y: 0}, {X: 600, Y: 0}, {X: 600, Y: 5}, {X: 297, Y: 4}}, 1, 4, 25},
		{[]impl.Spot{{X: 90, Y: 90}, {X: 600, Y: 0}, {X: 300, Y: 0}, {X: 297, Y: 4}, {X: 305, Y: 0}}, 2, 3, 25},
		// Here the square and the sum of the differences choose differently.
		{[]impl.Spot{{X: 100, Y: 100}, {X: 100, Y: 105}, {X: 500, Y: 100}, {X: 503, Y: 103}}, 2, 3, 18},
		{spotRow(impl.Spot{X: 1280, Y: 671}, 12, -1, 0), 0, 1, 1},
		{append(spotRow(impl.Spot{X: 0, Y: 0}, 11, 40, 9), impl.Spot{X: 400, Y: 93}), 10, 11, 9},
		{append([]impl.Spot{{X: 1000, Y: 600}}, append(spotRow(impl.Spot{X: 0, Y: 0}, 10, 40, 9), impl.Spot{X: 999, Y: 600})...), 0, 11, 1},
	} {
		wantClosestPair(t, c.l, c.first, c.second, c.square)
	}
}

// TestClosestPairHasTheLeastSquare checks guarantee 7.
func TestClosestPairHasTheLeastSquare(t *testing.T) {
	for _, l := range everyChart() {
		if len(l) == 1 {
			continue
		}
		first, second, square := firstClosest(l)
		wantClosestPair(t, l, first, second, square)
		i, k, _ := impl.ClosestPair(l)
		n, _ := impl.LeastSquare(l)
		if pair, ok := impl.SquareOf(l[i], l[k]); !ok || pair != n || i >= k {
			t.Error(l, i, k, pair, n, ok)
		}
	}
}

func TestOnePerformerHasNoPair(t *testing.T) {
	for _, a := range spotPick() {
		l := []impl.Spot{a}
		n, ok := impl.LeastSquare(l)
		wantZero(t, "LeastSquare", n, ok)
		i, k, ok := impl.ClosestPair(l)
		wantZero(t, "ClosestPair", [2]int{i, k}, ok)
	}
}

// movedSpots returns the spots with x and y added, on the field or not.
func movedSpots(l []impl.Spot, x int, y int) []impl.Spot {
	var moved []impl.Spot
	for _, a := range l {
		moved = append(moved, impl.Spot{X: a.X + x, Y: a.Y + y})
	}
	return moved
}

func TestMoveChart(t *testing.T) {
	l := []impl.Spot{{X: 100, Y: 50}, {X: 30, Y: 600}, {X: 1200, Y: 40}}
	for _, c := range []struct {
		x, y int
		want []impl.Spot
	}{
		{0, 0, []impl.Spot{{X: 100, Y: 50}, {X: 30, Y: 600}, {X: 1200, Y: 40}}},
		{5, -7, []impl.Spot{{X: 105, Y: 43}, {X: 35, Y: 593}, {X: 1205, Y: 33}}},
		{-30, -40, []impl.Spot{{X: 70, Y: 10}, {X: 0, Y: 560}, {X: 1170, Y: 0}}},
		{80, 72, []impl.Spot{{X: 180, Y: 122}, {X: 110, Y: 672}, {X: 1280, Y: 112}}},
		{-31, 0, nil}, {0, -41, nil}, {81, 0, nil}, {0, 73, nil}, {2000, 0, nil}, {0, 2000, nil}, {-2000, 0, nil}, {0, -2000, nil},
	} {
		got, ok := impl.MoveChart(l, c.x, c.y)
		wantForm(t, "MoveChart", got, ok, c.want)
	}
}

func TestChartsAreMovedToTheEdge(t *testing.T) {
	shifts := []int{-2000, -1280, -672, -1, 0, 1, 2, 672, 1280, 2000}
	for _, l := range everyChart() {
		least, greatest := l[0], l[0]
		for _, a := range l {
			least = impl.Spot{X: min(least.X, a.X), Y: min(least.Y, a.Y)}
			greatest = impl.Spot{X: max(greatest.X, a.X), Y: max(greatest.Y, a.Y)}
		}
		toEdgeX := []int{-least.X, -least.X - 1, impl.MaxX - greatest.X, impl.MaxX - greatest.X + 1}
		toEdgeY := []int{-least.Y, -least.Y - 1, impl.MaxY - greatest.Y, impl.MaxY - greatest.Y + 1}
		for _, x := range append(toEdgeX, shifts...) {
			for _, y := range append(toEdgeY, shifts...) {
				got, ok := impl.MoveChart(l, x, y)
				wantForm(t, "MoveChart", got, ok, movedSpots(l, x, y))
			}
		}
		for _, x := range toEdgeX {
			got, ok := impl.MoveChart(l, x, 0)
			if ok != (x == toEdgeX[0] || x == toEdgeX[2]) {
				t.Error(l, x, got, ok)
			}
		}
	}
}

func TestBadShifts(t *testing.T) {
	for _, l := range chartPick() {
		for _, shift := range []int{-2001, 2001, -2000, 2000, 1 << 32, -1 << 32, math.MaxInt, math.MinInt, math.MaxInt - 1, math.MinInt + 1} {
			for _, p := range [][2]int{{shift, 0}, {0, shift}, {shift, shift}, {shift, -shift}} {
				got, ok := impl.MoveChart(l, p[0], p[1])
				wantNone(t, "MoveChart", got, ok)
			}
		}
	}
}

func TestMirrorChart(t *testing.T) {
	for _, c := range [][2][]impl.Spot{
		{{{X: 83, Y: 16}}, {{X: 1197, Y: 16}}},
		{{{X: 640, Y: 9}}, {{X: 640, Y: 9}}},
		{{{X: 0, Y: 5}, {X: 1280, Y: 672}, {X: 641, Y: 0}}, {{X: 1280, Y: 5}, {X: 0, Y: 672}, {X: 639, Y: 0}}},
		// These come to stand on each other's places.
		{{{X: 200, Y: 7}, {X: 1080, Y: 7}}, {{X: 1080, Y: 7}, {X: 200, Y: 7}}},
		{{{X: 0, Y: 0}, {X: 640, Y: 3}, {X: 1280, Y: 0}, {X: 639, Y: 3}, {X: 641, Y: 3}}, {{X: 1280, Y: 0}, {X: 640, Y: 3}, {X: 0, Y: 0}, {X: 641, Y: 3}, {X: 639, Y: 3}}},
	} {
		for _, p := range [][2][]impl.Spot{c, {c[1], c[0]}} {
			got, ok := impl.MirrorChart(p[0])
			wantForm(t, "MirrorChart", got, ok, p[1])
		}
	}
	for _, l := range everyChart() {
		var want []impl.Spot
		for _, a := range l {
			want = append(want, impl.Spot{X: 1280 - a.X, Y: a.Y})
		}
		got, ok := impl.MirrorChart(l)
		if !ok || !slices.Equal(got, want) {
			t.Error(l, got, ok, "want", want)
		}
		if back, ok := impl.MirrorChart(got); !ok || !slices.Equal(back, l) {
			t.Error("mirrored twice", l, back, ok)
		}
	}
}

func TestSwapPerformers(t *testing.T) {
	a, b, c := impl.Spot{X: 0, Y: 0}, impl.Spot{X: 83, Y: 16}, impl.Spot{X: 9, Y: 672}
	for _, x := range []struct {
		i, k int
		want []impl.Spot
	}{
		{0, 1, []impl.Spot{b, a, c}}, {1, 0, []impl.Spot{b, a, c}}, {0, 2, []impl.Spot{c, b, a}}, {2, 1, []impl.Spot{a, c, b}},
		{0, 0, []impl.Spot{a, b, c}}, {1, 1, []impl.Spot{a, b, c}}, {2, 2, []impl.Spot{a, b, c}},
	} {
		got, ok := impl.SwapPerformers([]impl.Spot{a, b, c}, x.i, x.k)
		wantForm(t, "SwapPerformers", got, ok, x.want)
	}
	for _, l := range chartPick() {
		for i := range l {
			for k := range l {
				got, ok := impl.SwapPerformers(l, i, k)
				if !ok || len(got) != len(l) || got[i] != l[k] || got[k] != l[i] {
					t.Fatal(l, i, k, got, ok)
				}
				for at := range l {
					if at != i && at != k && got[at] != l[at] {
						t.Error("others", l, i, k, got)
					}
				}
			}
			for _, bad := range badPerformers(len(l)) {
				for _, p := range [][2]int{{i, bad}, {bad, i}, {bad, bad}} {
					got, ok := impl.SwapPerformers(l, p[0], p[1])
					wantNone(t, "SwapPerformers", got, ok)
				}
			}
		}
	}
}

func TestPlacePerformer(t *testing.T) {
	a, b, c := impl.Spot{X: 0, Y: 0}, impl.Spot{X: 83, Y: 16}, impl.Spot{X: 9, Y: 672}
	d := impl.Spot{X: 1280, Y: 672}
	for _, x := range []struct {
		i    int
		at   impl.Spot
		want []impl.Spot
	}{
		{0, d, []impl.Spot{d, b, c}}, {1, d, []impl.Spot{a, d, c}}, {2, d, []impl.Spot{a, b, d}},
		// A performer may stay, but not come to where another one stands.
		{0, a, []impl.Spot{a, b, c}}, {1, b, []impl.Spot{a, b, c}}, {2, c, []impl.Spot{a, b, c}},
		{0, b, nil}, {0, c, nil}, {1, a, nil}, {1, c, nil}, {2, a, nil}, {2, b, nil},
		{0, impl.Spot{X: 83, Y: 15}, []impl.Spot{{X: 83, Y: 15}, b, c}}, {0, impl.Spot{X: 82, Y: 16}, []impl.Spot{{X: 82, Y: 16}, b, c}},
	} {
		got, ok := impl.PlacePerformer([]impl.Spot{a, b, c}, x.i, x.at)
		wantForm(t, "PlacePerformer", got, ok, x.want)
	}
	for _, l := range chartPick() {
		spots := slices.Concat(l, spotPick(), badSpots())
		for i := range l {
			for _, at := range spots {
				want := slices.Concat(l[:i], []impl.Spot{at}, l[i+1:])
				got, ok := impl.PlacePerformer(l, i, at)
				wantForm(t, "PlacePerformer", got, ok, want)
			}
		}
		for _, bad := range badPerformers(len(l)) {
			for _, at := range []impl.Spot{l[0], l[len(l)-1], {X: 77, Y: 78}, {X: -1}} {
				got, ok := impl.PlacePerformer(l, bad, at)
				wantNone(t, "PlacePerformer", got, ok)
			}
		}
	}
}

func TestChangedSpots(t *testing.T) {
	a, b, c := impl.Spot{X: 0, Y: 0}, impl.Spot{X: 83, Y: 16}, impl.Spot{X: 16, Y: 83}
	for _, x := range []struct {
		a, b []impl.Spot
		want []int
	}{
		{[]impl.Spot{a}, []impl.Spot{a}, nil},
		{[]impl.Spot{a}, []impl.Spot{b}, []int{0}},
		{[]impl.Spot{b}, []impl.Spot{c}, []int{0}},
		{[]impl.Spot{a, b, c}, []impl.Spot{a, b, c}, nil},
		{[]impl.Spot{a, b, c}, []impl.Spot{a, c, b}, []int{1, 2}},
		{[]impl.Spot{a, b, c}, []impl.Spot{c, b, a}, []int{0, 2}},
		{[]impl.Spot{a, b, c}, []impl.Spot{b, c, a}, []int{0, 1, 2}},
		{[]impl.Spot{a, b, c}, []impl.Spot{{X: 0, Y: 1}, b, c}, []int{0}},
		{[]impl.Spot{a, b, c}, []impl.Spot{{X: 1, Y: 0}, b, c}, []int{0}},
		{[]impl.Spot{a, b, c}, []impl.Spot{a, b, {X: 17, Y: 83}}, []int{2}},
		{spotRow(a, 12, 0, 8), spotRow(a, 12, 0, 8), nil},
		{spotRow(a, 12, 0, 8), spotRow(a, 12, 8, 0), []int{1, 2, 3, 4, 5, 6, 7, 8, 9, 10, 11}},
		{spotRow(a, 12, 0, 8), spotRow(impl.Spot{X: 1}, 12, 0, 8), []int{0, 1, 2, 3, 4, 5, 6, 7, 8, 9, 10, 11}},
	} {
		for _, p := range [][2][]impl.Spot{{x.a, x.b}, {x.b, x.a}} {
			if got, ok := impl.ChangedSpots(p[0], p[1]); !ok || !slices.Equal(got, x.want) {
				t.Error(p, got, ok, "want", x.want)
			}
		}
	}
}

func TestChangedSpotsOfAllPairs(t *testing.T) {
	charts := everyChart()
	for _, a := range charts {
		for _, b := range charts {
			got, ok := impl.ChangedSpots(a, b)
			if len(a) != len(b) {
				wantNone(t, "ChangedSpots", got, ok)
				continue
			}
			var want []int
			for i := range a {
				if a[i].X != b[i].X || a[i].Y != b[i].Y {
					want = append(want, i)
				}
			}
			if !ok || !slices.Equal(got, want) {
				t.Error(a, b, got, ok, "want", want)
			}
		}
	}
}

func TestSameForm(t *testing.T) {
	a, b, c := impl.Spot{X: 0, Y: 0}, impl.Spot{X: 83, Y: 16}, impl.Spot{X: 16, Y: 83}
	for _, x := range []struct {
		a, b []impl.Spot
		want bool
	}{
		{[]impl.Spot{a}, []impl.Spot{a}, true},
		{[]impl.Spot{a}, []impl.Spot{b}, false},
		{[]impl.Spot{b}, []impl.Spot{c}, false},
		{[]impl.Spot{a, b, c}, []impl.Spot{a, b, c}, true},
		{[]impl.Spot{a, b, c}, []impl.Spot{a, c, b}, true},
		{[]impl.Spot{a, b, c}, []impl.Spot{b, c, a}, true},
		{[]impl.Spot{a, b, c}, []impl.Spot{c, b, a}, true},
		{[]impl.Spot{a, b, c}, []impl.Spot{a, b, {X: 16, Y: 84}}, false},
		// Other numbers of performers have other spots, though one of the charts may hold all of the other one.
		{[]impl.Spot{a, b}, []impl.Spot{a, b, c}, false},
		{[]impl.Spot{b, c}, []impl.Spot{a, b, c}, false},
		{[]impl.Spot{b, c}, []impl.Spot{b, c, a}, false},
		{[]impl.Spot{a}, []impl.Spot{b, a}, false},
		// The same X and Y in other pairs are other spots.
		{[]impl.Spot{{X: 1, Y: 1}, {X: 2, Y: 2}}, []impl.Spot{{X: 1, Y: 2}, {X: 2, Y: 1}}, false},
		{[]impl.Spot{{X: 5, Y: 1}, {X: 5, Y: 2}, {X: 5, Y: 3}}, []impl.Spot{{X: 5, Y: 3}, {X: 5, Y: 2}, {X: 5, Y: 1}}, true},
		{[]impl.Spot{{X: 1, Y: 5}, {X: 2, Y: 5}, {X: 3, Y: 5}}, []impl.Spot{{X: 3, Y: 5}, {X: 2, Y: 5}, {X: 1, Y: 5}}, true},
		{spotRow(a, 12, 1, 1), spotRow(impl.Spot{X: 11, Y: 11}, 12, -1, -1), true},
		{spotRow(a, 12, 1, 1), spotRow(a, 12, 1, 2), false},
		{spotRow(a, 12, 1, 1), spotRow(a, 11, 1, 1), false},
	} {
		for _, p := range [][2][]impl.Spot{{x.a, x.b}, {x.b, x.a}} {
			if got, ok := impl.SameForm(p[0], p[1]); !ok || got != x.want {
				t.Error(p, got, ok, "want", x.want)
			}
		}
	}
}

// TestSameFormOfAllPairs looks whether each spot of one chart is found in the other one.
func TestSameFormOfAllPairs(t *testing.T) {
	charts := everyChart()
	same := 0
	for _, a := range charts {
		for _, b := range charts {
			want := len(a) == len(b)
			for _, spot := range a {
				want = want && slices.Contains(b, spot)
			}
			if got, ok := impl.SameForm(a, b); !ok || got != want {
				t.Error(a, b, got, ok, "want", want)
			}
			if want && !slices.Equal(a, b) {
				same++
			}
		}
	}
	if same == 0 {
		t.Error("no chart has another order of the same spots")
	}
}

func TestOrderAlong(t *testing.T) {
	for _, c := range []struct {
		l    []impl.Spot
		want []int
	}{
		{[]impl.Spot{{X: 83, Y: 16}}, []int{0}},
		{[]impl.Spot{{X: 0, Y: 0}, {X: 24, Y: 32}, {X: 24, Y: 40}}, []int{0, 1, 2}},
		{[]impl.Spot{{X: 24, Y: 40}, {X: 24, Y: 32}, {X: 0, Y: 672}}, []int{2, 1, 0}},
		{[]impl.Spot{{X: 50, Y: 50}, {X: 50, Y: 9}, {X: 50, Y: 400}, {X: 49, Y: 672}, {X: 51, Y: 0}, {X: 50, Y: 10}}, []int{3, 1, 5, 0, 2, 4}},
		{[]impl.Spot{{X: 9, Y: 0}, {X: 10, Y: 0}, {X: 100, Y: 0}, {X: 11, Y: 0}}, []int{0, 1, 3, 2}},
		{spotRow(impl.Spot{X: 83, Y: 667}, 12, 0, -60), []int{11, 10, 9, 8, 7, 6, 5, 4, 3, 2, 1, 0}},
		{spotRow(impl.Spot{X: 0, Y: 600}, 12, 100, -50), []int{0, 1, 2, 3, 4, 5, 6, 7, 8, 9, 10, 11}},
	} {
		if got, ok := impl.OrderAlong(c.l); !ok || !slices.Equal(got, c.want) {
			t.Error(c.l, got, ok, "want", c.want)
		}
	}
	for _, l := range everyChart() {
		// As all spots differ, a performer's number in the order is how many others come before.
		want := make([]int, len(l))
		for i, a := range l {
			before := 0
			for _, b := range l {
				if b.X < a.X || b.X == a.X && b.Y < a.Y {
					before++
				}
			}
			want[before] = i
		}
		if got, ok := impl.OrderAlong(l); !ok || !slices.Equal(got, want) {
			t.Error(l, got, ok, "want", want)
		}
	}
}

// linesOf writes the text of a chart anew.
func linesOf(l []impl.Spot) string {
	s := ""
	for _, a := range l {
		s += axisText(a.X) + "," + axisText(a.Y) + "\n"
	}
	return s
}

func TestChartText(t *testing.T) {
	for want, l := range map[string][]impl.Spot{
		"10+3,2\n":           {{X: 83, Y: 16}},
		"0,0\n":              {{X: 0, Y: 0}},
		"160,84\n0,0\n":      {{X: 1280, Y: 672}, {X: 0, Y: 0}},
		"0,0\n3,4\n3,5\n":    {{X: 0, Y: 0}, {X: 24, Y: 32}, {X: 24, Y: 40}},
		"3,5\n3,4\n0,0+1\n":  {{X: 24, Y: 40}, {X: 24, Y: 32}, {X: 0, Y: 1}},
		"0+7,1\n1,0+7\n":     {{X: 7, Y: 8}, {X: 8, Y: 7}},
		"159+7,83+7\n0,84\n": {{X: 1279, Y: 671}, {X: 0, Y: 672}},
		"0,0\n0+1,0\n0+2,0\n0+3,0\n0+4,0\n0+5,0\n0+6,0\n0+7,0\n1,0\n1+1,0\n1+2,0\n1+3,0\n": spotRow(impl.Spot{}, 12, 1, 0),
	} {
		if s, ok := impl.ChartText(l); !ok || s != want {
			t.Errorf("%v: %q, %v, want %q", l, s, ok, want)
		}
		if got, ok := impl.ParseChart(want); !ok || !slices.Equal(got, l) {
			t.Errorf("%q: %v, %v, want %v", want, got, ok, l)
		}
	}
}

// TestChartTextsAreReadBack checks guarantee 7.
func TestChartTextsAreReadBack(t *testing.T) {
	for _, l := range everyChart() {
		s, ok := impl.ChartText(l)
		if !ok || s != linesOf(l) {
			t.Errorf("%v: %q, %v", l, s, ok)
		}
		if got, ok := impl.ParseChart(s); !ok || !slices.Equal(got, l) {
			t.Errorf("%q: %v, %v, want %v", s, got, ok, l)
		}
	}
}

func TestNoChartTexts(t *testing.T) {
	twelve := linesOf(spotRow(impl.Spot{X: 3, Y: 5}, 12, 9, 9))
	thirteen := twelve + "150,0\n"
	if got, ok := impl.ParseChart(twelve); !ok || len(got) != 12 {
		t.Error("twelve lines", got, ok)
	}
	if got, ok := impl.ParseChart("150,0\n"); !ok || len(got) != 1 {
		t.Error("the thirteenth line", got, ok)
	}
	for _, s := range []string{
		// No spots, or no newline at the end.
		"", "\n", "\n\n", "0,0", "0,0\n3,4", twelve[:len(twelve)-1],
		// Empty lines and blanks.
		"\n0,0\n", "0,0\n\n", "0,0\n\n3,4\n", "0,0\n3,4\n\n", " 0,0\n", "0,0 \n", "0,0\n 3,4\n", "0,0\n3,4\n ", "0, 0\n", "0,0 3,4\n", "0,0\t3,4\n",
		// Other ends of lines.
		"0,0\r\n", "0,0\r3,4\r", "0,0\n\r3,4\n", "0,0\r\n3,4\r\n", "0,0;3,4\n", "0,0\n3,4\x00", "0,0\x00\n", "0,0\n3,4\v", "0,0\v3,4\n", "0,0\u20283,4\n", "0,0\u00853,4\n",
		// Spots that come twice.
		"0,0\n0,0\n", "0,0\n3,4\n0,0\n", "3,4\n0,0\n0,0\n", strings.Repeat("10+3,2\n", 12), strings.Repeat("10+3,2\n", 2),
		// Too many lines.
		thirteen, twelve + twelve, twelve + "0,0\n", linesOf(spotRow(impl.Spot{}, 13, 1, 1)), linesOf(spotRow(impl.Spot{}, 40, 1, 1)), linesOf(spotRow(impl.Spot{}, 41, 1, 1)), linesOf(spotRow(impl.Spot{}, 600, 1, 1)), strings.Repeat("0,0\n", 10000),
		// Numbers that SpotText does not write.
		"00,0\n", "0,00\n", "01,0\n", "0,0\n03,4\n", "3+0,4\n", "3,4+0\n", "3+8,4\n", "3,4+9\n", "3+03,4\n", "+3,4\n", "-0,0\n", "-1,0\n", "0,0\n3,-4\n", "3+,4\n", "3,+4\n", "1e1,0\n", "0x1,0\n", "1.5,0\n",
		"161,0\n", "160+1,0\n", "0,85\n", "0,84+1\n", "0,0\n161,0\n", "18446744073709551616,0\n", "0,0\n0,18446744073709551617\n", strings.Repeat("9", 5000) + ",0\n", strings.Repeat("0", 5000) + ",0\n",
		// Other numbers of parts.
		",\n", "0\n", "0,\n", ",0\n", "0,0,0\n", "0,0,\n", "0,0\n3\n", "0,0\n3,4,5\n", "0,0,\n3,4\n",
		"a,b\n", "0,0\nx\n", "x\n0,0\n", "\xff,0\n", "0,\xff\n", "0,0\n\xff", "\xff", "\u0661,0\n", "\uff11,0\n", "\ufeff0,0\n",
		strings.Repeat("\n", 5000), strings.Repeat(",", 5000), strings.Repeat("0,0\n", 12) + "x",
	} {
		got, ok := impl.ParseChart(s)
		wantNone(t, "ParseChart "+strconv.Quote(s[:min(len(s), 30)]), got, ok)
	}
}

// TestNearChartTexts changes, leaves out and adds single bytes: the text is a chart's just if it is that of what was read.
func TestNearChartTexts(t *testing.T) {
	try := func(s string) {
		got, ok := impl.ParseChart(s)
		if !ok {
			wantNone(t, "ParseChart", got, ok)
		} else if !isForm(got) || linesOf(got) != s {
			t.Errorf("%q: %v", s, got)
		}
	}
	for _, text := range []string{"10+3,2\n", "0,0\n3,4\n3,5\n", "160,84\n159+7,83\n", linesOf(spotRow(impl.Spot{X: 3, Y: 5}, 12, 9, 9))} {
		for i := range len(text) {
			try(text[:i])
			try(text[i:])
			try(text[:i] + text[i+1:])
			for b := range 256 {
				try(text[:i] + string([]byte{byte(b)}) + text[i:])
				try(text[:i] + string([]byte{byte(b)}) + text[i+1:])
			}
		}
	}
}

// TestShortChartTexts parses short texts of all kinds: they are a chart's just if all their lines are texts of different spots.
func TestShortChartTexts(t *testing.T) {
	numbers := map[string]int{}
	for n := 0; n <= impl.MaxX; n++ {
		numbers[axisText(n)] = n
	}
	parsed := map[int]int{}
	try := func(s string) {
		lines := strings.Split(s, "\n")
		last := len(lines) - 1
		good := lines[last] == ""
		var want []impl.Spot
		for _, line := range lines[:last] {
			left, right, joined := strings.Cut(line, ",")
			x, okX := numbers[left]
			y, okY := numbers[right]
			good = good && joined && okX && okY
			want = append(want, impl.Spot{X: x, Y: y})
		}
		got, ok := impl.ParseChart(s)
		wantRead(t, s, got, ok, want, good && isForm(want))
		parsed[len(got)]++
	}
	tryTexts("01,\n", 9, try)
	tryTexts("0178+,\n", 6, try)
	tryTexts("01, +-\r\n\xff", 5, try)
	if parsed[1] == 0 || parsed[2] == 0 {
		t.Error("texts of one line and of two", parsed)
	}
}
