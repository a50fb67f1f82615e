package tests

import (
	"math"
	"slices"
	"strings"
	"testing"

	"loop.example/g00939/impl"
)

// callChartFunctions calls all functions of chapter 7 that take charts, with some numbers as shifts and performers, and some spots.
func callChartFunctions(l []impl.Spot, other []impl.Spot, numbers []int, spots []impl.Spot) {
	impl.IsChart(l)
	impl.LeastSquare(l)
	impl.ClosestPair(l)
	impl.MirrorChart(l)
	impl.OrderAlong(l)
	impl.ChartText(l)
	for _, p := range [][2][]impl.Spot{{l, other}, {other, l}, {l, l}} {
		impl.ChangedSpots(p[0], p[1])
		impl.SameForm(p[0], p[1])
	}
	for _, n := range numbers {
		for _, m := range numbers {
			impl.MoveChart(l, n, m)
			impl.SwapPerformers(l, n, m)
		}
		for _, a := range spots {
			impl.PlacePerformer(l, n, a)
		}
	}
}

// wantNoChart fails the test unless all functions of one chart fail with zero results.
func wantNoChart(t *testing.T, l []impl.Spot) {
	t.Helper()
	n, ok := impl.LeastSquare(l)
	wantZero(t, "LeastSquare", n, ok)
	i, k, ok := impl.ClosestPair(l)
	wantZero(t, "ClosestPair", [2]int{i, k}, ok)
	x, ok := impl.MirrorChart(l)
	wantNone(t, "MirrorChart", x, ok)
	for _, shift := range []int{-1, 0, 1} {
		x, ok = impl.MoveChart(l, shift, -shift)
		wantNone(t, "MoveChart", x, ok)
	}
	order, ok := impl.OrderAlong(l)
	wantNone(t, "OrderAlong", order, ok)
	s, ok := impl.ChartText(l)
	wantZero(t, "ChartText", s, ok)
	for i := range 3 {
		x, ok = impl.SwapPerformers(l, i, i)
		wantNone(t, "SwapPerformers", x, ok)
		x, ok = impl.SwapPerformers(l, 0, i)
		wantNone(t, "SwapPerformers", x, ok)
		// A good spot for one of the performers does not make the spots before a chart.
		x, ok = impl.PlacePerformer(l, i, impl.Spot{X: 555, Y: 333})
		wantNone(t, "PlacePerformer", x, ok)
	}
}

func TestBadChartsFail(t *testing.T) {
	for _, l := range badForms() {
		wantNoChart(t, l)
		goods := [][]impl.Spot{{{X: 300, Y: 300}}, spotRow(impl.Spot{X: 5, Y: 5}, max(1, min(len(l), 12)), 8, 8)}
		for _, good := range goods {
			for _, p := range [][2][]impl.Spot{{l, good}, {good, l}, {l, l}, {l, slices.Clone(l)}} {
				changed, ok := impl.ChangedSpots(p[0], p[1])
				wantNone(t, "ChangedSpots", changed, ok)
				same, ok := impl.SameForm(p[0], p[1])
				wantZero(t, "SameForm", same, ok)
			}
		}
	}
}

func TestChartFunctionsTakeAllArguments(t *testing.T) {
	numbers := []int{0, 1, -1, 2, 11, 12, 13, 2000, -2000, 2001, -2001, 1 << 32, math.MaxInt32, math.MinInt32, math.MaxInt, math.MinInt, math.MinInt + 1}
	spots := append(badSpots(), impl.Spot{}, impl.Spot{X: 83, Y: 16}, impl.Spot{X: impl.MaxX, Y: impl.MaxY})
	lists := slices.Concat(chartPick(), badForms(), [][]impl.Spot{sameSpots(impl.Spot{X: 1, Y: 1}, 100000), spotRow(impl.Spot{}, 100000, 1, 1)})
	for _, l := range lists {
		callChartFunctions(l, spotRow(impl.Spot{X: 900, Y: 100}, 5, 1, 1), numbers, spots)
		callChartFunctions(l, nil, nil, nil)
		for _, other := range lists {
			impl.ChangedSpots(l, other)
			impl.SameForm(l, other)
		}
	}
	for b := range 256 {
		s := string([]byte{byte(b)})
		for _, text := range []string{s, s + "\n", s + "0,0\n", "0,0" + s, "0" + s + "0\n", "0,0\n" + s, "0,0\n" + s + "3,4\n", "0,0" + s + "3,4\n", strings.Repeat(s, 4000), strings.Repeat("0,0"+s, 4000)} {
			impl.ParseChart(text)
		}
	}
}

// TestChartsStayAsTheyAre calls with lists that have room behind their ends.
func TestChartsStayAsTheyAre(t *testing.T) {
	behind := []impl.Spot{{X: 1000, Y: 600}, {X: 1, Y: 670}}
	for _, l := range append(chartPick(), badForms()...) {
		whole := slices.Concat(l, behind)
		other := slices.Concat(l, behind)
		slices.Reverse(other[:len(l)])
		before, otherBefore := slices.Clone(whole), slices.Clone(other)
		callChartFunctions(whole[:len(l)], other[:len(l)], []int{0, 1, 2, 11, 12}, []impl.Spot{{X: 77, Y: 78}, {X: -1}})
		if !slices.Equal(whole, before) || !slices.Equal(other, otherBefore) {
			t.Error("changed", before, whole, otherBefore, other)
		}
	}
}

// TestChartsEndWithTheirList puts spots behind the end of a list that would change the results if they were read.
func TestChartsEndWithTheirList(t *testing.T) {
	whole := []impl.Spot{{X: 100, Y: 100}, {X: 140, Y: 100}, {X: 100, Y: 101}, {X: 100, Y: 100}, {X: -1, Y: 2000}}
	l := whole[:2]
	wantClosestPair(t, l, 0, 1, 1600)
	i, k, ok := impl.ClosestPair(whole[:1])
	wantZero(t, "ClosestPair", [2]int{i, k}, ok)
	x, ok := impl.MoveChart(l, 1, 2)
	wantForm(t, "MoveChart", x, ok, []impl.Spot{{X: 101, Y: 102}, {X: 141, Y: 102}})
	x, ok = impl.MirrorChart(l)
	wantForm(t, "MirrorChart", x, ok, []impl.Spot{{X: 1180, Y: 100}, {X: 1140, Y: 100}})
	x, ok = impl.SwapPerformers(l, 0, 2)
	wantNone(t, "SwapPerformers", x, ok)
	x, ok = impl.PlacePerformer(l, 2, impl.Spot{X: 7, Y: 7})
	wantNone(t, "PlacePerformer", x, ok)
	x, ok = impl.PlacePerformer(l, 1, whole[2])
	wantForm(t, "PlacePerformer", x, ok, []impl.Spot{{X: 100, Y: 100}, {X: 100, Y: 101}})
	other := []impl.Spot{{X: 140, Y: 100}, {X: 100, Y: 100}, {X: 3, Y: 3}}
	if same, ok := impl.SameForm(l, other[:2]); !ok || !same {
		t.Error("same", same, ok)
	}
	if changed, ok := impl.ChangedSpots(whole[:3], []impl.Spot{whole[0], whole[1], whole[2]}); !ok || len(changed) != 0 {
		t.Error("changed", changed, ok)
	}
	if order, ok := impl.OrderAlong(whole[1:3]); !ok || !slices.Equal(order, []int{1, 0}) {
		t.Error("order", order, ok)
	}
	if s, ok := impl.ChartText(l); !ok || s != "12+4,12+4\n17+4,12+4\n" {
		t.Error("text", s, ok)
	}
}

func TestChartResultsAreNew(t *testing.T) {
	l := []impl.Spot{{X: 100, Y: 100}, {X: 640, Y: 100}, {X: 140, Y: 130}}
	middle := []impl.Spot{{X: 640, Y: 3}, {X: 640, Y: 4}}
	// Many of the calls leave the chart as it is, so that a shared list would do for them.
	for name, call := range map[string]func() ([]impl.Spot, bool){
		"not moved":           func() ([]impl.Spot, bool) { return impl.MoveChart(l, 0, 0) },
		"moved":               func() ([]impl.Spot, bool) { return impl.MoveChart(l, 8, -9) },
		"mirrored":            func() ([]impl.Spot, bool) { return impl.MirrorChart(l) },
		"swapped with itself": func() ([]impl.Spot, bool) { return impl.SwapPerformers(l, 1, 1) },
		"swapped":             func() ([]impl.Spot, bool) { return impl.SwapPerformers(l, 2, 0) },
		"placed where it is":  func() ([]impl.Spot, bool) { return impl.PlacePerformer(l, 1, l[1]) },
		"placed":              func() ([]impl.Spot, bool) { return impl.PlacePerformer(l, 1, impl.Spot{X: 7, Y: 7}) },
		"read":                func() ([]impl.Spot, bool) { return impl.ParseChart("0,0\n3,4\n3,5\n") },
	} {
		wantNew(t, name, l, impl.Spot{X: 9, Y: 9}, call)
	}
	wantNew(t, "mirrored in the middle", middle, impl.Spot{X: 9, Y: 9}, func() ([]impl.Spot, bool) { return impl.MirrorChart(middle) })
	for name, call := range map[string]func() ([]int, bool){
		"not changed": func() ([]int, bool) { return impl.ChangedSpots(l, l) },
		"changed":     func() ([]int, bool) { return impl.ChangedSpots(l, []impl.Spot{l[1], l[0], l[2]}) },
		"order":       func() ([]int, bool) { return impl.OrderAlong(l) },
	} {
		wantNew(t, name, nil, 99, call)
	}
}

// TestChartsHaveNoRoomBehindThem adds a spot to the results: the spots behind the end of the argument stay.
func TestChartsHaveNoRoomBehindThem(t *testing.T) {
	whole := spotRow(impl.Spot{X: 300, Y: 300}, 5, 8, 0)
	before := slices.Clone(whole)
	l := whole[:3]
	for name, call := range map[string]func() ([]impl.Spot, bool){
		"moved":    func() ([]impl.Spot, bool) { return impl.MoveChart(l, 0, 0) },
		"mirrored": func() ([]impl.Spot, bool) { return impl.MirrorChart(l) },
		"swapped":  func() ([]impl.Spot, bool) { return impl.SwapPerformers(l, 1, 1) },
		"placed":   func() ([]impl.Spot, bool) { return impl.PlacePerformer(l, 1, l[1]) },
	} {
		got, ok := call()
		got = append(got, impl.Spot{X: 9, Y: 9})
		if !ok || len(got) != 4 || !slices.Equal(whole, before) {
			t.Error(name, ok, got, whole)
		}
	}
}
