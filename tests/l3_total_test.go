package tests

import (
	"math"
	"slices"
	"testing"

	"loop.example/g00939/impl"
)

// everyForm holds good and bad forms, lists of corners and a long list.
func everyForm() [][]impl.Spot {
	return slices.Concat(formPick(), badForms(), cornerPick(), [][]impl.Spot{sameSpots(impl.Spot{X: 1, Y: 1}, 100000)})
}

// callFormFunctions calls all functions of chapter 3 that take lists, and those of charts that it needs.
func callFormFunctions(l []impl.Spot, other []impl.Spot, numbers []int) {
	impl.IsChart(l)
	impl.LeastSquare(l)
	impl.JoinForms(l, other)
	impl.JoinForms(other, l)
	impl.MiddleSpot(l)
	impl.BoundsOf(l)
	impl.InnerRoom(l)
	for _, n := range numbers {
		impl.PolyLine(l, n)
		impl.SpreadForm(l, n)
		impl.TurnForm(l, n)
	}
}

func TestFormFunctionsTakeAllArguments(t *testing.T) {
	numbers := []int{0, 1, -1, 2, 3, 4, 5, 12, 13, 100, 400, 401, 1 << 32, math.MaxInt, math.MinInt, math.MinInt + 1}
	for _, l := range everyForm() {
		callFormFunctions(l, l, numbers)
		callFormFunctions(l, spotRow(impl.Spot{X: 900, Y: 100}, 5, 1, 1), numbers)
	}
	spots := append(badSpots(), impl.Spot{}, impl.Spot{X: 83, Y: 16}, impl.Spot{X: impl.MaxX, Y: impl.MaxY})
	for _, a := range spots {
		for _, n := range numbers {
			for _, b := range spots {
				impl.LineOf(a, b, n)
			}
			for _, x := range numbers {
				for _, y := range numbers {
					impl.WedgeOf(a, n, x, y)
					impl.BlockOf(a, 1, n, x, y)
					impl.BlockOf(a, n, 1, x, y)
					impl.BlockOf(a, n, n, x, y)
				}
			}
		}
	}
}

func TestFormsStayAsTheyAre(t *testing.T) {
	behind := []impl.Spot{{X: 1000, Y: 600}, {X: 1, Y: 670}}
	for _, l := range everyForm() {
		whole := slices.Concat(l, behind)
		other := slices.Concat(l, behind)
		before := slices.Clone(whole)
		callFormFunctions(whole[:len(l)], other[:len(l)], []int{0, 1, 2, 3, 12, 100, 400})
		callFormFunctions(whole[:len(l)], []impl.Spot{{X: 901, Y: 77}}, []int{1})
		if !slices.Equal(whole, before) || !slices.Equal(other, before) {
			t.Error("changed", before, whole, other)
		}
	}
}

// TestFormsEndWithTheirList puts spots behind the end of a list that would change the results if they were read.
func TestFormsEndWithTheirList(t *testing.T) {
	whole := []impl.Spot{{X: 100, Y: 100}, {X: 140, Y: 100}, {X: 100, Y: 101}, {X: 100, Y: 100}, {X: -1, Y: 2000}}
	l := whole[:2]
	if !impl.IsChart(l) {
		t.Error("chart")
	}
	if a, ok := impl.MiddleSpot(l); !ok || a != (impl.Spot{X: 120, Y: 100}) {
		t.Error("middle", a, ok)
	}
	if a, b, ok := impl.BoundsOf(l); !ok || a != whole[0] || b != whole[1] {
		t.Error("bounds", a, b, ok)
	}
	if n, ok := impl.InnerRoom(l); !ok || n != 1600 {
		t.Error("room", n, ok)
	}
	if n, ok := impl.InnerRoom(whole[:1]); !ok || n != 0 {
		t.Error("room of one", n, ok)
	}
	x, ok := impl.PolyLine(l, 2)
	wantForm(t, "PolyLine", x, ok, []impl.Spot{{X: 100, Y: 100}, {X: 140, Y: 100}})
	x, ok = impl.JoinForms(l[:1], l[1:])
	wantForm(t, "JoinForms", x, ok, []impl.Spot{{X: 100, Y: 100}, {X: 140, Y: 100}})
}

func TestFormResultsAreNew(t *testing.T) {
	l := []impl.Spot{{X: 100, Y: 100}, {X: 140, Y: 100}, {X: 140, Y: 130}}
	one := l[:1:1]
	// Some of the calls leave the form as it is, so that a shared list would do for them.
	for name, call := range map[string]func() ([]impl.Spot, bool){
		"same size":  func() ([]impl.Spot, bool) { return impl.SpreadForm(l, 100) },
		"not turned": func() ([]impl.Spot, bool) { return impl.TurnForm(l, 0) },
		"corners":    func() ([]impl.Spot, bool) { return impl.PolyLine(l, 3) },
		"first one":  func() ([]impl.Spot, bool) { return impl.PolyLine(l, 1) },
		"spread":     func() ([]impl.Spot, bool) { return impl.SpreadForm(l, 200) },
		"turned":     func() ([]impl.Spot, bool) { return impl.TurnForm(l, 1) },
		"joined":     func() ([]impl.Spot, bool) { return impl.JoinForms(one, l[1:]) },
		"line":       func() ([]impl.Spot, bool) { return impl.LineOf(l[0], l[1], 4) },
		"block":      func() ([]impl.Spot, bool) { return impl.BlockOf(l[0], 2, 3, 4, 5) },
		"wedge":      func() ([]impl.Spot, bool) { return impl.WedgeOf(l[0], 4, 4, 5) },
	} {
		wantNew(t, name, l, impl.Spot{X: 9, Y: 9}, call)
	}
	// Nor does the joined form have the room behind the first one.
	whole := slices.Concat(l, []impl.Spot{{X: 7, Y: 7}})
	joined, ok := impl.JoinForms(whole[:3], []impl.Spot{{X: 500, Y: 500}})
	if !ok || len(joined) != 4 || whole[3] != (impl.Spot{X: 7, Y: 7}) {
		t.Error("room", whole, joined, ok)
	}
}
