package tests

import (
	"math"
	"slices"
	"testing"

	"loop.example/g00939/impl"
)

func TestArcFunctionsTakeAllArguments(t *testing.T) {
	numbers := []int{0, 1, -1, 2, 40, 41, 50, -50, 1400, -1400, 1401, 10000000, 10000001, 1 << 32, math.MaxInt32, math.MinInt32, math.MaxInt, math.MinInt, math.MinInt + 1}
	spots := append(badSpots(), impl.Spot{}, impl.Spot{X: 83, Y: 16}, impl.Spot{X: 640, Y: 336}, impl.Spot{X: impl.MaxX, Y: impl.MaxY})
	for _, n := range numbers {
		impl.RootOf(n)
		for _, x := range numbers {
			impl.ChordOf(n, x)
		}
	}
	for _, a := range spots {
		for _, b := range spots {
			impl.RadiusOf(a, b)
			impl.QuarterTurn(a, b)
			for _, c := range spots {
				impl.MiddleOfCircle(a, b, c)
			}
			for _, radius := range numbers {
				for _, slack := range numbers {
					impl.NearArc(a, radius, b, slack)
				}
			}
		}
		for _, radius := range numbers {
			impl.CircleSpots(a, radius)
			for _, x := range numbers {
				impl.OnArc(a, radius, x)
			}
		}
	}
	for _, l := range spotLists() {
		impl.LeastGap(l)
	}
}

func TestArcSpotsTakeAllArguments(t *testing.T) {
	numbers := []int{0, 1, -1, 2, 40, 41, 50, 1400, -1400, 1401, math.MaxInt, math.MinInt}
	for _, a := range []impl.Spot{{}, {X: 640, Y: 336}, {X: math.MaxInt, Y: math.MinInt}, {X: impl.MaxX, Y: impl.MaxY}} {
		for _, radius := range numbers {
			for _, from := range numbers {
				for _, to := range numbers {
					for _, n := range numbers {
						impl.ArcSpots(a, radius, from, to, n)
					}
				}
			}
		}
	}
}

func TestGapListsStayAsTheyAre(t *testing.T) {
	behind := []impl.Spot{{X: 83, Y: 16}, {X: -1, Y: 2000}}
	for _, l := range append(spotLists(), spotRow(impl.Spot{}, 40, 32, 17)) {
		whole := slices.Concat(l, behind)
		before := slices.Clone(whole)
		impl.LeastGap(whole[:len(l)])
		if !slices.Equal(whole, before) {
			t.Error("changed", before, whole)
		}
	}
	// The spots behind the list's end would change the results if they were read.
	whole := []impl.Spot{{X: 0, Y: 0}, {X: 100, Y: 0}, {X: 101, Y: 0}, {X: -1, Y: 0}}
	if n, ok := impl.LeastGap(whole[:2]); !ok || n != 10000 {
		t.Error("gap", n, ok)
	}
	n, ok := impl.LeastGap(whole[:1])
	wantZero(t, "LeastGap", n, ok)
}

func TestArcResultsAreNew(t *testing.T) {
	m := impl.Spot{X: 640, Y: 336}
	for name, call := range map[string]func() ([]impl.Spot, bool){
		"arc":          func() ([]impl.Spot, bool) { return impl.ArcSpots(m, 50, -50, 50, 7) },
		"one place":    func() ([]impl.Spot, bool) { return impl.ArcSpots(m, 50, 3, 3, 2) },
		"circle":       func() ([]impl.Spot, bool) { return impl.CircleSpots(m, 50) },
		"small circle": func() ([]impl.Spot, bool) { return impl.CircleSpots(m, 1) },
	} {
		wantNew(t, name, nil, impl.Spot{X: 9, Y: 9}, call)
	}
}
