package tests

import (
	"math"
	"slices"
	"strings"
	"testing"

	"loop.example/g00939/impl"
)

// spotLists holds lists of all kinds: none, short, as long as can be, too long, and with spots off the field.
func spotLists() [][]impl.Spot {
	a := impl.Spot{X: 83, Y: 16}
	return [][]impl.Spot{
		nil, {}, {a}, badSpots(), spotPick(), sameSpots(a, 40), sameSpots(a, 41), sameSpots(a, 100000),
		append(sameSpots(a, 39), impl.Spot{X: math.MinInt, Y: math.MaxInt}),
	}
}

func TestSpotFunctionsTakeAllArguments(t *testing.T) {
	numbers := []int{0, 1, -1, 8, 1280, 2000, -2000, 2001, -2001, 3000000, 3000001, math.MaxInt32, math.MinInt32, math.MaxInt, math.MinInt}
	spots := append(badSpots(), impl.Spot{}, impl.Spot{X: 83, Y: 16}, impl.Spot{X: impl.MaxX, Y: impl.MaxY})
	for _, a := range spots {
		impl.IsSpot(a)
		impl.MirrorSpot(a)
		impl.NearestStep(a)
		impl.SpotText(a)
		for _, b := range spots {
			impl.SquareOf(a, b)
			impl.MiddleOf(a, b)
			for _, c := range spots {
				impl.BetweenSpots(a, b, c)
			}
		}
		for _, x := range numbers {
			for _, y := range numbers {
				impl.MoveSpot(a, x, y)
			}
		}
		for _, l := range spotLists() {
			impl.NearestOf(a, l)
			for _, n := range numbers {
				impl.SpotsWithin(a, l, n)
			}
		}
	}
	for b := range 256 {
		s := string([]byte{byte(b)})
		for _, text := range []string{s, s + ",0", "0," + s, "0" + s + "0", "0+" + s + ",0", strings.Repeat(s, 4000)} {
			impl.ParseSpot(text)
		}
	}
}

func TestSpotListsStayAsTheyAre(t *testing.T) {
	a := impl.Spot{X: 100, Y: 100}
	for _, l := range spotLists() {
		// The spot behind the list's end would be the nearest one if it were read.
		whole := append(slices.Clone(l), a, a)
		before := slices.Clone(whole)
		short := whole[:len(l)]
		impl.NearestOf(a, short)
		impl.SpotsWithin(a, short, 3000000)
		if !slices.Equal(whole, before) {
			t.Error("changed", before, whole)
		}
	}
	whole := []impl.Spot{{X: 9, Y: 9}, {X: 20, Y: 20}, a, {X: -1, Y: -1}}
	if n, ok := impl.NearestOf(a, whole[:2]); !ok || n != 1 {
		t.Error("nearest", n, ok)
	}
	if got, ok := impl.SpotsWithin(a, whole[:2], 3000000); !ok || !slices.Equal(got, []int{0, 1}) {
		t.Error("within", got, ok)
	}
}

func TestSpotResultsAreNew(t *testing.T) {
	a := impl.Spot{X: 100, Y: 100}
	l := sameSpots(a, 3)
	first, _ := impl.SpotsWithin(a, l, 0)
	second, _ := impl.SpotsWithin(a, l, 0)
	for i := range first {
		first[i] = 7
	}
	if third, ok := impl.SpotsWithin(a, l, 0); !ok || !slices.Equal(second, []int{0, 1, 2}) || !slices.Equal(third, []int{0, 1, 2}) {
		t.Error("shared", second, third, ok)
	}
}
