package impl

import (
	"strconv"
	"strings"
)

const MaxX = 1280
const MaxY = 672

const (
	eighthsOfStep = 8
	maxSpotList   = 40
	maxShift      = 2000
	maxSquare     = 3000000
)

type Spot struct {
	X int
	Y int
}

// IsSpot reports whether a spot is valid.
func IsSpot(a Spot) bool {
	return inRange(a.X, 0, MaxX) && inRange(a.Y, 0, MaxY)
}

// SquareOf returns the square of two spots.
func SquareOf(a Spot, b Spot) (int, bool) {
	if !IsSpot(a) || !IsSpot(b) {
		return 0, false
	}
	return squareBetween(a, b), true
}

// MoveSpot returns the spot with x added to X and y added to Y, each in -2000..2000. It fails if this is no spot.
func MoveSpot(a Spot, x int, y int) (Spot, bool) {
	if !IsSpot(a) || !inRange(x, -maxShift, maxShift) || !inRange(y, -maxShift, maxShift) {
		return Spot{}, false
	}
	return spotOf(Spot{X: a.X + x, Y: a.Y + y})
}

// MirrorSpot returns the spot on the other side of the line in the middle of the field: with MaxX minus X instead of X.
func MirrorSpot(a Spot) (Spot, bool) {
	if !IsSpot(a) {
		return Spot{}, false
	}
	return Spot{X: MaxX - a.X, Y: a.Y}, true
}

// MiddleOf returns the spot in the middle of two ones, each number rounded down to eighths.
func MiddleOf(a Spot, b Spot) (Spot, bool) {
	if !IsSpot(a) || !IsSpot(b) {
		return Spot{}, false
	}
	return Spot{X: (a.X + b.X) / 2, Y: (a.Y + b.Y) / 2}, true
}

// NearestStep returns the spot at whole steps that is nearest, halves up, in X and in Y.
func NearestStep(a Spot) (Spot, bool) {
	if !IsSpot(a) {
		return Spot{}, false
	}
	// MaxX and MaxY are whole steps themselves, so rounding up never leaves the field.
	return Spot{X: wholeStep(a.X), Y: wholeStep(a.Y)}, true
}

// NearestOf returns the index of the spot of a list with the least square, the first one of several. It fails for an empty list.
func NearestOf(a Spot, l []Spot) (int, bool) {
	if !IsSpot(a) || !areSpots(l) || len(l) == 0 {
		return 0, false
	}
	nearer := func(i int, k int) bool {
		return squareBetween(a, l[i]) < squareBetween(a, l[k])
	}
	best := 0
	for i := range l {
		if nearer(i, best) {
			best = i
		}
	}
	return best, true
}

// SpotsWithin returns the indices of the spots of a list whose square with a is at most some number in 0..3000000, strictly increasing.
func SpotsWithin(a Spot, l []Spot, square int) ([]int, bool) {
	if !IsSpot(a) || !areSpots(l) || !inRange(square, 0, maxSquare) {
		return nil, false
	}
	within := func(b Spot) bool {
		return squareBetween(a, b) <= square
	}
	var found []int
	for i, b := range l {
		if within(b) {
			found = append(found, i)
		}
	}
	return found, true
}

// BetweenSpots reports whether the spot c lies on the straight line from a to b, its ends included.
func BetweenSpots(a Spot, b Spot, c Spot) (bool, bool) {
	if !IsSpot(a) || !IsSpot(b) || !IsSpot(c) {
		return false, false
	}
	// A cross product of 0 puts c on the endless line, the ranges put it between its ends;
	// for a equal to b the ranges alone leave just this one spot.
	aligned := (b.X-a.X)*(c.Y-a.Y) == (b.Y-a.Y)*(c.X-a.X)
	inX := inRange(c.X, min(a.X, b.X), max(a.X, b.X))
	inY := inRange(c.Y, min(a.Y, b.Y), max(a.Y, b.Y))
	return aligned && inX && inY, true
}

// SpotText returns X and Y, joined by ,, each as its whole steps and, if there is a rest, a + and the eighths of it, in decimal.
func SpotText(a Spot) (string, bool) {
	if !IsSpot(a) {
		return "", false
	}
	return stepsText(a.X) + "," + stepsText(a.Y), true
}

// ParseSpot returns the spot with a SpotText. It fails if there is none.
func ParseSpot(s string) (Spot, bool) {
	left, right, joined := strings.Cut(s, ",")
	if !joined {
		return Spot{}, false
	}
	x, okX := parseSteps(left)
	y, okY := parseSteps(right)
	if !okX || !okY {
		return Spot{}, false
	}
	return spotOf(Spot{X: x, Y: y})
}

func inRange(n int, least int, most int) bool {
	return least <= n && n <= most
}

// areSpots reports whether a list is one that the functions of chapter 1 take.
func areSpots(l []Spot) bool {
	if len(l) > maxSpotList {
		return false
	}
	for _, a := range l {
		if !IsSpot(a) {
			return false
		}
	}
	return true
}

// spotOf passes on a place if it is a spot.
func spotOf(a Spot) (Spot, bool) {
	if !IsSpot(a) {
		return Spot{}, false
	}
	return a, true
}

// spotsOf passes on new places if all of them are spots.
func spotsOf(l []Spot) ([]Spot, bool) {
	if !areSpots(l) {
		return nil, false
	}
	return l, true
}

// squareBetween expects valid spots, as other ones could overflow.
func squareBetween(a Spot, b Spot) int {
	x, y := a.X-b.X, a.Y-b.Y
	return x*x + y*y
}

func wholeStep(eighths int) int {
	return (eighths + eighthsOfStep/2) / eighthsOfStep * eighthsOfStep
}

func stepsText(eighths int) string {
	steps, rest := eighths/eighthsOfStep, eighths%eighthsOfStep
	if rest == 0 {
		return strconv.Itoa(steps)
	}
	return strconv.Itoa(steps) + "+" + strconv.Itoa(rest)
}

// parseSteps takes the texts of stepsText alone: a rest of 0, or one of a whole step, is never written.
func parseSteps(s string) (int, bool) {
	before, behind, broken := strings.Cut(s, "+")
	steps, ok := parseNumber(before, MaxX/eighthsOfStep)
	if !ok || !broken {
		return steps * eighthsOfStep, ok
	}
	rest, ok := parseNumber(behind, eighthsOfStep-1)
	if !ok || rest == 0 {
		return 0, false
	}
	return steps*eighthsOfStep + rest, true
}

// parseNumber takes decimal digits without leading zeros, for numbers up to most.
func parseNumber(s string, most int) (int, bool) {
	if s == "" || len(s) > 1 && s[0] == '0' {
		return 0, false
	}
	n := 0
	for _, r := range s {
		if r < '0' || r > '9' {
			return 0, false
		}
		n = n*10 + int(r-'0')
		// Leaving at once keeps long texts from wrapping around to small numbers.
		if n > most {
			return 0, false
		}
	}
	return n, true
}
