package tests

import (
	"math"
	"slices"
	"testing"

	"loop.example/g00939/impl"
)

// maxNearX and maxNearY bound the window of middles that middlesNear looks at, counted from its corner of the field.
const (
	maxNearX = 200
	maxNearY = 200
)

// radiusPick holds the least and the greatest radius, those that just fit on the field and some between.
func radiusPick() []int {
	return []int{1, 2, 3, 5, 25, 49, 50, 51, 325, 335, 336, 337, 639, 640, 641, 671, 672, 673, 1279, 1280, 1281, 1399, 1400}
}

func badRadii() []int {
	return []int{0, -1, 1401, -50, -1400, 1402, 2800, 1 << 32, math.MinInt32, math.MaxInt, math.MinInt, math.MinInt + 1}
}

// arcMiddles holds corners and edges of the field, and spots around which whole circles fit.
func arcMiddles() []impl.Spot {
	return []impl.Spot{
		{X: 0, Y: 0}, {X: impl.MaxX, Y: 0}, {X: 0, Y: impl.MaxY}, {X: impl.MaxX, Y: impl.MaxY},
		{X: 640, Y: 336}, {X: 639, Y: 335}, {X: 500, Y: 300}, {X: 50, Y: 622}, {X: 1230, Y: 50}, {X: 640, Y: 0}, {X: 336, Y: 336},
	}
}

func onField(a impl.Spot) bool {
	return a.X >= 0 && a.X <= 1280 && a.Y >= 0 && a.Y <= 672
}

// isRoot reports whether r is the root of n.
func isRoot(r int, n int) bool {
	return r >= 0 && r*r <= n && n < (r+1)*(r+1)
}

// rootByBits finds a root bit by bit, without floats.
func rootByBits(n int) int {
	r := 0
	for bit := 1 << 20; bit > 0; bit /= 2 {
		if (r+bit)*(r+bit) <= n {
			r += bit
		}
	}
	return r
}

// flooredTo returns the greatest integer that is at most n divided by a divisor greater than 0.
func flooredTo(n int, divisor int) int {
	floor := roundedTo(n, divisor)
	if floor*divisor > n {
		floor--
	}
	return floor
}

// squareFrom returns the square of two spots.
func squareFrom(a impl.Spot, b impl.Spot) int {
	return (a.X-b.X)*(a.X-b.X) + (a.Y-b.Y)*(a.Y-b.Y)
}

// arcPlace returns the place of an arc for x in -radius..radius, on the field or off it.
func arcPlace(middle impl.Spot, radius int, x int) impl.Spot {
	return impl.Spot{X: middle.X + x, Y: middle.Y + rootByBits(radius*radius-x*x)}
}

// wantSpot fails the test unless a call has returned a spot, or has failed if this is off the field.
func wantSpot(t *testing.T, call string, got impl.Spot, ok bool, want impl.Spot) {
	t.Helper()
	if !onField(want) {
		wantZero(t, call, got, ok)
	} else if !ok || got != want {
		t.Errorf("%s = %v, %v, want %v", call, got, ok, want)
	}
}

// wantSpots does so for a list, which fails if one of its spots is off the field.
func wantSpots(t *testing.T, call string, got []impl.Spot, ok bool, want []impl.Spot) {
	t.Helper()
	off := func(a impl.Spot) bool { return !onField(a) }
	if slices.ContainsFunc(want, off) {
		wantNone(t, call, got, ok)
	} else if !ok || !slices.Equal(got, want) {
		t.Errorf("%s = %v, %v, want %v", call, got, ok, want)
	}
}

func TestFlooredTo(t *testing.T) {
	for _, c := range [][3]int{{0, 3, 0}, {1, 3, 0}, {2, 3, 0}, {3, 3, 1}, {-1, 3, -1}, {-2, 3, -1}, {-3, 3, -1}, {-4, 3, -2}, {-5, 10, -1}, {7, 1, 7}, {-7, 1, -7}} {
		if n := flooredTo(c[0], c[1]); n != c[2] {
			t.Error(c, n)
		}
	}
}

// TestRootsAreTheGreatest checks the first half of guarantee 4 for all numbers.
func TestRootsAreTheGreatest(t *testing.T) {
	for _, c := range [][2]int{{0, 0}, {1, 1}, {2, 1}, {3, 1}, {4, 2}, {8, 2}, {9, 3}, {10, 3}, {2500, 50}, {9998243, 3161}, {9998244, 3162}, {9999999, 3162}, {10000000, 3162}} {
		if r, ok := impl.RootOf(c[0]); !ok || r != c[1] {
			t.Error(c, r, ok)
		}
	}
	for n := range 10000001 {
		r, ok := impl.RootOf(n)
		if !ok || !isRoot(r, n) {
			t.Fatal(n, r, ok)
		}
	}
	for _, n := range append(outside(10000000), 10004569, 1<<53, 1<<62) {
		r, ok := impl.RootOf(n)
		wantZero(t, "RootOf", r, ok)
	}
}

func TestOnArc(t *testing.T) {
	m := impl.Spot{X: 500, Y: 300}
	for _, c := range []struct {
		radius, x int
		want      impl.Spot
	}{
		{50, 30, impl.Spot{X: 530, Y: 340}},
		{50, -30, impl.Spot{X: 470, Y: 340}},
		{50, 0, impl.Spot{X: 500, Y: 350}},
		{50, 50, impl.Spot{X: 550, Y: 300}},
		{50, -50, impl.Spot{X: 450, Y: 300}},
		// The root of 99, just below the square 100.
		{50, 49, impl.Spot{X: 549, Y: 309}},
		{1, 1, impl.Spot{X: 501, Y: 300}},
		{1, 0, impl.Spot{X: 500, Y: 301}},
		{1, -1, impl.Spot{X: 499, Y: 300}},
		{372, 0, impl.Spot{X: 500, Y: 672}},
	} {
		a, ok := impl.OnArc(m, c.radius, c.x)
		wantSpot(t, "OnArc", a, ok, c.want)
	}
	for _, middle := range arcMiddles() {
		for _, radius := range radiusPick() {
			for x := -radius; x <= radius; x++ {
				a, ok := impl.OnArc(middle, radius, x)
				wantSpot(t, "OnArc", a, ok, arcPlace(middle, radius, x))
				if ok && !isRoot(a.Y-middle.Y, radius*radius-x*x) {
					t.Fatal(middle, radius, x, a)
				}
			}
			for _, x := range outside(radius) {
				if x < -radius || x > radius {
					a, ok := impl.OnArc(middle, radius, x)
					wantZero(t, "OnArc", a, ok)
				}
			}
			a, ok := impl.OnArc(middle, radius, -radius-1)
			wantZero(t, "OnArc", a, ok)
		}
	}
}

// TestArcsAtTheEdge meets the edges of the field exactly, and leaves it by one.
func TestArcsAtTheEdge(t *testing.T) {
	for _, c := range []struct {
		middle impl.Spot
		x      int
		ok     bool
	}{
		{impl.Spot{X: 50, Y: 300}, -50, true}, {impl.Spot{X: 49, Y: 300}, -50, false}, {impl.Spot{X: 49, Y: 300}, -49, true},
		{impl.Spot{X: 1230, Y: 300}, 50, true}, {impl.Spot{X: 1231, Y: 300}, 50, false}, {impl.Spot{X: 1231, Y: 300}, 49, true},
		{impl.Spot{X: 500, Y: 622}, 0, true}, {impl.Spot{X: 500, Y: 623}, 0, false}, {impl.Spot{X: 500, Y: 632}, 30, true}, {impl.Spot{X: 500, Y: 633}, 30, false},
		{impl.Spot{X: 500, Y: 672}, 50, true}, {impl.Spot{X: 500, Y: 672}, -50, true}, {impl.Spot{X: 500, Y: 672}, 49, false},
	} {
		a, ok := impl.OnArc(c.middle, 50, c.x)
		if ok != c.ok {
			t.Error(c, a, ok)
		}
		if !c.ok {
			wantZero(t, "OnArc", a, ok)
		}
		l, ok := impl.ArcSpots(c.middle, 50, c.x, c.x, 2)
		if ok != c.ok {
			t.Error(c, l, ok)
		}
		if !c.ok {
			wantNone(t, "ArcSpots", l, ok)
		}
	}
	// The greatest radius has places on the field, though neither its top nor its ends.
	a, ok := impl.OnArc(impl.Spot{}, 1400, 1280)
	wantSpot(t, "OnArc", a, ok, impl.Spot{X: 1280, Y: 567})
	a, ok = impl.OnArc(impl.Spot{X: impl.MaxX, Y: 0}, 1400, -1280)
	wantSpot(t, "OnArc", a, ok, impl.Spot{X: 0, Y: 567})
	a, ok = impl.OnArc(impl.Spot{}, 1401, 1280)
	wantZero(t, "OnArc", a, ok)
}

// placesAlong returns the places for n numbers x, each rounded down.
func placesAlong(middle impl.Spot, radius int, from int, to int, n int) []impl.Spot {
	var l []impl.Spot
	for k := range n {
		l = append(l, arcPlace(middle, radius, from+flooredTo(k*(to-from), n-1)))
	}
	return l
}

func TestArcSpots(t *testing.T) {
	m := impl.Spot{X: 500, Y: 300}
	for _, c := range []struct {
		from, to int
		want     []impl.Spot
	}{
		{-50, 50, []impl.Spot{{X: 450, Y: 300}, {X: 500, Y: 350}, {X: 550, Y: 300}}},
		{50, -50, []impl.Spot{{X: 550, Y: 300}, {X: 500, Y: 350}, {X: 450, Y: 300}}},
		{30, 40, []impl.Spot{{X: 530, Y: 340}, {X: 540, Y: 330}}},
		// Of 0, 3 1/3, 6 2/3 and 10.
		{0, 10, []impl.Spot{{X: 500, Y: 350}, {X: 503, Y: 349}, {X: 506, Y: 349}, {X: 510, Y: 348}}},
		// Of 10, 6 2/3, 3 1/3 and 0: the fractions -3 1/3 and -6 2/3 are rounded down to -4 and -7.
		{10, 0, []impl.Spot{{X: 510, Y: 348}, {X: 506, Y: 349}, {X: 503, Y: 349}, {X: 500, Y: 350}}},
		// Halves and other fractions less than 0 go down too.
		{0, -1, []impl.Spot{{X: 500, Y: 350}, {X: 499, Y: 349}, {X: 499, Y: 349}}},
		{0, 1, []impl.Spot{{X: 500, Y: 350}, {X: 500, Y: 350}, {X: 501, Y: 349}}},
		{-1, 0, []impl.Spot{{X: 499, Y: 349}, {X: 499, Y: 349}, {X: 500, Y: 350}}},
		{-30, -30, []impl.Spot{{X: 470, Y: 340}, {X: 470, Y: 340}, {X: 470, Y: 340}}},
	} {
		l, ok := impl.ArcSpots(m, 50, c.from, c.to, len(c.want))
		wantSpots(t, "ArcSpots", l, ok, c.want)
	}
	for _, middle := range arcMiddles() {
		for _, radius := range radiusPick() {
			half := radius / 2
			for _, ends := range [][2]int{{-radius, radius}, {radius, -radius}, {0, radius}, {0, -radius}, {radius, radius}, {half, -half}, {-half, half + 1}, {1, -1}, {0, 0}} {
				for _, n := range []int{2, 3, 4, 7, 12, 13, 39, 40} {
					if max(ends[0], ends[1]) > radius {
						continue
					}
					l, ok := impl.ArcSpots(middle, radius, ends[0], ends[1], n)
					wantSpots(t, "ArcSpots", l, ok, placesAlong(middle, radius, ends[0], ends[1], n))
				}
			}
		}
	}
}

func TestArcsLeaveTheField(t *testing.T) {
	// Both ends are on the field, and the places between them are not.
	middle := impl.Spot{X: 500, Y: 630}
	l, ok := impl.ArcSpots(middle, 50, -50, 50, 2)
	wantSpots(t, "ArcSpots", l, ok, []impl.Spot{{X: 450, Y: 630}, {X: 550, Y: 630}})
	l, ok = impl.ArcSpots(middle, 50, -50, 50, 3)
	wantNone(t, "ArcSpots", l, ok)
	// Just one of the ends is off the field.
	for _, ends := range [][2]int{{0, 50}, {50, 0}} {
		l, ok = impl.ArcSpots(impl.Spot{X: 1231, Y: 300}, 50, ends[0], ends[1], 40)
		wantNone(t, "ArcSpots", l, ok)
	}
}

func TestBadArcs(t *testing.T) {
	m := impl.Spot{X: 500, Y: 300}
	for _, n := range []int{0, 1, -1, 41, 42, -2, 1 << 32, math.MaxInt, math.MinInt} {
		l, ok := impl.ArcSpots(m, 50, -50, 50, n)
		wantNone(t, "ArcSpots", l, ok)
	}
	for _, x := range []int{-51, 51, -1400, 1400, 1 << 32, math.MaxInt, math.MinInt, math.MinInt + 1} {
		for _, n := range []int{2, 40} {
			l, ok := impl.ArcSpots(m, 50, x, 0, n)
			wantNone(t, "ArcSpots", l, ok)
			l, ok = impl.ArcSpots(m, 50, 0, x, n)
			wantNone(t, "ArcSpots", l, ok)
			l, ok = impl.ArcSpots(m, 50, x, x, n)
			wantNone(t, "ArcSpots", l, ok)
		}
		a, ok := impl.OnArc(m, 50, x)
		wantZero(t, "OnArc", a, ok)
	}
}

func TestBadRadiiFail(t *testing.T) {
	m := impl.Spot{X: 640, Y: 336}
	for _, radius := range badRadii() {
		for _, x := range []int{0, 1, -1, radius, -radius} {
			a, ok := impl.OnArc(m, radius, x)
			wantZero(t, "OnArc", a, ok)
			l, ok := impl.ArcSpots(m, radius, x, x, 2)
			wantNone(t, "ArcSpots", l, ok)
			is, ok := impl.NearArc(m, radius, m, x)
			wantZero(t, "NearArc", is, ok)
			n, ok := impl.ChordOf(radius, x)
			wantZero(t, "ChordOf", n, ok)
		}
		l, ok := impl.CircleSpots(m, radius)
		wantNone(t, "CircleSpots", l, ok)
	}
}

func TestBadSpotsHaveNoArc(t *testing.T) {
	good := impl.Spot{X: 500, Y: 300}
	for _, bad := range badSpots() {
		a, ok := impl.OnArc(bad, 50, 0)
		wantZero(t, "OnArc", a, ok)
		l, ok := impl.ArcSpots(bad, 50, -50, 50, 3)
		wantNone(t, "ArcSpots", l, ok)
		l, ok = impl.CircleSpots(bad, 50)
		wantNone(t, "CircleSpots", l, ok)
		for _, p := range [][2]impl.Spot{{bad, good}, {good, bad}, {bad, bad}} {
			n, ok := impl.RadiusOf(p[0], p[1])
			wantZero(t, "RadiusOf", n, ok)
			is, ok := impl.NearArc(p[0], 1400, p[1], 1400)
			wantZero(t, "NearArc", is, ok)
			a, ok := impl.QuarterTurn(p[0], p[1])
			wantZero(t, "QuarterTurn", a, ok)
			n, ok = impl.LeastGap(p[:])
			wantZero(t, "LeastGap", n, ok)
		}
		b, c := impl.Spot{X: 600, Y: 300}, impl.Spot{X: 500, Y: 400}
		for _, p := range [][3]impl.Spot{{bad, b, c}, {b, bad, c}, {b, c, bad}, {bad, bad, bad}} {
			a, ok := impl.MiddleOfCircle(p[0], p[1], p[2])
			wantZero(t, "MiddleOfCircle", a, ok)
		}
	}
	// Places on the field do not make a middle off it valid.
	a, ok := impl.OnArc(impl.Spot{X: -1, Y: 0}, 50, 30)
	wantZero(t, "OnArc", a, ok)
	l, ok := impl.ArcSpots(impl.Spot{X: 500, Y: -1}, 50, -30, 30, 2)
	wantNone(t, "ArcSpots", l, ok)
	a, ok = impl.QuarterTurn(impl.Spot{X: 500, Y: -1}, impl.Spot{X: 510, Y: 3})
	wantZero(t, "QuarterTurn", a, ok)
	a, ok = impl.QuarterTurn(impl.Spot{X: 500, Y: 3}, impl.Spot{X: 510, Y: -1})
	wantZero(t, "QuarterTurn", a, ok)
	// Nor does a good middle make up for a bad corner: 0, 5 has one square with all of these.
	a, ok = impl.MiddleOfCircle(impl.Spot{X: 0, Y: 0}, impl.Spot{X: 0, Y: 10}, impl.Spot{X: -3, Y: 9})
	wantZero(t, "MiddleOfCircle", a, ok)
}

func TestRadiusOf(t *testing.T) {
	for _, c := range []struct {
		a, b impl.Spot
		want int
	}{
		{impl.Spot{X: 0, Y: 0}, impl.Spot{X: 30, Y: 40}, 50},
		{impl.Spot{X: 83, Y: 16}, impl.Spot{X: 83, Y: 16}, 0},
		{impl.Spot{X: 83, Y: 16}, impl.Spot{X: 84, Y: 16}, 1},
		{impl.Spot{X: 83, Y: 16}, impl.Spot{X: 84, Y: 17}, 1},
		// The squares 8 and 2501, and 2499 just below that of 50.
		{impl.Spot{X: 100, Y: 100}, impl.Spot{X: 102, Y: 98}, 2},
		{impl.Spot{X: 100, Y: 100}, impl.Spot{X: 150, Y: 101}, 50},
		{impl.Spot{X: 100, Y: 100}, impl.Spot{X: 149, Y: 109}, 49},
		// A root may be greater than all radii.
		{impl.Spot{X: 0, Y: 0}, impl.Spot{X: 1280, Y: 567}, 1399},
		{impl.Spot{X: 0, Y: 0}, impl.Spot{X: 1280, Y: 568}, 1400},
		{impl.Spot{X: 0, Y: 0}, impl.Spot{X: 1280, Y: 672}, 1445},
		{impl.Spot{X: 1280, Y: 0}, impl.Spot{X: 0, Y: 672}, 1445},
		{impl.Spot{X: 0, Y: 9}, impl.Spot{X: 1280, Y: 9}, 1280},
	} {
		n, ok := impl.RadiusOf(c.a, c.b)
		m, okBack := impl.RadiusOf(c.b, c.a)
		if n != c.want || m != c.want || !ok || !okBack {
			t.Error(c.a, c.b, n, ok, m, okBack, "want", c.want)
		}
	}
	for _, a := range spotPick() {
		for _, b := range spotPick() {
			if n, ok := impl.RadiusOf(a, b); !ok || !isRoot(n, squareFrom(a, b)) {
				t.Error(a, b, n, ok)
			}
		}
	}
}

func TestNearArc(t *testing.T) {
	m := impl.Spot{X: 500, Y: 300}
	for _, c := range []struct {
		radius, x, y, slack int
		want                bool
	}{
		{50, 30, 40, 0, true}, {50, -40, -30, 0, true}, {50, 0, 50, 0, true},
		// Distances just off the radius, whose roots are 50 and 49.
		{50, 50, 1, 0, false}, {50, 49, 9, 0, false}, {50, 50, 1, 1, true}, {50, 49, 9, 1, true},
		// The distance 50 is at both ends of the slack, or just off it.
		{48, 30, 40, 2, true}, {48, 30, 40, 1, false}, {52, 30, 40, 2, true}, {52, 30, 40, 1, false},
		{48, 50, 1, 2, false}, {52, 49, 9, 2, false},
		// With a slack equal to the radius all is near up to twice the radius.
		{50, 0, 0, 50, true}, {50, 0, 0, 49, false}, {50, 60, 80, 50, true}, {50, 60, 81, 50, false}, {50, 60, 80, 49, false},
		{1, 0, 0, 0, false}, {1, 0, 0, 1, true}, {1, 1, 1, 0, false}, {1, 1, 1, 1, true}, {1, 2, 0, 1, true}, {1, 2, 1, 1, false},
		{1400, 0, 0, 1400, true}, {1400, 0, 0, 1399, false}, {1400, 30, 40, 1350, true}, {1400, 30, 40, 1349, false},
	} {
		if is, ok := impl.NearArc(m, c.radius, impl.Spot{X: m.X + c.x, Y: m.Y + c.y}, c.slack); !ok || is != c.want {
			t.Error(c, is, ok)
		}
	}
	for radius := 1; radius <= 12; radius++ {
		for x := -25; x <= 25; x++ {
			for y := -25; y <= 25; y++ {
				for slack := 0; slack <= radius; slack++ {
					square := x*x + y*y
					want := square >= (radius-slack)*(radius-slack) && square <= (radius+slack)*(radius+slack)
					if is, ok := impl.NearArc(m, radius, impl.Spot{X: m.X + x, Y: m.Y + y}, slack); !ok || is != want {
						t.Fatal(radius, x, y, slack, is, ok)
					}
				}
			}
		}
	}
}

func TestBadSlack(t *testing.T) {
	a := impl.Spot{X: 530, Y: 340}
	for _, radius := range []int{1, 50, 1399, 1400} {
		for _, slack := range append(outside(radius), math.MaxInt-radius, math.MinInt+radius) {
			is, ok := impl.NearArc(impl.Spot{X: 500, Y: 300}, radius, a, slack)
			wantZero(t, "NearArc", is, ok)
		}
		if _, ok := impl.NearArc(impl.Spot{X: 500, Y: 300}, radius, a, radius); !ok {
			t.Error(radius)
		}
	}
}

func TestChordOf(t *testing.T) {
	for _, c := range [][3]int{
		{50, 10, 60}, {50, 0, 0}, {50, 50, 100}, {50, 1, 19}, {50, 2, 28}, {1, 0, 0}, {1, 1, 2},
		{1400, 0, 0}, {1400, 1400, 2800}, {1400, 1399, 2799}, {1400, 1, 105}, {5, 2, 8}, {5, 1, 6}, {5, 4, 9},
	} {
		if n, ok := impl.ChordOf(c[0], c[1]); !ok || n != c[2] {
			t.Error(c, n, ok)
		}
	}
	for radius := 1; radius <= 1400; radius++ {
		for height := 0; height <= radius; height++ {
			// Half of the chord, the radius and the rest of it are the sides of a right triangle.
			rest := radius - height
			if n, ok := impl.ChordOf(radius, height); !ok || !isRoot(n, 4*(radius*radius-rest*rest)) {
				t.Fatal(radius, height, n, ok)
			}
		}
		for _, height := range outside(radius) {
			n, ok := impl.ChordOf(radius, height)
			wantZero(t, "ChordOf", n, ok)
		}
	}
}

func TestQuarterTurn(t *testing.T) {
	m := impl.Spot{X: 500, Y: 300}
	for _, c := range [][4]int{{530, 340, 460, 330}, {460, 330, 470, 260}, {470, 260, 540, 270}, {540, 270, 530, 340}, {500, 300, 500, 300}, {501, 300, 500, 301}, {500, 301, 499, 300}} {
		a, ok := impl.QuarterTurn(m, impl.Spot{X: c[0], Y: c[1]})
		wantSpot(t, "QuarterTurn", a, ok, impl.Spot{X: c[2], Y: c[3]})
	}
	made, failed := 0, 0
	for _, middle := range append(spotPick(), arcMiddles()...) {
		for _, a := range append(spotPick(), arcMiddles()...) {
			b, ok := impl.QuarterTurn(middle, a)
			wantSpot(t, "QuarterTurn", b, ok, impl.Spot{X: middle.X + middle.Y - a.Y, Y: middle.Y - middle.X + a.X})
			if !ok {
				failed++
				continue
			}
			made++
			// The turned spot is as far from the middle, and the two ways stand at a right angle, to the one side.
			x, y := a.X-middle.X, a.Y-middle.Y
			if squareFrom(middle, a) != squareFrom(middle, b) || x*(b.X-middle.X)+y*(b.Y-middle.Y) != 0 || x*(b.Y-middle.Y)-y*(b.X-middle.X) < 0 {
				t.Error(middle, a, b)
			}
		}
	}
	if made == 0 || failed == 0 {
		t.Error(made, failed)
	}
}

// TestQuarterTurnsAtTheEdge meets each edge exactly, and leaves the field by one.
func TestQuarterTurnsAtTheEdge(t *testing.T) {
	for _, c := range []struct {
		middle, on, off impl.Spot
	}{
		{impl.Spot{X: 10, Y: 300}, impl.Spot{X: 10, Y: 310}, impl.Spot{X: 10, Y: 311}},
		{impl.Spot{X: 1270, Y: 300}, impl.Spot{X: 1270, Y: 290}, impl.Spot{X: 1270, Y: 289}},
		{impl.Spot{X: 300, Y: 10}, impl.Spot{X: 290, Y: 10}, impl.Spot{X: 289, Y: 10}},
		{impl.Spot{X: 300, Y: 662}, impl.Spot{X: 310, Y: 662}, impl.Spot{X: 311, Y: 662}},
	} {
		if a, ok := impl.QuarterTurn(c.middle, c.on); !ok || squareFrom(a, c.middle) != 100 {
			t.Error(c, a, ok)
		}
		a, ok := impl.QuarterTurn(c.middle, c.off)
		wantZero(t, "QuarterTurn", a, ok)
	}
}

// circlePlaces returns the eight places around a middle, on the field or off it.
func circlePlaces(m impl.Spot, r int) []impl.Spot {
	d := rootByBits(r * r / 2)
	return []impl.Spot{
		{X: m.X + r, Y: m.Y}, {X: m.X + d, Y: m.Y + d}, {X: m.X, Y: m.Y + r}, {X: m.X - d, Y: m.Y + d},
		{X: m.X - r, Y: m.Y}, {X: m.X - d, Y: m.Y - d}, {X: m.X, Y: m.Y - r}, {X: m.X + d, Y: m.Y - d},
	}
}

func TestCircleSpots(t *testing.T) {
	m := impl.Spot{X: 640, Y: 336}
	for _, c := range []struct {
		radius int
		want   []impl.Spot
	}{
		{50, []impl.Spot{{X: 690, Y: 336}, {X: 675, Y: 371}, {X: 640, Y: 386}, {X: 605, Y: 371}, {X: 590, Y: 336}, {X: 605, Y: 301}, {X: 640, Y: 286}, {X: 675, Y: 301}}},
		// The root of a half is 0, so that the middle is met four times.
		{1, []impl.Spot{{X: 641, Y: 336}, m, {X: 640, Y: 337}, m, {X: 639, Y: 336}, m, {X: 640, Y: 335}, m}},
		{2, []impl.Spot{{X: 642, Y: 336}, {X: 641, Y: 337}, {X: 640, Y: 338}, {X: 639, Y: 337}, {X: 638, Y: 336}, {X: 639, Y: 335}, {X: 640, Y: 334}, {X: 641, Y: 335}}},
		{3, []impl.Spot{{X: 643, Y: 336}, {X: 642, Y: 338}, {X: 640, Y: 339}, {X: 638, Y: 338}, {X: 637, Y: 336}, {X: 638, Y: 334}, {X: 640, Y: 333}, {X: 642, Y: 334}}},
		{336, []impl.Spot{{X: 976, Y: 336}, {X: 877, Y: 573}, {X: 640, Y: 672}, {X: 403, Y: 573}, {X: 304, Y: 336}, {X: 403, Y: 99}, {X: 640, Y: 0}, {X: 877, Y: 99}}},
	} {
		l, ok := impl.CircleSpots(m, c.radius)
		wantSpots(t, "CircleSpots", l, ok, c.want)
	}
	for _, middle := range append(spotPick(), arcMiddles()...) {
		for radius := 1; radius <= 1400; radius++ {
			l, ok := impl.CircleSpots(middle, radius)
			wantSpots(t, "CircleSpots", l, ok, circlePlaces(middle, radius))
		}
	}
}

// TestCirclesAtTheEdge has circles that meet each edge exactly, and circles of which a single spot is off the field.
func TestCirclesAtTheEdge(t *testing.T) {
	for _, c := range []struct {
		on, off impl.Spot
	}{
		{impl.Spot{X: 50, Y: 300}, impl.Spot{X: 49, Y: 300}},
		{impl.Spot{X: 1230, Y: 300}, impl.Spot{X: 1231, Y: 300}},
		{impl.Spot{X: 300, Y: 50}, impl.Spot{X: 300, Y: 49}},
		{impl.Spot{X: 300, Y: 622}, impl.Spot{X: 300, Y: 623}},
	} {
		if l, ok := impl.CircleSpots(c.on, 50); !ok || len(l) != 8 {
			t.Error(c.on, l, ok)
		}
		l, ok := impl.CircleSpots(c.off, 50)
		wantNone(t, "CircleSpots", l, ok)
	}
}

func TestLeastGap(t *testing.T) {
	a := impl.Spot{X: 83, Y: 16}
	far := spotRow(impl.Spot{X: 0, Y: 0}, 40, 32, 17)
	far[39] = impl.Spot{X: far[38].X + 3, Y: far[38].Y - 4}
	for _, c := range []struct {
		l    []impl.Spot
		want int
	}{
		{[]impl.Spot{{}, {X: 3, Y: 4}, {X: 3, Y: 10}}, 25},
		{[]impl.Spot{{X: 3, Y: 10}, {X: 3, Y: 4}, {}}, 25},
		{[]impl.Spot{{}, {X: 3, Y: 4}}, 25},
		{[]impl.Spot{{}, {X: 1280, Y: 672}}, 2089984},
		// Those that are close are no neighbours, nor are the last one and the first one.
		{[]impl.Spot{{}, {X: 100}, {X: 1}}, 9801},
		{[]impl.Spot{{}, {X: 100}, {X: 200}, {X: 100}, {X: 1}}, 9801},
		{[]impl.Spot{{}, {X: 100, Y: 100}, {}}, 20000},
		{[]impl.Spot{a, a}, 0},
		{[]impl.Spot{{}, {X: 100}, {X: 100}}, 0},
		{sameSpots(a, 40), 0},
		{spotRow(impl.Spot{}, 40, 32, 17), 1313},
		{far, 25},
	} {
		if n, ok := impl.LeastGap(c.l); !ok || n != c.want {
			t.Error(c.l, n, ok, "want", c.want)
		}
		back := slices.Clone(c.l)
		slices.Reverse(back)
		if n, ok := impl.LeastGap(back); !ok || n != c.want {
			t.Error(back, n, ok, "want", c.want)
		}
	}
	// The closest neighbours may be at any place of the list.
	for n := 2; n <= 40; n++ {
		for i := range n - 1 {
			l := spotRow(impl.Spot{X: 0, Y: 5}, n, 20, 0)
			for k := i + 1; k < n; k++ {
				l[k].X -= 7
			}
			if gap, ok := impl.LeastGap(l); !ok || gap != 169 {
				t.Error(n, i, gap, ok)
			}
		}
	}
}

func TestBadLists(t *testing.T) {
	a, b := impl.Spot{X: 83, Y: 16}, impl.Spot{X: 100, Y: 16}
	for _, l := range [][]impl.Spot{nil, {}, {a}, sameSpots(a, 41), sameSpots(a, 1000), spotRow(impl.Spot{}, 41, 1, 1)} {
		n, ok := impl.LeastGap(l)
		wantZero(t, "LeastGap", n, ok)
	}
	for _, bad := range badSpots() {
		for _, l := range [][]impl.Spot{{bad}, {bad, a}, {a, bad}, {a, bad, b}, {a, b, bad}, append(spotRow(impl.Spot{}, 39, 1, 1), bad)} {
			n, ok := impl.LeastGap(l)
			wantZero(t, "LeastGap", n, ok)
		}
	}
}

// orders returns three spots in all orders.
func orders(a impl.Spot, b impl.Spot, c impl.Spot) [][3]impl.Spot {
	return [][3]impl.Spot{{a, b, c}, {a, c, b}, {b, a, c}, {b, c, a}, {c, a, b}, {c, b, a}}
}

// wantMiddle fails the test unless three spots have a middle in all orders.
func wantMiddle(t *testing.T, a impl.Spot, b impl.Spot, c impl.Spot, want impl.Spot) {
	t.Helper()
	for _, p := range orders(a, b, c) {
		m, ok := impl.MiddleOfCircle(p[0], p[1], p[2])
		if !ok || m != want {
			t.Fatal(p, m, ok, "want", want)
		}
	}
}

// wantNoMiddle fails the test unless three spots have none in all orders.
func wantNoMiddle(t *testing.T, a impl.Spot, b impl.Spot, c impl.Spot) {
	t.Helper()
	for _, p := range orders(a, b, c) {
		m, ok := impl.MiddleOfCircle(p[0], p[1], p[2])
		if ok || m != (impl.Spot{}) {
			t.Fatal(p, m, ok)
		}
	}
}

func TestMiddleOfCircle(t *testing.T) {
	spot := func(x int, y int) impl.Spot { return impl.Spot{X: x, Y: y} }
	wantMiddle(t, spot(530, 340), spot(470, 340), spot(550, 300), spot(500, 300))
	wantMiddle(t, spot(0, 0), spot(2, 0), spot(0, 2), spot(1, 1))
	wantMiddle(t, spot(0, 0), spot(1280, 0), spot(1280, 672), spot(640, 336))
	// Middles at all edges and corners of the field.
	wantMiddle(t, spot(0, 0), spot(0, 10), spot(3, 9), spot(0, 5))
	wantMiddle(t, spot(1280, 0), spot(1280, 10), spot(1277, 9), spot(1280, 5))
	wantMiddle(t, spot(0, 0), spot(10, 0), spot(9, 3), spot(5, 0))
	wantMiddle(t, spot(0, 672), spot(10, 672), spot(9, 669), spot(5, 672))
	wantMiddle(t, spot(30, 40), spot(40, 30), spot(50, 0), spot(0, 0))
	wantMiddle(t, spot(1250, 632), spot(1240, 642), spot(1230, 672), spot(1280, 672))
}

func TestNoMiddleOfCircle(t *testing.T) {
	spot := func(x int, y int) impl.Spot { return impl.Spot{X: x, Y: y} }
	// Just off each edge of the field, at -1, 5 and so on, and far off it.
	wantNoMiddle(t, spot(0, 0), spot(0, 10), spot(4, 6))
	wantNoMiddle(t, spot(1280, 0), spot(1280, 10), spot(1276, 6))
	wantNoMiddle(t, spot(0, 0), spot(10, 0), spot(6, 4))
	wantNoMiddle(t, spot(0, 672), spot(10, 672), spot(6, 668))
	wantNoMiddle(t, spot(0, 0), spot(0, 10), spot(1, 3))
	wantNoMiddle(t, spot(0, 0), spot(1280, 0), spot(640, 1))
	// At halves and thirds of eighths, in X, in Y and in both.
	wantNoMiddle(t, spot(100, 100), spot(101, 100), spot(100, 101))
	wantNoMiddle(t, spot(100, 100), spot(101, 100), spot(100, 102))
	wantNoMiddle(t, spot(100, 100), spot(102, 100), spot(100, 101))
	wantNoMiddle(t, spot(100, 100), spot(102, 100), spot(101, 103))
	wantNoMiddle(t, spot(100, 100), spot(100, 102), spot(103, 101))
	wantNoMiddle(t, spot(0, 0), spot(1280, 671), spot(0, 671))
	// On one line, flat, upright and aslant, with spots that are met twice.
	wantNoMiddle(t, spot(10, 20), spot(30, 20), spot(50, 20))
	wantNoMiddle(t, spot(10, 20), spot(10, 40), spot(10, 60))
	wantNoMiddle(t, spot(10, 20), spot(20, 40), spot(40, 80))
	wantNoMiddle(t, spot(10, 80), spot(20, 40), spot(25, 20))
	wantNoMiddle(t, spot(0, 0), spot(1280, 672), spot(640, 336))
	wantNoMiddle(t, spot(10, 20), spot(10, 20), spot(30, 40))
	wantNoMiddle(t, spot(10, 20), spot(10, 20), spot(10, 20))
	wantNoMiddle(t, spot(0, 0), spot(0, 0), spot(0, 0))
}

// gridAt returns the 49 spots next to a spot that are 0 to 6 from it, in the direction that x and y, 1 or -1, tell.
func gridAt(a impl.Spot, x int, y int) []impl.Spot {
	var l []impl.Spot
	for i := range 7 {
		for k := range 7 {
			l = append(l, impl.Spot{X: a.X + x*i, Y: a.Y + y*k})
		}
	}
	return l
}

// middlesNear returns the middles of three spots of a list, by their indices in increasing order, as far as they are in a window of the field around a spot. It looks at all spots of the window, and puts those of the list together that have one square with it.
func middlesNear(l []impl.Spot, a impl.Spot) map[[3]int]impl.Spot {
	found := map[[3]int]impl.Spot{}
	for x := max(0, a.X-maxNearX); x <= min(impl.MaxX, a.X+maxNearX); x++ {
		for y := max(0, a.Y-maxNearY); y <= min(impl.MaxY, a.Y+maxNearY); y++ {
			m := impl.Spot{X: x, Y: y}
			bySquare := map[int][]int{}
			for i, b := range l {
				bySquare[squareFrom(m, b)] = append(bySquare[squareFrom(m, b)], i)
			}
			for _, group := range bySquare {
				for n, i := range group {
					for o, j := range group[:n] {
						for _, k := range group[:o] {
							found[[3]int{k, j, i}] = m
						}
					}
				}
			}
		}
	}
	return found
}

// TestMiddlesOfSmallCircles finds the middles of all three spots of small grids within the field and in all of its corners. No such middle is farther away than the window: three spots that are 0 to 6 apart make a circle with a radius below 200.
func TestMiddlesOfSmallCircles(t *testing.T) {
	for _, c := range []struct {
		a    impl.Spot
		x, y int
	}{
		{impl.Spot{X: 0, Y: 0}, 1, 1}, {impl.Spot{X: 1280, Y: 0}, -1, 1}, {impl.Spot{X: 0, Y: 672}, 1, -1}, {impl.Spot{X: 1280, Y: 672}, -1, -1},
		{impl.Spot{X: 640, Y: 336}, 1, 1},
	} {
		l := gridAt(c.a, c.x, c.y)
		middles := middlesNear(l, c.a)
		if len(middles) == 0 {
			t.Error("no middle", c)
		}
		for k, p := range l {
			for j, q := range l[:k] {
				for i, r := range l[:j] {
					if m, ok := middles[[3]int{i, j, k}]; ok {
						wantMiddle(t, r, q, p, m)
					} else {
						wantNoMiddle(t, r, q, p)
					}
				}
			}
		}
	}
}

// TestMiddlesHaveOneSquare checks the second half of guarantee 4 on spots of the whole field.
func TestMiddlesHaveOneSquare(t *testing.T) {
	made, failed := 0, 0
	l := append(spotPick(), arcMiddles()...)
	for _, a := range l {
		for _, b := range l {
			for _, c := range l {
				m, ok := impl.MiddleOfCircle(a, b, c)
				if !ok {
					failed++
					wantZero(t, "MiddleOfCircle", m, ok)
					continue
				}
				made++
				square := squareFrom(m, a)
				if !onField(m) || square != squareFrom(m, b) || square != squareFrom(m, c) {
					t.Fatal(a, b, c, m)
				}
			}
		}
	}
	if made == 0 || failed == 0 {
		t.Error(made, failed)
	}
}

// TestMiddlesOfKnownCircles takes spots that are 325 from a middle, in X and Y by whole numbers.
func TestMiddlesOfKnownCircles(t *testing.T) {
	m := impl.Spot{X: 640, Y: 336}
	var l []impl.Spot
	for _, w := range [][2]int{{325, 0}, {315, 80}, {312, 91}, {300, 125}, {280, 165}, {260, 195}, {253, 204}} {
		for _, x := range []int{1, -1} {
			for _, y := range []int{1, -1} {
				l = append(l, impl.Spot{X: m.X + x*w[0], Y: m.Y + y*w[1]}, impl.Spot{X: m.X + x*w[1], Y: m.Y + y*w[0]})
			}
		}
	}
	for k, a := range l {
		for j, b := range l[:k] {
			for _, c := range l[:j] {
				if a == b || b == c || a == c {
					wantNoMiddle(t, a, b, c)
				} else {
					wantMiddle(t, a, b, c, m)
				}
			}
		}
	}
}
