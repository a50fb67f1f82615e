package tests

import (
	"math"
	"slices"
	"strconv"
	"strings"
	"testing"

	"loop.example/g00939/impl"
)

// spotPick holds spots of all edges and corners, and some from within the field.
func spotPick() []impl.Spot {
	var l []impl.Spot
	for _, x := range []int{0, 1, 7, 8, 83, 639, 640, 641, 1276, impl.MaxX - 1, impl.MaxX} {
		for _, y := range []int{0, 4, 16, 335, 336, 667, impl.MaxY - 1, impl.MaxY} {
			l = append(l, impl.Spot{X: x, Y: y})
		}
	}
	return l
}

// badSpots holds spots off the field, some of which make sums and squares overflow.
func badSpots() []impl.Spot {
	return []impl.Spot{
		{X: -1, Y: 0}, {X: 0, Y: -1}, {X: -1, Y: -1},
		{X: impl.MaxX + 1, Y: 0}, {X: 0, Y: impl.MaxY + 1}, {X: impl.MaxX + 1, Y: impl.MaxY + 1},
		{X: impl.MaxX, Y: -1}, {X: -1, Y: impl.MaxY},
		{X: impl.MaxX + 1, Y: impl.MaxY}, {X: impl.MaxX, Y: impl.MaxY + 1},
		{X: math.MaxInt, Y: 0}, {X: 0, Y: math.MaxInt}, {X: math.MinInt, Y: 0}, {X: 0, Y: math.MinInt},
		{X: math.MaxInt, Y: math.MinInt}, {X: math.MinInt, Y: math.MaxInt}, {X: 1 << 32, Y: 1 << 32},
	}
}

// sameSpots returns a list of n equal spots.
func sameSpots(a impl.Spot, n int) []impl.Spot {
	l := make([]impl.Spot, n)
	for i := range l {
		l[i] = a
	}
	return l
}

// wantZero fails the test unless a call has failed with a zero result.
func wantZero[T comparable](t *testing.T, call string, got T, ok bool) {
	t.Helper()
	var zero T
	if ok || got != zero {
		t.Errorf("%s = %v, %v, want a failure with a zero result", call, got, ok)
	}
}

// wantNone does so for a call that returns a list.
func wantNone[T any](t *testing.T, call string, got []T, ok bool) {
	t.Helper()
	if ok || len(got) != 0 {
		t.Errorf("%s = %v, %v, want a failure without a list", call, got, ok)
	}
}

func TestSpotsOnAndOffTheField(t *testing.T) {
	if impl.MaxX != 1280 || impl.MaxY != 672 {
		t.Error("limits", impl.MaxX, impl.MaxY)
	}
	for _, a := range spotPick() {
		if !impl.IsSpot(a) {
			t.Error("on the field", a)
		}
	}
	for _, a := range badSpots() {
		if impl.IsSpot(a) {
			t.Error("off the field", a)
		}
	}
}

func TestBadSpotsFail(t *testing.T) {
	good := impl.Spot{X: 83, Y: 16}
	for _, bad := range badSpots() {
		for _, p := range [][2]impl.Spot{{bad, good}, {good, bad}, {bad, bad}} {
			n, ok := impl.SquareOf(p[0], p[1])
			wantZero(t, "SquareOf", n, ok)
			m, ok := impl.MiddleOf(p[0], p[1])
			wantZero(t, "MiddleOf", m, ok)
			n, ok = impl.NearestOf(p[0], []impl.Spot{good, p[1]})
			wantZero(t, "NearestOf", n, ok)
			l, ok := impl.SpotsWithin(p[0], []impl.Spot{good, p[1]}, 3000000)
			wantNone(t, "SpotsWithin", l, ok)
		}
		for _, c := range [][3]impl.Spot{{bad, good, good}, {good, bad, good}, {good, good, bad}, {bad, bad, bad}} {
			b, ok := impl.BetweenSpots(c[0], c[1], c[2])
			wantZero(t, "BetweenSpots", b, ok)
		}
		n, ok := impl.NearestOf(bad, nil)
		wantZero(t, "NearestOf", n, ok)
		l, ok := impl.SpotsWithin(bad, nil, 0)
		wantNone(t, "SpotsWithin", l, ok)
		a, ok := impl.MoveSpot(bad, 0, 0)
		wantZero(t, "MoveSpot", a, ok)
		a, ok = impl.MirrorSpot(bad)
		wantZero(t, "MirrorSpot", a, ok)
		a, ok = impl.NearestStep(bad)
		wantZero(t, "NearestStep", a, ok)
		s, ok := impl.SpotText(bad)
		wantZero(t, "SpotText", s, ok)
	}
	// A step back to the field does not make a spot off it valid.
	a, ok := impl.MoveSpot(impl.Spot{X: -1, Y: 0}, 1, 0)
	wantZero(t, "MoveSpot", a, ok)
	a, ok = impl.MoveSpot(impl.Spot{X: 0, Y: impl.MaxY + 1}, 0, -1)
	wantZero(t, "MoveSpot", a, ok)
}

func TestSquareOf(t *testing.T) {
	for _, c := range []struct {
		a, b impl.Spot
		want int
	}{
		{impl.Spot{X: 0, Y: 0}, impl.Spot{X: 0, Y: 0}, 0},
		{impl.Spot{X: 0, Y: 0}, impl.Spot{X: 30, Y: 40}, 2500},
		{impl.Spot{X: 24, Y: 32}, impl.Spot{X: 24, Y: 40}, 64},
		{impl.Spot{X: 10, Y: 3}, impl.Spot{X: 3, Y: 4}, 50},
		{impl.Spot{X: 0, Y: 0}, impl.Spot{X: 1280, Y: 672}, 2089984},
		{impl.Spot{X: 1280, Y: 0}, impl.Spot{X: 0, Y: 672}, 2089984},
		{impl.Spot{X: 0, Y: 9}, impl.Spot{X: 1280, Y: 9}, 1638400},
		{impl.Spot{X: 9, Y: 672}, impl.Spot{X: 9, Y: 0}, 451584},
	} {
		n, ok := impl.SquareOf(c.a, c.b)
		m, okBack := impl.SquareOf(c.b, c.a)
		if n != c.want || m != c.want || !ok || !okBack {
			t.Error(c.a, c.b, n, ok, m, okBack, "want", c.want)
		}
	}
}

func TestMoveSpot(t *testing.T) {
	corner, far := impl.Spot{}, impl.Spot{X: impl.MaxX, Y: impl.MaxY}
	if b, ok := impl.MoveSpot(impl.Spot{X: 83, Y: 16}, -3, 8); !ok || b != (impl.Spot{X: 80, Y: 24}) {
		t.Error("by -3 and 8", b, ok)
	}
	if b, ok := impl.MoveSpot(corner, impl.MaxX, impl.MaxY); !ok || b != far {
		t.Error("to the far corner", b, ok)
	}
	if b, ok := impl.MoveSpot(far, -impl.MaxX, -impl.MaxY); !ok || b != corner {
		t.Error("to the first corner", b, ok)
	}
	for _, p := range [][2]int{{-1, 0}, {0, -1}, {1281, 0}, {0, 673}, {2000, 0}, {0, 2000}, {-2000, 0}, {0, -2000}, {2001, 0}, {0, 2001}, {-2001, 0}, {0, -2001}, {math.MaxInt, 0}, {0, math.MaxInt}, {math.MinInt, 0}, {0, math.MinInt}} {
		b, ok := impl.MoveSpot(corner, p[0], p[1])
		wantZero(t, "MoveSpot", b, ok)
	}
	for _, p := range [][2]int{{1, 0}, {0, 1}, {-1281, 0}, {0, -673}, {math.MaxInt, 0}, {0, math.MaxInt}, {math.MinInt, 0}, {0, math.MinInt}} {
		b, ok := impl.MoveSpot(far, p[0], p[1])
		wantZero(t, "MoveSpot", b, ok)
	}
}

func TestMovedSpotsComeBack(t *testing.T) {
	moved := 0
	for _, a := range spotPick() {
		for x := -2000; x <= 2000; x += 13 {
			for y := -2000; y <= 2000; y += 29 {
				b, ok := impl.MoveSpot(a, x, y)
				want := impl.Spot{X: a.X + x, Y: a.Y + y}
				if ok != impl.IsSpot(want) || ok && b != want {
					t.Fatal("moved", a, x, y, b, ok)
				}
				if !ok {
					wantZero(t, "MoveSpot", b, ok)
					continue
				}
				moved++
				if c, ok := impl.MoveSpot(b, -x, -y); !ok || c != a {
					t.Fatal("moved back", a, x, y, c, ok)
				}
			}
		}
	}
	if moved == 0 {
		t.Error("no spot was moved")
	}
}

func TestMirrorSpot(t *testing.T) {
	if b, ok := impl.MirrorSpot(impl.Spot{X: 83, Y: 16}); !ok || b != (impl.Spot{X: 1197, Y: 16}) {
		t.Error("example", b, ok)
	}
	if b, ok := impl.MirrorSpot(impl.Spot{X: 640, Y: 0}); !ok || b != (impl.Spot{X: 640, Y: 0}) {
		t.Error("on the middle line", b, ok)
	}
	for _, a := range spotPick() {
		b, ok := impl.MirrorSpot(a)
		if !ok || a.X+b.X != impl.MaxX || a.Y != b.Y {
			t.Error("mirrored", a, b, ok)
		}
		if c, ok := impl.MirrorSpot(b); !ok || c != a {
			t.Error("mirrored twice", a, c, ok)
		}
	}
}

func TestMiddleOf(t *testing.T) {
	for _, c := range []struct{ a, b, want impl.Spot }{
		{impl.Spot{X: 0, Y: 0}, impl.Spot{X: 1280, Y: 672}, impl.Spot{X: 640, Y: 336}},
		{impl.Spot{X: 1280, Y: 672}, impl.Spot{X: 1280, Y: 672}, impl.Spot{X: 1280, Y: 672}},
		{impl.Spot{X: 0, Y: 0}, impl.Spot{X: 1, Y: 1}, impl.Spot{X: 0, Y: 0}},
		{impl.Spot{X: 83, Y: 16}, impl.Spot{X: 80, Y: 19}, impl.Spot{X: 81, Y: 17}},
		{impl.Spot{X: 1279, Y: 671}, impl.Spot{X: 1280, Y: 672}, impl.Spot{X: 1279, Y: 671}},
		{impl.Spot{X: 10, Y: 20}, impl.Spot{X: 14, Y: 10}, impl.Spot{X: 12, Y: 15}},
	} {
		m, ok := impl.MiddleOf(c.a, c.b)
		n, okBack := impl.MiddleOf(c.b, c.a)
		if m != c.want || n != c.want || !ok || !okBack {
			t.Error(c.a, c.b, m, ok, n, okBack, "want", c.want)
		}
	}
}

// stepNear finds the nearest multiple of 8 by trying all of them; the later one of two wins a half.
func stepNear(n int, most int) int {
	best := 0
	for k := 0; k <= most; k += 8 {
		if (k-n)*(k-n) <= (best-n)*(best-n) {
			best = k
		}
	}
	return best
}

func TestNearestStep(t *testing.T) {
	for _, c := range [][2]impl.Spot{
		{{X: 83, Y: 16}, {X: 80, Y: 16}},
		{{X: 84, Y: 20}, {X: 88, Y: 24}},
		{{X: 3, Y: 4}, {X: 0, Y: 8}},
		{{X: 1276, Y: 668}, {X: 1280, Y: 672}},
		{{X: 1280, Y: 672}, {X: 1280, Y: 672}},
	} {
		if b, ok := impl.NearestStep(c[0]); !ok || b != c[1] {
			t.Error(c[0], b, ok, "want", c[1])
		}
	}
	for n := 0; n <= impl.MaxX; n++ {
		a := impl.Spot{X: n, Y: n % (impl.MaxY + 1)}
		want := impl.Spot{X: stepNear(a.X, impl.MaxX), Y: stepNear(a.Y, impl.MaxY)}
		if b, ok := impl.NearestStep(a); !ok || b != want {
			t.Error(a, b, ok, "want", want)
		}
	}
}

func TestNearestOf(t *testing.T) {
	a := impl.Spot{X: 100, Y: 100}
	for _, c := range []struct {
		l    []impl.Spot
		want int
	}{
		{[]impl.Spot{{X: 0, Y: 0}}, 0},
		{[]impl.Spot{{X: 0, Y: 0}, {X: 104, Y: 100}, {X: 100, Y: 97}}, 2},
		{[]impl.Spot{{X: 0, Y: 0}, {X: 105, Y: 100}, {X: 97, Y: 104}, {X: 100, Y: 95}}, 1},
		{[]impl.Spot{{X: 100, Y: 100}, {X: 100, Y: 101}, {X: 100, Y: 100}}, 0},
		// Here the square and the sum of the differences choose differently.
		{[]impl.Spot{{X: 100, Y: 105}, {X: 103, Y: 103}}, 1},
		{append(sameSpots(impl.Spot{X: 9, Y: 9}, 39), impl.Spot{X: 10, Y: 10}), 39},
		{sameSpots(impl.Spot{X: 9, Y: 9}, 40), 0},
	} {
		if n, ok := impl.NearestOf(a, c.l); !ok || n != c.want {
			t.Error(c.l, n, ok, "want", c.want)
		}
	}
	for _, l := range [][]impl.Spot{nil, {}, sameSpots(a, 41), append(sameSpots(a, 39), impl.Spot{X: -1}), sameSpots(a, 1000)} {
		n, ok := impl.NearestOf(a, l)
		wantZero(t, "NearestOf", n, ok)
	}
	n, ok := impl.NearestOf(a, append(sameSpots(impl.Spot{}, 40), a))
	wantZero(t, "NearestOf", n, ok)
}

func TestSpotsWithin(t *testing.T) {
	a := impl.Spot{X: 100, Y: 100}
	l := []impl.Spot{{X: 103, Y: 104}, {X: 100, Y: 106}, {X: 100, Y: 100}, {X: 95, Y: 100}, {X: 103, Y: 104}}
	for _, c := range []struct {
		l      []impl.Spot
		square int
		want   []int
	}{
		{l, 0, []int{2}},
		{l, 24, []int{2}},
		{l, 25, []int{0, 2, 3, 4}},
		{l, 35, []int{0, 2, 3, 4}},
		{l, 36, []int{0, 1, 2, 3, 4}},
		{l, 3000000, []int{0, 1, 2, 3, 4}},
		{[]impl.Spot{{X: 0, Y: 0}}, 19999, nil},
		{[]impl.Spot{{X: 0, Y: 0}}, 20000, []int{0}},
		{nil, 0, nil},
		{[]impl.Spot{}, 3000000, nil},
	} {
		if got, ok := impl.SpotsWithin(a, c.l, c.square); !ok || !slices.Equal(got, c.want) {
			t.Error(c.l, c.square, got, ok, "want", c.want)
		}
	}
	if got, ok := impl.SpotsWithin(impl.Spot{}, []impl.Spot{{X: 1280, Y: 672}}, 2089984); !ok || !slices.Equal(got, []int{0}) {
		t.Error("corner to corner", got, ok)
	}
	if got, ok := impl.SpotsWithin(a, sameSpots(a, 40), 0); !ok || len(got) != 40 || got[0] != 0 || got[39] != 39 {
		t.Error("40 spots", got, ok)
	}
	for _, square := range []int{-1, 3000001, math.MinInt, math.MaxInt} {
		got, ok := impl.SpotsWithin(a, l, square)
		wantNone(t, "SpotsWithin", got, ok)
		got, ok = impl.SpotsWithin(a, nil, square)
		wantNone(t, "SpotsWithin", got, ok)
	}
	for _, long := range [][]impl.Spot{sameSpots(a, 41), sameSpots(a, 1000), append(sameSpots(a, 39), impl.Spot{Y: -1}), append(sameSpots(a, 40), impl.Spot{Y: -1})} {
		got, ok := impl.SpotsWithin(a, long, 3000000)
		wantNone(t, "SpotsWithin", got, ok)
	}
}

func TestBetweenSpots(t *testing.T) {
	a, b := impl.Spot{X: 10, Y: 20}, impl.Spot{X: 16, Y: 29}
	for _, c := range []struct {
		a, b, c impl.Spot
		want    bool
	}{
		{a, b, a, true},
		{a, b, b, true},
		{a, b, impl.Spot{X: 12, Y: 23}, true},
		{a, b, impl.Spot{X: 14, Y: 26}, true},
		{a, b, impl.Spot{X: 13, Y: 24}, false},
		{a, b, impl.Spot{X: 8, Y: 17}, false},
		{a, b, impl.Spot{X: 18, Y: 32}, false},
		{a, a, a, true},
		{a, a, b, false},
		{a, a, impl.Spot{X: 10, Y: 21}, false},
		{impl.Spot{X: 5, Y: 7}, impl.Spot{X: 5, Y: 9}, impl.Spot{X: 5, Y: 8}, true},
		{impl.Spot{X: 5, Y: 7}, impl.Spot{X: 5, Y: 9}, impl.Spot{X: 5, Y: 10}, false},
		{impl.Spot{X: 5, Y: 7}, impl.Spot{X: 9, Y: 7}, impl.Spot{X: 9, Y: 7}, true},
		{impl.Spot{X: 5, Y: 7}, impl.Spot{X: 9, Y: 7}, impl.Spot{X: 4, Y: 7}, false},
		{impl.Spot{X: 0, Y: 0}, impl.Spot{X: 1280, Y: 672}, impl.Spot{X: 640, Y: 336}, true},
		{impl.Spot{X: 0, Y: 672}, impl.Spot{X: 1280, Y: 0}, impl.Spot{X: 640, Y: 336}, true},
		{impl.Spot{X: 0, Y: 0}, impl.Spot{X: 1280, Y: 672}, impl.Spot{X: 640, Y: 337}, false},
	} {
		got, ok := impl.BetweenSpots(c.a, c.b, c.c)
		back, okBack := impl.BetweenSpots(c.b, c.a, c.c)
		if got != c.want || back != c.want || !ok || !okBack {
			t.Error(c.a, c.b, c.c, got, ok, back, okBack, "want", c.want)
		}
	}
}

// spotsOnLine lists the spots from a to b by equal steps, as many as the differences have divisors in common.
func spotsOnLine(a impl.Spot, b impl.Spot) map[impl.Spot]bool {
	x, y := b.X-a.X, b.Y-a.Y
	steps := 1
	for n := 1; n <= 10; n++ {
		if x%n == 0 && y%n == 0 {
			steps = n
		}
	}
	found := map[impl.Spot]bool{}
	for k := 0; k <= steps; k++ {
		found[impl.Spot{X: a.X + k*x/steps, Y: a.Y + k*y/steps}] = true
	}
	return found
}

func TestBetweenSpotsOfASquare(t *testing.T) {
	var l []impl.Spot
	for x := 0; x < 6; x++ {
		for y := 0; y < 6; y++ {
			l = append(l, impl.Spot{X: x, Y: y})
		}
	}
	for _, a := range l {
		for _, b := range l {
			line := spotsOnLine(a, b)
			for _, c := range l {
				if got, ok := impl.BetweenSpots(a, b, c); !ok || got != line[c] {
					t.Fatal(a, b, c, got, ok)
				}
			}
		}
	}
}

// axisText is the text of one number of a spot, written anew.
func axisText(n int) string {
	s := strconv.Itoa(n / 8)
	if n%8 > 0 {
		s += "+" + strconv.Itoa(n%8)
	}
	return s
}

func TestSpotText(t *testing.T) {
	for want, a := range map[string]impl.Spot{
		"10+3,2":   {X: 83, Y: 16},
		"0,0":      {X: 0, Y: 0},
		"0+1,0+7":  {X: 1, Y: 7},
		"1,1+1":    {X: 8, Y: 9},
		"0,84":     {X: 0, Y: 672},
		"160,0":    {X: 1280, Y: 0},
		"159+7,83": {X: 1279, Y: 664},
		"160,84":   {X: 1280, Y: 672},
	} {
		if s, ok := impl.SpotText(a); !ok || s != want {
			t.Error(a, s, ok, "want", want)
		}
		if b, ok := impl.ParseSpot(want); !ok || b != a {
			t.Error(want, b, ok, "want", a)
		}
	}
}

func TestTextsAreReadBack(t *testing.T) {
	for x := 0; x <= impl.MaxX; x++ {
		for _, y := range []int{0, x % (impl.MaxY + 1), impl.MaxY} {
			a := impl.Spot{X: x, Y: y}
			s, ok := impl.SpotText(a)
			if !ok || s != axisText(x)+","+axisText(y) {
				t.Fatal(a, s, ok)
			}
			if b, ok := impl.ParseSpot(s); !ok || b != a {
				t.Fatal(s, b, ok)
			}
		}
	}
}

func TestNoSpotTexts(t *testing.T) {
	for _, s := range []string{
		"", ",", "0", "0,", ",0", "0,0,", ",0,0", "0,0,0", "0;0", "0 0", "0, 0", " 0,0", "0,0 ", "0,0\n", "\n0,0",
		"00,0", "0,00", "01,0", "0,01", "010+3,2", "10+03,2", "10+3,02", "0+0,0", "0,0+0", "10+0,2", "10+8,2", "10+9,2", "0,1+8",
		"10+,2", "+3,2", "0,+3", "+,+", "10+3+1,2", "10++3,2", "10+3,2+", "10+11,2", "10+-3,2",
		"-1,0", "0,-1", "-0,0", "0,-0", "+1,0", "0x1,0", "1e1,0", "1.5,0", "1_0,0", "a,b", "10+3,b",
		"161,0", "0,85", "160+1,0", "160+7,0", "0,84+1", "0,160", "200,0", "999,999",
		"9223372036854775807,0", "9223372036854775808,0", "18446744073709551616,0", "0,18446744073709551616", "0+18446744073709551617,0", "18446744073709551626+3,2",
		"\u0661,0", "\uff11,0", "0,\u0662", "1\u0660,0", "0\x00,0", "\xff,0", "0,\xff", "1\xff,0", "\xb1,0",
		strings.Repeat("9", 5000) + ",0", strings.Repeat("0", 5000) + ",0", strings.Repeat(",", 5000), strings.Repeat("1+", 5000) + ",0",
	} {
		a, ok := impl.ParseSpot(s)
		wantZero(t, "ParseSpot "+strconv.Quote(s[:min(len(s), 30)]), a, ok)
	}
}

// TestShortTexts parses every text of up to six of some bytes: it is a spot's just if both parts are numbers' texts.
func TestShortTexts(t *testing.T) {
	numbers := map[string]int{}
	for n := 0; n <= impl.MaxX; n++ {
		numbers[axisText(n)] = n
	}
	parsed := 0
	var try func(s string)
	try = func(s string) {
		left, right, _ := strings.Cut(s, ",")
		x, okX := numbers[left]
		y, okY := numbers[right]
		want := okX && okY && strings.Contains(s, ",") && y <= impl.MaxY
		a, ok := impl.ParseSpot(s)
		if ok != want || ok && a != (impl.Spot{X: x, Y: y}) || !ok && a != (impl.Spot{}) {
			t.Fatalf("%q: %v, %v", s, a, ok)
		}
		if ok {
			parsed++
		}
		if len(s) < 6 {
			for _, c := range []byte("01678,+-") {
				try(s + string(rune(c)))
			}
		}
	}
	try("")
	if parsed == 0 {
		t.Error("no text was a spot's")
	}
}
