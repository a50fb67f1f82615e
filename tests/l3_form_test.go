package tests

import (
	"math"
	"slices"
	"testing"

	"loop.example/g00939/impl"
)

// formPick holds forms of one performer, of as many as can be, at all edges of the field, and with middles that leave a rest.
func formPick() [][]impl.Spot {
	corners := []impl.Spot{{X: 0, Y: 0}, {X: impl.MaxX, Y: 0}, {X: impl.MaxX, Y: impl.MaxY}, {X: 0, Y: impl.MaxY}}
	picked := [][]impl.Spot{
		corners,
		{{X: 83, Y: 16}},
		{{X: 0, Y: 0}, {X: 24, Y: 32}, {X: 24, Y: 40}},
		{{X: 7, Y: 0}, {X: 8, Y: 1}},
		{{X: 100, Y: 100}, {X: 101, Y: 100}, {X: 101, Y: 101}, {X: 100, Y: 103}},
		{{X: 640, Y: 336}, {X: 600, Y: 330}, {X: 671, Y: 301}, {X: 640, Y: 337}, {X: 590, Y: 380}, {X: 640, Y: 335}},
		spotRow(impl.Spot{X: 0, Y: 0}, 12, 116, 61),
		spotRow(impl.Spot{X: 1280, Y: 671}, 12, -1, 0),
		spotRow(impl.Spot{X: 630, Y: 320}, 12, 1, 3),
		spotRow(impl.Spot{X: 630, Y: 320}, 11, -3, 1),
	}
	for _, a := range corners {
		picked = append(picked, []impl.Spot{a})
	}
	return picked
}

// spotRow returns n spots, each of which is x and y from the one before it.
func spotRow(a impl.Spot, n int, x int, y int) []impl.Spot {
	l := make([]impl.Spot, n)
	for i := range l {
		l[i] = impl.Spot{X: a.X + i*x, Y: a.Y + i*y}
	}
	return l
}

// badForms holds no spots, too many, spots that are met twice, and lists with a bad spot in one place.
func badForms() [][]impl.Spot {
	a, b, c := impl.Spot{X: 0, Y: 0}, impl.Spot{X: 83, Y: 16}, impl.Spot{X: 84, Y: 16}
	full := spotRow(impl.Spot{X: 100, Y: 100}, 12, 8, 0)
	lists := [][]impl.Spot{
		nil, {}, {a, a}, {b, b}, {b, c, b}, {a, b, b}, {b, b, c}, {b, b, b}, {a, b, a, b},
		spotRow(impl.Spot{X: 0, Y: 0}, 13, 1, 1), spotRow(impl.Spot{X: 0, Y: 0}, 40, 1, 1), spotRow(impl.Spot{X: 0, Y: 0}, 600, 1, 1),
		append(slices.Clone(full[:11]), full[0]), append(slices.Clone(full[:11]), full[10]), sameSpots(b, 12),
	}
	for _, bad := range badSpots() {
		lists = append(lists, []impl.Spot{bad}, []impl.Spot{bad, b}, []impl.Spot{b, bad, c}, append(slices.Clone(full[:11]), bad))
	}
	return lists
}

// isForm looks at all pairs of spots.
func isForm(l []impl.Spot) bool {
	for i, a := range l {
		if a.X < 0 || a.X > 1280 || a.Y < 0 || a.Y > 672 || slices.Contains(l[:i], a) {
			return false
		}
	}
	return len(l) >= 1 && len(l) <= 12
}

// wantForm fails the test unless a call has returned the spots, or has failed if they are no form.
func wantForm(t *testing.T, call string, got []impl.Spot, ok bool, want []impl.Spot) {
	t.Helper()
	if !isForm(want) {
		wantNone(t, call, got, ok)
	} else if !ok || !slices.Equal(got, want) {
		t.Errorf("%s = %v, %v, want %v", call, got, ok, want)
	}
}

// roundedTo returns the integer to which n divided by a divisor greater than 0 is nearest, halves up, without dividing.
func roundedTo(n int, divisor int) int {
	nearest := 0
	for 2*n >= (2*nearest+1)*divisor {
		nearest++
	}
	for 2*n < (2*nearest-1)*divisor {
		nearest--
	}
	return nearest
}

// middleOf expects a form.
func middleOf(l []impl.Spot) impl.Spot {
	x, y := 0, 0
	for _, a := range l {
		x += a.X
		y += a.Y
	}
	return impl.Spot{X: roundedTo(x, len(l)), Y: roundedTo(y, len(l))}
}

func TestRoundedTo(t *testing.T) {
	for _, c := range [][3]int{{0, 3, 0}, {1, 3, 0}, {2, 3, 1}, {1, 2, 1}, {-1, 2, 0}, {-2, 2, -1}, {-3, 2, -1}, {-5, 10, 0}, {-6, 10, -1}, {7, 1, 7}, {-7, 1, -7}} {
		if n := roundedTo(c[0], c[1]); n != c[2] {
			t.Error(c, n)
		}
	}
}

func TestChartIsValid(t *testing.T) {
	if impl.MaxPerformers != 12 {
		t.Error("limit", impl.MaxPerformers)
	}
	for _, l := range formPick() {
		if !impl.IsChart(l) || !isForm(l) {
			t.Error("chart", l)
		}
	}
	for _, l := range badForms() {
		if impl.IsChart(l) || isForm(l) {
			t.Error("no chart", l)
		}
	}
	for n := range 50 {
		if got := impl.IsChart(spotRow(impl.Spot{}, n, 1, 0)); got != (n >= 1 && n <= 12) {
			t.Error(n, got)
		}
	}
}

func TestBadFormsFail(t *testing.T) {
	good := []impl.Spot{{X: 300, Y: 300}, {X: 310, Y: 320}}
	for _, l := range badForms() {
		for _, p := range [][2][]impl.Spot{{l, good}, {good, l}, {l, l}} {
			x, ok := impl.JoinForms(p[0], p[1])
			wantNone(t, "JoinForms", x, ok)
		}
		a, ok := impl.MiddleSpot(l)
		wantZero(t, "MiddleSpot", a, ok)
		for _, percent := range []int{1, 100, 400} {
			x, ok := impl.SpreadForm(l, percent)
			wantNone(t, "SpreadForm", x, ok)
		}
		for quarters := range 4 {
			x, ok := impl.TurnForm(l, quarters)
			wantNone(t, "TurnForm", x, ok)
		}
		a, b, ok := impl.BoundsOf(l)
		wantZero(t, "BoundsOf", [2]impl.Spot{a, b}, ok)
		n, ok := impl.InnerRoom(l)
		wantZero(t, "InnerRoom", n, ok)
		n, ok = impl.LeastSquare(l)
		wantZero(t, "LeastSquare", n, ok)
	}
}

func TestBadSpotsMakeNoForm(t *testing.T) {
	good := impl.Spot{X: 640, Y: 336}
	for _, bad := range badSpots() {
		for n := 1; n <= 12; n++ {
			for _, p := range [][2]impl.Spot{{bad, good}, {good, bad}, {bad, bad}} {
				l, ok := impl.LineOf(p[0], p[1], n)
				wantNone(t, "LineOf", l, ok)
				l, ok = impl.PolyLine(p[:], n)
				wantNone(t, "PolyLine", l, ok)
			}
			l, ok := impl.WedgeOf(bad, n, 8, 16)
			wantNone(t, "WedgeOf", l, ok)
			l, ok = impl.BlockOf(bad, n, 1, 8, 16)
			wantNone(t, "BlockOf", l, ok)
			l, ok = impl.BlockOf(bad, 1, n, -8, -16)
			wantNone(t, "BlockOf", l, ok)
		}
	}
}

func TestBadNumbersOfPerformers(t *testing.T) {
	a, b := impl.Spot{X: 640, Y: 336}, impl.Spot{X: 700, Y: 400}
	for _, n := range []int{0, -1, 13, -12, 14, 40, 1 << 32, 1<<32 + 3, math.MinInt32, math.MaxInt, math.MinInt} {
		l, ok := impl.LineOf(a, b, n)
		wantNone(t, "LineOf", l, ok)
		l, ok = impl.WedgeOf(a, n, 1, 1)
		wantNone(t, "WedgeOf", l, ok)
		l, ok = impl.PolyLine([]impl.Spot{a, b}, n)
		wantNone(t, "PolyLine", l, ok)
		for _, p := range [][2]int{{n, 1}, {1, n}, {n, n}, {n, -n}, {n, 0}, {0, n}} {
			l, ok = impl.BlockOf(a, p[0], p[1], 1, 1)
			wantNone(t, "BlockOf", l, ok)
		}
	}
}

// lineSpots lists the spots of a line one by one.
func lineSpots(a impl.Spot, b impl.Spot, n int) []impl.Spot {
	l := []impl.Spot{a}
	for k := 1; k < n; k++ {
		l = append(l, impl.Spot{X: a.X + roundedTo(k*(b.X-a.X), n-1), Y: a.Y + roundedTo(k*(b.Y-a.Y), n-1)})
	}
	return l
}

func TestLineOf(t *testing.T) {
	for _, c := range []struct {
		a, b impl.Spot
		want []impl.Spot
	}{
		{impl.Spot{X: 0, Y: 0}, impl.Spot{X: 10, Y: 20}, []impl.Spot{{X: 0, Y: 0}, {X: 3, Y: 7}, {X: 7, Y: 13}, {X: 10, Y: 20}}},
		{impl.Spot{X: 10, Y: 20}, impl.Spot{X: 0, Y: 0}, []impl.Spot{{X: 10, Y: 20}, {X: 7, Y: 13}, {X: 3, Y: 7}, {X: 0, Y: 0}}},
		// Halves go up on the way back too.
		{impl.Spot{X: 0, Y: 5}, impl.Spot{X: 3, Y: 0}, []impl.Spot{{X: 0, Y: 5}, {X: 2, Y: 3}, {X: 3, Y: 0}}},
		{impl.Spot{X: 3, Y: 0}, impl.Spot{X: 0, Y: 5}, []impl.Spot{{X: 3, Y: 0}, {X: 2, Y: 3}, {X: 0, Y: 5}}},
		{impl.Spot{X: 1280, Y: 672}, impl.Spot{X: 0, Y: 0}, []impl.Spot{{X: 1280, Y: 672}, {X: 0, Y: 0}}},
		{impl.Spot{X: 7, Y: 9}, impl.Spot{X: 7, Y: 10}, []impl.Spot{{X: 7, Y: 9}, {X: 7, Y: 10}}},
		{impl.Spot{X: 83, Y: 16}, impl.Spot{X: 0, Y: 0}, []impl.Spot{{X: 83, Y: 16}}},
		{impl.Spot{X: 83, Y: 16}, impl.Spot{X: 83, Y: 16}, []impl.Spot{{X: 83, Y: 16}}},
		// Two or more spots do not fit between equal ends, nor three between neighbours.
		{impl.Spot{X: 83, Y: 16}, impl.Spot{X: 83, Y: 16}, sameSpots(impl.Spot{X: 83, Y: 16}, 2)},
		{impl.Spot{X: 83, Y: 16}, impl.Spot{X: 84, Y: 16}, []impl.Spot{{X: 83, Y: 16}, {X: 84, Y: 16}, {X: 84, Y: 16}}},
		{impl.Spot{X: 0, Y: 0}, impl.Spot{X: 10, Y: 0}, append(spotRow(impl.Spot{}, 11, 1, 0), impl.Spot{X: 10, Y: 0})},
		{impl.Spot{X: 0, Y: 0}, impl.Spot{X: 11, Y: 0}, spotRow(impl.Spot{}, 12, 1, 0)},
	} {
		l, ok := impl.LineOf(c.a, c.b, len(c.want))
		wantForm(t, "LineOf", l, ok, c.want)
	}
	for _, a := range spotPick() {
		for _, b := range spotPick() {
			for n := 1; n <= 12; n++ {
				l, ok := impl.LineOf(a, b, n)
				wantForm(t, "LineOf", l, ok, lineSpots(a, b, n))
			}
		}
	}
}

// TestLinesEndWhereTold checks the first half of guarantee 3: a line begins at a and ends at b, and each spot is at most half an eighth of a step, in X and in Y, from its part of the line.
func TestLinesEndWhereTold(t *testing.T) {
	made := 0
	for _, a := range spotPick() {
		for _, b := range spotPick() {
			for n := 2; n <= 12; n++ {
				l, ok := impl.LineOf(a, b, n)
				if !ok {
					continue
				}
				made++
				if len(l) != n || l[0] != a || l[n-1] != b {
					t.Fatal(a, b, n, l)
				}
				for k, c := range l {
					x, y := (n-1)*(c.X-a.X)-k*(b.X-a.X), (n-1)*(c.Y-a.Y)-k*(b.Y-a.Y)
					if 2*max(x, -x, y, -y) > n-1 {
						t.Fatal(a, b, n, k, c)
					}
				}
				p, ok := impl.PolyLine([]impl.Spot{a, b}, n)
				if !ok || p[0] != a || p[n-1] != b {
					t.Fatal("of one way", a, b, n, p, ok)
				}
			}
		}
	}
	if made == 0 {
		t.Error("no line was made")
	}
}

func TestBlockOf(t *testing.T) {
	a := impl.Spot{X: 640, Y: 336}
	l, ok := impl.BlockOf(impl.Spot{X: 80, Y: 16}, 2, 3, 8, 16)
	wantForm(t, "BlockOf", l, ok, []impl.Spot{{X: 80, Y: 16}, {X: 88, Y: 16}, {X: 96, Y: 16}, {X: 80, Y: 32}, {X: 88, Y: 32}, {X: 96, Y: 32}})
	for _, x := range []int{0, 1, -1, 8, -17, 200, -200} {
		for _, y := range []int{0, 1, -1, 8, -29, 200, -200} {
			for rows := 1; rows <= 12; rows++ {
				for files := 1; files <= 12; files++ {
					var want []impl.Spot
					for row := range rows {
						want = append(want, spotRow(impl.Spot{X: a.X, Y: a.Y + row*y}, files, x, 0)...)
					}
					l, ok := impl.BlockOf(a, rows, files, x, y)
					wantForm(t, "BlockOf", l, ok, want)
				}
			}
		}
	}
	// The limits hold for a block of one performer too.
	for _, bad := range []int{201, -201, 2000, 1 << 32, math.MaxInt, math.MinInt} {
		for _, p := range [][2]int{{bad, 1}, {1, bad}, {bad, bad}, {bad, -bad}} {
			for _, n := range []int{1, 2} {
				l, ok := impl.BlockOf(a, n, n, p[0], p[1])
				wantNone(t, "BlockOf", l, ok)
			}
		}
	}
}

func TestBlocksAtTheEdge(t *testing.T) {
	for _, c := range []struct {
		a                 impl.Spot
		rows, files, x, y int
		ok                bool
	}{
		{impl.Spot{X: 1280, Y: 672}, 1, 1, 200, 200, true},
		{impl.Spot{X: 0, Y: 0}, 1, 1, -200, -200, true},
		{impl.Spot{X: 0, Y: 0}, 1, 7, 200, 0, true},
		{impl.Spot{X: 80, Y: 0}, 1, 7, 200, 0, true},
		{impl.Spot{X: 81, Y: 0}, 1, 7, 200, 0, false},
		{impl.Spot{X: 1200, Y: 0}, 1, 7, -200, 0, true},
		{impl.Spot{X: 1199, Y: 0}, 1, 7, -200, 0, false},
		{impl.Spot{X: 5, Y: 72}, 4, 3, 1, 200, true},
		{impl.Spot{X: 5, Y: 73}, 4, 3, 1, 200, false},
		{impl.Spot{X: 5, Y: 600}, 4, 3, 1, -200, true},
		{impl.Spot{X: 5, Y: 599}, 4, 3, 1, -200, false},
		{impl.Spot{X: 5, Y: 5}, 12, 1, 0, 1, true},
		{impl.Spot{X: 5, Y: 5}, 1, 12, 1, 0, true},
		{impl.Spot{X: 5, Y: 5}, 1, 13, 1, 1, false},
		{impl.Spot{X: 5, Y: 5}, 2, 7, 1, 1, false},
		{impl.Spot{X: 5, Y: 5}, 1, 1, 0, 0, true},
		{impl.Spot{X: 5, Y: 5}, 2, 1, 1, 0, false},
		{impl.Spot{X: 5, Y: 5}, 1, 2, 0, 1, false},
	} {
		l, ok := impl.BlockOf(c.a, c.rows, c.files, c.x, c.y)
		if ok != c.ok || ok && len(l) != c.rows*c.files || !ok && len(l) != 0 {
			t.Error(c, l, ok)
		}
	}
}

// wedgeSpots lists the spots of a wedge one by one.
func wedgeSpots(a impl.Spot, n int, x int, y int) []impl.Spot {
	l := []impl.Spot{a}
	for i := 1; i < n; i++ {
		k := (i + 1) / 2
		if i%2 == 1 {
			l = append(l, impl.Spot{X: a.X + k*x, Y: a.Y + k*y})
		} else {
			l = append(l, impl.Spot{X: a.X - k*x, Y: a.Y + k*y})
		}
	}
	return l
}

func TestWedgeOf(t *testing.T) {
	l, ok := impl.WedgeOf(impl.Spot{X: 80, Y: 0}, 3, 8, 16)
	wantForm(t, "WedgeOf", l, ok, []impl.Spot{{X: 80, Y: 0}, {X: 88, Y: 16}, {X: 72, Y: 16}})
	l, ok = impl.WedgeOf(impl.Spot{X: 80, Y: 100}, 6, -8, -16)
	wantForm(t, "WedgeOf", l, ok, []impl.Spot{{X: 80, Y: 100}, {X: 72, Y: 84}, {X: 88, Y: 84}, {X: 64, Y: 68}, {X: 96, Y: 68}, {X: 56, Y: 52}})
	for _, a := range append(spotPick(), impl.Spot{X: 640, Y: 336}) {
		for _, x := range []int{0, 1, -1, 8, -17, 106, 107, 128, -128, 129, 200, -201, 640, -640, 641, 1280, 1281} {
			for _, y := range []int{0, 1, -1, 8, -29, 56, -67, 112, 200, -201, 336, 337, -672, 673} {
				for n := 1; n <= 12; n++ {
					l, ok := impl.WedgeOf(a, n, x, y)
					wantForm(t, "WedgeOf", l, ok, wedgeSpots(a, n, x, y))
				}
			}
		}
	}
}

func TestWedgesAtTheEdge(t *testing.T) {
	// The second spot of a pair need not be on the field if it is left out.
	l, ok := impl.WedgeOf(impl.Spot{X: 0, Y: 0}, 2, 1280, 672)
	wantForm(t, "WedgeOf", l, ok, []impl.Spot{{X: 0, Y: 0}, {X: 1280, Y: 672}})
	l, ok = impl.WedgeOf(impl.Spot{X: 0, Y: 0}, 3, 1280, 672)
	wantNone(t, "WedgeOf", l, ok)
	// Without x both spots of a pair are the same, without y they are not.
	l, ok = impl.WedgeOf(impl.Spot{X: 5, Y: 5}, 2, 0, 1)
	wantForm(t, "WedgeOf", l, ok, []impl.Spot{{X: 5, Y: 5}, {X: 5, Y: 6}})
	l, ok = impl.WedgeOf(impl.Spot{X: 5, Y: 5}, 3, 0, 1)
	wantNone(t, "WedgeOf", l, ok)
	l, ok = impl.WedgeOf(impl.Spot{X: 5, Y: 5}, 3, 1, 0)
	wantForm(t, "WedgeOf", l, ok, []impl.Spot{{X: 5, Y: 5}, {X: 6, Y: 5}, {X: 4, Y: 5}})
	// A wedge of one performer has no further spots, however far they would be.
	for _, x := range []int{0, 2000, 1 << 62, 1 << 32, math.MaxInt, math.MinInt} {
		for _, y := range []int{0, -2000, 1 << 62, -1 << 32, math.MaxInt, math.MinInt} {
			l, ok := impl.WedgeOf(impl.Spot{X: 5, Y: 5}, 1, x, y)
			wantForm(t, "WedgeOf", l, ok, []impl.Spot{{X: 5, Y: 5}})
			for n := 2; n <= 12 && (x != 0 || y != 0); n++ {
				l, ok := impl.WedgeOf(impl.Spot{X: 5, Y: 5}, n, x, y)
				wantNone(t, "WedgeOf", l, ok)
			}
		}
	}
}

// polySpots lists the spots of ways by going back from the end, at which the last way is whole.
func polySpots(l []impl.Spot, n int) []impl.Spot {
	if n == 1 {
		return l[:1]
	}
	ways := len(l) - 1
	var spots []impl.Spot
	for k := range n {
		i := ways - 1
		for i > 0 && i*(n-1) > k*ways {
			i--
		}
		part := k*ways - i*(n-1)
		x, y := part*(l[i+1].X-l[i].X), part*(l[i+1].Y-l[i].Y)
		spots = append(spots, impl.Spot{X: l[i].X + roundedTo(x, n-1), Y: l[i].Y + roundedTo(y, n-1)})
	}
	return spots
}

// cornerPick holds lists of 2 to 8 corners, some of which are met twice, but not by neighbours.
func cornerPick() [][]impl.Spot {
	a, b, c, d := impl.Spot{X: 0, Y: 0}, impl.Spot{X: 1280, Y: 0}, impl.Spot{X: 1280, Y: 672}, impl.Spot{X: 0, Y: 672}
	picked := [][]impl.Spot{
		{a, b}, {c, a}, {a, c, d}, {a, b, c, d}, {d, b, a}, {a, b, a}, {a, b, c, d, a}, {a, b, a, b}, {b, d, b, d, b, d, b, d},
		{{X: 100, Y: 100}, {X: 107, Y: 113}, {X: 90, Y: 140}, {X: 10, Y: 141}},
		{{X: 9, Y: 9}, {X: 10, Y: 9}}, {{X: 9, Y: 9}, {X: 10, Y: 9}, {X: 10, Y: 10}},
	}
	var zigzag []impl.Spot
	for i := range 8 {
		zigzag = append(zigzag, impl.Spot{X: 50 + i*31, Y: 40 + i%2*277})
		if i > 0 {
			picked = append(picked, slices.Clone(zigzag))
		}
	}
	return picked
}

func TestPolyLine(t *testing.T) {
	l, ok := impl.PolyLine([]impl.Spot{{X: 0, Y: 0}, {X: 10, Y: 0}, {X: 10, Y: 100}}, 5)
	wantForm(t, "PolyLine", l, ok, []impl.Spot{{X: 0, Y: 0}, {X: 5, Y: 0}, {X: 10, Y: 0}, {X: 10, Y: 50}, {X: 10, Y: 100}})
	l, ok = impl.PolyLine([]impl.Spot{{X: 0, Y: 0}, {X: 10, Y: 0}, {X: 10, Y: 100}}, 4)
	wantForm(t, "PolyLine", l, ok, []impl.Spot{{X: 0, Y: 0}, {X: 7, Y: 0}, {X: 10, Y: 33}, {X: 10, Y: 100}})
	// Halves of a way go up, also of one that goes back.
	l, ok = impl.PolyLine([]impl.Spot{{X: 0, Y: 7}, {X: 5, Y: 0}, {X: 0, Y: 20}}, 5)
	wantForm(t, "PolyLine", l, ok, []impl.Spot{{X: 0, Y: 7}, {X: 3, Y: 4}, {X: 5, Y: 0}, {X: 3, Y: 10}, {X: 0, Y: 20}})
	made := 0
	for _, corners := range cornerPick() {
		for n := 1; n <= 12; n++ {
			l, ok := impl.PolyLine(corners, n)
			wantForm(t, "PolyLine", l, ok, polySpots(corners, n))
			if ok && n > 1 {
				made++
				if l[0] != corners[0] || l[n-1] != corners[len(corners)-1] {
					t.Error("ends", corners, n, l)
				}
			}
			if len(corners) == 2 {
				line, okLine := impl.LineOf(corners[0], corners[1], n)
				if ok != okLine || !slices.Equal(l, line) {
					t.Error("of one way", corners, n, l, line)
				}
			}
		}
	}
	if made == 0 {
		t.Error("no line was made")
	}
}

func TestBadCorners(t *testing.T) {
	a, b, c := impl.Spot{X: 5, Y: 5}, impl.Spot{X: 50, Y: 5}, impl.Spot{X: 50, Y: 60}
	lists := [][]impl.Spot{
		nil, {}, {a}, {a, a}, {a, a, b}, {a, b, b}, {a, b, b, c}, {a, b, c, c},
		spotRow(a, 9, 10, 1), spotRow(a, 12, 10, 1), spotRow(a, 41, 10, 1), append(spotRow(a, 7, 10, 1), impl.Spot{X: 65, Y: 11}),
	}
	for _, bad := range badSpots() {
		lists = append(lists, []impl.Spot{bad, a}, []impl.Spot{a, bad, b}, append(spotRow(a, 7, 10, 1), bad))
	}
	for _, l := range lists {
		for n := 1; n <= 12; n++ {
			x, ok := impl.PolyLine(l, n)
			wantNone(t, "PolyLine", x, ok)
		}
	}
	// One performer stands on the first corner, even if the last one is the same.
	x, ok := impl.PolyLine([]impl.Spot{a, b, a}, 1)
	wantForm(t, "PolyLine", x, ok, []impl.Spot{a})
	x, ok = impl.PolyLine([]impl.Spot{a, b, a}, 2)
	wantNone(t, "PolyLine", x, ok)
	x, ok = impl.PolyLine(spotRow(a, 8, 10, 1), 8)
	wantForm(t, "PolyLine", x, ok, spotRow(a, 8, 10, 1))
}

func TestJoinForms(t *testing.T) {
	joined, refused := 0, 0
	for _, a := range formPick() {
		for _, b := range formPick() {
			l, ok := impl.JoinForms(a, b)
			wantForm(t, "JoinForms", l, ok, slices.Concat(a, b))
			if ok {
				joined++
			} else {
				refused++
			}
		}
	}
	if joined == 0 || refused == 0 {
		t.Error("joined and refused", joined, refused)
	}
	row := spotRow(impl.Spot{X: 10, Y: 10}, 12, 3, 2)
	for n := 1; n <= 12; n++ {
		for m := 1; m <= 12; m++ {
			below := spotRow(impl.Spot{X: 10, Y: 300}, m, 3, 2)
			l, ok := impl.JoinForms(row[:n], below)
			wantForm(t, "JoinForms", l, ok, slices.Concat(row[:n], below))
		}
	}
	// A spot of both forms is met twice.
	l, ok := impl.JoinForms(row[:3], []impl.Spot{{X: 0, Y: 0}, row[2]})
	wantNone(t, "JoinForms", l, ok)
	l, ok = impl.JoinForms(row[:3], row[:3])
	wantNone(t, "JoinForms", l, ok)
}

func TestMiddleSpot(t *testing.T) {
	for _, c := range []struct {
		l    []impl.Spot
		want impl.Spot
	}{
		{[]impl.Spot{{X: 83, Y: 16}}, impl.Spot{X: 83, Y: 16}},
		{[]impl.Spot{{X: 0, Y: 0}, {X: 1, Y: 3}}, impl.Spot{X: 1, Y: 2}},
		{[]impl.Spot{{X: 0, Y: 0}, {X: 0, Y: 1}, {X: 1, Y: 1}}, impl.Spot{X: 0, Y: 1}},
		{[]impl.Spot{{X: 0, Y: 0}, {X: 1280, Y: 0}, {X: 1280, Y: 672}, {X: 0, Y: 672}}, impl.Spot{X: 640, Y: 336}},
		{[]impl.Spot{{X: 1280, Y: 672}, {X: 1279, Y: 672}}, impl.Spot{X: 1280, Y: 672}},
		{[]impl.Spot{{X: 1280, Y: 672}, {X: 1279, Y: 672}, {X: 1279, Y: 671}}, impl.Spot{X: 1279, Y: 672}},
		{spotRow(impl.Spot{}, 12, 1, 0), impl.Spot{X: 6, Y: 0}},
	} {
		if a, ok := impl.MiddleSpot(c.l); !ok || a != c.want {
			t.Error(c.l, a, ok, "want", c.want)
		}
	}
	for _, l := range formPick() {
		if a, ok := impl.MiddleSpot(l); !ok || a != middleOf(l) {
			t.Error(l, a, ok)
		}
	}
}

// spreadSpots multiplies the differences from the middle of a form.
func spreadSpots(l []impl.Spot, percent int) []impl.Spot {
	m := middleOf(l)
	var spread []impl.Spot
	for _, a := range l {
		x, y := roundedTo((a.X-m.X)*percent, 100), roundedTo((a.Y-m.Y)*percent, 100)
		spread = append(spread, impl.Spot{X: m.X + x, Y: m.Y + y})
	}
	return spread
}

func TestSpreadForm(t *testing.T) {
	square := []impl.Spot{{X: 100, Y: 100}, {X: 104, Y: 100}, {X: 104, Y: 104}, {X: 100, Y: 104}}
	l, ok := impl.SpreadForm(square, 400)
	wantForm(t, "SpreadForm", l, ok, []impl.Spot{{X: 94, Y: 94}, {X: 110, Y: 94}, {X: 110, Y: 110}, {X: 94, Y: 110}})
	// Halves of a difference go up on both sides of the middle.
	l, ok = impl.SpreadForm(square, 125)
	wantForm(t, "SpreadForm", l, ok, []impl.Spot{{X: 100, Y: 100}, {X: 105, Y: 100}, {X: 105, Y: 105}, {X: 100, Y: 105}})
	for _, c := range formPick() {
		for percent := 1; percent <= 400; percent++ {
			l, ok := impl.SpreadForm(c, percent)
			wantForm(t, "SpreadForm", l, ok, spreadSpots(c, percent))
		}
		l, ok := impl.SpreadForm(c, 100)
		wantForm(t, "SpreadForm", l, ok, c)
		for _, percent := range []int{0, -1, 401, -100, 1 << 32, 1<<32 + 100, math.MaxInt, math.MinInt} {
			l, ok := impl.SpreadForm(c, percent)
			wantNone(t, "SpreadForm", l, ok)
		}
	}
}

func TestSpreadFormsMeetTheEdge(t *testing.T) {
	// The first form just reaches the edge; that of the next call, an eighth further, is spread over it.
	l, ok := impl.SpreadForm([]impl.Spot{{X: 3, Y: 100}, {X: 5, Y: 100}}, 400)
	wantForm(t, "SpreadForm", l, ok, []impl.Spot{{X: 0, Y: 100}, {X: 8, Y: 100}})
	l, ok = impl.SpreadForm([]impl.Spot{{X: 2, Y: 100}, {X: 4, Y: 100}}, 400)
	wantNone(t, "SpreadForm", l, ok)
	l, ok = impl.SpreadForm([]impl.Spot{{X: 100, Y: 667}, {X: 100, Y: 669}}, 400)
	wantForm(t, "SpreadForm", l, ok, []impl.Spot{{X: 100, Y: 664}, {X: 100, Y: 672}})
	l, ok = impl.SpreadForm([]impl.Spot{{X: 100, Y: 668}, {X: 100, Y: 670}}, 400)
	wantNone(t, "SpreadForm", l, ok)
	// Spots that fall together are met twice; one performer has nothing to spread.
	l, ok = impl.SpreadForm([]impl.Spot{{X: 100, Y: 100}, {X: 120, Y: 100}}, 1)
	wantNone(t, "SpreadForm", l, ok)
	l, ok = impl.SpreadForm([]impl.Spot{{X: 100, Y: 100}, {X: 200, Y: 100}}, 1)
	wantForm(t, "SpreadForm", l, ok, []impl.Spot{{X: 150, Y: 100}, {X: 151, Y: 100}})
	l, ok = impl.SpreadForm([]impl.Spot{{X: 0, Y: 672}}, 400)
	wantForm(t, "SpreadForm", l, ok, []impl.Spot{{X: 0, Y: 672}})
}

func TestTurnForm(t *testing.T) {
	l := []impl.Spot{{X: 100, Y: 200}, {X: 110, Y: 200}, {X: 110, Y: 204}, {X: 80, Y: 196}}
	for quarters, want := range [][]impl.Spot{
		l,
		{{X: 100, Y: 200}, {X: 100, Y: 210}, {X: 96, Y: 210}, {X: 104, Y: 180}},
		{{X: 100, Y: 200}, {X: 90, Y: 200}, {X: 90, Y: 196}, {X: 120, Y: 204}},
		{{X: 100, Y: 200}, {X: 100, Y: 190}, {X: 104, Y: 190}, {X: 96, Y: 220}},
	} {
		x, ok := impl.TurnForm(l, quarters)
		wantForm(t, "TurnForm", x, ok, want)
	}
	for _, c := range formPick() {
		m := middleOf(c)
		turned := slices.Clone(c)
		for quarters := range 4 {
			x, ok := impl.TurnForm(c, quarters)
			wantForm(t, "TurnForm", x, ok, turned)
			for i, a := range turned {
				turned[i] = impl.Spot{X: m.X - (a.Y - m.Y), Y: m.Y + a.X - m.X}
			}
		}
		for _, quarters := range []int{-1, 4, -4, 5, 1 << 32, 1<<32 + 1, math.MaxInt, math.MinInt} {
			x, ok := impl.TurnForm(c, quarters)
			wantNone(t, "TurnForm", x, ok)
		}
	}
	// A row along the lower edge has room for its turn or not.
	x, ok := impl.TurnForm(spotRow(impl.Spot{X: 600, Y: 4}, 9, 1, 0), 1)
	wantForm(t, "TurnForm", x, ok, spotRow(impl.Spot{X: 604, Y: 0}, 9, 0, 1))
	x, ok = impl.TurnForm(spotRow(impl.Spot{X: 600, Y: 3}, 9, 1, 0), 1)
	wantNone(t, "TurnForm", x, ok)
}

// TestTurnedFormsKeepTheirDistances checks the second half of guarantee 3.
func TestTurnedFormsKeepTheirDistances(t *testing.T) {
	turned := 0
	for _, l := range formPick() {
		for quarters := range 4 {
			x, ok := impl.TurnForm(l, quarters)
			if !ok {
				continue
			}
			turned++
			for i := range l {
				for k := range l {
					before, _ := impl.SquareOf(l[i], l[k])
					if after, ok := impl.SquareOf(x[i], x[k]); !ok || after != before {
						t.Error(l, quarters, i, k, before, after)
					}
				}
			}
			before, _ := impl.InnerRoom(l)
			if after, ok := impl.InnerRoom(x); !ok || after != before {
				t.Error(l, quarters, "room", before, after)
			}
		}
	}
	if turned == 0 {
		t.Error("no form was turned")
	}
}

func TestBoundsOf(t *testing.T) {
	for _, c := range []struct {
		l               []impl.Spot
		least, greatest impl.Spot
	}{
		{[]impl.Spot{{X: 83, Y: 16}}, impl.Spot{X: 83, Y: 16}, impl.Spot{X: 83, Y: 16}},
		{[]impl.Spot{{X: 3, Y: 90}, {X: 70, Y: 5}}, impl.Spot{X: 3, Y: 5}, impl.Spot{X: 70, Y: 90}},
		{[]impl.Spot{{X: 50, Y: 50}, {X: 70, Y: 60}, {X: 40, Y: 55}, {X: 60, Y: 10}}, impl.Spot{X: 40, Y: 10}, impl.Spot{X: 70, Y: 60}},
		{[]impl.Spot{{X: 1280, Y: 0}, {X: 0, Y: 672}}, impl.Spot{}, impl.Spot{X: 1280, Y: 672}},
		{spotRow(impl.Spot{X: 1280, Y: 671}, 12, -1, 0), impl.Spot{X: 1269, Y: 671}, impl.Spot{X: 1280, Y: 671}},
	} {
		a, b, ok := impl.BoundsOf(c.l)
		if !ok || a != c.least || b != c.greatest {
			t.Error(c.l, a, b, ok)
		}
	}
	for _, l := range formPick() {
		var x, y []int
		for _, a := range l {
			x, y = append(x, a.X), append(y, a.Y)
		}
		a, b, ok := impl.BoundsOf(l)
		if !ok || a != (impl.Spot{X: slices.Min(x), Y: slices.Min(y)}) || b != (impl.Spot{X: slices.Max(x), Y: slices.Max(y)}) {
			t.Error(l, a, b, ok)
		}
	}
}

func TestInnerRoom(t *testing.T) {
	for _, c := range []struct {
		l    []impl.Spot
		want int
	}{
		{[]impl.Spot{{X: 0, Y: 0}, {X: 24, Y: 32}, {X: 24, Y: 40}}, 64},
		{[]impl.Spot{{X: 0, Y: 0}, {X: 24, Y: 32}}, 1600},
		{[]impl.Spot{{X: 0, Y: 0}, {X: 1280, Y: 672}}, 2089984},
		{[]impl.Spot{{X: 7, Y: 7}, {X: 300, Y: 300}, {X: 600, Y: 7}, {X: 8, Y: 8}}, 2},
		{spotRow(impl.Spot{X: 1280, Y: 671}, 12, -1, 0), 1},
		{append(spotRow(impl.Spot{X: 0, Y: 0}, 11, 40, 9), impl.Spot{X: 400, Y: 93}), 9},
	} {
		if n, ok := impl.InnerRoom(c.l); !ok || n != c.want {
			t.Error(c.l, n, ok, "want", c.want)
		}
		if n, ok := impl.LeastSquare(c.l); !ok || n != c.want {
			t.Error(c.l, n, ok, "want", c.want)
		}
	}
	for _, l := range formPick() {
		var squares []int
		for i, a := range l {
			for _, b := range l[i+1:] {
				squares = append(squares, (a.X-b.X)*(a.X-b.X)+(a.Y-b.Y)*(a.Y-b.Y))
			}
		}
		n, ok := impl.LeastSquare(l)
		room, okRoom := impl.InnerRoom(l)
		if len(l) == 1 {
			// One performer has room 0, but no square with another one.
			wantZero(t, "LeastSquare", n, ok)
			if !okRoom || room != 0 {
				t.Error(l, room, okRoom)
			}
		} else if least := slices.Min(squares); !ok || !okRoom || n != least || room != least {
			t.Error(l, n, ok, room, okRoom, "want", least)
		}
	}
}
