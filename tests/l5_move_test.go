package tests

import (
	"math"
	"slices"
	"strconv"
	"strings"
	"testing"

	"loop.example/g00939/impl"
)

func moveOf(fromX int, fromY int, toX int, toY int, counts int) impl.Move {
	return impl.Move{From: impl.Spot{X: fromX, Y: fromY}, To: impl.Spot{X: toX, Y: toY}, Counts: counts}
}

// movePick holds moves of few and of many counts that go nowhere, straight, aslant and across the field, with growing and with falling X and Y.
func movePick() []impl.Move {
	ends := []impl.Spot{{X: 0, Y: 0}, {X: impl.MaxX, Y: 0}, {X: 0, Y: impl.MaxY}, {X: impl.MaxX, Y: impl.MaxY}, {X: 83, Y: 16}, {X: 95, Y: 32}, {X: 84, Y: 15}, {X: 640, Y: 336}, {X: 704, Y: 337}, {X: 639, Y: 272}}
	var l []impl.Move
	for _, counts := range []int{1, 2, 3, 4, 5, 7, 8, 12, 16, 31, 32, 60, 63, 64} {
		for _, a := range ends {
			for _, b := range ends {
				l = append(l, impl.Move{From: a, To: b, Counts: counts})
			}
		}
	}
	return l
}

// smallMoves holds all moves between the spots with X in 0..x and Y in 0..y in 1 to most counts.
func smallMoves(x int, y int, most int) []impl.Move {
	var spots []impl.Spot
	for i := range (x + 1) * (y + 1) {
		spots = append(spots, impl.Spot{X: i % (x + 1), Y: i / (x + 1)})
	}
	var l []impl.Move
	for _, a := range spots {
		for _, b := range spots {
			for counts := 1; counts <= most; counts++ {
				l = append(l, impl.Move{From: a, To: b, Counts: counts})
			}
		}
	}
	return l
}

// badCounts holds numbers of counts that no move has.
func badCounts() []int {
	return append(outside(64), 0, -64, 128, 1<<32+8, math.MinInt+1, math.MaxInt-1)
}

// badMoves holds moves with one or both spots off the field, or with bad counts.
func badMoves() []impl.Move {
	a, b := impl.Spot{X: 83, Y: 16}, impl.Spot{X: 95, Y: 32}
	var l []impl.Move
	for _, bad := range badSpots() {
		l = append(l, impl.Move{From: bad, To: b, Counts: 4}, impl.Move{From: a, To: bad, Counts: 4}, impl.Move{From: bad, To: bad, Counts: 4}, impl.Move{From: bad, To: bad})
	}
	for _, counts := range badCounts() {
		l = append(l, impl.Move{From: a, To: b, Counts: counts}, impl.Move{From: a, To: a, Counts: counts})
	}
	return append(l, impl.Move{})
}

// badSteps holds numbers that are no step.
func badSteps() []int {
	return append(outside(24), 0, -24, 48, 1<<32+1, math.MinInt+1, math.MaxInt-1)
}

// placeTimes returns X and Y after a count, times Counts, by adding the way count by count.
func placeTimes(m impl.Move, count int) (int, int) {
	x, y := m.From.X*m.Counts, m.From.Y*m.Counts
	for range count {
		x, y = x+m.To.X-m.From.X, y+m.To.Y-m.From.Y
	}
	return x, y
}

// isWholeAt reports whether a move is at whole eighths after a count.
func isWholeAt(m impl.Move, count int) bool {
	x, y := placeTimes(m, count)
	return x%m.Counts == 0 && y%m.Counts == 0
}

// partsAt returns the parts of a move that is at whole eighths after a count.
func partsAt(m impl.Move, count int) [2]impl.Move {
	x, y := placeTimes(m, count)
	middle := impl.Spot{X: x / m.Counts, Y: y / m.Counts}
	return [2]impl.Move{{From: m.From, To: middle, Counts: count}, {From: middle, To: m.To, Counts: m.Counts - count}}
}

func TestMovesAreValid(t *testing.T) {
	if impl.MaxCounts != 64 {
		t.Error("limit", impl.MaxCounts)
	}
	for _, m := range movePick() {
		if !impl.IsMove(m) {
			t.Error("move", m)
		}
	}
	for _, m := range badMoves() {
		if impl.IsMove(m) {
			t.Error("no move", m)
		}
	}
	for counts := -2; counts <= 66; counts++ {
		want := counts >= 1 && counts <= 64
		if impl.IsMove(moveOf(83, 16, 95, 32, counts)) != want || impl.IsMove(moveOf(83, 16, 83, 16, counts)) != want {
			t.Error(counts)
		}
	}
}

func TestBadMovesFail(t *testing.T) {
	good := moveOf(95, 32, 98, 36, 1)
	for _, m := range badMoves() {
		for _, count := range []int{0, 1, 2, m.Counts, -1} {
			x, y, ok := impl.PlaceAt(m, count)
			wantZero(t, "PlaceAt", [2]int{x, y}, ok)
			a, ok := impl.RoundedAt(m, count)
			wantZero(t, "RoundedAt", a, ok)
			p, q, ok := impl.SplitMove(m, count)
			wantZero(t, "SplitMove", [2]impl.Move{p, q}, ok)
		}
		n, d, ok := impl.StepSquare(m)
		wantZero(t, "StepSquare", [2]int{n, d}, ok)
		for _, step := range []int{1, 8, 24, 0, 25} {
			is, ok := impl.WithinStep(m, step)
			wantZero(t, "WithinStep", is, ok)
		}
		r, ok := impl.ReverseMove(m)
		wantZero(t, "ReverseMove", r, ok)
		for _, p := range [][2]impl.Move{{m, good}, {good, m}, {m, m}} {
			j, ok := impl.JoinMoves(p[0], p[1])
			wantZero(t, "JoinMoves", j, ok)
		}
		l, ok := impl.WholeCounts(m)
		wantNone(t, "WholeCounts", l, ok)
		s, ok := impl.MoveText(m)
		wantZero(t, "MoveText", s, ok)
	}
}

func TestPlaceAt(t *testing.T) {
	for _, c := range []struct {
		m           impl.Move
		count, x, y int
	}{
		{moveOf(0, 0, 12, 16, 8), 2, 24, 32},
		{moveOf(0, 0, 12, 16, 8), 1, 12, 16},
		{moveOf(0, 0, 12, 16, 8), 0, 0, 0},
		{moveOf(0, 0, 12, 16, 8), 8, 96, 128},
		{moveOf(12, 16, 0, 0, 8), 2, 72, 96},
		{moveOf(10, 16, 4, 20, 3), 1, 24, 52},
		{moveOf(83, 16, 83, 16, 64), 7, 5312, 1024},
		{moveOf(0, 672, 1280, 0, 1), 1, 1280, 0},
		{moveOf(0, 672, 1280, 0, 64), 63, 80640, 672},
	} {
		if x, y, ok := impl.PlaceAt(c.m, c.count); !ok || x != c.x || y != c.y {
			t.Error(c, x, y, ok)
		}
	}
	for _, m := range movePick() {
		for count := 0; count <= m.Counts; count++ {
			wantX, wantY := placeTimes(m, count)
			if x, y, ok := impl.PlaceAt(m, count); !ok || x != wantX || y != wantY {
				t.Fatal(m, count, x, y, ok)
			}
		}
		// Behind the last count the place is just at To.
		if x, y, ok := impl.PlaceAt(m, m.Counts); !ok || x != m.To.X*m.Counts || y != m.To.Y*m.Counts {
			t.Fatal(m, x, y, ok)
		}
	}
}

// TestBadCountsOfMoves has counts that a move doesn't have, also where it stands still or would stay on the field.
func TestBadCountsOfMoves(t *testing.T) {
	for _, m := range append(movePick(), moveOf(640, 336, 641, 336, 1), moveOf(640, 336, 640, 336, 1)) {
		for _, count := range append(outside(m.Counts), 1<<32+1, math.MinInt+1, m.Counts+64) {
			x, y, ok := impl.PlaceAt(m, count)
			wantZero(t, "PlaceAt", [2]int{x, y}, ok)
			a, ok := impl.RoundedAt(m, count)
			wantZero(t, "RoundedAt", a, ok)
			p, q, ok := impl.SplitMove(m, count)
			wantZero(t, "SplitMove", [2]impl.Move{p, q}, ok)
		}
	}
}

func TestRoundedAt(t *testing.T) {
	for _, c := range []struct {
		m           impl.Move
		count, x, y int
	}{
		{moveOf(0, 0, 12, 16, 8), 1, 2, 2},
		{moveOf(0, 0, 12, 16, 8), 2, 3, 4},
		{moveOf(0, 0, 12, 16, 8), 0, 0, 0},
		{moveOf(0, 0, 12, 16, 8), 8, 12, 16},
		// Halves go up on ways of both signs, in X and in Y.
		{moveOf(0, 0, 1, 1, 2), 1, 1, 1},
		{moveOf(1, 1, 0, 0, 2), 1, 1, 1},
		{moveOf(10, 20, 13, 17, 2), 1, 12, 19},
		{moveOf(10, 20, 7, 23, 2), 1, 9, 22},
		{moveOf(8, 9, 5, 4, 2), 1, 7, 7},
		{moveOf(1280, 672, 1279, 671, 2), 1, 1280, 672},
		// Just below a half and just above it, both ways.
		{moveOf(0, 10, 1, 9, 3), 1, 0, 10},
		{moveOf(0, 10, 1, 9, 3), 2, 1, 9},
		{moveOf(10, 0, 9, 1, 64), 31, 10, 0},
		{moveOf(10, 0, 9, 1, 64), 32, 10, 1},
		{moveOf(10, 0, 9, 1, 64), 33, 9, 1},
		{moveOf(83, 16, 83, 16, 64), 33, 83, 16},
		{moveOf(0, 672, 1280, 0, 1), 1, 1280, 0},
		{moveOf(0, 672, 1280, 0, 3), 1, 427, 448},
	} {
		if a, ok := impl.RoundedAt(c.m, c.count); !ok || a != (impl.Spot{X: c.x, Y: c.y}) {
			t.Error(c, a, ok)
		}
	}
	for _, m := range append(movePick(), smallMoves(5, 1, 8)...) {
		for count := 0; count <= m.Counts; count++ {
			x, y := placeTimes(m, count)
			want := impl.Spot{X: roundedTo(x, m.Counts), Y: roundedTo(y, m.Counts)}
			if a, ok := impl.RoundedAt(m, count); !ok || a != want {
				t.Fatal(m, count, a, ok, "want", want)
			}
		}
	}
}

// haveCommonDivisor tries all divisors of the second number.
func haveCommonDivisor(n int, d int) bool {
	for k := 2; k <= d; k++ {
		if n%k == 0 && d%k == 0 {
			return true
		}
	}
	return false
}

func TestStepSquare(t *testing.T) {
	for _, c := range []struct {
		m    impl.Move
		n, d int
	}{
		{moveOf(0, 0, 12, 16, 8), 25, 4},
		{moveOf(12, 16, 0, 0, 8), 25, 4},
		{moveOf(0, 16, 12, 0, 8), 25, 4},
		{moveOf(83, 16, 83, 16, 1), 0, 1},
		{moveOf(83, 16, 83, 16, 64), 0, 1},
		{moveOf(0, 0, 0, 0, 7), 0, 1},
		// Lower terms, down to whole numbers, and fractions that have none.
		{moveOf(0, 0, 64, 0, 64), 1, 1},
		{moveOf(0, 0, 64, 0, 32), 4, 1},
		{moveOf(0, 0, 32, 0, 64), 1, 4},
		{moveOf(0, 0, 1, 0, 64), 1, 4096},
		{moveOf(0, 0, 1, 1, 64), 1, 2048},
		{moveOf(5, 5, 4, 3, 3), 5, 9},
		{moveOf(5, 5, 4, 3, 5), 1, 5},
		{moveOf(0, 0, 3, 4, 1), 25, 1},
		{moveOf(0, 0, 3, 4, 15), 1, 9},
		{moveOf(0, 0, 1280, 672, 1), 2089984, 1},
		{moveOf(1280, 0, 0, 672, 64), 2041, 4},
		{moveOf(1280, 0, 0, 672, 63), 2089984, 3969},
	} {
		if n, d, ok := impl.StepSquare(c.m); !ok || n != c.n || d != c.d {
			t.Error(c, n, d, ok)
		}
	}
	lowered, kept := 0, 0
	for _, m := range append(movePick(), smallMoves(4, 3, 12)...) {
		n, d, ok := impl.StepSquare(m)
		if !ok || d < 1 || n*m.Counts*m.Counts != squareFrom(m.From, m.To)*d || haveCommonDivisor(n, d) {
			t.Fatal(m, n, d, ok)
		}
		if d < m.Counts*m.Counts {
			lowered++
		} else {
			kept++
		}
	}
	if lowered == 0 || kept == 0 {
		t.Error(lowered, kept)
	}
}

func TestWithinStep(t *testing.T) {
	for _, c := range []struct {
		m    impl.Move
		step int
		want bool
	}{
		// The step is 2 1/2.
		{moveOf(0, 0, 12, 16, 8), 3, true}, {moveOf(0, 0, 12, 16, 8), 2, false}, {moveOf(12, 16, 0, 0, 8), 2, false},
		// The square is just that of the step 5, or just above it.
		{moveOf(0, 0, 3, 4, 1), 5, true}, {moveOf(0, 0, 3, 4, 1), 4, false}, {moveOf(0, 0, 4, 4, 1), 5, false}, {moveOf(4, 3, 0, 0, 1), 5, true}, {moveOf(5, 0, 0, 1, 1), 5, false},
		{moveOf(83, 16, 83, 16, 1), 1, true}, {moveOf(83, 16, 83, 16, 64), 24, true},
		{moveOf(0, 0, 1, 0, 1), 1, true}, {moveOf(0, 0, 1, 1, 1), 1, false}, {moveOf(0, 0, 2, 0, 1), 1, false},
		{moveOf(0, 0, 1280, 0, 64), 20, true}, {moveOf(0, 0, 1280, 1, 64), 20, false}, {moveOf(1280, 1, 0, 0, 64), 21, true}, {moveOf(0, 0, 1280, 0, 64), 19, false},
		{moveOf(0, 0, 1280, 672, 64), 22, false}, {moveOf(0, 0, 1280, 672, 64), 23, true}, {moveOf(0, 0, 1280, 672, 1), 24, false},
	} {
		if is, ok := impl.WithinStep(c.m, c.step); !ok || is != c.want {
			t.Error(c, is, ok)
		}
	}
	for _, m := range append(movePick(), smallMoves(7, 3, 6)...) {
		for step := 1; step <= 24; step++ {
			want := squareFrom(m.From, m.To) <= step*step*m.Counts*m.Counts
			if is, ok := impl.WithinStep(m, step); !ok || is != want {
				t.Fatal(m, step, is, ok)
			}
		}
		for _, step := range badSteps() {
			is, ok := impl.WithinStep(m, step)
			wantZero(t, "WithinStep", is, ok)
		}
	}
}

// TestStepsAtTheirLimit has ways of each step times each number of counts, and ways that are longer by as little as can be.
func TestStepsAtTheirLimit(t *testing.T) {
	for step := 1; step <= 24; step++ {
		for counts := 1; counts <= 64; counts++ {
			way := step * counts
			if way > impl.MaxX {
				continue
			}
			for _, m := range []impl.Move{moveOf(0, 300, way, 300, counts), moveOf(way, 0, 0, 0, counts)} {
				if is, ok := impl.WithinStep(m, step); !ok || !is {
					t.Error(m, step, is, ok)
				}
				if n, ok := impl.LeastCounts(m.From, m.To, step); !ok || n != counts {
					t.Error(m, step, n, ok)
				}
				// One more in Y makes the square greater by 1.
				m.To.Y++
				if is, ok := impl.WithinStep(m, step); !ok || is {
					t.Error(m, step, is, ok)
				}
				n, ok := impl.LeastCounts(m.From, m.To, step)
				if counts == 64 {
					wantZero(t, "LeastCounts", n, ok)
				} else if !ok || n != counts+1 {
					t.Error(m, step, n, ok)
				}
			}
		}
	}
}

func TestLeastCounts(t *testing.T) {
	for _, c := range []struct {
		m    impl.Move // Its Counts are the least ones.
		step int
	}{
		{moveOf(83, 16, 83, 16, 1), 1}, {moveOf(83, 16, 83, 16, 1), 24},
		{moveOf(0, 0, 12, 16, 20), 1}, {moveOf(0, 0, 12, 16, 10), 2}, {moveOf(0, 0, 12, 16, 7), 3}, {moveOf(0, 0, 12, 16, 1), 20}, {moveOf(12, 16, 0, 0, 2), 19},
		{moveOf(0, 0, 64, 0, 64), 1}, {moveOf(5, 64, 5, 0, 64), 1}, {moveOf(0, 0, 0, 1, 1), 1}, {moveOf(0, 0, 1, 1, 2), 1},
		{moveOf(0, 0, 1280, 0, 64), 20}, {moveOf(0, 0, 1280, 586, 64), 22}, {moveOf(1280, 672, 0, 0, 61), 24}, {moveOf(1280, 0, 0, 672, 63), 23},
	} {
		if n, ok := impl.LeastCounts(c.m.From, c.m.To, c.step); !ok || n != c.m.Counts {
			t.Error(c, n, ok)
		}
	}
	// All of these ways need 65 counts or more.
	for _, c := range []struct {
		a, b impl.Spot
		step int
	}{
		{impl.Spot{X: 0, Y: 0}, impl.Spot{X: 65, Y: 0}, 1},
		{impl.Spot{X: 0, Y: 0}, impl.Spot{X: 64, Y: 1}, 1},
		{impl.Spot{X: 52, Y: 39}, impl.Spot{X: 0, Y: 0}, 1},
		{impl.Spot{X: 0, Y: 0}, impl.Spot{X: 1280, Y: 1}, 20},
		{impl.Spot{X: 0, Y: 0}, impl.Spot{X: 1280, Y: 587}, 22},
		{impl.Spot{X: 0, Y: 0}, impl.Spot{X: 1280, Y: 0}, 19},
		{impl.Spot{X: 0, Y: 672}, impl.Spot{X: 1280, Y: 0}, 22},
		{impl.Spot{X: 0, Y: 672}, impl.Spot{X: 1280, Y: 0}, 1},
	} {
		n, ok := impl.LeastCounts(c.a, c.b, c.step)
		wantZero(t, "LeastCounts", n, ok)
	}
}

// TestLeastCountsJustSuffice checks the first half of guarantee 5.
func TestLeastCountsJustSuffice(t *testing.T) {
	made, failed := 0, 0
	for _, a := range spotPick() {
		for _, b := range spotPick() {
			for step := 1; step <= 24; step++ {
				n, ok := impl.LeastCounts(a, b, step)
				if !ok {
					failed++
					wantZero(t, "LeastCounts", n, ok)
					if is, ok := impl.WithinStep(impl.Move{From: a, To: b, Counts: 64}, step); !ok || is {
						t.Fatal(a, b, step, is, ok)
					}
					continue
				}
				made++
				if is, ok := impl.WithinStep(impl.Move{From: a, To: b, Counts: n}, step); !ok || !is {
					t.Fatal(a, b, step, n, is, ok)
				}
				if n > 1 {
					if is, ok := impl.WithinStep(impl.Move{From: a, To: b, Counts: n - 1}, step); !ok || is {
						t.Fatal(a, b, step, n, is, ok)
					}
				}
			}
		}
	}
	if made == 0 || failed == 0 {
		t.Error(made, failed)
	}
}

func TestBadLeastCounts(t *testing.T) {
	a, b := impl.Spot{X: 83, Y: 16}, impl.Spot{X: 95, Y: 32}
	for _, step := range badSteps() {
		n, ok := impl.LeastCounts(a, b, step)
		wantZero(t, "LeastCounts", n, ok)
		n, ok = impl.LeastCounts(a, a, step)
		wantZero(t, "LeastCounts", n, ok)
	}
	for _, bad := range badSpots() {
		for _, p := range [][2]impl.Spot{{a, bad}, {bad, a}, {bad, bad}} {
			for _, step := range []int{1, 24, 0, 25} {
				n, ok := impl.LeastCounts(p[0], p[1], step)
				wantZero(t, "LeastCounts", n, ok)
			}
		}
	}
}

func TestReverseMove(t *testing.T) {
	if m, ok := impl.ReverseMove(moveOf(83, 16, 95, 32, 8)); !ok || m != moveOf(95, 32, 83, 16, 8) {
		t.Error(m, ok)
	}
	for _, m := range movePick() {
		r, ok := impl.ReverseMove(m)
		if !ok || r.From != m.To || r.To != m.From || r.Counts != m.Counts {
			t.Fatal(m, r, ok)
		}
		if back, ok := impl.ReverseMove(r); !ok || back != m {
			t.Fatal(m, back, ok)
		}
	}
}

func TestSplitMove(t *testing.T) {
	for _, c := range []struct {
		m, p, q impl.Move
	}{
		{moveOf(0, 0, 12, 16, 8), moveOf(0, 0, 3, 4, 2), moveOf(3, 4, 12, 16, 6)},
		{moveOf(12, 16, 0, 0, 8), moveOf(12, 16, 9, 12, 2), moveOf(9, 12, 0, 0, 6)},
		{moveOf(0, 16, 12, 0, 8), moveOf(0, 16, 9, 4, 6), moveOf(9, 4, 12, 0, 2)},
		{moveOf(83, 16, 83, 16, 2), moveOf(83, 16, 83, 16, 1), moveOf(83, 16, 83, 16, 1)},
		{moveOf(83, 16, 83, 16, 64), moveOf(83, 16, 83, 16, 63), moveOf(83, 16, 83, 16, 1)},
		{moveOf(0, 672, 1280, 0, 64), moveOf(0, 672, 40, 651, 2), moveOf(40, 651, 1280, 0, 62)},
		{moveOf(0, 672, 1280, 0, 64), moveOf(0, 672, 1240, 21, 62), moveOf(1240, 21, 1280, 0, 2)},
	} {
		if p, q, ok := impl.SplitMove(c.m, c.p.Counts); !ok || p != c.p || q != c.q {
			t.Error(c, p, q, ok)
		}
	}
	for _, c := range []struct {
		m     impl.Move
		count int
	}{
		{moveOf(0, 0, 12, 16, 8), 0}, {moveOf(0, 0, 12, 16, 8), 8}, {moveOf(83, 16, 83, 16, 4), 0}, {moveOf(83, 16, 83, 16, 4), 4},
		{moveOf(83, 16, 83, 16, 1), 0}, {moveOf(83, 16, 83, 16, 1), 1}, {moveOf(0, 0, 64, 64, 64), 0}, {moveOf(0, 0, 64, 64, 64), 64},
		// Only X, only Y, or neither of them is whole.
		{moveOf(0, 0, 2, 1, 2), 1}, {moveOf(0, 0, 1, 2, 2), 1}, {moveOf(0, 0, 1, 1, 2), 1}, {moveOf(5, 5, 5, 4, 2), 1}, {moveOf(5, 5, 4, 5, 2), 1},
		{moveOf(0, 0, 12, 16, 8), 1}, {moveOf(0, 0, 12, 16, 8), 7}, {moveOf(0, 672, 1280, 0, 64), 1}, {moveOf(0, 672, 1280, 0, 64), 63},
	} {
		p, q, ok := impl.SplitMove(c.m, c.count)
		wantZero(t, "SplitMove", [2]impl.Move{p, q}, ok)
	}
}

// TestSplitMovesAreJoined checks the second half of guarantee 5.
func TestSplitMovesAreJoined(t *testing.T) {
	split, failed := 0, 0
	for _, m := range append(movePick(), smallMoves(6, 3, 8)...) {
		for count := 0; count <= m.Counts; count++ {
			p, q, ok := impl.SplitMove(m, count)
			if want := count > 0 && count < m.Counts && isWholeAt(m, count); ok != want {
				t.Fatal(m, count, p, q, ok)
			}
			if !ok {
				failed++
				wantZero(t, "SplitMove", [2]impl.Move{p, q}, ok)
				continue
			}
			split++
			if parts := partsAt(m, count); p != parts[0] || q != parts[1] {
				t.Fatal(m, count, p, q)
			}
			if j, ok := impl.JoinMoves(p, q); !ok || j != m {
				t.Fatal(m, count, p, q, j, ok)
			}
		}
	}
	if split == 0 || failed == 0 {
		t.Error(split, failed)
	}
}

func TestJoinMoves(t *testing.T) {
	for _, c := range []struct {
		p, q, want impl.Move
	}{
		{moveOf(0, 0, 3, 4, 2), moveOf(3, 4, 12, 16, 6), moveOf(0, 0, 12, 16, 8)},
		{moveOf(12, 16, 9, 12, 2), moveOf(9, 12, 0, 0, 6), moveOf(12, 16, 0, 0, 8)},
		{moveOf(83, 16, 83, 16, 1), moveOf(83, 16, 83, 16, 1), moveOf(83, 16, 83, 16, 2)},
		{moveOf(83, 16, 83, 16, 60), moveOf(83, 16, 83, 16, 4), moveOf(83, 16, 83, 16, 64)},
		{moveOf(0, 0, 640, 336, 32), moveOf(640, 336, 1280, 672, 32), moveOf(0, 0, 1280, 672, 64)},
		{moveOf(64, 9, 63, 9, 1), moveOf(63, 9, 0, 9, 63), moveOf(64, 9, 0, 9, 64)},
	} {
		if m, ok := impl.JoinMoves(c.p, c.q); !ok || m != c.want {
			t.Error(c, m, ok)
		}
	}
	for _, c := range [][2]impl.Move{
		// The second move begins elsewhere.
		{moveOf(0, 0, 3, 4, 2), moveOf(4, 4, 7, 8, 2)}, {moveOf(0, 0, 3, 4, 2), moveOf(3, 5, 6, 9, 2)}, {moveOf(0, 0, 3, 4, 2), moveOf(0, 0, 3, 4, 2)}, {moveOf(3, 4, 6, 8, 2), moveOf(0, 0, 3, 4, 2)},
		{moveOf(83, 16, 83, 16, 2), moveOf(84, 16, 84, 16, 2)}, {moveOf(0, 0, 3, 4, 2), moveOf(4, 4, 6, 8, 2)},
		// It is faster or slower, turns or goes back, or just one of both goes anywhere.
		{moveOf(0, 0, 3, 4, 2), moveOf(3, 4, 9, 12, 2)}, {moveOf(0, 0, 3, 4, 2), moveOf(3, 4, 6, 8, 4)}, {moveOf(0, 0, 3, 4, 2), moveOf(3, 4, 6, 8, 1)}, {moveOf(0, 0, 3, 4, 2), moveOf(3, 4, 7, 7, 2)},
		{moveOf(0, 0, 3, 4, 2), moveOf(3, 4, 6, 9, 2)}, {moveOf(0, 0, 3, 4, 2), moveOf(3, 4, 7, 8, 2)}, {moveOf(0, 0, 3, 4, 2), moveOf(3, 4, 0, 0, 2)}, {moveOf(9, 9, 12, 13, 2), moveOf(12, 13, 15, 9, 2)},
		{moveOf(83, 16, 83, 16, 2), moveOf(83, 16, 85, 16, 2)}, {moveOf(83, 16, 85, 16, 2), moveOf(85, 16, 85, 16, 2)},
		// Together they have 65 counts or more.
		{moveOf(83, 16, 83, 16, 64), moveOf(83, 16, 83, 16, 1)}, {moveOf(83, 16, 83, 16, 1), moveOf(83, 16, 83, 16, 64)}, {moveOf(83, 16, 83, 16, 64), moveOf(83, 16, 83, 16, 64)},
		{moveOf(0, 0, 33, 0, 33), moveOf(33, 0, 65, 0, 32)},
	} {
		m, ok := impl.JoinMoves(c[0], c[1])
		wantZero(t, "JoinMoves", m, ok)
	}
}

// TestJoinAllSmallMoves joins all pairs of small moves: they are parts of a move just if splitting all longer moves has told so.
func TestJoinAllSmallMoves(t *testing.T) {
	whole := map[[2]impl.Move]impl.Move{}
	for _, m := range smallMoves(4, 1, 10) {
		for count := 1; count < m.Counts; count++ {
			if isWholeAt(m, count) {
				whole[partsAt(m, count)] = m
			}
		}
	}
	parts := smallMoves(4, 1, 5)
	joined := 0
	for _, p := range parts {
		for _, q := range parts {
			want, can := whole[[2]impl.Move{p, q}]
			m, ok := impl.JoinMoves(p, q)
			if ok != can || m != want {
				t.Fatal(p, q, m, ok, "want", want, can)
			}
			if ok {
				joined++
			}
		}
	}
	if joined == 0 {
		t.Error("no moves were joined")
	}
}

func TestWholeCounts(t *testing.T) {
	var all []int
	for count := range 65 {
		all = append(all, count)
	}
	for _, c := range []struct {
		m    impl.Move
		want []int
	}{
		{moveOf(0, 0, 12, 16, 8), []int{0, 2, 4, 6, 8}},
		{moveOf(12, 16, 0, 0, 8), []int{0, 2, 4, 6, 8}},
		{moveOf(0, 16, 12, 0, 8), []int{0, 2, 4, 6, 8}},
		{moveOf(0, 0, 1, 0, 8), []int{0, 8}},
		{moveOf(0, 0, 2, 3, 6), []int{0, 6}},
		{moveOf(0, 0, 3, 0, 6), []int{0, 2, 4, 6}},
		{moveOf(0, 2, 0, 0, 6), []int{0, 3, 6}},
		{moveOf(0, 0, 12, 16, 1), []int{0, 1}},
		{moveOf(83, 16, 83, 16, 1), []int{0, 1}},
		{moveOf(83, 16, 83, 16, 64), all},
		{moveOf(0, 0, 64, 128, 64), all},
		{moveOf(0, 672, 1280, 0, 63), []int{0, 63}},
	} {
		if l, ok := impl.WholeCounts(c.m); !ok || !slices.Equal(l, c.want) {
			t.Error(c, l, ok)
		}
	}
	for _, m := range append(movePick(), smallMoves(6, 3, 12)...) {
		var want []int
		for count := 0; count <= m.Counts; count++ {
			if isWholeAt(m, count) {
				want = append(want, count)
			}
		}
		if l, ok := impl.WholeCounts(m); !ok || !slices.Equal(l, want) {
			t.Fatal(m, l, ok, "want", want)
		}
	}
}

func TestMoveText(t *testing.T) {
	for want, m := range map[string]impl.Move{
		"0,0 1+4,2 8":           moveOf(0, 0, 12, 16, 8),
		"10+3,2 10+3,2 1":       moveOf(83, 16, 83, 16, 1),
		"0,0 0,0 64":            moveOf(0, 0, 0, 0, 64),
		"160,84 0,0 10":         moveOf(1280, 672, 0, 0, 10),
		"159+7,83+7 0+1,0+7 63": moveOf(1279, 671, 1, 7, 63),
	} {
		if s, ok := impl.MoveText(m); !ok || s != want {
			t.Error(m, s, ok, "want", want)
		}
		if x, ok := impl.ParseMove(want); !ok || x != m {
			t.Error(want, x, ok, "want", m)
		}
	}
	for _, m := range append(movePick(), smallMoves(9, 1, 64)...) {
		s, ok := impl.MoveText(m)
		if want := axisText(m.From.X) + "," + axisText(m.From.Y) + " " + axisText(m.To.X) + "," + axisText(m.To.Y) + " " + strconv.Itoa(m.Counts); !ok || s != want {
			t.Fatal(m, s, ok, "want", want)
		}
		if x, ok := impl.ParseMove(s); !ok || x != m {
			t.Fatal(s, x, ok)
		}
	}
}

func TestNoMoveTexts(t *testing.T) {
	for _, s := range []string{
		"", " ", "  ", "   ", "0", "0,0", "0,0 ", "0,0 8", "0,0 1,2", "0,0 1,2 ", "0,0  8", " 1,2 8", "  8", "0,0 1,2 8 ", " 0,0 1,2 8", "0,0 1,2 8 8", "0,0 1,2 3,4 8", "0,0 1,2  8", "0,0  1,2 8", "8 0,0 1,2", "0,0 8 1,2",
		"0,0\t1,2 8", "0,0 1,2\t8", "0,0\n1,2\n8", "0,0 1,2 8\n", "0,0 1,2 8\r\n", "\n0,0 1,2 8", "0,0 1,2 8\x00", "0,0,1,2,8", "0,0 1,2,8", "0,0-1,2 8", "0,0 1,2@8", "0,01,2 8", "0,0\u00a01,2 8", "0,0 1,2\u20038",
		"0,0 1,2 0", "0,0 1,2 00", "0,0 1,2 65", "0,0 1,2 66", "0,0 1,2 640", "0,0 1,2 08", "0,0 1,2 064", "0,0 1,2 -8", "0,0 1,2 +8", "0,0 1,2 -0", "0,0 1,2 8.0", "0,0 1,2 8+0", "0,0 1,2 0x8", "0,0 1,2 1e1", "0,0 1,2 1_0", "0,0 1,2 a",
		"0,0 1,2 4294967304", "0,0 1,2 18446744073709551624", "0,0 1,2 9223372036854775808", "0,0 1,2 \u0668", "0,0 1,2 \uff18", "0,0 1,2 \xff", "0,0 1,2 8\xff",
		"00,0 1,2 8", "0,00 1,2 8", "0,0 01,2 8", "0,0 1,02 8", "0+0,0 1,2 8", "0,0 1+8,2 8", "0,0 1+,2 8", "+0,0 1,2 8", "-0,0 1,2 8", "0,0 -1,2 8", "0,0 1,+2 8", "0 1,2 8", "0,0 1 8", "0,0,0 1,2 8", "0,0 1,2,3 8",
		"161,0 1,2 8", "0,85 1,2 8", "0,0 161,2 8", "0,0 1,85 8", "160+1,0 1,2 8", "0,0 1,84+1 8", "0,0 18446744073709551617,2 8", "\xff,0 1,2 8", "0,0 1,\xff 8",
		strings.Repeat("0,0 ", 5000) + "8", strings.Repeat(" ", 5000), "0,0 1,2 " + strings.Repeat("8", 5000), "0,0 1,2 " + strings.Repeat("0", 5000) + "8", strings.Repeat("0", 5000) + ",0 1,2 8", "0,0 1,2 8" + strings.Repeat(" ", 5000),
	} {
		m, ok := impl.ParseMove(s)
		wantZero(t, "ParseMove "+strconv.Quote(s[:min(len(s), 30)]), m, ok)
	}
}

// moveReader returns a function that looks the words of a text up among the texts of all numbers.
func moveReader() func(s string) (impl.Move, bool) {
	numbers, counts := map[string]int{}, map[string]int{}
	for n := 0; n <= impl.MaxX; n++ {
		numbers[axisText(n)] = n
	}
	for n := 1; n <= 64; n++ {
		counts[strconv.Itoa(n)] = n
	}
	spot := func(word string) (impl.Spot, bool) {
		parts := strings.Split(word, ",")
		if len(parts) != 2 {
			return impl.Spot{}, false
		}
		x, okX := numbers[parts[0]]
		y, okY := numbers[parts[1]]
		return impl.Spot{X: x, Y: y}, okX && okY && y <= impl.MaxY
	}
	return func(s string) (impl.Move, bool) {
		words := strings.Split(s, " ")
		if len(words) != 3 {
			return impl.Move{}, false
		}
		a, okA := spot(words[0])
		b, okB := spot(words[1])
		n, okN := counts[words[2]]
		if !okA || !okB || !okN {
			return impl.Move{}, false
		}
		return impl.Move{From: a, To: b, Counts: n}, true
	}
}

// TestChangedMoveTexts changes, adds and leaves out each byte of some moves' texts, and parses all short texts of some bytes.
func TestChangedMoveTexts(t *testing.T) {
	read := moveReader()
	good, bad := 0, 0
	try := func(s string) {
		want, can := read(s)
		m, ok := impl.ParseMove(s)
		if ok != can || m != want {
			t.Fatalf("%q: %v, %v, want %v, %v", s, m, ok, want, can)
		}
		if ok {
			good++
		} else {
			bad++
		}
	}
	for _, s := range []string{"0,0 1+4,2 8", "160,84 10+3,0+7 64", "9,9 9,9 1", "159+7,83+7 0,0 60"} {
		for i := 0; i <= len(s); i++ {
			for b := range 256 {
				try(s[:i] + string([]byte{byte(b)}) + s[i:])
				if i < len(s) {
					try(s[:i] + string([]byte{byte(b)}) + s[i+1:])
				}
			}
			if i < len(s) {
				try(s[:i] + s[i+1:])
			}
		}
	}
	tryTexts("01, ", 10, try)
	if good == 0 || bad == 0 {
		t.Error(good, bad)
	}
}
