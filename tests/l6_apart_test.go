package tests

import (
	"math/big"
	"slices"
	"testing"

	"loop.example/g00939/impl"
)

// standing returns a move that goes nowhere.
func standing(x int, y int, counts int) impl.Move {
	return moveOf(x, y, x, y, counts)
}

// joinedPairs returns all pairs of moves of a list that go together, each move with itself too.
func joinedPairs(l []impl.Move) [][2]impl.Move {
	var pairs [][2]impl.Move
	for _, a := range l {
		for _, b := range l {
			if a.Counts == b.Counts {
				pairs = append(pairs, [2]impl.Move{a, b})
			}
		}
	}
	return pairs
}

// smallPairs holds all pairs of moves in 4 counts on a floor of 3 by 3 eighths, and of those on a line of 5 in 3 counts.
func smallPairs() [][2]impl.Move {
	var l []impl.Move
	for _, m := range smallMoves(2, 2, 4) {
		if m.Counts == 4 {
			l = append(l, m)
		}
	}
	for _, m := range smallMoves(4, 0, 3) {
		if m.Counts == 3 {
			l = append(l, m)
		}
	}
	return joinedPairs(l)
}

// widePairs holds pairs of moves all over the field in few and in many counts.
func widePairs() [][2]impl.Move {
	var l []impl.Move
	for i, m := range movePick() {
		if slices.Contains([]int{1, 7, 32, 63, 64}, m.Counts) && i%3 > 0 {
			l = append(l, m)
		}
	}
	return joinedPairs(l)
}

// ratAt returns the place of a move in X or in Y after a part of the whole time.
func ratAt(from int, to int, part *big.Rat) *big.Rat {
	way := new(big.Rat).Mul(part, big.NewRat(int64(to-from), 1))
	return way.Add(way, big.NewRat(int64(from), 1))
}

// ratSquare returns the square of two moves at a time, which need not be a whole count.
func ratSquare(a impl.Move, b impl.Move, time *big.Rat) *big.Rat {
	part := new(big.Rat).Quo(time, big.NewRat(int64(a.Counts), 1))
	x := ratAt(a.From.X, a.To.X, part)
	y := ratAt(a.From.Y, a.To.Y, part)
	x.Sub(x, ratAt(b.From.X, b.To.X, part))
	y.Sub(y, ratAt(b.From.Y, b.To.Y, part))
	return new(big.Rat).Add(x.Mul(x, x), y.Mul(y, y))
}

// squareTimes returns the square after a count times the square of Counts.
func squareTimes(a impl.Move, b impl.Move, count int) int {
	aX, aY := placeTimes(a, count)
	bX, bY := placeTimes(b, count)
	return (aX-bX)*(aX-bX) + (aY-bY)*(aY-bY)
}

// wantFraction fails the test unless a fraction has positive lowest terms (a number of 0 is allowed), and returns it.
func wantFraction(t *testing.T, call string, n int, d int, ok bool) *big.Rat {
	t.Helper()
	if !ok || n < 0 || d < 1 {
		t.Fatal(call, n, d, ok)
	}
	f := big.NewRat(int64(n), int64(d))
	if f.Num().Int64() != int64(n) || f.Denom().Int64() != int64(d) {
		t.Fatal(call, n, d, "not in lowest terms")
	}
	return f
}

// wantTogether fails the test unless both orders of two moves give the same two numbers.
func wantTogether(t *testing.T, call func(a impl.Move, b impl.Move) (int, int, bool), p [2]impl.Move, n int, d int) {
	t.Helper()
	for _, q := range [][2]impl.Move{p, {p[1], p[0]}} {
		if x, y, ok := call(q[0], q[1]); !ok || x != n || y != d {
			t.Error(q, x, y, ok, "want", n, d)
		}
	}
}

func TestApartAt(t *testing.T) {
	for _, c := range []struct {
		a, b        impl.Move
		count, n, d int
	}{
		{moveOf(0, 0, 8, 0, 4), moveOf(8, 8, 0, 8, 4), 0, 128, 1},
		{moveOf(0, 0, 8, 0, 4), moveOf(8, 8, 0, 8, 4), 1, 80, 1},
		{moveOf(0, 0, 8, 0, 4), moveOf(8, 8, 0, 8, 4), 2, 64, 1},
		{moveOf(0, 0, 8, 0, 4), moveOf(8, 8, 0, 8, 4), 4, 128, 1},
		// One or both of them stand still.
		{moveOf(0, 0, 8, 0, 4), standing(5, 5, 4), 1, 34, 1},
		{standing(3, 4, 7), standing(0, 0, 7), 5, 25, 1},
		{standing(3, 4, 7), standing(3, 4, 7), 5, 0, 1},
		// Lower terms, and fractions that have none.
		{moveOf(0, 0, 1, 0, 2), standing(0, 0, 2), 1, 1, 4},
		{moveOf(0, 0, 1, 0, 2), standing(0, 1, 2), 1, 5, 4},
		{moveOf(0, 0, 1, 1, 4), standing(0, 0, 4), 2, 1, 2},
		{moveOf(0, 0, 1, 1, 4), standing(0, 0, 4), 1, 1, 8},
		{moveOf(0, 0, 1, 1, 6), standing(0, 0, 6), 1, 1, 18},
		{moveOf(0, 0, 1, 0, 64), standing(0, 0, 64), 1, 1, 4096},
		{moveOf(0, 0, 1, 0, 64), standing(0, 0, 64), 32, 1, 4},
		{moveOf(9, 0, 0, 0, 3), moveOf(0, 0, 9, 0, 3), 1, 9, 1},
		// Corner to corner.
		{moveOf(0, 0, 1280, 672, 64), moveOf(1280, 672, 0, 0, 64), 0, 2089984, 1},
		{moveOf(0, 0, 1280, 672, 64), moveOf(1280, 672, 0, 0, 64), 32, 0, 1},
		{moveOf(0, 0, 1280, 672, 64), moveOf(1280, 672, 0, 0, 64), 31, 2041, 1},
		{moveOf(0, 0, 1280, 672, 63), moveOf(1280, 672, 0, 0, 63), 63, 2089984, 1},
		{moveOf(0, 0, 1280, 672, 63), moveOf(1280, 672, 0, 0, 63), 31, 2089984, 3969},
	} {
		at := func(a impl.Move, b impl.Move) (int, int, bool) { return impl.ApartAt(a, b, c.count) }
		wantTogether(t, at, [2]impl.Move{c.a, c.b}, c.n, c.d)
	}
	lowered, kept := 0, 0
	for _, p := range append(smallPairs(), widePairs()...) {
		for count := range p[0].Counts + 1 {
			n, d, ok := impl.ApartAt(p[0], p[1], count)
			square := p[0].Counts * p[0].Counts
			if !ok || d < 1 || n*square != squareTimes(p[0], p[1], count)*d {
				t.Fatal(p, count, n, d, ok)
			}
			wantFraction(t, "ApartAt", n, d, ok)
			if d < square {
				lowered++
			} else {
				kept++
			}
		}
	}
	if lowered == 0 || kept == 0 {
		t.Error(lowered, kept)
	}
}

// closestCase has two moves, their least square and the first time with it, both as fractions.
type closestCase struct {
	a, b                     impl.Move
	square, part, time, unit int
}

func closestCases() []closestCase {
	return []closestCase{
		// The example, in other Counts too: at a whole count, or between two of them.
		{moveOf(0, 0, 8, 0, 4), moveOf(8, 8, 0, 8, 4), 64, 1, 2, 1},
		{moveOf(0, 0, 8, 0, 1), moveOf(8, 8, 0, 8, 1), 64, 1, 1, 2},
		{moveOf(0, 0, 8, 0, 63), moveOf(8, 8, 0, 8, 63), 64, 1, 63, 2},
		{moveOf(0, 0, 8, 0, 64), moveOf(8, 8, 0, 8, 64), 64, 1, 32, 1},
		// Both of them stand still, or just one.
		{standing(3, 4, 5), standing(0, 0, 5), 25, 1, 0, 1},
		{standing(3, 4, 5), standing(3, 4, 5), 0, 1, 0, 1},
		{standing(640, 336, 64), standing(641, 337, 64), 2, 1, 0, 1},
		{standing(4, 3, 8), moveOf(0, 0, 8, 0, 8), 9, 1, 4, 1},
		{standing(4, 0, 8), moveOf(0, 0, 8, 0, 8), 0, 1, 4, 1},
		{standing(4, 0, 3), moveOf(0, 0, 8, 0, 3), 0, 1, 3, 2},
		{standing(1, 3, 6), moveOf(3, 0, 9, 0, 6), 13, 1, 0, 1},
		{standing(12, 3, 6), moveOf(3, 0, 9, 0, 6), 18, 1, 6, 1},
		// They keep the same distance all the time, whatever way they go: the first of all times is the beginning.
		{moveOf(0, 0, 8, 6, 4), moveOf(3, 4, 11, 10, 4), 25, 1, 0, 1},
		{moveOf(100, 50, 7, 80, 9), moveOf(101, 50, 8, 80, 9), 1, 1, 0, 1},
		{moveOf(100, 50, 7, 80, 9), moveOf(100, 50, 7, 80, 9), 0, 1, 0, 1},
		{moveOf(0, 0, 1279, 671, 64), moveOf(1, 1, 1280, 672, 64), 2, 1, 0, 1},
		// Closest at the beginning: they part, slower and faster ones too, at once or without having neared each other.
		{moveOf(5, 5, 0, 5, 4), moveOf(6, 5, 12, 5, 4), 1, 1, 0, 1},
		{moveOf(0, 0, 4, 0, 4), moveOf(0, 2, 9, 2, 4), 4, 1, 0, 1},
		{moveOf(5, 5, 9, 5, 4), moveOf(5, 5, 5, 9, 4), 0, 1, 0, 1},
		{moveOf(0, 0, 8, 0, 2), moveOf(0, 3, 0, 9, 2), 9, 1, 0, 1},
		// Closest at the end: there, or still nearing each other.
		{moveOf(0, 5, 5, 5, 4), moveOf(12, 5, 6, 5, 4), 1, 1, 4, 1},
		{moveOf(9, 5, 5, 5, 7), moveOf(5, 9, 5, 5, 7), 0, 1, 7, 1},
		{moveOf(0, 0, 8, 0, 2), moveOf(16, 1, 10, 3, 2), 13, 1, 2, 1},
		{moveOf(0, 0, 10, 0, 64), moveOf(10, 0, 10, 0, 64), 0, 1, 64, 1},
		// The time without an end is just the end, or just the beginning.
		{moveOf(0, 0, 4, 0, 4), standing(4, 3, 4), 9, 1, 4, 1},
		{moveOf(4, 0, 8, 0, 4), standing(4, 3, 4), 9, 1, 0, 1},
		// Just before the end and just behind the beginning.
		{moveOf(0, 0, 64, 0, 1), standing(63, 3, 1), 9, 1, 63, 64},
		{moveOf(0, 0, 64, 0, 1), standing(1, 3, 1), 9, 1, 1, 64},
		// Whole counts within.
		{moveOf(0, 0, 12, 0, 6), standing(2, 1, 6), 1, 1, 1, 1},
		{moveOf(0, 0, 12, 0, 6), standing(10, 1, 6), 1, 1, 5, 1},
		{moveOf(0, 0, 12, 12, 6), moveOf(12, 0, 0, 12, 6), 0, 1, 3, 1},
		// Between two counts; squares that can be made lower and ones that can't.
		{moveOf(0, 0, 12, 0, 6), standing(3, 1, 6), 1, 1, 3, 2},
		{moveOf(0, 0, 2, 1, 5), standing(1, 0, 5), 1, 5, 2, 1},
		{moveOf(0, 0, 2, 1, 1), standing(1, 0, 1), 1, 5, 2, 5},
		{moveOf(0, 0, 1, 1, 1), standing(1, 0, 1), 1, 2, 1, 2},
		{moveOf(0, 0, 3, 3, 2), standing(1, 0, 2), 1, 2, 1, 3},
		{moveOf(0, 0, 3, 1, 7), standing(1, 2, 7), 5, 2, 7, 2},
		{moveOf(0, 0, 4, 2, 3), standing(1, 1, 3), 1, 5, 9, 10},
		{moveOf(0, 0, 5, 1, 2), moveOf(1, 2, 1, 4, 2), 121, 26, 3, 13},
		{moveOf(0, 0, 8, 0, 3), moveOf(9, 3, 0, 2, 3), 882, 145, 234, 145},
		// The same spot at one time, where their ways cross; they cross at other times too.
		{moveOf(0, 0, 12, 12, 5), moveOf(12, 0, 0, 12, 5), 0, 1, 5, 2},
		{moveOf(0, 0, 9, 0, 3), moveOf(9, 0, 0, 0, 3), 0, 1, 3, 2},
		{moveOf(0, 0, 9, 0, 3), moveOf(3, 0, 6, 0, 3), 0, 1, 3, 2},
		{moveOf(0, 0, 8, 0, 4), moveOf(2, 2, 2, 0, 4), 36, 17, 20, 17},
		// All over the field.
		{moveOf(0, 0, 1280, 672, 64), moveOf(1280, 672, 0, 0, 64), 0, 1, 32, 1},
		{moveOf(0, 672, 0, 0, 64), moveOf(1280, 0, 1280, 672, 64), 1638400, 1, 32, 1},
		{moveOf(0, 0, 1280, 671, 63), moveOf(1279, 672, 0, 0, 63), 3806401, 8352130, 263053791, 8352130},
	}
}

func TestLeastApart(t *testing.T) {
	for _, c := range closestCases() {
		wantTogether(t, impl.LeastApart, [2]impl.Move{c.a, c.b}, c.square, c.part)
	}
	for counts := 1; counts <= 64; counts++ {
		wantTogether(t, impl.LeastApart, [2]impl.Move{moveOf(0, 0, 8, 0, counts), moveOf(8, 8, 0, 8, counts)}, 64, 1)
	}
}

func TestClosestTime(t *testing.T) {
	for _, c := range closestCases() {
		wantTogether(t, impl.ClosestTime, [2]impl.Move{c.a, c.b}, c.time, c.unit)
	}
}

// wantClosest fails the test unless two moves have a square at a time, no less one at all, and no earlier time with it.
// Squares that change are those of a parabola, which is symmetric to its lowest place; if this is not just at the beginning or at the end, it is farther off than e.
func wantClosest(t *testing.T, p [2]impl.Move, time *big.Rat, square *big.Rat) {
	t.Helper()
	e := big.NewRat(1, 100000000)
	end := big.NewRat(int64(p[0].Counts), 1)
	if time.Sign() < 0 || time.Cmp(end) > 0 || ratSquare(p[0], p[1], time).Cmp(square) != 0 {
		t.Fatal(p, time, square)
	}
	before := ratSquare(p[0], p[1], new(big.Rat).Sub(time, e))
	behind := ratSquare(p[0], p[1], new(big.Rat).Add(time, e))
	within := time.Sign() > 0 && time.Cmp(end) < 0
	if within && (before.Cmp(behind) != 0 || before.Cmp(square) <= 0) {
		t.Fatal(p, time, square, "within")
	}
	if time.Sign() == 0 && behind.Cmp(square) < 0 {
		t.Fatal(p, time, square, "at the beginning")
	}
	if time.Cmp(end) == 0 && before.Cmp(square) <= 0 {
		t.Fatal(p, time, square, "at the end")
	}
}

// TestClosestOfManyMoves checks the least squares and their times for many moves by the squares at exact times.
func TestClosestOfManyMoves(t *testing.T) {
	where := map[string]int{}
	for _, p := range append(smallPairs(), widePairs()...) {
		n, d, ok := impl.LeastApart(p[0], p[1])
		square := wantFraction(t, "LeastApart", n, d, ok)
		n, d, ok = impl.ClosestTime(p[0], p[1])
		time := wantFraction(t, "ClosestTime", n, d, ok)
		wantClosest(t, p, time, square)
		switch {
		case n == 0:
			where["beginning"]++
		case d == 1 && n == p[0].Counts:
			where["end"]++
		case d == 1:
			where["count"]++
		default:
			where["between"]++
		}
	}
	if len(where) != 4 {
		t.Error(where)
	}
}

// TestLeastSquareIsNoneGreater checks guarantee 6.
func TestLeastSquareIsNoneGreater(t *testing.T) {
	met, missed := 0, 0
	for _, p := range append(smallPairs(), widePairs()...) {
		n, d, ok := impl.LeastApart(p[0], p[1])
		back, backD, okBack := impl.LeastApart(p[1], p[0])
		if !ok || !okBack || n != back || d != backD {
			t.Fatal(p, n, d, ok, back, backD, okBack)
		}
		least := big.NewRat(int64(n), int64(d))
		at := false
		for count := range p[0].Counts + 1 {
			x, y, ok := impl.ApartAt(p[0], p[1], count)
			if !ok || least.Cmp(big.NewRat(int64(x), int64(y))) > 0 {
				t.Fatal(p, count, x, y, ok, least)
			}
			at = at || x == n && y == d
		}
		if at {
			met++
		} else {
			missed++
		}
	}
	if met == 0 || missed == 0 {
		t.Error(met, missed)
	}
}

// TestReversedMovesAreAsClose goes both ways in time: the time is counted from the other end then.
func TestReversedMovesAreAsClose(t *testing.T) {
	for _, p := range append(smallPairs(), widePairs()...) {
		a, _ := impl.ReverseMove(p[0])
		b, _ := impl.ReverseMove(p[1])
		n, d, ok := impl.LeastApart(p[0], p[1])
		if x, y, okBack := impl.LeastApart(a, b); !ok || !okBack || x != n || y != d {
			t.Fatal(p, n, d, ok, x, y, okBack)
		}
		n, d, ok = impl.ClosestTime(p[0], p[1])
		x, y, okBack := impl.ClosestTime(a, b)
		back := big.NewRat(int64(x), int64(y))
		back.Sub(big.NewRat(int64(p[0].Counts), 1), back)
		same := squareTimes(p[0], p[1], 0) == squareTimes(p[0], p[1], p[0].Counts)
		if steady := same && n == 0 && x == 0; !ok || !okBack || !steady && back.Cmp(big.NewRat(int64(n), int64(d))) != 0 {
			t.Fatal(p, n, d, ok, x, y, okBack)
		}
	}
}

func TestStayApart(t *testing.T) {
	for _, c := range []struct {
		a, b  impl.Move
		least int
		want  bool
	}{
		// The square is just that of the least distance 8, or just below or above it.
		{moveOf(0, 0, 8, 0, 4), moveOf(8, 8, 0, 8, 4), 8, true}, {moveOf(0, 0, 8, 0, 4), moveOf(8, 8, 0, 8, 4), 9, false}, {moveOf(0, 0, 8, 0, 4), moveOf(8, 8, 0, 8, 4), 0, true},
		{moveOf(0, 0, 8, 0, 1), moveOf(8, 8, 0, 8, 1), 8, true}, {moveOf(0, 0, 8, 0, 1), moveOf(8, 8, 0, 8, 1), 9, false},
		{moveOf(0, 0, 8, 0, 5), moveOf(8, 8, 0, 7, 5), 8, false}, {moveOf(0, 0, 8, 0, 5), moveOf(8, 8, 0, 9, 5), 8, true}, {moveOf(0, 0, 8, 0, 5), moveOf(8, 8, 0, 9, 5), 9, false},
		{standing(0, 0, 9), standing(48, 64, 9), 80, true}, {standing(0, 0, 9), standing(48, 63, 9), 80, false}, {standing(0, 0, 9), standing(47, 64, 9), 80, false}, {standing(0, 0, 9), standing(49, 64, 9), 80, true},
		{standing(0, 0, 9), standing(47, 64, 9), 79, true}, {standing(0, 0, 64), standing(1280, 672, 64), 80, true},
		// On the same spot at one time or all the time: nothing but 0 is kept.
		{moveOf(0, 0, 12, 12, 5), moveOf(12, 0, 0, 12, 5), 0, true}, {moveOf(0, 0, 12, 12, 5), moveOf(12, 0, 0, 12, 5), 1, false},
		{standing(7, 7, 5), standing(7, 7, 5), 0, true}, {standing(7, 7, 5), standing(7, 7, 5), 1, false},
		{standing(7, 7, 5), standing(7, 8, 5), 1, true}, {standing(7, 7, 5), standing(7, 8, 5), 2, false},
		// No count is close, but a time between two of them is.
		{moveOf(0, 0, 100, 0, 1), moveOf(100, 3, 0, 3, 1), 3, true}, {moveOf(0, 0, 100, 0, 1), moveOf(100, 3, 0, 3, 1), 4, false}, {moveOf(0, 0, 100, 0, 1), moveOf(100, 3, 0, 3, 1), 80, false},
		// The square is a fraction just below that of the least distance, 49/50 and 2025/509, or just above it, 2601/650.
		{moveOf(0, 0, 7, 1, 3), standing(0, 1, 3), 1, false}, {moveOf(0, 0, 7, 1, 3), standing(0, 1, 3), 0, true},
		{moveOf(0, 0, 22, 5, 3), standing(13, 5, 3), 2, false}, {moveOf(0, 0, 22, 5, 3), standing(13, 5, 3), 1, true},
		{moveOf(0, 0, 23, 11, 3), standing(10, 7, 3), 2, true}, {moveOf(0, 0, 23, 11, 3), standing(10, 7, 3), 3, false},
		// They are close at the beginning, or at the end.
		{moveOf(5, 5, 0, 5, 4), moveOf(9, 5, 90, 5, 4), 4, true}, {moveOf(5, 5, 0, 5, 4), moveOf(9, 5, 90, 5, 4), 5, false}, {moveOf(0, 5, 5, 5, 4), moveOf(90, 5, 9, 5, 4), 4, true}, {moveOf(0, 5, 5, 5, 4), moveOf(90, 5, 9, 5, 4), 5, false},
	} {
		for _, p := range [][2]impl.Move{{c.a, c.b}, {c.b, c.a}} {
			if is, ok := impl.StayApart(p[0], p[1], c.least); !ok || is != c.want {
				t.Error(p, c.least, is, ok)
			}
		}
	}
}

// TestStayApartForAllLeasts compares with LeastApart, which TestClosestOfManyMoves checks.
func TestStayApartForAllLeasts(t *testing.T) {
	stay, exact, near := 0, 0, 0
	for i, p := range append(smallPairs(), widePairs()...) {
		n, d, _ := impl.LeastApart(p[0], p[1])
		for least := i % 3; least <= 80; least += 1 + least/4 {
			want := n >= least*least*d
			if is, ok := impl.StayApart(p[0], p[1], least); !ok || is != want {
				t.Fatal(p, least, is, ok, n, d)
			}
			switch {
			case n == least*least*d:
				exact++
			case want:
				stay++
			default:
				near++
			}
		}
	}
	if stay == 0 || exact == 0 || near == 0 {
		t.Error(stay, exact, near)
	}
}

// upTo returns the numbers from one to another one, both included.
func upTo(from int, to int) []int {
	var l []int
	for n := from; n <= to; n++ {
		l = append(l, n)
	}
	return l
}

func TestCloseCounts(t *testing.T) {
	for _, c := range []struct {
		a, b  impl.Move
		least int
		want  []int
	}{
		// The squares are 128, 80, 64, 80 and 128.
		{moveOf(0, 0, 8, 0, 4), moveOf(8, 8, 0, 8, 4), 9, []int{1, 2, 3}},
		{moveOf(0, 0, 8, 0, 4), moveOf(8, 8, 0, 8, 4), 8, nil},
		{moveOf(0, 0, 8, 0, 4), moveOf(8, 8, 0, 8, 4), 0, nil},
		{moveOf(0, 0, 8, 0, 4), moveOf(8, 8, 0, 8, 4), 11, []int{1, 2, 3}},
		{moveOf(0, 0, 8, 0, 4), moveOf(8, 8, 0, 8, 4), 12, []int{0, 1, 2, 3, 4}},
		// They are close between the counts alone.
		{moveOf(0, 0, 100, 0, 1), moveOf(100, 3, 0, 3, 1), 80, nil},
		{moveOf(0, 0, 100, 0, 2), moveOf(100, 3, 0, 3, 2), 80, []int{1}},
		{moveOf(0, 0, 100, 0, 3), moveOf(100, 3, 0, 3, 3), 33, nil},
		{moveOf(0, 0, 100, 0, 3), moveOf(100, 3, 0, 3, 3), 34, []int{1, 2}},
		// At the beginning, or at the end.
		{moveOf(5, 5, 0, 5, 5), moveOf(6, 5, 11, 5, 5), 4, []int{0, 1}},
		{moveOf(0, 5, 5, 5, 5), moveOf(11, 5, 6, 5, 5), 4, []int{4, 5}},
		{moveOf(0, 5, 5, 5, 5), moveOf(11, 5, 6, 5, 5), 3, []int{5}},
		{moveOf(5, 5, 0, 5, 5), moveOf(6, 5, 11, 5, 5), 1, nil},
		// They stand still, or keep the same distance.
		{standing(0, 0, 3), standing(48, 64, 3), 80, nil},
		{standing(0, 0, 3), standing(48, 63, 3), 80, []int{0, 1, 2, 3}},
		{standing(7, 7, 1), standing(7, 7, 1), 1, []int{0, 1}},
		{standing(7, 7, 1), standing(7, 7, 1), 0, nil},
		{moveOf(0, 0, 90, 70, 64), moveOf(3, 4, 93, 74, 64), 6, upTo(0, 64)},
		{moveOf(0, 0, 90, 70, 64), moveOf(3, 4, 93, 74, 64), 5, nil},
		// The squares are fractions: 0, 1/4, 1, 9/4 and 4, and just below 1, 1 and just above it at the first count.
		{moveOf(0, 0, 2, 0, 4), standing(0, 0, 4), 1, []int{0, 1}},
		{moveOf(0, 0, 2, 0, 4), standing(0, 0, 4), 2, []int{0, 1, 2, 3}},
		{moveOf(0, 0, 63, 0, 64), standing(0, 0, 64), 1, []int{0, 1}},
		{moveOf(0, 0, 64, 0, 64), standing(0, 0, 64), 1, []int{0}},
		{moveOf(0, 0, 65, 0, 64), standing(0, 0, 64), 1, []int{0}},
		{moveOf(0, 0, 1280, 672, 64), moveOf(1280, 672, 0, 0, 64), 80, []int{31, 32, 33}},
	} {
		for _, p := range [][2]impl.Move{{c.a, c.b}, {c.b, c.a}} {
			if l, ok := impl.CloseCounts(p[0], p[1], c.least); !ok || !slices.Equal(l, c.want) {
				t.Error(p, c.least, l, ok, "want", c.want)
			}
		}
	}
	for i, p := range append(smallPairs(), widePairs()...) {
		for _, least := range []int{0, 1, i % 81, 80} {
			var want []int
			for count := range p[0].Counts + 1 {
				if squareTimes(p[0], p[1], count) < least*least*p[0].Counts*p[0].Counts {
					want = append(want, count)
				}
			}
			if l, ok := impl.CloseCounts(p[0], p[1], least); !ok || !slices.Equal(l, want) {
				t.Fatal(p, least, l, ok, "want", want)
			}
		}
	}
}

// partsCross solves for the parts of both ways after which they are at the same place; ways along one line are compared as ranges.
func partsCross(a impl.Move, b impl.Move) bool {
	x, y := b.From.X-a.From.X, b.From.Y-a.From.Y
	aX, aY := a.To.X-a.From.X, a.To.Y-a.From.Y
	bX, bY := b.To.X-b.From.X, b.To.Y-b.From.Y
	if d := aX*bY - aY*bX; d != 0 {
		p, q := big.NewRat(int64(x*bY-y*bX), int64(d)), big.NewRat(int64(x*aY-y*aX), int64(d))
		one := big.NewRat(1, 1)
		return p.Sign() >= 0 && p.Cmp(one) <= 0 && q.Sign() >= 0 && q.Cmp(one) <= 0
	}
	if x*aY-y*aX != 0 || x*bY-y*bX != 0 {
		return false
	}
	overlap := func(a int, b int, c int, d int) bool {
		return max(min(a, b), min(c, d)) <= min(max(a, b), max(c, d))
	}
	return overlap(a.From.X, a.To.X, b.From.X, b.To.X) && overlap(a.From.Y, a.To.Y, b.From.Y, b.To.Y)
}

// waysOf returns all directions and orders of two ways.
func waysOf(a impl.Move, b impl.Move) [][2]impl.Move {
	var l [][2]impl.Move
	c, _ := impl.ReverseMove(a)
	d, _ := impl.ReverseMove(b)
	for _, p := range [][2]impl.Move{{a, b}, {a, d}, {c, b}, {c, d}} {
		l = append(l, p, [2]impl.Move{p[1], p[0]})
	}
	return l
}

func TestWaysCross(t *testing.T) {
	for _, c := range []struct {
		a, b impl.Move
		want bool
	}{
		{moveOf(0, 0, 8, 0, 4), moveOf(8, 8, 0, 8, 4), false},
		// Within both of them, at a spot and at none, whenever they are there.
		{moveOf(0, 0, 8, 8, 4), moveOf(8, 0, 0, 8, 4), true},
		{moveOf(0, 0, 8, 8, 4), moveOf(3, 0, 0, 3, 4), true},
		{moveOf(0, 0, 9, 2, 4), moveOf(1, 1, 2, 0, 4), true},
		{moveOf(0, 0, 1280, 672, 64), moveOf(0, 672, 1280, 0, 64), true},
		{moveOf(0, 0, 1280, 671, 64), moveOf(1279, 671, 1280, 670, 64), true},
		// Just beside each other.
		{moveOf(0, 0, 1280, 671, 64), moveOf(1278, 670, 1279, 671, 64), false},
		{moveOf(0, 0, 9, 2, 4), moveOf(4, 1, 5, 8, 4), false},
		{moveOf(0, 0, 8, 8, 4), moveOf(8, 0, 5, 4, 4), false},
		{moveOf(0, 0, 8, 8, 4), moveOf(9, 0, 9, 9, 4), false},
		// An end of one lies within the other one, or both have one end.
		{moveOf(0, 0, 8, 8, 4), moveOf(4, 4, 8, 0, 4), true},
		{moveOf(0, 0, 8, 0, 4), moveOf(4, 0, 4, 9, 4), true},
		{moveOf(0, 0, 8, 8, 4), moveOf(8, 8, 8, 0, 4), true},
		{moveOf(0, 0, 8, 8, 4), moveOf(0, 0, 8, 7, 4), true},
		{moveOf(0, 0, 0, 9, 4), moveOf(0, 9, 9, 9, 4), true},
		// The endless lines cross on one way alone, or on none.
		{moveOf(0, 0, 8, 8, 4), moveOf(7, 0, 5, 4, 4), false},
		{moveOf(0, 0, 2, 2, 4), moveOf(9, 0, 0, 9, 4), false},
		{moveOf(0, 0, 2, 2, 4), moveOf(9, 0, 8, 2, 4), false},
		// Side by side.
		{moveOf(0, 0, 8, 8, 4), moveOf(1, 0, 9, 8, 4), false},
		{moveOf(0, 0, 0, 8, 4), moveOf(1, 0, 1, 8, 4), false},
		// On one line: they overlap, one lies within the other, they are the same, touch, or don't meet.
		{moveOf(0, 0, 8, 4, 4), moveOf(6, 3, 12, 6, 4), true},
		{moveOf(0, 0, 8, 4, 4), moveOf(2, 1, 4, 2, 4), true},
		{moveOf(0, 0, 8, 4, 4), moveOf(0, 0, 8, 4, 4), true},
		{moveOf(0, 0, 8, 4, 4), moveOf(0, 0, 4, 2, 4), true},
		{moveOf(0, 0, 8, 4, 4), moveOf(8, 4, 12, 6, 4), true},
		{moveOf(0, 0, 8, 4, 4), moveOf(10, 5, 12, 6, 4), false},
		{moveOf(5, 0, 5, 4, 4), moveOf(5, 3, 5, 9, 4), true},
		{moveOf(5, 0, 5, 4, 4), moveOf(5, 4, 5, 9, 4), true},
		{moveOf(5, 0, 5, 4, 4), moveOf(5, 5, 5, 9, 4), false},
		{moveOf(0, 7, 4, 7, 4), moveOf(4, 7, 9, 7, 4), true},
		{moveOf(0, 7, 4, 7, 4), moveOf(5, 7, 9, 7, 4), false},
		// One way or both are one spot: within the other one, at its end, on its line, or beside it.
		{moveOf(0, 0, 8, 4, 4), standing(4, 2, 4), true},
		{moveOf(0, 0, 8, 4, 4), standing(8, 4, 4), true},
		{moveOf(0, 0, 8, 4, 4), standing(0, 0, 4), true},
		{moveOf(0, 0, 8, 4, 4), standing(10, 5, 4), false},
		{moveOf(2, 1, 8, 4, 4), standing(0, 0, 4), false},
		{moveOf(0, 0, 8, 4, 4), standing(4, 3, 4), false},
		{moveOf(0, 0, 8, 4, 4), standing(3, 1, 4), false},
		{standing(4, 3, 4), standing(4, 3, 4), true},
		{standing(4, 3, 4), standing(4, 4, 4), false},
		{standing(4, 3, 4), standing(5, 3, 4), false},
		{standing(0, 0, 64), standing(1280, 672, 64), false},
	} {
		for _, p := range waysOf(c.a, c.b) {
			if is, ok := impl.WaysCross(p[0], p[1]); !ok || is != c.want {
				t.Error(p, is, ok, "want", c.want)
			}
		}
	}
}

func TestManyWaysCross(t *testing.T) {
	cross, apart := 0, 0
	for _, p := range append(joinedPairs(smallMoves(3, 3, 1)), widePairs()...) {
		want := partsCross(p[0], p[1])
		if is, ok := impl.WaysCross(p[0], p[1]); !ok || is != want {
			t.Fatal(p, is, ok, "want", want)
		}
		if want {
			cross++
		} else {
			apart++
		}
		// Who is at one spot at one time has ways that cross there.
		if n, _, _ := impl.LeastApart(p[0], p[1]); n == 0 && !want {
			t.Fatal(p)
		}
	}
	if cross == 0 || apart == 0 {
		t.Error(cross, apart)
	}
}

// row returns n performers who stand in a line, a gap apart.
func row(n int, gap int, counts int) []impl.Move {
	var l []impl.Move
	for i := range n {
		l = append(l, standing(i*gap, 100, counts))
	}
	return l
}

// cornerMoves returns lists of 2 to 12 moves between spots near the corners of the field, whose squares have great numbers.
func cornerMoves(n int) [][]impl.Move {
	corners := []impl.Spot{{X: 0, Y: 0}, {X: impl.MaxX, Y: 0}, {X: 0, Y: impl.MaxY}, {X: impl.MaxX, Y: impl.MaxY}}
	// A simple row of numbers that look as if picked at random, the same ones each time.
	seed := 1
	pick := func(most int) int {
		seed = (seed*16807 + 11) % 2147483647
		return seed / 64 % most
	}
	near := func() impl.Spot {
		a := corners[pick(4)]
		x, y := pick(4), pick(4)
		return impl.Spot{X: max(a.X-x, x-a.X), Y: max(a.Y-y, y-a.Y)}
	}
	var lists [][]impl.Move
	for range n {
		size, counts := 2+pick(11), 1+pick(64)
		var l []impl.Move
		for range size {
			l = append(l, impl.Move{From: near(), To: near(), Counts: counts})
		}
		lists = append(lists, l)
	}
	return lists
}

// moveLists holds lists of 2 to 12 moves that go together.
func moveLists() [][]impl.Move {
	lists := cornerMoves(300)
	small := smallMoves(3, 2, 1)
	for i := range 400 {
		var l []impl.Move
		for k := range 2 + i%11 {
			l = append(l, small[(i*37+k*k*11+k*(i%7))%len(small)])
		}
		lists = append(lists, l)
	}
	wide := widePairs()
	for i := 0; i+5 < len(wide); i += 97 {
		counts := wide[i][0].Counts
		var l []impl.Move
		for _, p := range wide[i : i+6] {
			if p[0].Counts == counts && p[1].Counts == counts {
				l = append(l, p[0], p[1])
			}
		}
		lists = append(lists, l)
	}
	return append(lists, row(2, 9, 4), row(12, 9, 64), row(12, 80, 1))
}

// closestOf returns the first pair with the least square, and this square.
func closestOf(l []impl.Move) (int, int, *big.Rat) {
	first, second := 0, 0
	var least *big.Rat
	for i := range l {
		for k := i + 1; k < len(l); k++ {
			n, d, _ := impl.LeastApart(l[i], l[k])
			square := big.NewRat(int64(n), int64(d))
			if least == nil || square.Cmp(least) < 0 {
				first, second, least = i, k, square
			}
		}
	}
	return first, second, least
}

func TestClosestMoves(t *testing.T) {
	for _, c := range []struct {
		l    []impl.Move
		i, k int
		n, d int
	}{
		{[]impl.Move{moveOf(0, 0, 8, 0, 4), moveOf(8, 8, 0, 8, 4)}, 0, 1, 64, 1},
		{[]impl.Move{standing(0, 0, 4), standing(30, 40, 4), standing(33, 44, 4)}, 1, 2, 25, 1},
		{[]impl.Move{standing(0, 0, 4), standing(30, 40, 4), standing(3, 4, 4)}, 0, 2, 25, 1},
		// Pairs that tie: the least first one, and then the least second one.
		{[]impl.Move{standing(9, 9, 1), standing(9, 9, 1), standing(9, 9, 1)}, 0, 1, 0, 1},
		{[]impl.Move{standing(0, 0, 4), standing(50, 0, 4), standing(0, 5, 4), standing(55, 0, 4)}, 0, 2, 25, 1},
		{[]impl.Move{standing(0, 0, 4), standing(50, 0, 4), standing(100, 0, 4), standing(105, 0, 4), standing(45, 0, 4)}, 1, 4, 25, 1},
		{[]impl.Move{standing(0, 90, 4), standing(50, 0, 4), standing(100, 0, 4), standing(55, 0, 4), standing(45, 0, 4), standing(105, 0, 4)}, 1, 3, 25, 1},
		{row(12, 9, 64), 0, 1, 81, 1},
		{append(row(11, 9, 3), standing(92, 100, 3)), 10, 11, 4, 1},
		{append(row(11, 9, 3), moveOf(92, 100, 92, 200, 3)), 10, 11, 4, 1},
		// The ends alone tell nothing: the last two change places.
		{[]impl.Move{standing(0, 0, 3), standing(0, 5, 3), moveOf(100, 100, 200, 200, 3), moveOf(200, 100, 100, 200, 3)}, 2, 3, 0, 1},
		// Fractions of one whole part: 49/50 and 2025/509, 9/10 and 2601/650 are told apart.
		{[]impl.Move{moveOf(0, 0, 7, 1, 3), standing(0, 1, 3), moveOf(600, 0, 607, 1, 3), standing(600, 1, 3)}, 0, 1, 49, 50},
		{[]impl.Move{moveOf(0, 0, 7, 1, 3), standing(0, 1, 3), moveOf(600, 0, 603, 1, 3), standing(600, 1, 3)}, 2, 3, 9, 10},
		{[]impl.Move{moveOf(0, 0, 3, 1, 3), standing(0, 1, 3), moveOf(600, 0, 607, 1, 3), standing(600, 1, 3)}, 0, 1, 9, 10},
		{[]impl.Move{moveOf(0, 0, 23, 11, 3), standing(10, 7, 3), standing(600, 0, 3), standing(602, 0, 3)}, 2, 3, 4, 1},
		{[]impl.Move{moveOf(0, 0, 22, 5, 3), standing(13, 5, 3), standing(600, 0, 3), standing(602, 0, 3)}, 0, 1, 2025, 509},
		// Two ways across the field and two far apart: products of the numbers of both squares are greater than an int.
		{[]impl.Move{moveOf(0, 0, 1280, 672, 64), moveOf(1280, 672, 0, 1, 64), moveOf(0, 672, 0, 0, 64), moveOf(1000, 0, 1002, 671, 64)}, 0, 1, 1638400, 8357249},
		{[]impl.Move{moveOf(0, 672, 0, 0, 64), moveOf(1000, 0, 1002, 671, 64), moveOf(1280, 672, 0, 1, 64), moveOf(0, 0, 1280, 672, 64)}, 2, 3, 1638400, 8357249},
	} {
		if i, k, ok := impl.ClosestMoves(c.l); !ok || i != c.i || k != c.k {
			t.Error(c.l, i, k, ok)
		}
		if n, d, ok := impl.LeastOfAll(c.l); !ok || n != c.n || d != c.d {
			t.Error(c.l, n, d, ok)
		}
	}
	for _, l := range moveLists() {
		first, second, least := closestOf(l)
		i, k, ok := impl.ClosestMoves(l)
		if !ok || i != first || k != second {
			t.Fatal(l, i, k, ok, "want", first, second)
		}
		n, d, ok := impl.LeastOfAll(l)
		if wantFraction(t, "LeastOfAll", n, d, ok).Cmp(least) != 0 {
			t.Fatal(l, n, d, "want", least)
		}
	}
}

// closePairsOf returns the pairs that do not StayApart, by LeastApart.
func closePairsOf(l []impl.Move, least int) [][]int {
	var pairs [][]int
	for i := range l {
		for k := i + 1; k < len(l); k++ {
			if n, d, _ := impl.LeastApart(l[i], l[k]); n < least*least*d {
				pairs = append(pairs, []int{i, k})
			}
		}
	}
	return pairs
}

func TestCloseMoves(t *testing.T) {
	example := []impl.Move{moveOf(0, 0, 8, 0, 4), moveOf(8, 8, 0, 8, 4)}
	for _, c := range []struct {
		l     []impl.Move
		least int
		want  [][]int
	}{
		{example, 9, [][]int{{0, 1}}},
		{example, 8, nil},
		{example, 0, nil},
		{row(4, 9, 4), 10, [][]int{{0, 1}, {1, 2}, {2, 3}}},
		{row(4, 9, 4), 9, nil},
		{row(4, 9, 4), 18, [][]int{{0, 1}, {1, 2}, {2, 3}}},
		{row(4, 9, 4), 19, [][]int{{0, 1}, {0, 2}, {1, 2}, {1, 3}, {2, 3}}},
		{row(4, 9, 4), 80, [][]int{{0, 1}, {0, 2}, {0, 3}, {1, 2}, {1, 3}, {2, 3}}},
		{row(12, 80, 64), 80, nil},
		{[]impl.Move{standing(9, 9, 1), standing(9, 9, 1)}, 1, [][]int{{0, 1}}},
		{[]impl.Move{standing(9, 9, 1), standing(9, 9, 1)}, 0, nil},
		{append(row(11, 90, 2), moveOf(0, 0, 1000, 200, 2)), 20, [][]int{{5, 11}, {6, 11}}},
	} {
		if l, ok := impl.CloseMoves(c.l, c.least); !ok || !slices.EqualFunc(l, c.want, slices.Equal) {
			t.Error(c.l, c.least, l, ok, "want", c.want)
		}
	}
	some, none := 0, 0
	for i, l := range moveLists() {
		for _, least := range []int{0, 1, 2, i % 81, 79, 80} {
			want := closePairsOf(l, least)
			got, ok := impl.CloseMoves(l, least)
			if !ok || !slices.EqualFunc(got, want, slices.Equal) {
				t.Fatal(l, least, got, ok, "want", want)
			}
			if len(want) > 0 {
				some++
			} else {
				none++
			}
		}
	}
	if some == 0 || none == 0 {
		t.Error(some, none)
	}
}
