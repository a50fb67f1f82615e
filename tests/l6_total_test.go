package tests

import (
	"math"
	"slices"
	"testing"

	"loop.example/g00939/impl"
)

// badLeasts holds numbers that are no least distance.
func badLeasts() []int {
	return append(outside(80), -80, 160, 1<<32+8, math.MinInt+1, math.MaxInt-1)
}

// badTogether holds two moves each that don't go together: one or both are not valid, or they have other Counts.
func badTogether() [][2]impl.Move {
	good := moveOf(83, 16, 95, 32, 4)
	pairs := [][2]impl.Move{}
	for _, bad := range badMoves() {
		pairs = append(pairs, [2]impl.Move{bad, good}, [2]impl.Move{good, bad}, [2]impl.Move{bad, bad})
	}
	for _, counts := range []int{1, 3, 5, 8, 64} {
		for _, other := range []impl.Move{moveOf(83, 16, 95, 32, counts), standing(640, 336, counts), moveOf(95, 32, 83, 16, counts)} {
			pairs = append(pairs, [2]impl.Move{good, other}, [2]impl.Move{other, good})
		}
	}
	return append(pairs, [2]impl.Move{standing(0, 0, 64), standing(0, 0, 63)}, [2]impl.Move{standing(0, 0, 1), standing(0, 0, 2)})
}

// badMoveLists holds lists that are too short or too long, that have bad moves, or moves that don't all go together.
func badMoveLists() [][]impl.Move {
	lists := [][]impl.Move{nil, {}, row(1, 9, 4), row(13, 9, 4), row(13, 90, 64), row(100, 1, 1), {{}}, {{}, {}}, make([]impl.Move, 12), make([]impl.Move, 13), badMoves()}
	for _, p := range badTogether() {
		lists = append(lists, p[:], []impl.Move{p[0], p[1], p[0]})
	}
	other := append(badMoves(), standing(7, 7, 3), standing(7, 7, 5), moveOf(83, 16, 95, 32, 64))
	for i, m := range other {
		for _, at := range []int{0, i % 12, 11} {
			l := row(12, 9, 4)
			l[at] = m
			lists = append(lists, l)
		}
		lists = append(lists, append(row(2, 9, 4), m), []impl.Move{m}, append(row(12, 9, 4), m))
	}
	return lists
}

// wantNoPair fails the test unless all functions of two moves fail with zero results.
func wantNoPair(t *testing.T, a impl.Move, b impl.Move, numbers []int) {
	t.Helper()
	n, d, ok := impl.LeastApart(a, b)
	wantZero(t, "LeastApart", [2]int{n, d}, ok)
	n, d, ok = impl.ClosestTime(a, b)
	wantZero(t, "ClosestTime", [2]int{n, d}, ok)
	is, ok := impl.WaysCross(a, b)
	wantZero(t, "WaysCross", is, ok)
	for _, k := range numbers {
		n, d, ok := impl.ApartAt(a, b, k)
		wantZero(t, "ApartAt", [2]int{n, d}, ok)
		is, ok := impl.StayApart(a, b, k)
		wantZero(t, "StayApart", is, ok)
		l, ok := impl.CloseCounts(a, b, k)
		wantNone(t, "CloseCounts", l, ok)
	}
}

func TestMovesThatDoNotGoTogetherFail(t *testing.T) {
	for _, p := range badTogether() {
		wantNoPair(t, p[0], p[1], []int{0, 1, 2, p[0].Counts, p[1].Counts, 80, -1, 81})
	}
}

func TestBadMoveListsFail(t *testing.T) {
	for _, l := range badMoveLists() {
		i, k, ok := impl.ClosestMoves(l)
		wantZero(t, "ClosestMoves", [2]int{i, k}, ok)
		n, d, ok := impl.LeastOfAll(l)
		wantZero(t, "LeastOfAll", [2]int{n, d}, ok)
		for _, least := range []int{0, 1, 8, 80, -1, 81} {
			pairs, ok := impl.CloseMoves(l, least)
			wantNone(t, "CloseMoves", pairs, ok)
		}
	}
}

// TestBadCountsOfPairs has counts that two moves don't have, also where they stand still.
func TestBadCountsOfPairs(t *testing.T) {
	for _, p := range closestCases() {
		for _, count := range append(outside(p.a.Counts), -p.a.Counts, p.a.Counts+64, 1<<32+1, math.MinInt+1) {
			n, d, ok := impl.ApartAt(p.a, p.b, count)
			wantZero(t, "ApartAt", [2]int{n, d}, ok)
		}
	}
}

// TestBadLeasts has least distances out of range for moves that are close, far away, and at the same spot.
func TestBadLeasts(t *testing.T) {
	for _, least := range badLeasts() {
		for _, p := range closestCases() {
			is, ok := impl.StayApart(p.a, p.b, least)
			wantZero(t, "StayApart", is, ok)
			l, ok := impl.CloseCounts(p.a, p.b, least)
			wantNone(t, "CloseCounts", l, ok)
			pairs, ok := impl.CloseMoves([]impl.Move{p.a, p.b}, least)
			wantNone(t, "CloseMoves", pairs, ok)
		}
	}
}

func TestApartFunctionsTakeAllArguments(t *testing.T) {
	numbers := []int{0, 1, -1, 8, 63, 64, 65, 80, 81, 1 << 32, math.MaxInt32, math.MinInt32, math.MaxInt, math.MinInt, math.MinInt + 1}
	moves := append(badMoves(), movePick()[:150]...)
	for _, counts := range numbers {
		for _, a := range badSpots() {
			moves = append(moves, impl.Move{From: a, To: a, Counts: counts}, impl.Move{To: a, Counts: counts})
		}
	}
	for _, a := range moves {
		for _, b := range moves {
			impl.LeastApart(a, b)
			impl.ClosestTime(a, b)
			impl.WaysCross(a, b)
		}
	}
	for i, a := range moves {
		for _, b := range []impl.Move{a, moves[0], moves[len(moves)-1-i], standing(83, 16, a.Counts)} {
			for _, n := range numbers {
				impl.ApartAt(a, b, n)
				impl.StayApart(a, b, n)
				impl.CloseCounts(a, b, n)
			}
		}
	}
	for _, l := range slices.Concat(badMoveLists(), moveLists()[:300], [][]impl.Move{movePick(), sameMoves(standing(83, 16, 4), 100000)}) {
		impl.ClosestMoves(l)
		impl.LeastOfAll(l)
		for _, n := range numbers {
			impl.CloseMoves(l, n)
		}
	}
}

// sameMoves returns a list of n equal moves.
func sameMoves(m impl.Move, n int) []impl.Move {
	return slices.Repeat([]impl.Move{m}, n)
}

func TestMoveListsStayAsTheyAre(t *testing.T) {
	behind := []impl.Move{standing(83, 16, 4), {Counts: -1}}
	for _, l := range append(moveLists(), badMoveLists()...) {
		whole := slices.Concat(l, behind)
		before := slices.Clone(whole)
		impl.ClosestMoves(whole[:len(l)])
		impl.LeastOfAll(whole[:len(l)])
		impl.CloseMoves(whole[:len(l)], 80)
		if !slices.Equal(whole, before) {
			t.Error("changed", before, whole)
		}
	}
}

// TestMovesEndWithTheirList puts moves behind the end of a list that would change the results if they were read.
func TestMovesEndWithTheirList(t *testing.T) {
	whole := []impl.Move{standing(0, 0, 4), standing(30, 40, 4), standing(30, 41, 4), {Counts: -1}}
	if i, k, ok := impl.ClosestMoves(whole[:2]); !ok || i != 0 || k != 1 {
		t.Error(i, k, ok)
	}
	if n, d, ok := impl.LeastOfAll(whole[:2]); !ok || n != 2500 || d != 1 {
		t.Error(n, d, ok)
	}
	if l, ok := impl.CloseMoves(whole[:2], 50); !ok || len(l) != 0 {
		t.Error(l, ok)
	}
	if l, ok := impl.CloseMoves(whole[:2], 51); !ok || len(l) != 1 {
		t.Error(l, ok)
	}
	i, k, ok := impl.ClosestMoves(whole[:1])
	wantZero(t, "ClosestMoves", [2]int{i, k}, ok)
}

func TestCloseCountsAreNew(t *testing.T) {
	a, b := moveOf(0, 0, 8, 0, 4), moveOf(8, 8, 0, 8, 4)
	for name, least := range map[string]int{"no counts": 8, "some counts": 9, "all counts": 80} {
		wantNew(t, name, nil, 99, func() ([]int, bool) { return impl.CloseCounts(a, b, least) })
	}
}

// TestClosePairsAreNew fills all the room of a pair: neither the other pairs nor those of another call change.
func TestClosePairsAreNew(t *testing.T) {
	l := row(4, 9, 4)
	want := [][]int{{0, 1}, {0, 2}, {0, 3}, {1, 2}, {1, 3}, {2, 3}}
	for i := range want {
		first, _ := impl.CloseMoves(l, 80)
		second, _ := impl.CloseMoves(l, 80)
		full := first[i][:cap(first[i])]
		for k := range full {
			full[k] = 99
		}
		third, _ := impl.CloseMoves(l, 80)
		if !slices.EqualFunc(second, want, slices.Equal) || !slices.EqualFunc(third, want, slices.Equal) {
			t.Error("other calls", i, second, third)
		}
		for k, pair := range first {
			if k != i && !slices.Equal(pair, want[k]) {
				t.Error("other pairs", i, first)
			}
		}
	}
}
