package tests

import (
	"math"
	"strings"
	"testing"

	"loop.example/g00939/impl"
)

func TestMoveFunctionsTakeAllArguments(t *testing.T) {
	numbers := []int{0, 1, -1, 2, 7, 8, 24, 25, 63, 64, 65, -64, 1 << 32, math.MaxInt32, math.MinInt32, math.MaxInt, math.MaxInt - 1, math.MinInt, math.MinInt + 1}
	moves := append(badMoves(), movePick()...)
	for _, counts := range numbers {
		for _, a := range badSpots() {
			moves = append(moves, impl.Move{From: a, To: a, Counts: counts}, impl.Move{To: a, Counts: counts})
		}
	}
	for _, m := range moves {
		impl.IsMove(m)
		impl.StepSquare(m)
		impl.ReverseMove(m)
		impl.WholeCounts(m)
		impl.MoveText(m)
		for _, n := range numbers {
			impl.PlaceAt(m, n)
			impl.RoundedAt(m, n)
			impl.SplitMove(m, n)
			impl.WithinStep(m, n)
			impl.LeastCounts(m.From, m.To, n)
		}
	}
	// Sums of counts that wrap around make no move.
	for _, a := range numbers {
		for _, b := range numbers {
			impl.JoinMoves(moveOf(83, 16, 83, 16, a), moveOf(83, 16, 83, 16, b))
			impl.JoinMoves(moveOf(0, 0, b, a, a), moveOf(b, a, math.MaxInt, math.MinInt, b))
		}
	}
	for b := range 256 {
		s := string([]byte{byte(b)})
		for _, text := range []string{s, s + " 0,0 8", "0,0 " + s + " 8", "0,0 0,0 " + s, "0,0" + s + "0,0" + s + "8", strings.Repeat(s, 4000), strings.Repeat(s+" ", 4000)} {
			impl.ParseMove(text)
		}
	}
}

func TestMovePairsTakeAllArguments(t *testing.T) {
	moves := append(badMoves(), movePick()[:200]...)
	for _, a := range moves {
		for _, b := range moves {
			impl.JoinMoves(a, b)
		}
	}
}

// TestMoveResultsAreNew fills all the room of results; the same calls return the same ones afterwards.
func TestMoveResultsAreNew(t *testing.T) {
	for name, m := range map[string]impl.Move{
		"some counts": moveOf(0, 0, 12, 16, 8),
		"two counts":  moveOf(0, 0, 1, 0, 64),
		"all counts":  moveOf(83, 16, 83, 16, 64),
	} {
		wantNew(t, name, nil, 99, func() ([]int, bool) { return impl.WholeCounts(m) })
	}
}

// TestMoveCallsKeepNothing calls steps in different orders: the table that they are read from stays as it is.
func TestMoveCallsKeepNothing(t *testing.T) {
	a, b := impl.Spot{X: 0, Y: 0}, impl.Spot{X: 48, Y: 64}
	var first []int
	for step := 1; step <= 24; step++ {
		n, _ := impl.LeastCounts(a, b, step)
		first = append(first, n)
	}
	for step := 24; step >= 1; step-- {
		impl.LeastCounts(b, a, step+1)
		impl.WithinStep(moveOf(0, 0, 1, 1, 1), step-1)
		if n, _ := impl.LeastCounts(a, b, step); n != first[step-1] {
			t.Error(step, n, first[step-1])
		}
	}
}
