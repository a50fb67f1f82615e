package tests

import (
	"math"
	"slices"
	"strings"
	"testing"

	"loop.example/g00939/impl"
)

// everyMusic holds good and bad music, short and long.
func everyMusic() [][]impl.Measure {
	return append(append(musicPick(), badMusic()...), sameMeasures(impl.Measure{Counts: 4, Tempo: 120}, 100000))
}

// callMusicFunctions calls all functions of chapter 2 that take music, with all pairs of some numbers.
func callMusicFunctions(l []impl.Measure, numbers []int) {
	impl.IsMusic(l)
	impl.CountsOf(l)
	impl.FastestMeasure(l)
	impl.MusicText(l)
	for _, a := range numbers {
		impl.MeasureAt(l, a)
		impl.TimeOf(l, a)
		impl.CountAt(l, a)
		for _, b := range numbers {
			impl.LastsFrom(l, a, b)
			for _, c := range numbers {
				impl.WithTempo(l, a, b, c)
				impl.RepeatMeasures(l, a, b, c)
			}
		}
	}
}

func TestMusicFunctionsTakeAllArguments(t *testing.T) {
	numbers := []int{0, 1, -1, 7, 10, 11, 39, 40, 41, 220, 221, 480, 720000, math.MaxInt32, math.MinInt32, math.MaxInt, math.MinInt, math.MaxInt - 1}
	for _, l := range everyMusic() {
		callMusicFunctions(l, numbers)
	}
	for _, counts := range append(numbers, 4, 12, 13) {
		for _, time := range append(numbers, 20000, 20001) {
			impl.TempoFor(counts, time)
		}
	}
	for b := range 256 {
		s := string([]byte{byte(b)})
		for _, text := range []string{s, s + "@120", "4@" + s, "4" + s + "120", "4@120" + s + "3@60", "4@120" + s, strings.Repeat(s, 4000)} {
			impl.ParseMusic(text)
		}
	}
}

func TestMusicStaysAsItIs(t *testing.T) {
	fast := impl.Measure{Counts: 12, Tempo: 220}
	for _, l := range everyMusic() {
		whole := append(slices.Clone(l), fast, fast)
		before := slices.Clone(whole)
		callMusicFunctions(whole[:len(l)], []int{0, 1, 2, 40})
		if !slices.Equal(whole, before) {
			t.Error("changed", before, whole)
		}
	}
}

// TestMusicEndsWithItsList puts measures behind the end of a list that would change the results if they were read.
func TestMusicEndsWithItsList(t *testing.T) {
	whole := []impl.Measure{{Counts: 4, Tempo: 120}, {Counts: 3, Tempo: 60}, {Counts: 12, Tempo: 220}, {}}
	l := whole[:2]
	if n, ok := impl.CountsOf(l); !ok || n != 7 {
		t.Error("counts", n, ok)
	}
	if i, k, ok := impl.MeasureAt(l, 7); ok || i != 0 || k != 0 {
		t.Error("measure", i, k, ok)
	}
	if i, ok := impl.FastestMeasure(l); !ok || i != 0 {
		t.Error("fastest", i, ok)
	}
	if n, ok := impl.TimeOf(l, 7); !ok || n != 5000 {
		t.Error("end", n, ok)
	}
	x, ok := impl.WithTempo(l, 2, 2, 100)
	wantNone(t, "WithTempo", x, ok)
	if s, ok := impl.MusicText(l); !ok || s != "4@120 3@60" {
		t.Error("text", s, ok)
	}
}

// wantNew fails the test unless a call returns a list that shares nothing with its argument l and with another result: all its room is filled with another element.
func wantNew[T comparable](t *testing.T, name string, l []T, other T, call func() ([]T, bool)) {
	t.Helper()
	before := slices.Clone(l)
	first, ok := call()
	if !ok {
		t.Error(name, first, ok)
	}
	want := slices.Clone(first)
	second, _ := call()
	full := first[:cap(first)]
	for i := range full {
		full[i] = other
	}
	third, _ := call()
	if !slices.Equal(l, before) || !slices.Equal(second, want) || !slices.Equal(third, want) {
		t.Error(name, "shared", l, second, third)
	}
}

func TestMusicResultsAreNew(t *testing.T) {
	l := []impl.Measure{{Counts: 4, Tempo: 120}, {Counts: 3, Tempo: 60}, {Counts: 2, Tempo: 90}}
	// The first two calls leave the music as it is, so that a shared list would do for them.
	for name, call := range map[string]func() ([]impl.Measure, bool){
		"same tempo": func() ([]impl.Measure, bool) { return impl.WithTempo(l, 1, 1, 60) },
		"once":       func() ([]impl.Measure, bool) { return impl.RepeatMeasures(l, 0, 2, 1) },
		"tempo":      func() ([]impl.Measure, bool) { return impl.WithTempo(l, 0, 2, 100) },
		"twice":      func() ([]impl.Measure, bool) { return impl.RepeatMeasures(l, 0, 2, 2) },
		"end":        func() ([]impl.Measure, bool) { return impl.RepeatMeasures(l, 2, 2, 3) },
		"text":       func() ([]impl.Measure, bool) { return impl.ParseMusic("4@120 3@60") },
	} {
		wantNew(t, name, l, impl.Measure{Counts: 9, Tempo: 99}, call)
	}
	// Nor does the result have the room behind the list.
	whole := append(slices.Clone(l), l...)
	x, _ := impl.RepeatMeasures(whole[:3], 0, 2, 1)
	x = append(x, impl.Measure{Counts: 9, Tempo: 99})
	if !slices.Equal(whole[3:], l) || len(x) != 4 {
		t.Error("room", whole, x)
	}
}
