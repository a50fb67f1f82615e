package tests

import (
	"math"
	"slices"
	"strconv"
	"strings"
	"testing"

	"loop.example/g00939/impl"
)

// sameMeasures returns a list of n equal measures.
func sameMeasures(m impl.Measure, n int) []impl.Measure {
	l := make([]impl.Measure, n)
	for i := range l {
		l[i] = m
	}
	return l
}

// musicPick holds music of one measure, of as many as can be, with the least and greatest counts and tempos, and with divisions that leave a rest.
func musicPick() [][]impl.Measure {
	picked := [][]impl.Measure{
		{{Counts: 4, Tempo: 120}, {Counts: 3, Tempo: 60}},
		{{Counts: 3, Tempo: 220}, {Counts: 1, Tempo: 219}, {Counts: 12, Tempo: 77}, {Counts: 7, Tempo: 40}},
		{{Counts: 12, Tempo: 130}, {Counts: 1, Tempo: 130}, {Counts: 5, Tempo: 131}},
	}
	for _, counts := range []int{1, 12} {
		for _, tempo := range []int{40, 41, 113, 219, 220} {
			m := impl.Measure{Counts: counts, Tempo: tempo}
			picked = append(picked, sameMeasures(m, 1), sameMeasures(m, 40))
		}
	}
	var mixed []impl.Measure
	for i := range impl.MaxMeasures {
		mixed = append(mixed, impl.Measure{Counts: 1 + i*7%12, Tempo: 40 + i*53%181})
	}
	return append(picked, mixed)
}

// badMeasures holds measures with counts or a tempo out of range.
func badMeasures() []impl.Measure {
	return []impl.Measure{
		{}, {Counts: 0, Tempo: 120}, {Counts: 13, Tempo: 120}, {Counts: -1, Tempo: 120},
		{Counts: 4, Tempo: 39}, {Counts: 4, Tempo: 221}, {Counts: 4, Tempo: 0}, {Counts: 4, Tempo: -120}, {Counts: -4, Tempo: -120},
		{Counts: math.MaxInt, Tempo: 120}, {Counts: math.MinInt, Tempo: 120}, {Counts: 4, Tempo: math.MaxInt}, {Counts: 4, Tempo: math.MinInt},
		{Counts: math.MaxInt, Tempo: math.MaxInt}, {Counts: 1 << 32, Tempo: 1<<32 + 120},
	}
}

// badMusic holds no music, too many measures, and lists with a bad measure in one place.
func badMusic() [][]impl.Measure {
	m := impl.Measure{Counts: 4, Tempo: 120}
	lists := [][]impl.Measure{nil, {}, sameMeasures(m, 41), sameMeasures(m, 1000)}
	for _, bad := range badMeasures() {
		lists = append(lists, []impl.Measure{bad}, []impl.Measure{bad, m}, []impl.Measure{m, bad, m}, append(sameMeasures(m, 39), bad))
	}
	return append(lists, append(sameMeasures(m, 40), impl.Measure{}))
}

// wholePart returns the greatest whole number whose product with the divisor is at most n, without dividing.
func wholePart(n int, divisor int) int {
	whole := 0
	for step := 1 << 20; step > 0; step /= 2 {
		if (whole+step)*divisor <= n {
			whole += step
		}
	}
	return whole
}

// beginTimes lists the times of all counts and that of the end, measure by measure.
func beginTimes(l []impl.Measure) []int {
	var times []int
	begin := 0
	for _, m := range l {
		for k := range m.Counts {
			times = append(times, begin+wholePart(60000*k, m.Tempo))
		}
		begin += wholePart(60000*m.Counts, m.Tempo)
	}
	return append(times, begin)
}

// outside holds numbers that are not in 0..most, those just off it first.
func outside(most int) []int {
	return []int{-1, most + 1, -2, most + 2, 1 << 32, math.MinInt32, math.MaxInt, math.MinInt}
}

func TestMusicIsValid(t *testing.T) {
	if impl.MaxMeasures != 40 {
		t.Error("limit", impl.MaxMeasures)
	}
	for _, l := range musicPick() {
		if !impl.IsMusic(l) {
			t.Error("music", l)
		}
	}
	for _, l := range badMusic() {
		if impl.IsMusic(l) {
			t.Error("no music", l)
		}
	}
	for counts := -1; counts <= 14; counts++ {
		for tempo := -1; tempo <= 230; tempo++ {
			want := counts >= 1 && counts <= 12 && tempo >= 40 && tempo <= 220
			if got := impl.IsMusic([]impl.Measure{{Counts: counts, Tempo: tempo}}); got != want {
				t.Error(counts, tempo, got)
			}
		}
	}
}

func TestBadMusicFails(t *testing.T) {
	for _, l := range badMusic() {
		n, ok := impl.CountsOf(l)
		wantZero(t, "CountsOf", n, ok)
		for _, k := range []int{-1, 0, 1, 4} {
			i, number, ok := impl.MeasureAt(l, k)
			wantZero(t, "MeasureAt", [2]int{i, number}, ok)
			n, ok = impl.TimeOf(l, k)
			wantZero(t, "TimeOf", n, ok)
			n, ok = impl.CountAt(l, k)
			wantZero(t, "CountAt", n, ok)
			n, ok = impl.LastsFrom(l, 0, k)
			wantZero(t, "LastsFrom", n, ok)
		}
		x, ok := impl.WithTempo(l, 0, 0, 120)
		wantNone(t, "WithTempo", x, ok)
		// A tempo for all measures does not mend music with a bad one.
		x, ok = impl.WithTempo(l, 0, len(l)-1, 120)
		wantNone(t, "WithTempo", x, ok)
		x, ok = impl.RepeatMeasures(l, 0, 0, 1)
		wantNone(t, "RepeatMeasures", x, ok)
		n, ok = impl.FastestMeasure(l)
		wantZero(t, "FastestMeasure", n, ok)
		s, ok := impl.MusicText(l)
		wantZero(t, "MusicText", s, ok)
	}
}

func TestCountsOf(t *testing.T) {
	for _, l := range musicPick() {
		if n, ok := impl.CountsOf(l); !ok || n != len(beginTimes(l))-1 {
			t.Error(l, n, ok)
		}
	}
	if n, ok := impl.CountsOf([]impl.Measure{{Counts: 4, Tempo: 120}, {Counts: 3, Tempo: 60}}); !ok || n != 7 {
		t.Error("example", n, ok)
	}
	if n, ok := impl.CountsOf(sameMeasures(impl.Measure{Counts: 12, Tempo: 220}, 40)); !ok || n != 480 {
		t.Error("most counts", n, ok)
	}
}

func TestMeasureAt(t *testing.T) {
	for _, l := range musicPick() {
		count := 0
		for i, m := range l {
			for k := range m.Counts {
				if index, number, ok := impl.MeasureAt(l, count); !ok || index != i || number != k {
					t.Error(l, count, index, number, ok, "want", i, k)
				}
				count++
			}
		}
		for _, bad := range outside(count - 1) {
			i, number, ok := impl.MeasureAt(l, bad)
			wantZero(t, "MeasureAt", [2]int{i, number}, ok)
		}
	}
}

func TestTimeOf(t *testing.T) {
	for _, c := range []struct {
		l    []impl.Measure
		want []int
	}{
		{[]impl.Measure{{Counts: 4, Tempo: 120}}, []int{0, 500, 1000, 1500, 2000}},
		// Each count is rounded down on its own, not the length of a single one.
		{[]impl.Measure{{Counts: 4, Tempo: 220}}, []int{0, 272, 545, 818, 1090}},
		// The rest of a measure does not go on in the next one.
		{[]impl.Measure{{Counts: 1, Tempo: 220}, {Counts: 1, Tempo: 220}, {Counts: 2, Tempo: 220}}, []int{0, 272, 544, 816, 1089}},
		{[]impl.Measure{{Counts: 1, Tempo: 40}}, []int{0, 1500}},
	} {
		for count, want := range c.want {
			if n, ok := impl.TimeOf(c.l, count); !ok || n != want {
				t.Error(c.l, count, n, ok, "want", want)
			}
		}
	}
	for _, l := range musicPick() {
		times := beginTimes(l)
		for count, want := range times {
			if n, ok := impl.TimeOf(l, count); !ok || n != want {
				t.Error(l, count, n, ok, "want", want)
			}
		}
		for _, bad := range outside(len(times) - 1) {
			n, ok := impl.TimeOf(l, bad)
			wantZero(t, "TimeOf", n, ok)
		}
	}
	if n, ok := impl.TimeOf(sameMeasures(impl.Measure{Counts: 12, Tempo: 40}, 40), 480); !ok || n != 720000 {
		t.Error("longest music", n, ok)
	}
}

func TestTimesOfAllMeasures(t *testing.T) {
	for tempo := 40; tempo <= 220; tempo++ {
		for counts := 1; counts <= 12; counts++ {
			l := []impl.Measure{{Counts: counts, Tempo: tempo}}
			for count, want := range beginTimes(l) {
				if n, ok := impl.TimeOf(l, count); !ok || n != want {
					t.Fatal(l, count, n, ok, "want", want)
				}
			}
		}
	}
}

func TestCountAt(t *testing.T) {
	example := []impl.Measure{{Counts: 4, Tempo: 120}, {Counts: 3, Tempo: 60}}
	for time, want := range map[int]int{0: 0, 1: 0, 499: 0, 500: 1, 1999: 3, 2000: 4, 2999: 4, 3000: 5, 4000: 6, 4999: 6} {
		if n, ok := impl.CountAt(example, time); !ok || n != want {
			t.Error(time, n, ok, "want", want)
		}
	}
	for _, l := range musicPick() {
		times := beginTimes(l)
		total := len(times) - 1
		for count := range total {
			for _, time := range []int{times[count], times[count] + 1, times[count+1] - 1} {
				if n, ok := impl.CountAt(l, time); !ok || n != count {
					t.Error(l, time, n, ok, "want", count)
				}
			}
		}
		for _, bad := range outside(times[total] - 1) {
			n, ok := impl.CountAt(l, bad)
			wantZero(t, "CountAt", n, ok)
		}
	}
}

// TestCountsRise checks guarantee 2 by the results alone: counts are found in their measures, and times rise from count to count.
func TestCountsRise(t *testing.T) {
	for _, l := range musicPick() {
		total, _ := impl.CountsOf(l)
		before := -1
		for count := range total {
			i, number, ok := impl.MeasureAt(l, count)
			if !ok || number < 0 || number >= l[i].Counts {
				t.Error("measure", l, count, i, number, ok)
			}
			for _, m := range l[:i] {
				number += m.Counts
			}
			if number != count {
				t.Error("number", l, count, number)
			}
			time, ok := impl.TimeOf(l, count)
			if !ok || time <= before {
				t.Error("time", l, count, time, before, ok)
			}
			if n, ok := impl.CountAt(l, time); !ok || n != count {
				t.Error("count", l, count, time, n, ok)
			}
			before = time
		}
		if end, ok := impl.TimeOf(l, total); !ok || end <= before {
			t.Error("end", l, end, before, ok)
		}
	}
}

func TestLastsFrom(t *testing.T) {
	for _, l := range musicPick() {
		times := beginTimes(l)
		for from := range times {
			for to := range times {
				n, ok := impl.LastsFrom(l, from, to)
				if from > to {
					wantZero(t, "LastsFrom", n, ok)
				} else if !ok || n != times[to]-times[from] {
					t.Error(l, from, to, n, ok)
				}
			}
		}
		for _, bad := range outside(len(times) - 1) {
			for _, p := range [][2]int{{bad, 0}, {0, bad}, {bad, bad}, {bad, len(times) - 1}} {
				n, ok := impl.LastsFrom(l, p[0], p[1])
				wantZero(t, "LastsFrom", n, ok)
			}
		}
	}
}

func TestWithTempo(t *testing.T) {
	for _, l := range musicPick() {
		for from := range l {
			for to := range l {
				for _, tempo := range []int{40, 97, 220} {
					x, ok := impl.WithTempo(l, from, to, tempo)
					if from > to {
						wantNone(t, "WithTempo", x, ok)
						continue
					}
					if !ok || len(x) != len(l) {
						t.Fatal(l, from, to, tempo, x, ok)
					}
					for i, m := range x {
						want := l[i]
						if from <= i && i <= to {
							want.Tempo = tempo
						}
						if m != want {
							t.Error(l, from, to, tempo, i, m)
						}
					}
				}
			}
		}
		for _, bad := range outside(len(l) - 1) {
			for _, p := range [][2]int{{bad, 0}, {0, bad}, {bad, bad}, {bad, len(l) - 1}} {
				x, ok := impl.WithTempo(l, p[0], p[1], 120)
				wantNone(t, "WithTempo", x, ok)
			}
		}
		for _, tempo := range []int{39, 221, 0, -120, 1<<32 + 120, math.MaxInt, math.MinInt} {
			x, ok := impl.WithTempo(l, 0, 0, tempo)
			wantNone(t, "WithTempo", x, ok)
		}
	}
}

func TestRepeatMeasures(t *testing.T) {
	for _, l := range musicPick() {
		for from := range l {
			for to := range l {
				for times := 1; times <= 10; times++ {
					x, ok := impl.RepeatMeasures(l, from, to, times)
					if from > to {
						wantNone(t, "RepeatMeasures", x, ok)
						continue
					}
					want := slices.Clone(l[:from])
					for range times {
						want = append(want, l[from:to+1]...)
					}
					want = append(want, l[to+1:]...)
					if len(want) > 40 {
						wantNone(t, "RepeatMeasures", x, ok)
					} else if !ok || !slices.Equal(x, want) {
						t.Error(l, from, to, times, x, ok)
					}
				}
			}
		}
		for _, bad := range outside(len(l) - 1) {
			for _, p := range [][2]int{{bad, 0}, {0, bad}, {bad, bad}, {bad, len(l) - 1}} {
				x, ok := impl.RepeatMeasures(l, p[0], p[1], 1)
				wantNone(t, "RepeatMeasures", x, ok)
			}
		}
		for _, times := range []int{0, -1, 11, 1<<32 + 1, math.MaxInt, math.MinInt} {
			x, ok := impl.RepeatMeasures(l, 0, 0, times)
			wantNone(t, "RepeatMeasures", x, ok)
		}
	}
}

func TestRepeatedMeasuresFillTheMusic(t *testing.T) {
	a, b, c := impl.Measure{Counts: 4, Tempo: 120}, impl.Measure{Counts: 3, Tempo: 60}, impl.Measure{Counts: 1, Tempo: 40}
	if x, ok := impl.RepeatMeasures([]impl.Measure{a, b, c}, 0, 1, 2); !ok || !slices.Equal(x, []impl.Measure{a, b, a, b, c}) {
		t.Error("twice", x, ok)
	}
	if x, ok := impl.RepeatMeasures(sameMeasures(a, 4), 0, 3, 10); !ok || !slices.Equal(x, sameMeasures(a, 40)) {
		t.Error("40 measures", x, ok)
	}
	if x, ok := impl.RepeatMeasures(sameMeasures(a, 31), 30, 30, 10); !ok || !slices.Equal(x, sameMeasures(a, 40)) {
		t.Error("40 measures", x, ok)
	}
	x, ok := impl.RepeatMeasures(sameMeasures(a, 32), 31, 31, 10)
	wantNone(t, "RepeatMeasures", x, ok)
	x, ok = impl.RepeatMeasures(sameMeasures(a, 40), 39, 39, 2)
	wantNone(t, "RepeatMeasures", x, ok)
}

func TestFastestMeasure(t *testing.T) {
	for _, c := range []struct {
		tempos []int
		want   int
	}{
		{[]int{40}, 0},
		{[]int{220}, 0},
		{[]int{120, 60}, 0},
		{[]int{60, 120}, 1},
		{[]int{60, 120, 120, 60, 120}, 1},
		{[]int{120, 120}, 0},
		{[]int{219, 40, 220}, 2},
		{append(slices.Repeat([]int{40}, 39), 41), 39},
		{slices.Repeat([]int{40}, 40), 0},
	} {
		var l []impl.Measure
		for i, tempo := range c.tempos {
			// Measures with more counts are not the faster ones.
			l = append(l, impl.Measure{Counts: 1 + i%12, Tempo: tempo})
		}
		if i, ok := impl.FastestMeasure(l); !ok || i != c.want {
			t.Error(c.tempos, i, ok, "want", c.want)
		}
	}
}

func TestTempoFor(t *testing.T) {
	for _, c := range [][3]int{
		{4, 2000, 120}, {4, 2001, 119}, {4, 1999, 120}, {4, 0, 220}, {1, 0, 220}, {12, 0, 220},
		{1, 272, 220}, {1, 273, 219}, {4, 1090, 220}, {4, 1091, 219}, {1, 1500, 40}, {12, 18000, 40}, {12, 17999, 40},
	} {
		if n, ok := impl.TempoFor(c[0], c[1]); !ok || n != c[2] {
			t.Error(c, n, ok)
		}
	}
	for _, c := range [][2]int{
		{1, 1501}, {4, 6001}, {12, 18001}, {12, 20000}, {1, 20000},
		{0, 0}, {13, 0}, {-1, 0}, {0, 20000}, {13, 18000}, {math.MaxInt, 0}, {math.MinInt, 0}, {1 << 32, 0},
		{4, -1}, {4, -2000}, {12, 20001}, {4, math.MaxInt}, {4, math.MinInt}, {4, 1 << 32}, {0, -1},
	} {
		n, ok := impl.TempoFor(c[0], c[1])
		wantZero(t, "TempoFor", n, ok)
	}
}

// TestTempoForAllTimes goes from the tempo of one time to that of the next one, which is never greater.
func TestTempoForAllTimes(t *testing.T) {
	for counts := 1; counts <= 12; counts++ {
		want := 220
		for time := 0; time <= 20000; time++ {
			for want >= 40 && wholePart(60000*counts, want) < time {
				want--
			}
			n, ok := impl.TempoFor(counts, time)
			if want < 40 {
				wantZero(t, "TempoFor", n, ok)
			} else if !ok || n != want {
				t.Fatal(counts, time, n, ok, "want", want)
			}
		}
	}
}

func TestMusicText(t *testing.T) {
	for want, l := range map[string][]impl.Measure{
		"4@120 3@60":                           {{Counts: 4, Tempo: 120}, {Counts: 3, Tempo: 60}},
		"1@40":                                 {{Counts: 1, Tempo: 40}},
		"12@220":                               {{Counts: 12, Tempo: 220}},
		"10@100 1@99 10@100":                   {{Counts: 10, Tempo: 100}, {Counts: 1, Tempo: 99}, {Counts: 10, Tempo: 100}},
		strings.Repeat("12@220 ", 39) + "1@40": append(sameMeasures(impl.Measure{Counts: 12, Tempo: 220}, 39), impl.Measure{Counts: 1, Tempo: 40}),
	} {
		if s, ok := impl.MusicText(l); !ok || s != want {
			t.Error(l, s, ok, "want", want)
		}
		if x, ok := impl.ParseMusic(want); !ok || !slices.Equal(x, l) {
			t.Error(want, x, ok, "want", l)
		}
	}
	for _, l := range musicPick() {
		s, ok := impl.MusicText(l)
		if !ok {
			t.Error(l, s, ok)
		}
		if x, ok := impl.ParseMusic(s); !ok || !slices.Equal(x, l) {
			t.Error(s, x, ok)
		}
	}
}

func TestNoMusicTexts(t *testing.T) {
	for _, s := range []string{
		"", " ", "  ", "@", "@ ", " @", "4", "4@", "@120", "120", "4 120", "4@120@3", "4@@120", "4@120@", "@4@120",
		" 4@120", "4@120 ", "4@120  3@60", "4@120 3@60 ", "4@120\t3@60", "4@120\n3@60", "4@120\n", "4@120\r", "4@120,3@60", "4@1203@60",
		"4@120 3", "4@120 3@", "4@120 @60", "4 @120", "4@ 120", "4@120 @", "4@120 ,", "4@120 x", "4@120 3@60 x",
		"04@120", "4@0120", "4@060", "00@120", "4@0", "0@120", "13@120", "4@39", "4@221", "4@220 4@221", "4@40 0@40", "1@40 13@40",
		"-4@120", "4@-120", "+4@120", "4@+120", "4@1e2", "0x4@120", "4.0@120", "4@120.0", "1_2@120", "4@1_20", "four@120",
		"9223372036854775808@120", "18446744073709551620@120", "4@18446744073709551736", "4294967300@120", "4@4294967416",
		"\u0664@120", "\uff14@120", "4@12\u0660", "4\uff20120", "4@120\u00a03@60", "4@120\x00", "\xff4@120", "4\xff@120", "4@120\xff", "4@\xff120", "4@120 \xff3@60", "4@120\xc0\xa03@60", "4\xc1\x80120",
		strings.Repeat("4@120 ", 40) + "4@120", strings.Repeat("4@120 ", 5000), strings.Repeat("4", 5000) + "@120", "4@" + strings.Repeat("1", 5000),
		strings.Repeat("@", 5000), strings.Repeat(" ", 5000), strings.Repeat("4@", 5000), strings.Repeat("0", 5000) + "4@120",
	} {
		l, ok := impl.ParseMusic(s)
		wantNone(t, "ParseMusic "+strconv.Quote(s[:min(len(s), 30)]), l, ok)
	}
	// Forty measures are just not too many.
	if l, ok := impl.ParseMusic(strings.Repeat("4@120 ", 39) + "4@120"); !ok || !slices.Equal(l, sameMeasures(impl.Measure{Counts: 4, Tempo: 120}, 40)) {
		t.Error("40 measures", l, ok)
	}
}

// tryTexts calls a function with all texts of at most some bytes of an alphabet.
func tryTexts(alphabet string, most int, try func(s string)) {
	var longer func(s string)
	longer = func(s string) {
		try(s)
		if len(s) < most {
			for i := range alphabet {
				longer(s + alphabet[i:i+1])
			}
		}
	}
	longer("")
}

// wantRead stops the test unless a text has been read as a list, if it is good, or has failed to be read.
func wantRead[T comparable](t *testing.T, s string, got []T, ok bool, want []T, good bool) {
	t.Helper()
	if ok != good || ok && !slices.Equal(got, want) || !ok && len(got) > 0 {
		t.Fatalf("%q: %v, %v", s, got, ok)
	}
}

// TestShortMusicTexts parses short texts of all kinds: they are music just if all their words are measures' texts.
func TestShortMusicTexts(t *testing.T) {
	measures := map[string]impl.Measure{}
	for counts := 1; counts <= 12; counts++ {
		for tempo := 40; tempo <= 220; tempo++ {
			measures[strconv.Itoa(counts)+"@"+strconv.Itoa(tempo)] = impl.Measure{Counts: counts, Tempo: tempo}
		}
	}
	parsed := map[int]int{}
	try := func(s string) {
		var want []impl.Measure
		good := true
		for _, word := range strings.Split(s, " ") {
			m, ok := measures[word]
			want = append(want, m)
			good = good && ok
		}
		l, ok := impl.ParseMusic(s)
		wantRead(t, s, l, ok, want, good)
		parsed[len(l)]++
	}
	tryTexts("14@ ", 9, try)
	tryTexts("012349@ ", 6, try)
	tryTexts("14@ +-\n\xff", 5, try)
	if parsed[1] == 0 || parsed[2] == 0 {
		t.Error("texts of one measure and of two", parsed)
	}
}
