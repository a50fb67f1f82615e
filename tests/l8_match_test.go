package tests

import (
	"math"
	"slices"
	"testing"

	"loop.example/g00939/impl"
)

// highest is the greatest cost, and the greatest number of a certificate.
const highest = 2100000

// sameCosts returns a table with one cost everywhere.
func sameCosts(n int, cost int) [][]int {
	return costsBy(n, func(i int, k int) int { return cost })
}

// costsBy returns the table with the costs that a function tells.
func costsBy(n int, cost func(i int, k int) int) [][]int {
	costs := make([][]int, n)
	for i := range n {
		for k := range n {
			costs[i] = append(costs[i], cost(i, k))
		}
	}
	return costs
}

// mixedCosts returns a table with costs in 0..most in no order, other ones for each seed.
func mixedCosts(n int, seed int, most int) [][]int {
	x := uint64(seed)*2654435761 + 12345
	return costsBy(n, func(i int, k int) int {
		x = x*6364136223846793005 + 1442695040888963407
		return int((x >> 33) % uint64(most+1))
	})
}

// blockCosts returns a table with a cost in blocks along the diagonal, which are as wide as told, and another cost elsewhere.
func blockCosts(n int, width int, within int, elsewhere int) [][]int {
	return costsBy(n, func(i int, k int) int {
		if i/width == k/width {
			return within
		}
		return elsewhere
	})
}

// smallCosts returns all tables of n rows with costs in 0..most.
func smallCosts(n int, most int) [][][]int {
	tables := [][][]int{sameCosts(n, 0)}
	for at := range n * n {
		for _, costs := range slices.Clone(tables) {
			for cost := 1; cost <= most; cost++ {
				next := copyCosts(costs)
				next[at/n][at%n] = cost
				tables = append(tables, next)
			}
		}
	}
	return tables
}

func copyCosts(costs [][]int) [][]int {
	return costsBy(len(costs), func(i int, k int) int { return costs[i][k] })
}

// fewRows holds tables of so few rows that all their matchings can be looked at.
func fewRows() [][][]int {
	tables := [][][]int{
		{{0}}, {{1}}, {{7}}, {{highest - 1}}, {{highest}},
		{{1, 2}, {3, 9}}, {{1, 2}, {3, 4}}, {{0, highest}, {highest, 0}}, {{highest, 0}, {0, highest}}, {{highest, 0}, {highest, highest}}, {{0, 0}, {0, highest}},
		{{4, 1, 3}, {2, 0, 5}, {3, 2, 2}}, {{5, 5, 1}, {5, 1, 5}, {1, 5, 5}},
		// The rows of the last matchings come before those of the first ones.
		{{1, 1, 0}, {1, 0, 1}, {0, 1, 1}}, {{9, 9, 9}, {9, 9, 1}, {9, 1, 9}},
		// A chain of rows that lower each other's columns.
		{{highest, 0, highest, highest}, {highest, highest, 0, highest}, {highest, highest, highest, 0}, {highest, highest, highest, highest}},
		{{9, 6, 20, 20}, {20, 9, 7, 20}, {20, 20, 9, 8}, {20, 20, 20, 9}},
	}
	tables = append(tables, smallCosts(2, 3)...)
	tables = append(tables, smallCosts(3, 1)...)
	for seed := range 40 {
		for n := 1; n <= 6; n++ {
			tables = append(tables, mixedCosts(n, seed, highest), mixedCosts(n, seed, 3))
		}
	}
	for n := 1; n <= 6; n++ {
		tables = append(tables, sameCosts(n, 0), sameCosts(n, 5), sameCosts(n, highest), blockCosts(n, 2, 0, highest), blockCosts(n, 2, highest, 0), blockCosts(n, 1, 3, 4))
	}
	return tables
}

// manyRows holds tables of up to 12 rows, with many least matchings and with few.
func manyRows() [][][]int {
	var tables [][][]int
	for n := 7; n <= impl.MaxPlaces; n++ {
		tables = append(tables, sameCosts(n, 0), sameCosts(n, highest), blockCosts(n, 1, 0, highest), blockCosts(n, 1, highest, 0), blockCosts(n, 2, 8, 9), blockCosts(n, 3, 9, 8), blockCosts(n, 5, 0, 1))
		for seed := range 4 {
			tables = append(tables, mixedCosts(n, seed, highest), mixedCosts(n, seed, 40), mixedCosts(n, seed, 9), mixedCosts(n, seed, 2), mixedCosts(n, seed, 1))
		}
		tables = append(tables, stairCosts(n), costsBy(n, func(i int, k int) int { return (i - k) * (i - k) }), costsBy(n, func(i int, k int) int { return i * k }))
	}
	return tables
}

// stairCosts returns a table whose certificate has columns far below 0.
func stairCosts(n int) [][]int {
	return costsBy(n, func(i int, k int) int {
		if k == i+1 {
			return 0
		}
		return min(highest, 50+i*100*k)
	})
}

func everyCosts() [][][]int {
	return append(fewRows(), manyRows()...)
}

// matchingsOf returns all matchings of n rows in lexicographic order.
func matchingsOf(n int) [][]int {
	matchings := [][]int{nil}
	for range n {
		var longer [][]int
		for _, places := range matchings {
			for k := range n {
				if !slices.Contains(places, k) {
					longer = append(longer, slices.Concat(places, []int{k}))
				}
			}
		}
		matchings = longer
	}
	return matchings
}

func sumAlong(costs [][]int, places []int) int {
	sum := 0
	for i := range costs {
		sum += costs[i][places[i]]
	}
	return sum
}

func greatestAlong(costs [][]int, places []int) int {
	greatest := 0
	for i := range costs {
		greatest = max(greatest, costs[i][places[i]])
	}
	return greatest
}

// leastFirst returns the first matching, among those that are wanted, for which a function tells the least number, this number, and how many matchings have it.
func leastFirst(costs [][]int, number func(costs [][]int, places []int) int, wanted func(places []int) bool) ([]int, int, int) {
	var first []int
	least, count := math.MaxInt, 0
	for _, places := range matchingsOf(len(costs)) {
		if !wanted(places) {
			continue
		}
		n := number(costs, places)
		if n < least {
			first, least, count = places, n, 0
		}
		if n == least {
			count++
		}
	}
	return first, least, count
}

func anyPlaces(places []int) bool { return true }

// canPlace finds a column for row i, by moving rows that have been placed to others of the columns that they may have.
func canPlace(may [][]bool, i int, rowOf []int, tried []bool) bool {
	for k := range may {
		if !may[i][k] || tried[k] {
			continue
		}
		tried[k] = true
		if rowOf[k] < 0 || canPlace(may, rowOf[k], rowOf, tried) {
			rowOf[k] = i
			return true
		}
	}
	return false
}

// haveColumns reports whether all rows can have different columns that they may have.
func haveColumns(may [][]bool) bool {
	rowOf := slices.Repeat([]int{-1}, len(may))
	for i := range may {
		if !canPlace(may, i, rowOf, make([]bool, len(may))) {
			return false
		}
	}
	return true
}

// firstWithin returns the first matching of columns that the rows may have, or nil if there is none.
func firstWithin(n int, mayHave func(i int, k int) bool) []int {
	may := make([][]bool, n)
	for i := range n {
		for k := range n {
			may[i] = append(may[i], mayHave(i, k))
		}
	}
	var places []int
	for i := range n {
		row := may[i]
		for k := range n {
			may[i] = make([]bool, n)
			may[i][k] = row[k]
			if haveColumns(may) {
				places = append(places, k)
				break
			}
		}
	}
	if len(places) < n {
		return nil
	}
	return places
}

// countWithin returns the number of matchings of columns that the rows from i on may have.
func countWithin(n int, i int, taken int, mayHave func(i int, k int) bool) int {
	if i == n {
		return 1
	}
	count := 0
	for k := range n {
		if taken>>k&1 == 0 && mayHave(i, k) {
			count += countWithin(n, i+1, taken|1<<k, mayHave)
		}
	}
	return count
}

func wantMatching(t *testing.T, call string, costs [][]int, got []int, n int, ok bool, want []int, wantN int) {
	t.Helper()
	if !ok || n != wantN || !slices.Equal(got, want) {
		t.Errorf("%s %v = %v, %v, %v, want %v, %v", call, costs, got, n, ok, want, wantN)
	}
}

// wantNoMatching fails the test unless a call failed with zero results.
func wantNoMatching(t *testing.T, call string, got []int, n int, ok bool) {
	t.Helper()
	wantNone(t, call, got, ok)
	wantZero(t, call, n, ok)
}

func wantInt(t *testing.T, call string, costs [][]int, got int, ok bool, want int) {
	t.Helper()
	if !ok || got != want {
		t.Errorf("%s %v = %v, %v, want %v", call, costs, got, ok, want)
	}
}

func TestCostsAreValid(t *testing.T) {
	if impl.MaxPlaces != 12 {
		t.Error("limit", impl.MaxPlaces)
	}
	for _, costs := range everyCosts() {
		if !impl.AreCosts(costs) {
			t.Error("costs", costs)
		}
	}
	for n := 1; n <= 12; n++ {
		for i := range n {
			for k := range n {
				for _, cost := range []int{0, 1, highest - 1, highest} {
					costs := sameCosts(n, 7)
					costs[i][k] = cost
					if !impl.AreCosts(costs) {
						t.Error(n, i, k, cost)
					}
				}
				for _, cost := range append(outside(highest), -highest, 1<<31, 1<<62) {
					costs := sameCosts(n, 7)
					costs[i][k] = cost
					if impl.AreCosts(costs) {
						t.Error(n, i, k, cost)
					}
				}
			}
		}
	}
	for _, costs := range badCosts() {
		if impl.AreCosts(costs) {
			t.Error("no costs", costs)
		}
	}
}

func TestMatchingSum(t *testing.T) {
	for _, c := range []struct {
		costs  [][]int
		places []int
		want   int
	}{
		{[][]int{{0}}, []int{0}, 0}, {[][]int{{highest}}, []int{0}, highest},
		{[][]int{{1, 2}, {3, 9}}, []int{0, 1}, 10}, {[][]int{{1, 2}, {3, 9}}, []int{1, 0}, 5},
		{[][]int{{1, 20, 300}, {4000, 50000, 600000}, {7, 8, 9}}, []int{1, 2, 0}, 600027},
		{[][]int{{1, 20, 300}, {4000, 50000, 600000}, {7, 8, 9}}, []int{2, 0, 1}, 4308},
		{sameCosts(12, highest), []int{11, 10, 9, 8, 7, 6, 5, 4, 3, 2, 1, 0}, 25200000},
	} {
		n, ok := impl.MatchingSum(c.costs, c.places)
		wantInt(t, "MatchingSum", c.costs, n, ok, c.want)
	}
	for _, costs := range fewRows() {
		for _, places := range matchingsOf(len(costs)) {
			n, ok := impl.MatchingSum(costs, places)
			wantInt(t, "MatchingSum", costs, n, ok, sumAlong(costs, places))
		}
	}
}

func TestNoMatchings(t *testing.T) {
	for _, costs := range everyCosts() {
		n := len(costs)
		places := upTo(0, n-1)
		for _, bad := range [][]int{nil, {}, places[:n-1], places[1:], slices.Concat(places, []int{n}), slices.Concat(places, []int{0}), slices.Concat(places, places), slices.Repeat([]int{0}, n+1), make([]int, 100000)} {
			sum, ok := impl.MatchingSum(costs, bad)
			wantZero(t, "MatchingSum", sum, ok)
		}
		for i := range n {
			for _, k := range append(outside(n-1), 12, 63, 64, math.MinInt+1) {
				bad := slices.Clone(places)
				bad[i] = k
				sum, ok := impl.MatchingSum(costs, bad)
				wantZero(t, "MatchingSum", sum, ok)
			}
			for k := range n {
				twice := slices.Clone(places)
				twice[i] = k
				if sum, ok := impl.MatchingSum(costs, twice); i != k {
					wantZero(t, "MatchingSum", sum, ok)
				}
			}
		}
	}
}

func TestLeastMatching(t *testing.T) {
	for _, c := range []struct {
		costs  [][]int
		places []int
		sum    int
	}{
		{[][]int{{1, 2}, {3, 9}}, []int{1, 0}, 5},
		{[][]int{{0}}, []int{0}, 0}, {[][]int{{highest}}, []int{0}, highest},
		// Of several matchings the first one.
		{[][]int{{1, 2}, {3, 4}}, []int{0, 1}, 5},
		{[][]int{{4, 4, 4}, {4, 4, 4}, {4, 4, 4}}, []int{0, 1, 2}, 12},
		{[][]int{{9, 0, 0}, {0, 9, 0}, {0, 0, 9}}, []int{1, 2, 0}, 0},
		{[][]int{{9, 1, 1}, {1, 9, 9}, {1, 9, 9}}, []int{1, 0, 2}, 11},
		{[][]int{{2, 1, 9}, {1, 2, 9}, {9, 9, 0}}, []int{1, 0, 2}, 2},
		{[][]int{{2, 1, 9}, {2, 1, 9}, {9, 9, 0}}, []int{0, 1, 2}, 3},
		{blockCosts(12, 1, 0, highest), upTo(0, 11), 0},
		{blockCosts(12, 1, highest, 0), []int{1, 0, 3, 2, 5, 4, 7, 6, 9, 8, 11, 10}, 0},
		{sameCosts(12, highest), upTo(0, 11), 25200000},
		{sameCosts(12, 0), upTo(0, 11), 0},
		{costsBy(12, func(i int, k int) int { return i * k }), []int{11, 10, 9, 8, 7, 6, 5, 4, 3, 2, 1, 0}, 220},
		{costsBy(12, func(i int, k int) int { return (11 - k) * (i + 1) }), upTo(0, 11), 286},
	} {
		got, n, ok := impl.LeastMatching(c.costs)
		wantMatching(t, "LeastMatching", c.costs, got, n, ok, c.places, c.sum)
	}
}

func TestLeastMatchingOfAllMatchings(t *testing.T) {
	for _, costs := range fewRows() {
		first, sum, count := leastFirst(costs, sumAlong, anyPlaces)
		got, n, ok := impl.LeastMatching(costs)
		wantMatching(t, "LeastMatching", costs, got, n, ok, first, sum)
		number, ok := impl.CountLeast(costs)
		wantInt(t, "CountLeast", costs, number, ok, count)
	}
}

// TestLeastMatchingsHaveCertificates checks guarantee 8.
func TestLeastMatchingsHaveCertificates(t *testing.T) {
	for _, costs := range everyCosts() {
		places, sum, ok := impl.LeastMatching(costs)
		if !ok || !slices.Equal(slices.Sorted(slices.Values(places)), upTo(0, len(costs)-1)) || sumAlong(costs, places) != sum {
			t.Fatal("matching", costs, places, sum, ok)
		}
		if n, ok := impl.MatchingSum(costs, places); !ok || n != sum {
			t.Error("sum", costs, n, ok)
		}
		rows, columns, ok := impl.LeastCertificate(costs)
		if !ok || len(rows) != len(costs) || len(columns) != len(costs) {
			t.Fatal("certificate", costs, rows, columns, ok)
		}
		if is, ok := impl.IsCertificate(costs, rows, columns); !ok || !is {
			t.Error("none", costs, rows, columns)
		}
		together := 0
		for i := range costs {
			together += rows[i] + columns[i]
			for k := range costs {
				if rows[i]+columns[k] > costs[i][k] {
					t.Error("too great", costs, i, k, rows, columns)
				}
			}
		}
		if together != sum {
			t.Error(costs, rows, columns, together, sum)
		}
	}
}

// TestLeastMatchingsWithinTheirCertificate uses that the matchings with the least sum are those whose costs are just what the certificate says.
func TestLeastMatchingsWithinTheirCertificate(t *testing.T) {
	for _, costs := range everyCosts() {
		rows, columns, ok := impl.LeastCertificate(costs)
		if !ok {
			t.Fatal(costs)
		}
		just := func(i int, k int) bool { return rows[i]+columns[k] == costs[i][k] }
		got, n, ok := impl.LeastMatching(costs)
		wantMatching(t, "LeastMatching", costs, got, n, ok, firstWithin(len(costs), just), sumAlong(costs, got))
		pairs := 0
		for i := range costs {
			for k := range costs {
				if just(i, k) {
					pairs++
				}
			}
		}
		if len(costs) > 7 && pairs > 4*len(costs) {
			continue // Their matchings would be too many to be counted one by one.
		}
		number, ok := impl.CountLeast(costs)
		wantInt(t, "CountLeast", costs, number, ok, countWithin(len(costs), 0, 0, just))
	}
}

func TestGreedyMatching(t *testing.T) {
	for _, c := range []struct {
		costs  [][]int
		places []int
		sum    int
	}{
		{[][]int{{1, 2}, {3, 9}}, []int{0, 1}, 10},
		{[][]int{{2, 1}, {3, 9}}, []int{1, 0}, 4},
		{[][]int{{0}}, []int{0}, 0}, {[][]int{{highest}}, []int{0}, highest},
		// Of several columns with the least cost the first one that is left.
		{[][]int{{3, 1, 1}, {1, 1, 1}, {0, 9, 9}}, []int{1, 0, 2}, 11},
		{[][]int{{5, 5, 5}, {5, 5, 5}, {5, 5, 5}}, []int{0, 1, 2}, 15},
		{[][]int{{5, 5, 0}, {5, 0, 5}, {0, 5, 5}}, []int{2, 1, 0}, 0},
		{[][]int{{0, 7, 8}, {0, 6, 6}, {0, 0, 9}}, []int{0, 1, 2}, 15},
		{[][]int{{8, 0, 7}, {6, 0, 6}, {9, 0, 0}}, []int{1, 0, 2}, 6},
		{[][]int{{highest, highest}, {0, highest}}, []int{0, 1}, 2 * highest},
		{[][]int{{highest, 0}, {0, 0}}, []int{1, 0}, 0},
		{sameCosts(12, highest), upTo(0, 11), 25200000},
		{sameCosts(12, 0), upTo(0, 11), 0},
		{blockCosts(12, 1, highest, 0), []int{1, 0, 3, 2, 5, 4, 7, 6, 9, 8, 11, 10}, 0},
		{costsBy(12, func(i int, k int) int { return 11 - k }), []int{11, 10, 9, 8, 7, 6, 5, 4, 3, 2, 1, 0}, 66},
	} {
		got, n, ok := impl.GreedyMatching(c.costs)
		wantMatching(t, "GreedyMatching", c.costs, got, n, ok, c.places, c.sum)
	}
	for _, costs := range everyCosts() {
		places, left := []int(nil), upTo(0, len(costs)-1)
		for i := range costs {
			at := 0
			for other := range left {
				if costs[i][left[other]] < costs[i][left[at]] {
					at = other
				}
			}
			places = append(places, left[at])
			left = slices.Delete(left, at, at+1)
		}
		got, n, ok := impl.GreedyMatching(costs)
		wantMatching(t, "GreedyMatching", costs, got, n, ok, places, sumAlong(costs, places))
		if _, least, _ := impl.LeastMatching(costs); n < least {
			t.Error("less than the least", costs, n, least)
		}
	}
}

func TestIsCertificate(t *testing.T) {
	costs := [][]int{{1, 2}, {3, 9}}
	for _, c := range []struct {
		costs         [][]int
		rows, columns []int
		want          bool
	}{
		{costs, []int{2, 4}, []int{-1, 0}, true},
		{costs, []int{0, 0}, []int{0, 0}, true},
		{costs, []int{1, 3}, []int{0, 1}, true},
		// Each sum may be just the cost, and no more.
		{costs, []int{2, 4}, []int{0, 0}, false}, {costs, []int{2, 4}, []int{-1, 1}, false},
		{costs, []int{3, 4}, []int{-1, 0}, false}, {costs, []int{2, 5}, []int{-1, 0}, false},
		{costs, []int{1, 3}, []int{0, 2}, false}, {costs, []int{2, 3}, []int{0, 0}, false},
		{costs, []int{0, 0}, []int{0, 3}, false}, {costs, []int{-1, 7}, []int{-4, 3}, false}, {costs, []int{-1, 6}, []int{-4, 3}, true},
		{[][]int{{0}}, []int{0}, []int{0}, true}, {[][]int{{0}}, []int{1}, []int{0}, false}, {[][]int{{0}}, []int{0}, []int{1}, false},
		{[][]int{{0}}, []int{highest}, []int{-highest}, true}, {[][]int{{0}}, []int{-highest}, []int{highest}, true},
		{[][]int{{0}}, []int{highest}, []int{1 - highest}, false}, {[][]int{{0}}, []int{1 - highest}, []int{highest}, false},
		{[][]int{{0}}, []int{highest}, []int{highest}, false}, {[][]int{{highest}}, []int{highest}, []int{highest}, false},
		{[][]int{{0}}, []int{-highest}, []int{-highest}, true}, {[][]int{{highest}}, []int{highest}, []int{0}, true}, {[][]int{{highest}}, []int{highest}, []int{1}, false}, {[][]int{{highest}}, []int{0}, []int{highest}, true},
		{sameCosts(12, 0), slices.Repeat([]int{highest}, 12), slices.Repeat([]int{-highest}, 12), true},
		{sameCosts(12, highest), slices.Repeat([]int{highest}, 12), slices.Repeat([]int{0}, 12), true},
		{sameCosts(12, highest), slices.Repeat([]int{highest}, 12), append(slices.Repeat([]int{0}, 11), 1), false},
	} {
		if is, ok := impl.IsCertificate(c.costs, c.rows, c.columns); !ok || is != c.want {
			t.Error(c.costs, c.rows, c.columns, is, ok, "want", c.want)
		}
	}
}

// TestEachPairOfACertificate makes one cost just as great as the sum of its row's and its column's number, one less and one more.
func TestEachPairOfACertificate(t *testing.T) {
	for _, n := range []int{1, 2, 3, 11, 12} {
		for i := range n {
			for k := range n {
				rows, columns := slices.Repeat([]int{-40}, n), slices.Repeat([]int{30}, n)
				rows[i], columns[k] = 60, 40
				for cost := 99; cost <= 101; cost++ {
					costs := sameCosts(n, 200)
					costs[i][k] = cost
					if is, ok := impl.IsCertificate(costs, rows, columns); !ok || is != (cost >= 100) {
						t.Error(n, i, k, cost, is, ok)
					}
				}
			}
		}
	}
}

func TestNoCertificates(t *testing.T) {
	for _, costs := range everyCosts() {
		n := len(costs)
		good := slices.Repeat([]int{-1}, n)
		var bads [][]int
		for _, bad := range [][]int{nil, good[1:], slices.Concat(good, []int{-1}), slices.Repeat([]int{-1}, 13), slices.Repeat([]int{-1}, 100000)} {
			if len(bad) != n {
				bads = append(bads, bad)
			}
		}
		for i := range n {
			for _, x := range []int{highest + 1, -highest - 1, math.MaxInt, math.MinInt, math.MaxInt - 1, math.MinInt + 1, 1 << 32, -1 << 32, 1 << 62} {
				bad := slices.Clone(good)
				bad[i] = x
				bads = append(bads, bad)
			}
		}
		if is, ok := impl.IsCertificate(costs, good, good); !ok || !is {
			t.Error(costs, is, ok)
		}
		for _, bad := range bads {
			for _, p := range [][2][]int{{good, bad}, {bad, good}, {bad, bad}} {
				is, ok := impl.IsCertificate(costs, p[0], p[1])
				wantZero(t, "IsCertificate", is, ok)
			}
		}
	}
}

func TestLeastCertificate(t *testing.T) {
	for _, c := range []struct {
		costs         [][]int
		rows, columns []int
	}{
		{[][]int{{1, 2}, {3, 9}}, []int{2, 4}, []int{-1, 0}},
		{[][]int{{0}}, []int{0}, []int{0}}, {[][]int{{7}}, []int{7}, []int{0}}, {[][]int{{highest}}, []int{highest}, []int{0}},
		{[][]int{{1, 2}, {3, 4}}, []int{2, 4}, []int{-1, 0}},
		// Greater costs leave all columns at 0.
		{[][]int{{1, 9}, {9, 2}}, []int{1, 2}, []int{0, 0}},
		{[][]int{{0, highest}, {highest, 0}}, []int{0, 0}, []int{0, 0}},
		{[][]int{{0, highest}, {0, highest}}, []int{highest, highest}, []int{-highest, 0}},
		{[][]int{{highest, 0}, {highest, 0}}, []int{highest, highest}, []int{0, -highest}},
		{[][]int{{5, 7, 9}, {5, 7, 9}, {5, 7, 9}}, []int{9, 9, 9}, []int{-4, -2, 0}},
		// The first row lowers the second column, and this one's row the third column.
		{[][]int{{9, 6, 20}, {20, 9, 7}, {20, 20, 9}}, []int{9, 12, 14}, []int{0, -3, -5}},
		{[][]int{{9, 20, 20}, {7, 9, 20}, {20, 6, 9}}, []int{14, 12, 9}, []int{-5, -3, 0}},
		{sameCosts(12, highest), slices.Repeat([]int{highest}, 12), make([]int, 12)},
		{sameCosts(12, 0), make([]int, 12), make([]int, 12)},
	} {
		rows, columns, ok := impl.LeastCertificate(c.costs)
		if !ok || !slices.Equal(rows, c.rows) || !slices.Equal(columns, c.columns) {
			t.Error(c.costs, rows, columns, ok, "want", c.rows, c.columns)
		}
	}
}

// leastTwice returns the least sum of the rows from i on in columns that are not taken, where column twice may be taken by two rows.
func leastTwice(costs [][]int, i int, taken []int, twice int) int {
	if i == len(costs) {
		return 0
	}
	least := math.MaxInt
	for k := range costs {
		if taken[k] == 0 || k == twice && taken[k] == 1 {
			taken[k]++
			least = min(least, costs[i][k]+leastTwice(costs, i+1, taken, twice))
			taken[k]--
		}
	}
	return least
}

// TestColumnsOfLeastCertificates uses that a column is worth what could be saved if two rows might have it.
func TestColumnsOfLeastCertificates(t *testing.T) {
	for _, costs := range fewRows() {
		_, sum, _ := leastFirst(costs, sumAlong, anyPlaces)
		var want []int
		for k := range costs {
			want = append(want, leastTwice(costs, 0, make([]int, len(costs)), k)-sum)
		}
		if _, columns, ok := impl.LeastCertificate(costs); !ok || !slices.Equal(columns, want) {
			t.Error(costs, columns, ok, "want", want)
		}
	}
}

// TestColumnsAreAsGreatAsCanBe looks for what keeps each column down: it is 0, or it makes up a cost with a row that cannot have a less number, as the row's own column in the least matching is kept down.
func TestColumnsAreAsGreatAsCanBe(t *testing.T) {
	for _, costs := range everyCosts() {
		places, _, _ := impl.LeastMatching(costs)
		rows, columns, ok := impl.LeastCertificate(costs)
		if !ok || len(rows) != len(costs) || len(columns) != len(costs) {
			t.Fatal(costs, rows, columns, ok)
		}
		kept := make([]bool, len(costs))
		for range costs {
			for k := range costs {
				kept[k] = kept[k] || columns[k] == 0
				for i := range costs {
					kept[k] = kept[k] || kept[places[i]] && rows[i]+columns[k] == costs[i][k]
				}
			}
		}
		if slices.Contains(kept, false) || slices.Max(columns) > 0 {
			t.Error(costs, rows, columns, kept)
		}
	}
}

// numbersIn returns all lists of n numbers in a range.
func numbersIn(n int, least int, most int) [][]int {
	lists := [][]int{nil}
	for range n {
		var longer [][]int
		for _, l := range lists {
			for x := least; x <= most; x++ {
				longer = append(longer, slices.Concat(l, []int{x}))
			}
		}
		lists = longer
	}
	return lists
}

// TestLeastCertificateOfAllCertificates looks at all certificates that small costs can have.
func TestLeastCertificateOfAllCertificates(t *testing.T) {
	for _, of := range []struct {
		tables [][][]int
		most   int
	}{
		{smallCosts(1, 5), 5}, {smallCosts(2, 2), 3}, {smallCosts(3, 1), 1},
	} {
		allRows := numbersIn(len(of.tables[0]), -1, of.most)
		allColumns := numbersIn(len(of.tables[0]), -of.most, 0)
		for _, costs := range of.tables {
			_, sum, _ := impl.LeastMatching(costs)
			greatest := slices.Repeat([]int{-of.most - 1}, len(costs))
			var found [][2][]int
			for _, rows := range allRows {
				for _, columns := range allColumns {
					if is, _ := impl.IsCertificate(costs, rows, columns); is && sumOf(rows)+sumOf(columns) == sum {
						found = append(found, [2][]int{rows, columns})
						for k := range columns {
							greatest[k] = max(greatest[k], columns[k])
						}
					} else if is && sumOf(rows)+sumOf(columns) > sum {
						t.Error("more than the least sum", costs, rows, columns)
					}
				}
			}
			rows, columns, ok := impl.LeastCertificate(costs)
			number := 0
			for _, p := range found {
				if slices.Equal(p[1], greatest) {
					number++
					if !ok || !slices.Equal(rows, p[0]) || !slices.Equal(columns, p[1]) {
						t.Error(costs, rows, columns, ok, "want", p)
					}
				}
			}
			if number != 1 {
				t.Error("certificates", costs, number)
			}
		}
	}
}

func sumOf(l []int) int {
	sum := 0
	for _, x := range l {
		sum += x
	}
	return sum
}

func TestCountLeast(t *testing.T) {
	for _, c := range []struct {
		costs [][]int
		want  int
	}{
		{[][]int{{0}}, 1}, {[][]int{{highest}}, 1},
		{[][]int{{1, 2}, {3, 9}}, 1}, {[][]int{{1, 2}, {3, 4}}, 2}, {[][]int{{1, 1}, {1, 2}}, 1}, {[][]int{{1, 1}, {2, 2}}, 2},
		{[][]int{{0, 0, 0}, {0, 0, 0}, {0, 0, 0}}, 6}, {[][]int{{1, 0, 0}, {0, 1, 0}, {0, 0, 1}}, 2}, {[][]int{{0, 1, 1}, {1, 0, 1}, {1, 1, 0}}, 1},
		// Without a free matching of three the least sum takes one cost more.
		{[][]int{{0, 1, 1}, {0, 1, 1}, {1, 0, 0}}, 4},
		{sameCosts(4, 9), 24}, {sameCosts(11, 0), 39916800}, {sameCosts(12, 0), 479001600}, {sameCosts(12, highest), 479001600},
		{blockCosts(12, 1, 0, 1), 1}, {blockCosts(12, 2, 0, 1), 64}, {blockCosts(12, 3, 0, 1), 1296}, {blockCosts(12, 4, 7, highest), 13824}, {blockCosts(12, 6, 0, 1), 518400}, {blockCosts(12, 6, 1, 0), 518400},
		// Those in which no row has its own column.
		{blockCosts(12, 1, 1, 0), 176214841}, {blockCosts(5, 1, 1, 0), 44}, {blockCosts(3, 1, highest, 0), 2},
		{costsBy(12, func(i int, k int) int { return i + k }), 479001600}, {costsBy(12, func(i int, k int) int { return i * k }), 1},
		{costsBy(12, func(i int, k int) int { return max(i-k, 0) }), 1}, {costsBy(12, func(i int, k int) int { return max(k-i-1, 0) }), 2048},
	} {
		n, ok := impl.CountLeast(c.costs)
		wantInt(t, "CountLeast", c.costs, n, ok, c.want)
	}
}

func TestForcedAndForbiddenPairs(t *testing.T) {
	// The least matching is 1, 0.
	costs := [][]int{{1, 2}, {3, 9}}
	for _, c := range []struct {
		costs             [][]int
		i, k              int
		forced, forbidden int
	}{
		{costs, 0, 0, 10, 5}, {costs, 0, 1, 5, 10}, {costs, 1, 0, 5, 10}, {costs, 1, 1, 10, 5},
		// Both matchings have the least sum.
		{[][]int{{1, 2}, {3, 4}}, 0, 0, 5, 5}, {[][]int{{1, 2}, {3, 4}}, 1, 0, 5, 5},
		{[][]int{{0, highest}, {highest, 0}}, 0, 1, 2 * highest, 0}, {[][]int{{0, highest}, {highest, 0}}, 1, 1, 0, 2 * highest},
		{[][]int{{4, 1, 3}, {2, 0, 5}, {3, 2, 2}}, 0, 1, 5, 6}, {[][]int{{4, 1, 3}, {2, 0, 5}, {3, 2, 2}}, 1, 1, 6, 5}, {[][]int{{4, 1, 3}, {2, 0, 5}, {3, 2, 2}}, 1, 2, 9, 5},
		{sameCosts(12, highest), 11, 0, 25200000, 25200000}, {sameCosts(12, 0), 0, 11, 0, 0},
		{blockCosts(12, 1, 0, highest), 3, 3, 0, 2 * highest}, {blockCosts(12, 1, 0, highest), 3, 4, 2 * highest, 0},
		{blockCosts(12, 1, highest, 0), 3, 3, highest, 0}, {blockCosts(12, 1, highest, 0), 11, 11, highest, 0}, {blockCosts(12, 1, highest, 0), 0, 11, 0, 0},
	} {
		n, ok := impl.ForcedPair(c.costs, c.i, c.k)
		wantInt(t, "ForcedPair", c.costs, n, ok, c.forced)
		n, ok = impl.ForbiddenPair(c.costs, c.i, c.k)
		wantInt(t, "ForbiddenPair", c.costs, n, ok, c.forbidden)
	}
}

func TestTheOnlyPair(t *testing.T) {
	for _, cost := range []int{0, 1, 7, highest} {
		n, ok := impl.ForcedPair([][]int{{cost}}, 0, 0)
		wantInt(t, "ForcedPair", [][]int{{cost}}, n, ok, cost)
		n, ok = impl.ForbiddenPair([][]int{{cost}}, 0, 0)
		wantZero(t, "ForbiddenPair", n, ok)
	}
}

func TestPairsOfAllMatchings(t *testing.T) {
	for _, costs := range fewRows() {
		if len(costs) > 5 {
			continue
		}
		for i := range costs {
			for k := range costs {
				_, want, _ := leastFirst(costs, sumAlong, func(places []int) bool { return places[i] == k })
				n, ok := impl.ForcedPair(costs, i, k)
				wantInt(t, "ForcedPair", costs, n, ok, want)
				_, want, count := leastFirst(costs, sumAlong, func(places []int) bool { return places[i] != k })
				if n, ok = impl.ForbiddenPair(costs, i, k); count > 0 {
					wantInt(t, "ForbiddenPair", costs, n, ok, want)
				} else {
					wantZero(t, "ForbiddenPair", n, ok)
				}
			}
		}
	}
}

// withoutPair returns the table without a row and a column.
func withoutPair(costs [][]int, i int, k int) [][]int {
	var rest [][]int
	for at, row := range costs {
		if at != i {
			rest = append(rest, slices.Concat(row[:k], row[k+1:]))
		}
	}
	return rest
}

// TestPairsOfManyRows takes what is forced from the rest of the table, and what is forbidden from the other columns of the row.
func TestPairsOfManyRows(t *testing.T) {
	for at, costs := range manyRows() {
		places, sum, _ := impl.LeastMatching(costs)
		i := at % len(costs)
		var forced []int
		for k := range costs {
			_, rest, ok := impl.LeastMatching(withoutPair(costs, i, k))
			if !ok {
				t.Fatal("rest", costs, i, k)
			}
			forced = append(forced, costs[i][k]+rest)
			n, ok := impl.ForcedPair(costs, i, k)
			wantInt(t, "ForcedPair", costs, n, ok, forced[k])
		}
		if forced[places[i]] != sum || slices.Min(forced) != sum {
			t.Error("least", costs, i, forced, sum)
		}
		for k := range costs {
			n, ok := impl.ForbiddenPair(costs, i, k)
			wantInt(t, "ForbiddenPair", costs, n, ok, slices.Min(slices.Concat(forced[:k], forced[k+1:])))
		}
	}
}

func TestNoPairs(t *testing.T) {
	for _, costs := range everyCosts() {
		n := len(costs)
		for _, bad := range append(outside(n-1), 12, 13, 63, 64, math.MinInt+1, math.MaxInt-1) {
			for _, p := range [][2]int{{bad, 0}, {0, bad}, {n - 1, bad}, {bad, n - 1}, {bad, bad}} {
				sum, ok := impl.ForcedPair(costs, p[0], p[1])
				wantZero(t, "ForcedPair", sum, ok)
				sum, ok = impl.ForbiddenPair(costs, p[0], p[1])
				wantZero(t, "ForbiddenPair", sum, ok)
			}
		}
	}
}

func TestLeastGreatest(t *testing.T) {
	for _, c := range []struct {
		costs  [][]int
		places []int
		cost   int
	}{
		{[][]int{{1, 2}, {3, 9}}, []int{1, 0}, 3},
		{[][]int{{0}}, []int{0}, 0}, {[][]int{{highest}}, []int{0}, highest},
		{[][]int{{0, highest}, {highest, 0}}, []int{0, 1}, 0}, {[][]int{{highest, 0}, {0, highest}}, []int{1, 0}, 0}, {[][]int{{highest, 0}, {highest, 0}}, []int{0, 1}, highest},
		// Several matchings reach the cost, and the first one has not the least sum.
		{[][]int{{5, 0}, {0, 5}}, []int{1, 0}, 0}, {[][]int{{5, 0, 9}, {0, 5, 9}, {9, 9, 5}}, []int{0, 1, 2}, 5},
		{[][]int{{1, 2}, {3, 4}}, []int{1, 0}, 3}, {[][]int{{4, 2}, {3, 4}}, []int{1, 0}, 3}, {[][]int{{4, 4}, {3, 4}}, []int{0, 1}, 4},
		// The least sum has a greater cost.
		{[][]int{{0, 6}, {6, 10}}, []int{1, 0}, 6}, {[][]int{{0, 6}, {6, 11}}, []int{1, 0}, 6}, {[][]int{{10, 0, 0}, {6, 9, 9}, {7, 7, 8}}, []int{2, 0, 1}, 7},
		// The greatest cost is that of the first row, of the last one and of one between.
		{[][]int{{8, 9, 9}, {9, 0, 9}, {9, 9, 1}}, []int{0, 1, 2}, 8}, {[][]int{{1, 9, 9}, {9, 0, 9}, {9, 9, 8}}, []int{0, 1, 2}, 8}, {[][]int{{9, 0, 9}, {9, 9, 8}, {1, 9, 9}}, []int{1, 2, 0}, 8},
		{sameCosts(12, highest), upTo(0, 11), highest}, {sameCosts(12, 0), upTo(0, 11), 0},
		{blockCosts(12, 1, highest, 0), []int{1, 0, 3, 2, 5, 4, 7, 6, 9, 8, 11, 10}, 0},
		{costsBy(12, func(i int, k int) int { return i * k }), []int{8, 9, 11, 10, 7, 6, 5, 4, 0, 1, 3, 2}, 30},
		{costsBy(12, func(i int, k int) int { return i + k }), []int{11, 10, 9, 8, 7, 6, 5, 4, 3, 2, 1, 0}, 11},
	} {
		got, n, ok := impl.LeastGreatest(c.costs)
		wantMatching(t, "LeastGreatest", c.costs, got, n, ok, c.places, c.cost)
	}
}

func TestLeastGreatestOfAllMatchings(t *testing.T) {
	several := 0
	for _, costs := range fewRows() {
		first, greatest, count := leastFirst(costs, greatestAlong, anyPlaces)
		got, n, ok := impl.LeastGreatest(costs)
		wantMatching(t, "LeastGreatest", costs, got, n, ok, first, greatest)
		if count > 1 && sumAlong(costs, first) > count {
			several++
		}
	}
	if several == 0 {
		t.Error("no cost is reached by several matchings")
	}
}

// TestLeastGreatestOfManyRows looks for matchings within the cost and below it.
func TestLeastGreatestOfManyRows(t *testing.T) {
	for _, costs := range everyCosts() {
		got, greatest, ok := impl.LeastGreatest(costs)
		want := firstWithin(len(costs), func(i int, k int) bool { return costs[i][k] <= greatest })
		wantMatching(t, "LeastGreatest", costs, got, greatest, ok, want, greatestAlong(costs, want))
		if below := firstWithin(len(costs), func(i int, k int) bool { return costs[i][k] < greatest }); below != nil {
			t.Error("less", costs, greatest, below)
		}
	}
}
