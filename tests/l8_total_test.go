package tests

import (
	"math"
	"slices"
	"testing"

	"loop.example/g00939/impl"
)

// badCosts holds tables that are no costs: with other numbers of rows or of columns, or with other costs.
func badCosts() [][][]int {
	tables := [][][]int{
		nil, {}, {nil}, {{}}, {{}, {}}, {{1, 2}}, {{1}, {2}}, {{1, 2}, {3}}, {{1}, {2, 3}}, {{1, 2}, {3, 4}, {5, 6}}, {{1, 2, 3}, {4, 5, 6}}, {{1, 2}, nil}, {nil, {1, 2}}, {{1, 2, 3}, {4, 5}}, {{1, 2}, {3, 4, 5}},
		{{-1}}, {{highest + 1}}, {{math.MinInt}}, {{math.MaxInt}}, {{1, 2}, {-1, 4}}, {{1, highest + 1}, {3, 4}}, {{0, 0}, {0, math.MinInt}}, {{1 << 32}}, {{-1 << 32}},
		sameCosts(13, 0), sameCosts(13, 5), sameCosts(14, 5), sameCosts(12, -1), sameCosts(12, highest+1), sameCosts(40, 1), sameCosts(64, 1), make([][]int, 100000), make([][]int, 12), sameCosts(12, 5)[:11], sameCosts(12, 5)[1:],
	}
	for _, n := range []int{1, 2, 3, 12} {
		for _, i := range []int{0, n - 1} {
			short, long, low, high := sameCosts(n, 5), sameCosts(n, 5), sameCosts(n, 5), sameCosts(n, 5)
			short[i] = short[i][1:]
			long[i] = append(long[i], 5)
			low[i][n-1] = -1
			high[i][0] = highest + 1
			tables = append(tables, short, long, low, high)
		}
	}
	return tables
}

// callMatchFunctions calls all functions of chapter 8 with a table, some lists and some numbers of rows and columns.
func callMatchFunctions(costs [][]int, lists [][]int, numbers []int) {
	impl.AreCosts(costs)
	impl.LeastMatching(costs)
	impl.GreedyMatching(costs)
	impl.LeastCertificate(costs)
	impl.CountLeast(costs)
	impl.LeastGreatest(costs)
	for _, a := range lists {
		impl.MatchingSum(costs, a)
		for _, b := range lists {
			impl.IsCertificate(costs, a, b)
		}
	}
	for _, i := range numbers {
		for _, k := range numbers {
			impl.ForcedPair(costs, i, k)
			impl.ForbiddenPair(costs, i, k)
		}
	}
}

func TestBadCostsFail(t *testing.T) {
	for _, costs := range badCosts() {
		got, n, ok := impl.LeastMatching(costs)
		wantNoMatching(t, "LeastMatching", got, n, ok)
		got, n, ok = impl.GreedyMatching(costs)
		wantNoMatching(t, "GreedyMatching", got, n, ok)
		got, n, ok = impl.LeastGreatest(costs)
		wantNoMatching(t, "LeastGreatest", got, n, ok)
		rows, columns, ok := impl.LeastCertificate(costs)
		wantNone(t, "LeastCertificate", rows, ok)
		wantNone(t, "LeastCertificate", columns, ok)
		n, ok = impl.CountLeast(costs)
		wantZero(t, "CountLeast", n, ok)
		for i := range 3 {
			n, ok = impl.ForcedPair(costs, i, 0)
			wantZero(t, "ForcedPair", n, ok)
			n, ok = impl.ForbiddenPair(costs, 0, i)
			wantZero(t, "ForbiddenPair", n, ok)
		}
		// Lists that would do for good costs with as many rows, or for any others.
		for _, length := range append(upTo(0, 13), min(len(costs), 200)) {
			n, ok = impl.MatchingSum(costs, upTo(0, length-1))
			wantZero(t, "MatchingSum", n, ok)
			low := slices.Repeat([]int{-highest}, length)
			is, ok := impl.IsCertificate(costs, low, low)
			wantZero(t, "IsCertificate", is, ok)
		}
	}
}

func TestMatchFunctionsTakeAllArguments(t *testing.T) {
	numbers := []int{0, 1, 2, 11, 12, 13, -1, 63, 64, 1 << 32, -1 << 32, math.MaxInt, math.MinInt}
	lists := [][]int{nil, {}, {0}, {1}, {-1}, {0, 1}, {1, 0}, {0, 0}, {math.MinInt, math.MaxInt}, {math.MaxInt, math.MaxInt}, upTo(0, 11), upTo(0, 12), slices.Repeat([]int{math.MinInt}, 12), slices.Repeat([]int{math.MaxInt}, 12), make([]int, 100000)}
	tables := slices.Concat(badCosts(), fewRows()[:12], [][][]int{sameCosts(12, highest), mixedCosts(12, 3, highest)})
	for _, costs := range tables {
		callMatchFunctions(costs, lists, numbers)
		callMatchFunctions(costs, nil, nil)
	}
}

// withRoom returns a list that has other numbers behind its end, and the whole of it.
func withRoom(l []int) ([]int, []int) {
	whole := slices.Concat(l, []int{-7, 3000000, 0})
	return whole[:len(l)], whole
}

// costsWithRoom returns costs with other rows behind the last one, and other numbers behind each row, and the whole of them.
func costsWithRoom(costs [][]int) ([][]int, [][]int) {
	var rows, wholes [][]int
	for _, row := range costs {
		l, whole := withRoom(row)
		rows = append(rows, l)
		wholes = append(wholes, whole)
	}
	behind := []int{9, 9, 9}
	rows = append(rows, behind, nil)
	return rows[:len(costs)], append(wholes, behind)
}

func copyRows(rows [][]int) [][]int {
	var copied [][]int
	for _, row := range rows {
		copied = append(copied, slices.Clone(row))
	}
	return copied
}

func sameRows(a [][]int, b [][]int) bool {
	return slices.EqualFunc(a, b, func(x []int, y []int) bool { return slices.Equal(x, y) })
}

// TestCostsStayAsTheyAre calls with tables and lists that have room behind their ends.
func TestCostsStayAsTheyAre(t *testing.T) {
	for _, costs := range slices.Concat(fewRows(), badCosts()[:30], [][][]int{sameCosts(12, highest), stairCosts(12), mixedCosts(11, 2, 9)}) {
		n := len(costs)
		rows, wholes := costsWithRoom(costs)
		places, wholePlaces := withRoom(upTo(0, n-1))
		numbers, wholeNumbers := withRoom(slices.Repeat([]int{-3}, n))
		slices.Reverse(places)
		before := copyRows(slices.Concat(wholes, [][]int{wholePlaces, wholeNumbers}, rows[:n+2]))
		callMatchFunctions(rows, [][]int{places, numbers}, []int{0, 1, n - 1, n})
		if !sameRows(slices.Concat(wholes, [][]int{wholePlaces, wholeNumbers}, rows[:n+2]), before) {
			t.Error("changed", costs, wholes, wholePlaces, wholeNumbers)
		}
	}
}

// TestCostsEndWithTheirRows compares with the results for tables that have nothing behind their ends.
func TestCostsEndWithTheirRows(t *testing.T) {
	for _, costs := range slices.Concat(fewRows(), [][][]int{stairCosts(9), mixedCosts(9, 2, 9)}) {
		rows, _ := costsWithRoom(costs)
		if !impl.AreCosts(rows) {
			t.Error("costs", costs)
		}
		for name, call := range map[string]func(costs [][]int) ([]int, int, bool){
			"LeastMatching": impl.LeastMatching, "GreedyMatching": impl.GreedyMatching, "LeastGreatest": impl.LeastGreatest,
			"CountLeast":     func(costs [][]int) ([]int, int, bool) { n, ok := impl.CountLeast(costs); return nil, n, ok },
			"ForcedPair":     func(costs [][]int) ([]int, int, bool) { n, ok := impl.ForcedPair(costs, 0, 0); return nil, n, ok },
			"rows of a sum":  func(costs [][]int) ([]int, int, bool) { l, _, ok := impl.LeastCertificate(costs); return l, 0, ok },
			"columns of one": func(costs [][]int) ([]int, int, bool) { _, l, ok := impl.LeastCertificate(costs); return l, 0, ok },
		} {
			want, wantN, _ := call(costs)
			got, n, ok := call(rows)
			wantMatching(t, name, costs, got, n, ok, want, wantN)
		}
		places, _ := withRoom(upTo(0, len(costs)-1))
		n, ok := impl.MatchingSum(rows, places)
		wantInt(t, "MatchingSum", costs, n, ok, sumAlong(costs, places))
		low, _ := withRoom(slices.Repeat([]int{-1}, len(costs)))
		if is, ok := impl.IsCertificate(rows, low, low); !ok || !is {
			t.Error("certificate", costs, is, ok)
		}
	}
	// The next row and the next numbers would make these lists long enough.
	whole := [][]int{{1, 2}, {3, 4}}
	if impl.AreCosts(whole[:1]) || impl.AreCosts([][]int{whole[0][:1], whole[1][:1]}) || !impl.AreCosts([][]int{whole[0][:1]}) {
		t.Error("costs behind the end")
	}
	n, ok := impl.MatchingSum(whole, []int{0, 1}[:1])
	wantZero(t, "MatchingSum", n, ok)
	is, ok := impl.IsCertificate(whole, []int{0, 0}[:1], []int{0, 0})
	wantZero(t, "IsCertificate", is, ok)
	is, ok = impl.IsCertificate(whole, []int{0, 0}, []int{0, 0}[:1])
	wantZero(t, "IsCertificate", is, ok)
}

// TestRowsMayBeOneList gives the same memory for all rows and for both lists of a certificate.
func TestRowsMayBeOneList(t *testing.T) {
	row := []int{5, 7, 9}
	costs := [][]int{row, row, row}
	got, n, ok := impl.LeastMatching(costs)
	wantMatching(t, "LeastMatching", costs, got, n, ok, []int{0, 1, 2}, 21)
	n, ok = impl.ForbiddenPair(costs, 0, 0)
	wantInt(t, "ForbiddenPair", costs, n, ok, 21)
	n, ok = impl.ForcedPair(costs, 0, 2)
	wantInt(t, "ForcedPair", costs, n, ok, 21)
	n, ok = impl.CountLeast(costs)
	wantInt(t, "CountLeast", costs, n, ok, 6)
	got, n, ok = impl.LeastGreatest(costs)
	wantMatching(t, "LeastGreatest", costs, got, n, ok, []int{0, 1, 2}, 9)
	if is, ok := impl.IsCertificate(costs, row, row); !ok || is {
		t.Error("certificate", is, ok)
	}
	if !slices.Equal(row, []int{5, 7, 9}) {
		t.Error("changed", row)
	}
}

func TestMatchResultsAreNew(t *testing.T) {
	for _, costs := range [][][]int{{{1, 2}, {3, 9}}, {{0}}, {{0, 1}, {1, 0}}, sameCosts(12, 5), mixedCosts(7, 1, 50)} {
		before := copyRows(costs)
		for name, call := range map[string]func() ([]int, bool){
			"least":    func() ([]int, bool) { l, _, ok := impl.LeastMatching(costs); return l, ok },
			"greedy":   func() ([]int, bool) { l, _, ok := impl.GreedyMatching(costs); return l, ok },
			"greatest": func() ([]int, bool) { l, _, ok := impl.LeastGreatest(costs); return l, ok },
			"rows":     func() ([]int, bool) { l, _, ok := impl.LeastCertificate(costs); return l, ok },
			"columns":  func() ([]int, bool) { _, l, ok := impl.LeastCertificate(costs); return l, ok },
		} {
			wantNew(t, name, nil, 99, call)
		}
		if !sameRows(costs, before) {
			t.Error("changed", before, costs)
		}
	}
}

// TestCertificatesAreTwoLists fills one list, and the room behind it: the other one stays.
func TestCertificatesAreTwoLists(t *testing.T) {
	for _, costs := range [][][]int{{{1, 2}, {3, 9}}, {{7}}, sameCosts(12, 5), stairCosts(7)} {
		rows, columns, ok := impl.LeastCertificate(costs)
		if !ok {
			t.Fatal(costs)
		}
		wantRows, wantColumns := slices.Clone(rows), slices.Clone(columns)
		full := rows[:cap(rows)]
		for i := range full {
			full[i] = 99
		}
		if !slices.Equal(columns, wantColumns) {
			t.Error("columns", costs, columns, "want", wantColumns)
		}
		copy(rows, wantRows)
		full = columns[:cap(columns)]
		for k := range full {
			full[k] = 99
		}
		if !slices.Equal(rows, wantRows) {
			t.Error("rows", costs, rows, "want", wantRows)
		}
	}
}
