package tests

import (
	"iter"
	"slices"
	"testing"

	"loop.example/g00924/impl"
)

// noLevels returns numbers that are neither levels nor differences of two levels.
func noLevels() []int { return append([]int{-1, 2001}, farNumbers...) }

// listsOver yields all lists of n of the values, in memory that is used again.
func listsOver(values []int, n int) iter.Seq[[]int] {
	return func(yield func([]int) bool) {
		places, list := make([]int, n), make([]int, n)
		for {
			for i, place := range places {
				list[i] = values[place]
			}
			if !yield(list) {
				return
			}
			last := n - 1
			for last >= 0 && places[last] == len(values)-1 {
				places[last] = 0
				last--
			}
			if last < 0 {
				return
			}
			places[last]++
		}
	}
}

// sequence returns numbers below those it is asked for, the same ones in every run.
func sequence() func(below int) int {
	number := 1
	return func(below int) int {
		number = number * 48271 % 2147483647
		return number / 11 % below
	}
}

// far returns by how much two levels differ.
func far(a int, b int) int {
	if a < b {
		return b - a
	}
	return a - b
}

// manyTriples yields triples of readings at their limits, equal, and near and far from each other.
func manyTriples() iter.Seq[[]int] {
	return listsOver([]int{0, 1, 2, 4, 7, 999, 1000, 1001, 1996, 1999, 2000}, 3)
}

// manyMosts returns differences that are allowed, from all between readings of manyTriples.
func manyMosts() []int {
	return []int{0, 1, 2, 3, 4, 5, 6, 7, 992, 996, 998, 999, 1000, 1001, 1992, 1995, 1996, 1998, 1999, 2000}
}

// middleByCounting returns the reading than which no two are smaller and no two are greater, apart from the program.
func middleByCounting(triple []int) int {
	for _, reading := range triple {
		smaller, greater := 0, 0
		for _, other := range triple {
			if other < reading {
				smaller++
			}
			if other > reading {
				greater++
			}
		}
		if smaller < 2 && greater < 2 {
			return reading
		}
	}
	panic("no triple")
}

// agreeingByCounting returns the sensors near enough to the middle, apart from the program.
func agreeingByCounting(triple []int, most int) []int {
	list := []int{}
	for i, reading := range triple {
		if far(reading, middleByCounting(triple)) <= most {
			list = append(list, i)
		}
	}
	return list
}

func TestLimitsOfSensors(t *testing.T) {
	if impl.MaxGauge != 2000 || impl.MaxSeries != 20 {
		t.Error("limits", impl.MaxGauge, impl.MaxSeries)
	}
}

// Triples in every order, with equal readings, and at the limits.
func TestMedianOf(t *testing.T) {
	for _, c := range []struct {
		triple []int
		want   int
	}{
		{[]int{3, 5, 9}, 5}, {[]int{3, 9, 5}, 5}, {[]int{5, 3, 9}, 5}, {[]int{5, 9, 3}, 5}, {[]int{9, 3, 5}, 5}, {[]int{9, 5, 3}, 5},
		{[]int{3, 3, 9}, 3}, {[]int{3, 9, 3}, 3}, {[]int{9, 3, 3}, 3}, {[]int{9, 9, 3}, 9}, {[]int{9, 3, 9}, 9}, {[]int{3, 9, 9}, 9},
		{[]int{7, 7, 7}, 7}, {[]int{0, 0, 0}, 0}, {[]int{2000, 2000, 2000}, 2000}, {[]int{0, 2000, 0}, 0}, {[]int{2000, 0, 2000}, 2000},
		{[]int{0, 2000, 1}, 1}, {[]int{1999, 0, 2000}, 1999}, {[]int{103, 100, 500}, 103},
	} {
		if n, ok := impl.MedianOf(c.triple); !ok || n != c.want {
			t.Errorf("MedianOf(%d) = %d, %v", c.triple, n, ok)
		}
	}
}

// Readings that differ from the median by exactly most and by one more, and most at its limits.
func TestAgreeingSensors(t *testing.T) {
	for _, c := range []struct {
		triple []int
		most   int
		want   []int
	}{
		{[]int{103, 100, 500}, 2, []int{0}},
		{[]int{103, 100, 500}, 3, []int{0, 1}},
		{[]int{103, 100, 500}, 396, []int{0, 1}},
		{[]int{103, 100, 500}, 397, []int{0, 1, 2}},
		{[]int{500, 100, 103}, 3, []int{1, 2}},
		{[]int{500, 103, 100}, 3, []int{1, 2}},
		{[]int{100, 500, 103}, 3, []int{0, 2}},
		{[]int{100, 500, 103}, 2, []int{2}},
		{[]int{10, 13, 16}, 3, []int{0, 1, 2}},
		{[]int{10, 13, 16}, 2, []int{1}},
		{[]int{10, 13, 17}, 3, []int{0, 1}},
		{[]int{9, 13, 16}, 3, []int{1, 2}},
		{[]int{9, 13, 17}, 3, []int{1}},
		{[]int{7, 7, 7}, 0, []int{0, 1, 2}},
		{[]int{7, 8, 7}, 0, []int{0, 2}},
		{[]int{6, 7, 7}, 0, []int{1, 2}},
		{[]int{6, 8, 7}, 0, []int{2}},
		{[]int{0, 2000, 0}, 1999, []int{0, 2}},
		{[]int{0, 2000, 0}, 2000, []int{0, 1, 2}},
		{[]int{2000, 2000, 0}, 1999, []int{0, 1}},
		{[]int{2000, 2000, 0}, 2000, []int{0, 1, 2}},
		{[]int{2000, 0, 1000}, 999, []int{2}},
		{[]int{2000, 0, 1000}, 1000, []int{0, 1, 2}},
	} {
		if l, ok := impl.AgreeingSensors(c.triple, c.most); !ok || !slices.Equal(l, c.want) {
			t.Errorf("AgreeingSensors(%d, %d) = %d, %v", c.triple, c.most, l, ok)
		}
	}
}

// Votes of two and of three sensors, and sums that their number does and does not divide; -1 stands for a vote that fails.
func TestVotedLevel(t *testing.T) {
	for _, c := range []struct {
		triple []int
		most   int
		want   int
	}{
		{[]int{103, 100, 500}, 3, 101},
		{[]int{103, 100, 500}, 2, -1},
		{[]int{103, 100, 500}, 397, 234},
		{[]int{102, 100, 500}, 2, 101},
		{[]int{500, 103, 100}, 3, 101},
		{[]int{100, 500, 103}, 3, 101},
		{[]int{10, 13, 16}, 3, 13},
		{[]int{10, 13, 15}, 3, 12},
		{[]int{10, 13, 17}, 4, 13},
		{[]int{11, 13, 17}, 4, 13},
		{[]int{10, 13, 16}, 2, -1},
		{[]int{7, 7, 7}, 0, 7},
		{[]int{7, 8, 7}, 0, 7},
		{[]int{7, 8, 7}, 1, 7},
		{[]int{8, 7, 8}, 1, 7},
		{[]int{6, 8, 7}, 0, -1},
		{[]int{0, 2000, 1000}, 999, -1},
		{[]int{0, 2000, 1000}, 1000, 1000},
		{[]int{0, 0, 0}, 0, 0},
		{[]int{0, 1, 2000}, 1, 0},
		{[]int{0, 1, 0}, 2000, 0},
		{[]int{2000, 2000, 2000}, 2000, 2000},
		{[]int{2000, 1999, 0}, 1, 1999},
		{[]int{2000, 0, 2000}, 2000, 1333},
	} {
		if n, ok := impl.VotedLevel(c.triple, c.most); ok != (c.want >= 0) || n != max(c.want, 0) {
			t.Errorf("VotedLevel(%d, %d) = %d, %v", c.triple, c.most, n, ok)
		}
	}
}

// P6: the voted level is between the least and the greatest reading; and median and sensors are as by counting.
func TestVotesOfManyTriples(t *testing.T) {
	for triple := range manyTriples() {
		if n, ok := impl.MedianOf(triple); !ok || n != middleByCounting(triple) {
			t.Fatalf("MedianOf(%d) = %d, %v", triple, n, ok)
		}
		for _, most := range manyMosts() {
			want := agreeingByCounting(triple, most)
			if l, ok := impl.AgreeingSensors(triple, most); !ok || !slices.Equal(l, want) {
				t.Fatalf("AgreeingSensors(%d, %d) = %d, %v", triple, most, l, ok)
			}
			expectVote(t, triple, most, want)
		}
	}
}

func expectVote(t *testing.T, triple []int, most int, agreeing []int) {
	t.Helper()
	n, ok := impl.VotedLevel(triple, most)
	if ok != (len(agreeing) >= 2) || !ok && n != 0 {
		t.Fatalf("VotedLevel(%d, %d) = %d, %v", triple, most, n, ok)
	}
	if !ok {
		return
	}
	if n < slices.Min(triple) || n > slices.Max(triple) {
		t.Fatalf("VotedLevel(%d, %d) = %d, which is not between the readings", triple, most, n)
	}
	left := 0
	for _, i := range agreeing {
		left += triple[i] - n
	}
	if left < 0 || left >= len(agreeing) {
		t.Fatalf("VotedLevel(%d, %d) = %d", triple, most, n)
	}
}

// brokenTriples returns lists that are no triples.
func brokenTriples() [][]int {
	lists := [][]int{nil, {}, {7}, {7, 7}, {7, 7, 7, 7}, {0, 2000}, {1, 2, 3, 4}, make([]int, 6), make([]int, 100)}
	for _, n := range noLevels() {
		for i := range 3 {
			for _, others := range []int{0, 7, 2000} {
				list := slices.Repeat([]int{others}, 3)
				list[i] = n
				lists = append(lists, list)
			}
		}
		lists = append(lists, []int{n, n, n}, []int{n, n, 7}, []int{7, n, n}, []int{n}, []int{7, 7, 7, n})
	}
	return lists
}

func TestListsThatAreNoTriples(t *testing.T) {
	for _, list := range brokenTriples() {
		if n, ok := impl.MedianOf(list); ok || n != 0 {
			t.Errorf("MedianOf(%d) = %d, %v", list, n, ok)
		}
		for _, most := range append([]int{0, 1, 2000}, noLevels()...) {
			expectNoVote(t, list, most)
			expectNoSuspect(t, [][]int{list}, most)
		}
	}
	for _, most := range noLevels() {
		for _, triple := range [][]int{{7, 7, 7}, {103, 100, 500}, {0, 1000, 2000}} {
			expectNoVote(t, triple, most)
			expectNoSuspect(t, [][]int{triple}, most)
		}
	}
}

func expectNoVote(t *testing.T, triple []int, most int) {
	t.Helper()
	if l, ok := impl.AgreeingSensors(triple, most); ok || len(l) != 0 {
		t.Errorf("AgreeingSensors(%d, %d) = %d, %v", triple, most, l, ok)
	}
	if n, ok := impl.VotedLevel(triple, most); ok || n != 0 {
		t.Errorf("VotedLevel(%d, %d) = %d, %v", triple, most, n, ok)
	}
}

func expectNoSuspect(t *testing.T, triples [][]int, most int) {
	t.Helper()
	if n, ok := impl.SuspectSensor(triples, most); ok || n != 0 {
		t.Errorf("SuspectSensor(%d, %d) = %d, %v", triples, most, n, ok)
	}
}

// Triples in which a sensor strays by 10, or none does, or two do to both sides.
var (
	firstStrays  = []int{17, 7, 7}
	secondStrays = []int{7, 17, 7}
	thirdStrays  = []int{27, 27, 17}
	noneStrays   = []int{7, 7, 7}
	outerStray   = []int{7, 17, 27}
)

func TestSuspectSensor(t *testing.T) {
	for _, c := range []struct {
		triples [][]int
		want    int
	}{
		{[][]int{firstStrays}, 0},
		{[][]int{secondStrays}, 1},
		{[][]int{thirdStrays}, 2},
		{[][]int{noneStrays, noneStrays, thirdStrays, noneStrays}, 2},
		{[][]int{firstStrays, secondStrays, secondStrays, thirdStrays}, 1},
		{[][]int{thirdStrays, firstStrays, thirdStrays}, 2},
		// Equally often, whichever is first in the list.
		{[][]int{firstStrays, secondStrays}, 0},
		{[][]int{secondStrays, firstStrays}, 0},
		{[][]int{thirdStrays, secondStrays}, 1},
		{[][]int{thirdStrays, secondStrays, firstStrays}, 0},
		{[][]int{thirdStrays, thirdStrays, secondStrays, secondStrays, firstStrays}, 1},
		{[][]int{outerStray}, 0},
		{[][]int{outerStray, thirdStrays}, 2},
		{[][]int{outerStray, secondStrays}, 0},
		{[][]int{outerStray, secondStrays, secondStrays}, 1},
	} {
		if n, ok := impl.SuspectSensor(c.triples, 9); !ok || n != c.want {
			t.Errorf("SuspectSensor(%d, 9) = %d, %v", c.triples, n, ok)
		}
		// The same with the list made longer by triples in which all agree.
		full := append(slices.Repeat([][]int{noneStrays}, 20-len(c.triples)), c.triples...)
		if n, ok := impl.SuspectSensor(full, 9); !ok || n != c.want {
			t.Errorf("SuspectSensor(%d, 9) = %d, %v", full, n, ok)
		}
		expectNoSuspect(t, append(full, c.triples[0]), 9)
		// No sensor strays by more than 10.
		expectNoSuspect(t, c.triples, 10)
		expectNoSuspect(t, full, 2000)
	}
}

// No triples, triples in which all agree, and too many of them.
func TestNoSensorIsSuspect(t *testing.T) {
	for _, most := range append([]int{0, 1, 2000}, noLevels()...) {
		expectNoSuspect(t, nil, most)
		expectNoSuspect(t, [][]int{}, most)
		for _, n := range []int{1, 2, 19, 20, 21, 40} {
			expectNoSuspect(t, slices.Repeat([][]int{noneStrays}, n), most)
		}
	}
	for _, n := range []int{21, 22, 40, 1000} {
		expectNoSuspect(t, slices.Repeat([][]int{firstStrays}, n), 9)
	}
	for n := 1; n <= 20; n++ {
		if i, ok := impl.SuspectSensor(slices.Repeat([][]int{thirdStrays}, n), 9); !ok || i != 2 {
			t.Errorf("of %d triples: %d, %v", n, i, ok)
		}
	}
}

// A list that is no triple, at every place among triples.
func TestInvalidTriplesAmongValidOnes(t *testing.T) {
	for _, broken := range brokenTriples() {
		for _, n := range []int{2, 3, 20} {
			for i := range n {
				triples := slices.Repeat([][]int{firstStrays}, n)
				triples[i] = broken
				expectNoSuspect(t, triples, 9)
			}
		}
	}
}

// Lists of many triples, against a count of the triples in which each sensor strays.
func TestSuspectsOfManyTriples(t *testing.T) {
	next := sequence()
	for k := range 20000 {
		triples := [][]int{}
		strayed := [3]int{}
		most := next(4)
		for range k%20 + 1 {
			triple := []int{1000 + next(6), 1000 + next(6), 1000 + next(6)}
			for i, reading := range triple {
				if far(reading, middleByCounting(triple)) > most {
					strayed[i]++
				}
			}
			triples = append(triples, triple)
		}
		want := 0
		for i, times := range strayed {
			if times > strayed[want] {
				want = i
			}
		}
		if n, ok := impl.SuspectSensor(triples, most); ok != (strayed[want] > 0) || n != want {
			t.Fatalf("SuspectSensor(%d, %d) = %d, %v", triples, most, n, ok)
		}
	}
}

// brokenSeries returns lists that are no series.
func brokenSeries() [][]int {
	lists := [][]int{make([]int, 21), slices.Repeat([]int{2000}, 22), slices.Repeat([]int{0, 2000}, 50)}
	for _, n := range noLevels() {
		lists = append(lists, []int{n}, []int{n, n}, []int{n, n, n})
		for _, size := range []int{2, 3, 20} {
			for i := range size {
				list := slices.Repeat([]int{7}, size)
				list[i] = n
				lists = append(lists, list)
			}
		}
	}
	return lists
}

func TestListsThatAreNoSeries(t *testing.T) {
	for _, list := range brokenSeries() {
		for _, n := range []int{-1, 0, 1, 2, 3, 19, 20, 21, 2000} {
			expectNotKnown(t, list, n)
			expectNoRunOrJump(t, list, n)
		}
	}
	for _, most := range noLevels() {
		for _, series := range [][]int{nil, {7}, {7, 7}, {0, 2000, 0}, make([]int, 20)} {
			expectNoRunOrJump(t, series, most)
		}
	}
}

func expectNotKnown(t *testing.T, series []int, n int) {
	t.Helper()
	if stuck, ok := impl.IsStuck(series, n); ok || stuck {
		t.Errorf("IsStuck(%d, %d) = %v, %v", series, n, stuck, ok)
	}
}

func expectNoRunOrJump(t *testing.T, series []int, most int) {
	t.Helper()
	expectNoJump(t, series, most)
	if i, n, ok := impl.LongestCalm(series, most); ok || i != 0 || n != 0 {
		t.Errorf("LongestCalm(%d, %d) = %d, %d, %v", series, most, i, n, ok)
	}
}

func expectNoJump(t *testing.T, series []int, most int) {
	t.Helper()
	if i, ok := impl.JumpIn(series, most); ok || i != 0 {
		t.Errorf("JumpIn(%d, %d) = %d, %v", series, most, i, ok)
	}
}

func TestIsStuck(t *testing.T) {
	whole := slices.Repeat([]int{7}, 20)
	late := append([]int{8}, whole[1:]...)
	for _, c := range []struct {
		series []int
		n      int
		want   bool
	}{
		{[]int{1, 7, 7, 7}, 2, true},
		{[]int{1, 7, 7, 7}, 3, true},
		{[]int{1, 7, 7, 7}, 4, false},
		{[]int{1, 7, 7, 7}, 5, false},
		{[]int{7, 7, 7, 1}, 2, false},
		{[]int{7, 7, 7, 1}, 3, false},
		{[]int{7, 7}, 2, true},
		{[]int{7, 7}, 3, false},
		{[]int{7, 8}, 2, false},
		{[]int{8, 7}, 2, false},
		{[]int{7}, 2, false},
		{nil, 2, false},
		{[]int{}, 2, false},
		{nil, 20, false},
		{[]int{0, 0}, 2, true},
		{[]int{2000, 2000, 2000}, 3, true},
		{[]int{0, 2000, 0}, 3, false},
		{[]int{7, 8, 7}, 3, false},
		{whole, 2, true},
		{whole, 19, true},
		{whole, 20, true},
		{whole[1:], 19, true},
		{whole[1:], 20, false},
		{late, 19, true},
		{late, 20, false},
	} {
		if stuck, ok := impl.IsStuck(c.series, c.n); !ok || stuck != c.want {
			t.Errorf("IsStuck(%d, %d) = %v, %v", c.series, c.n, stuck, ok)
		}
	}
	for _, n := range append([]int{-2, -1, 0, 1, 21, 22, 2000}, farNumbers...) {
		for _, series := range [][]int{nil, {7}, {7, 7}, {1, 7, 7}, whole} {
			expectNotKnown(t, series, n)
		}
	}
}

// manySeries yields series of every length, among them all short ones of some levels.
func manySeries() iter.Seq[[]int] {
	return func(yield func([]int) bool) {
		for _, levels := range [][]int{{0, 1, 2, 4}, {1999, 2000, 1997}, {0, 1000, 2000}, {500, 503}} {
			for n := range 7 {
				for series := range listsOver(levels, n) {
					if !yield(series) {
						return
					}
				}
			}
		}
		next := sequence()
		for k := range 5000 {
			series := []int{}
			for range k % 21 {
				series = append(series, 700+next(k%9+1)*next(4))
			}
			if !yield(series) {
				return
			}
		}
	}
}

// Against the number of readings at the end that are equal.
func TestManySeriesThatAreStuck(t *testing.T) {
	for series := range manySeries() {
		equal := 0
		for equal < len(series) && series[len(series)-1-equal] == series[len(series)-1] {
			equal++
		}
		for n := 2; n <= 20; n++ {
			if stuck, ok := impl.IsStuck(series, n); !ok || stuck != (n <= equal) {
				t.Fatalf("IsStuck(%d, %d) = %v, %v", series, n, stuck, ok)
			}
		}
		expectNotKnown(t, series, 1)
		expectNotKnown(t, series, 21)
	}
}

// Jumps at the first and at the last place, by exactly most and by one more, and to both sides; 0 stands for no jump.
func TestJumpIn(t *testing.T) {
	flat := slices.Repeat([]int{7}, 18)
	for _, c := range []struct {
		series []int
		most   int
		want   int
	}{
		{[]int{10, 12, 20}, 5, 2},
		{[]int{10, 12, 20}, 1, 1},
		{[]int{10, 12, 20}, 2, 2},
		{[]int{10, 12, 20}, 7, 2},
		{[]int{10, 12, 20}, 8, 0},
		{[]int{20, 12, 10}, 7, 1},
		{[]int{20, 12, 10}, 8, 0},
		{[]int{20, 20, 12}, 7, 2},
		{[]int{7, 7, 7}, 0, 0},
		{[]int{7, 8, 7}, 0, 1},
		{[]int{8, 7}, 0, 1},
		{[]int{7, 7, 6}, 0, 2},
		{[]int{10, 13, 16, 19}, 3, 0},
		{[]int{10, 13, 16, 20}, 3, 3},
		{[]int{20, 10, 0, 20}, 10, 3},
		{[]int{0, 2000}, 1999, 1},
		{[]int{0, 2000}, 2000, 0},
		{[]int{2000, 0}, 1999, 1},
		{[]int{2000, 0}, 2000, 0},
		{slices.Concat([]int{8}, flat, []int{7}), 0, 1},
		{slices.Concat([]int{6}, flat, []int{7}), 0, 1},
		{slices.Concat([]int{8}, flat, []int{7}), 1, 0},
		{slices.Concat([]int{7}, flat, []int{9}), 1, 19},
		{slices.Concat([]int{7}, flat, []int{5}), 1, 19},
		{slices.Concat([]int{7}, flat, []int{9}), 2, 0},
		{[]int{7}, 0, 0},
		{[]int{2000}, 2000, 0},
		{nil, 0, 0},
		{[]int{}, 2000, 0},
	} {
		if i, ok := impl.JumpIn(c.series, c.most); ok != (c.want > 0) || i != c.want {
			t.Errorf("JumpIn(%d, %d) = %d, %v", c.series, c.most, i, ok)
		}
	}
}

// Against the reading before each.
func TestJumpsInManySeries(t *testing.T) {
	for series := range manySeries() {
		for _, most := range []int{0, 1, 2, 3, 4, 8, 999, 1000, 1999, 2000} {
			want := 0
			for i := len(series) - 1; i > 0; i-- {
				if far(series[i], series[i-1]) > most {
					want = i
				}
			}
			if i, ok := impl.JumpIn(series, most); ok != (want > 0) || i != want {
				t.Fatalf("JumpIn(%d, %d) = %d, %v", series, most, i, ok)
			}
		}
	}
}

func TestLongestCalm(t *testing.T) {
	creeping := []int{}
	for i := range 20 {
		creeping = append(creeping, 100+i)
	}
	for _, c := range []struct {
		series []int
		most   int
		first  int
		length int
	}{
		{[]int{10, 12, 20, 21, 22}, 2, 2, 3},
		{[]int{10, 12, 20, 21, 22}, 1, 2, 2},
		{[]int{10, 12, 20, 21, 22}, 0, 0, 1},
		{[]int{10, 12, 20, 21, 22}, 10, 1, 4},
		{[]int{10, 12, 20, 21, 22}, 11, 0, 4},
		{[]int{10, 12, 20, 21, 22}, 12, 0, 5},
		// Runs of equal length, apart from each other, and one in the other.
		{[]int{7, 7, 9, 9}, 0, 0, 2},
		{[]int{1, 7, 7, 9, 9, 1}, 0, 1, 2},
		{[]int{5, 6, 7}, 1, 0, 2},
		{[]int{7, 7, 9, 9, 9}, 0, 2, 3},
		{[]int{7, 7, 7, 9, 9}, 0, 0, 3},
		// Single readings.
		{[]int{7}, 0, 0, 1},
		{[]int{7}, 2000, 0, 1},
		{[]int{0, 2000}, 1999, 0, 1},
		{[]int{2000, 0, 2000}, 1999, 0, 1},
		{[]int{10, 20, 10, 20}, 9, 0, 1},
		// The whole series.
		{[]int{0, 2000}, 2000, 0, 2},
		{[]int{10, 20, 10, 20}, 10, 0, 4},
		{slices.Repeat([]int{7}, 20), 0, 0, 20},
		{slices.Repeat([]int{0, 2000}, 10), 2000, 0, 20},
		// The last readings.
		{[]int{1, 5, 9, 9}, 3, 2, 2},
		{[]int{1, 9, 8}, 1, 1, 2},
		// Small steps upward, downward, and up and down again.
		{creeping, 0, 0, 1},
		{creeping, 1, 0, 2},
		{creeping, 5, 0, 6},
		{creeping, 18, 0, 19},
		{creeping, 19, 0, 20},
		{[]int{9, 8, 7, 6}, 2, 0, 3},
		{[]int{5, 6, 7, 6, 5, 4}, 1, 1, 3},
		{[]int{5, 6, 7, 6, 7, 8}, 1, 1, 4},
		{[]int{5, 6, 7, 6, 5, 4}, 2, 0, 5},
	} {
		if i, n, ok := impl.LongestCalm(c.series, c.most); !ok || i != c.first || n != c.length {
			t.Errorf("LongestCalm(%d, %d) = %d, %d, %v", c.series, c.most, i, n, ok)
		}
	}
	for _, most := range append([]int{0, 1, 2000}, noLevels()...) {
		expectNoRunOrJump(t, nil, most)
		expectNoRunOrJump(t, []int{}, most)
	}
}

// calmByPairs tells whether every two of some readings differ by at most most, apart from the program.
func calmByPairs(readings []int, most int) bool {
	for i, a := range readings {
		for _, b := range readings[:i] {
			if far(a, b) > most {
				return false
			}
		}
	}
	return true
}

// Against all runs, the long ones first.
func TestCalmRunsOfManySeries(t *testing.T) {
	for series := range manySeries() {
		for _, most := range []int{0, 1, 2, 3, 4, 8, 999, 1000, 1999, 2000} {
			i, n, ok := impl.LongestCalm(series, most)
			if first, length := longestByPairs(series, most); ok != (length > 0) || i != first || n != length {
				t.Fatalf("LongestCalm(%d, %d) = %d, %d, %v", series, most, i, n, ok)
			}
		}
	}
}

func longestByPairs(series []int, most int) (int, int) {
	for length := len(series); length > 0; length-- {
		for first := 0; first+length <= len(series); first++ {
			if calmByPairs(series[first:first+length], most) {
				return first, length
			}
		}
	}
	return 0, 0
}

// boundsOf returns Bounds with these pairs of Low and High.
func boundsOf(pairs ...[2]int) []impl.Bound {
	list := []impl.Bound{}
	for _, pair := range pairs {
		list = append(list, impl.Bound{Low: pair[0], High: pair[1]})
	}
	return list
}

// manyBounds yields lists of Bounds: all of up to three at both ends of the levels, and many longer ones.
func manyBounds() iter.Seq[[]impl.Bound] {
	return func(yield func([]impl.Bound) bool) {
		for _, first := range []int{0, 1997} {
			all := []impl.Bound{}
			for low := range 4 {
				for high := low; high < 4; high++ {
					all = append(all, impl.Bound{Low: first + low, High: first + high})
				}
			}
			for _, a := range all {
				for _, b := range all {
					if !yield([]impl.Bound{a, b}) {
						return
					}
					for _, c := range all {
						if !yield([]impl.Bound{a, b, c}) {
							return
						}
					}
				}
			}
		}
		next := sequence()
		for k := range 3000 {
			list := []impl.Bound{}
			for range k%8 + 1 {
				low := 50 + next(k%40+1)
				list = append(list, impl.Bound{Low: low, High: low + next(k%13+1)})
			}
			if !yield(list) {
				return
			}
		}
	}
}

// trustedByLevels looks at every level, apart from the program.
func trustedByLevels(list []impl.Bound, needed int) (impl.Bound, bool) {
	levels := []int{}
	for level := range 2001 {
		n := 0
		for _, b := range list {
			if b.Low <= level && level <= b.High {
				n++
			}
		}
		if n >= needed {
			levels = append(levels, level)
		}
	}
	if len(levels) == 0 {
		return impl.Bound{}, false
	}
	return impl.Bound{Low: levels[0], High: levels[len(levels)-1]}, true
}

// Bounds that meet in a point, miss each other by one, or lie in each other; the zero Bound stands for none in common.
func TestCommonBound(t *testing.T) {
	for _, c := range []struct {
		list []impl.Bound
		want impl.Bound
	}{
		{boundsOf([2]int{90, 100}, [2]int{95, 110}), impl.Bound{Low: 95, High: 100}},
		{boundsOf([2]int{95, 110}, [2]int{90, 100}), impl.Bound{Low: 95, High: 100}},
		{boundsOf([2]int{90, 100}, [2]int{95, 110}, [2]int{300, 400}), impl.Bound{}},
		{boundsOf([2]int{90, 100}, [2]int{100, 110}), impl.Bound{Low: 100, High: 100}},
		{boundsOf([2]int{100, 110}, [2]int{90, 100}), impl.Bound{Low: 100, High: 100}},
		{boundsOf([2]int{90, 99}, [2]int{100, 110}), impl.Bound{}},
		{boundsOf([2]int{100, 110}, [2]int{90, 99}), impl.Bound{}},
		{boundsOf([2]int{7, 7}, [2]int{7, 7}), impl.Bound{Low: 7, High: 7}},
		{boundsOf([2]int{7, 7}, [2]int{8, 8}), impl.Bound{}},
		{boundsOf([2]int{7, 7}), impl.Bound{Low: 7, High: 7}},
		{boundsOf([2]int{0, 2000}), impl.Bound{Low: 0, High: 2000}},
		{boundsOf([2]int{2000, 2000}, [2]int{0, 2000}), impl.Bound{Low: 2000, High: 2000}},
		{boundsOf([2]int{0, 2000}, [2]int{3, 9}, [2]int{4, 12}), impl.Bound{Low: 4, High: 9}},
		{boundsOf([2]int{1, 8}, [2]int{3, 9}, [2]int{9, 12}), impl.Bound{}},
		{boundsOf([2]int{1, 9}, [2]int{3, 9}, [2]int{9, 12}), impl.Bound{Low: 9, High: 9}},
		{slices.Repeat(boundsOf([2]int{5, 6}), 8), impl.Bound{Low: 5, High: 6}},
		{append(slices.Repeat(boundsOf([2]int{5, 6}), 7), impl.Bound{Low: 6, High: 7}), impl.Bound{Low: 6, High: 6}},
		{append(slices.Repeat(boundsOf([2]int{5, 6}), 7), impl.Bound{Low: 7, High: 7}), impl.Bound{}},
	} {
		if b, ok := impl.CommonBound(c.list); ok != (c.want != impl.Bound{}) || b != c.want {
			t.Errorf("CommonBound(%v) = %v, %v", c.list, b, ok)
		}
	}
	// The one level in common may be 0 itself.
	if b, ok := impl.CommonBound(boundsOf([2]int{0, 0}, [2]int{0, 5})); !ok || b != (impl.Bound{}) {
		t.Errorf("CommonBound with the level 0 = %v, %v", b, ok)
	}
}

// trust is a list of Bounds, and the TrustedBounds for the faults 0, 1 and so on: the zero Bound where there is none.
type trust struct {
	list []impl.Bound
	want []impl.Bound
}

// trusts returns lists whose Bounds overlap, nest, meet in points, leave gaps, or have nothing in common.
func trusts() []trust {
	none := [2]int{}
	return []trust{
		{boundsOf([2]int{90, 100}, [2]int{95, 110}, [2]int{300, 400}), boundsOf(none, [2]int{95, 100}, [2]int{90, 400})},
		{boundsOf([2]int{90, 100}, [2]int{100, 110}), boundsOf([2]int{100, 100}, [2]int{90, 110})},
		{boundsOf([2]int{90, 99}, [2]int{100, 110}), boundsOf(none, [2]int{90, 110})},
		{boundsOf([2]int{7, 7}), boundsOf([2]int{7, 7})},
		{boundsOf([2]int{0, 2000}), boundsOf([2]int{0, 2000})},
		{boundsOf([2]int{0, 2000}, [2]int{2000, 2000}), boundsOf([2]int{2000, 2000}, [2]int{0, 2000})},
		// Of no two is there a level in common.
		{boundsOf([2]int{5, 6}, [2]int{1, 2}, [2]int{3, 4}), boundsOf(none, none, [2]int{1, 6})},
		{boundsOf([2]int{2000, 2000}, [2]int{1, 1}), boundsOf(none, [2]int{1, 2000})},
		// Two places where two overlap, with a gap in between.
		{boundsOf([2]int{1, 5}, [2]int{4, 9}, [2]int{20, 30}, [2]int{28, 40}), boundsOf(none, none, [2]int{4, 30}, [2]int{1, 40})},
		{boundsOf([2]int{28, 40}, [2]int{4, 9}, [2]int{20, 30}, [2]int{1, 5}), boundsOf(none, none, [2]int{4, 30}, [2]int{1, 40})},
		{boundsOf([2]int{1, 40}, [2]int{2, 3}, [2]int{38, 39}), boundsOf(none, [2]int{2, 39}, [2]int{1, 40})},
		{boundsOf([2]int{1, 4}, [2]int{4, 7}, [2]int{7, 9}), boundsOf(none, [2]int{4, 7}, [2]int{1, 9})},
		// One in the other.
		{boundsOf([2]int{1, 9}, [2]int{2, 8}, [2]int{3, 7}, [2]int{4, 6}), boundsOf([2]int{4, 6}, [2]int{3, 7}, [2]int{2, 8}, [2]int{1, 9})},
		// The lowest Low and the highest High are not trusted.
		{boundsOf([2]int{1, 2}, [2]int{10, 20}, [2]int{12, 22}, [2]int{50, 60}), boundsOf(none, none, [2]int{12, 20}, [2]int{1, 60})},
		// Eight.
		{slices.Repeat(boundsOf([2]int{5, 6}), 8), slices.Repeat(boundsOf([2]int{5, 6}), 8)},
		{
			boundsOf([2]int{1, 1}, [2]int{2, 2}, [2]int{3, 3}, [2]int{4, 4}, [2]int{5, 5}, [2]int{6, 6}, [2]int{7, 7}, [2]int{8, 8}),
			boundsOf(none, none, none, none, none, none, none, [2]int{1, 8}),
		},
		{
			boundsOf([2]int{1, 10}, [2]int{2, 11}, [2]int{3, 12}, [2]int{4, 13}, [2]int{5, 14}, [2]int{6, 15}, [2]int{7, 16}, [2]int{8, 17}),
			boundsOf([2]int{8, 10}, [2]int{7, 11}, [2]int{6, 12}, [2]int{5, 13}, [2]int{4, 14}, [2]int{3, 15}, [2]int{2, 16}, [2]int{1, 17}),
		},
	}
}

func TestTrustedBound(t *testing.T) {
	for _, c := range trusts() {
		fewest := -1
		for faults, want := range c.want {
			if b, ok := impl.TrustedBound(c.list, faults); ok != (want != impl.Bound{}) || b != want {
				t.Errorf("TrustedBound(%v, %d) = %v, %v", c.list, faults, b, ok)
			}
			if fewest < 0 && want != (impl.Bound{}) {
				fewest = faults
			}
		}
		if n, ok := impl.FewestFaults(c.list); !ok || n != fewest {
			t.Errorf("FewestFaults(%v) = %d, %v", c.list, n, ok)
		}
		for _, faults := range append([]int{-2, -1, len(c.list), len(c.list) + 1, 8, 9}, farNumbers...) {
			expectNotTrusted(t, c.list, faults)
		}
	}
	// The one level that is trusted may be 0 itself.
	list := boundsOf([2]int{0, 0}, [2]int{0, 5}, [2]int{6, 7})
	if b, ok := impl.TrustedBound(list, 1); !ok || b != (impl.Bound{}) {
		t.Errorf("TrustedBound with the level 0 = %v, %v", b, ok)
	}
	if n, ok := impl.FewestFaults(list); !ok || n != 1 {
		t.Errorf("FewestFaults with the level 0 = %d, %v", n, ok)
	}
}

func expectNotTrusted(t *testing.T, list []impl.Bound, faults int) {
	t.Helper()
	if b, ok := impl.TrustedBound(list, faults); ok || b != (impl.Bound{}) {
		t.Errorf("TrustedBound(%v, %d) = %v, %v", list, faults, b, ok)
	}
}

// P6: with the fewest faults there is a trusted bound, and with one less there is none; and all Bounds are as by levels.
func TestBoundsOfManyLists(t *testing.T) {
	for list := range manyBounds() {
		want, common := trustedByLevels(list, len(list))
		if b, ok := impl.CommonBound(list); ok != common || b != want {
			t.Fatalf("CommonBound(%v) = %v, %v", list, b, ok)
		}
		fewest, ok := impl.FewestFaults(list)
		if !ok || fewest < 0 || fewest >= len(list) {
			t.Fatalf("FewestFaults(%v) = %d, %v", list, fewest, ok)
		}
		for faults := range list {
			want, trusted := trustedByLevels(list, len(list)-faults)
			if b, ok := impl.TrustedBound(list, faults); ok != trusted || b != want {
				t.Fatalf("TrustedBound(%v, %d) = %v, %v", list, faults, b, ok)
			}
			if trusted != (faults >= fewest) {
				t.Fatalf("FewestFaults(%v) = %d, but with %d: %v", list, fewest, faults, trusted)
			}
		}
		expectNotTrusted(t, list, -1)
		expectNotTrusted(t, list, len(list))
	}
}

// brokenBounds returns lists that are no lists of 1..8 Bounds.
func brokenBounds() [][]impl.Bound {
	lists := [][]impl.Bound{nil, {}, slices.Repeat(boundsOf([2]int{5, 6}), 9), slices.Repeat(boundsOf([2]int{0, 2000}), 20)}
	pairs := [][2]int{{1, 0}, {2000, 1999}, {2000, 0}, {101, 100}, {-1, -1}, {2001, 2001}, {-1, 2001}}
	for _, n := range noLevels() {
		pairs = append(pairs, [2]int{n, 100}, [2]int{100, n}, [2]int{n, 0}, [2]int{2000, n}, [2]int{n, n})
		for _, m := range noLevels() {
			pairs = append(pairs, [2]int{m, n})
		}
	}
	for _, pair := range pairs {
		for _, n := range []int{1, 2, 8} {
			for i := range n {
				list := slices.Repeat(boundsOf([2]int{0, 2000}), n)
				list[i] = impl.Bound{Low: pair[0], High: pair[1]}
				lists = append(lists, list)
			}
		}
	}
	return lists
}

func TestListsThatAreNoBounds(t *testing.T) {
	for _, list := range brokenBounds() {
		if b, ok := impl.CommonBound(list); ok || b != (impl.Bound{}) {
			t.Errorf("CommonBound(%v) = %v, %v", list, b, ok)
		}
		for _, faults := range append([]int{-1, 0, 1, 2, 7, 8, 9}, farNumbers...) {
			expectNotTrusted(t, list, faults)
		}
		if n, ok := impl.FewestFaults(list); ok || n != 0 {
			t.Errorf("FewestFaults(%v) = %d, %v", list, n, ok)
		}
	}
}

// withMoreReadings returns readings in a slice that has room behind them, and that room filled with what would make them others.
func withMoreReadings(list []int) []int {
	return append(slices.Clone(list), 1500, 7, 7, 7, -1, 2001)[:len(list)]
}

// P29: the functions return for all lists of readings, the same when called again, and leave the lists as they are, also beyond
// their lengths, where what stands plays no part.
func TestSensorFunctionsLeaveTheirReadings(t *testing.T) {
	lists := slices.Concat(brokenTriples(), brokenSeries(), [][]int{nil, {}, {7, 7}, {103, 100, 500}, {9, 5, 7}, {5, 6, 7, 6, 5, 4}, make([]int, 20)})
	for _, list := range lists {
		given := withMoreReadings(list)
		before := slices.Clone(given[:cap(given)])
		m, ok := impl.MedianOf(given)
		if n, fine := impl.MedianOf(list); n != m || ok != fine {
			t.Errorf("MedianOf(%d) = %d and %d", list, n, m)
		}
		for _, most := range append([]int{0, 1, 2, 3, 20, 2000}, noLevels()...) {
			expectSameReadings(t, given, list, most)
		}
		if !slices.Equal(given[:cap(given)], before) {
			t.Fatalf("%d was changed to %d", before, given[:cap(given)])
		}
	}
}

// expectSameReadings calls the functions of one list of readings and a number for both of two equal lists.
func expectSameReadings(t *testing.T, a []int, b []int, number int) {
	t.Helper()
	agreeing, ok := impl.AgreeingSensors(a, number)
	if l, fine := impl.AgreeingSensors(b, number); !slices.Equal(l, agreeing) || ok != fine {
		t.Errorf("AgreeingSensors(%d, %d) = %d and %d", b, number, l, agreeing)
	}
	m, ok := impl.VotedLevel(a, number)
	if n, fine := impl.VotedLevel(b, number); n != m || ok != fine {
		t.Errorf("VotedLevel(%d, %d) = %d and %d", b, number, n, m)
	}
	stuck, ok := impl.IsStuck(a, number)
	if again, fine := impl.IsStuck(b, number); again != stuck || ok != fine {
		t.Errorf("IsStuck(%d, %d) = %v and %v", b, number, again, stuck)
	}
	i, ok := impl.JumpIn(a, number)
	if n, fine := impl.JumpIn(b, number); n != i || ok != fine {
		t.Errorf("JumpIn(%d, %d) = %d and %d", b, number, n, i)
	}
	first, length, ok := impl.LongestCalm(a, number)
	if j, n, fine := impl.LongestCalm(b, number); j != first || n != length || ok != fine {
		t.Errorf("LongestCalm(%d, %d) = %d, %d and %d, %d", b, number, j, n, first, length)
	}
}

// P29 for lists of triples, in each of which more stands behind the readings.
func TestSensorFunctionsLeaveTheirTriples(t *testing.T) {
	lists := [][][]int{nil, {}, {outerStray}, {secondStrays, firstStrays, thirdStrays}, slices.Repeat([][]int{thirdStrays}, 20), slices.Repeat([][]int{noneStrays}, 21)}
	for _, broken := range brokenTriples() {
		lists = append(lists, [][]int{broken}, [][]int{secondStrays, broken, secondStrays})
	}
	for _, list := range lists {
		longer := append(slices.Clone(list), firstStrays, firstStrays, noneStrays, nil)
		whole, before := [][]int{}, [][]int{}
		for i, triple := range longer {
			whole = append(whole, withMoreReadings(triple))
			before = append(before, slices.Clone(whole[i][:cap(whole[i])]))
		}
		for _, most := range append([]int{0, 9, 10, 2000}, noLevels()...) {
			m, ok := impl.SuspectSensor(whole[:len(list)], most)
			if n, fine := impl.SuspectSensor(list, most); n != m || ok != fine {
				t.Errorf("SuspectSensor(%d, %d) = %d and %d", list, most, n, m)
			}
		}
		for i, triple := range whole {
			if len(triple) != len(longer[i]) || !slices.Equal(triple[:cap(triple)], before[i]) {
				t.Fatalf("%d was changed to %d", before[i], triple[:cap(triple)])
			}
		}
	}
}

// P29 for lists of Bounds.
func TestSensorFunctionsLeaveTheirBounds(t *testing.T) {
	lists := brokenBounds()
	for _, c := range trusts() {
		lists = append(lists, c.list)
	}
	for _, list := range lists {
		given := append(slices.Clone(list), impl.Bound{Low: 1999, High: 2000}, impl.Bound{Low: 5, High: 4})[:len(list)]
		before := slices.Clone(given[:cap(given)])
		common, ok := impl.CommonBound(given)
		if b, fine := impl.CommonBound(list); b != common || ok != fine {
			t.Errorf("CommonBound(%v) = %v and %v", list, b, common)
		}
		for _, faults := range append([]int{-1, 0, 1, 2, 7, 8}, farNumbers...) {
			trusted, ok := impl.TrustedBound(given, faults)
			if b, fine := impl.TrustedBound(list, faults); b != trusted || ok != fine {
				t.Errorf("TrustedBound(%v, %d) = %v and %v", list, faults, b, trusted)
			}
		}
		m, ok := impl.FewestFaults(given)
		if n, fine := impl.FewestFaults(list); n != m || ok != fine {
			t.Errorf("FewestFaults(%v) = %d and %d", list, n, m)
		}
		if !slices.Equal(given[:cap(given)], before) {
			t.Fatalf("%v was changed to %v", before, given[:cap(given)])
		}
	}
}

// A list of sensors shares no memory with the triple, nor with a later list.
func TestListsOfSensorsAreNew(t *testing.T) {
	for _, triple := range [][]int{{7, 7, 7}, {103, 100, 500}, {0, 1, 2}} {
		for _, most := range []int{0, 3, 2000} {
			given := withMoreReadings(triple)
			before := slices.Clone(given[:cap(given)])
			expectNewInts(t, len(agreeingByCounting(triple, most)), func() ([]int, bool) { return impl.AgreeingSensors(given, most) })
			if !slices.Equal(given[:cap(given)], before) {
				t.Errorf("%d was changed to %d", before, given[:cap(given)])
			}
		}
	}
}
