package tests

import (
	"math"
	"math/big"
	"regexp"
	"slices"
	"strconv"
	"strings"
	"testing"

	"loop.example/g00924/impl"
)

// Numbers far from every limit of the chapter.
var farNumbers = []int{math.MinInt, math.MinInt + 1, -1 << 32, -100000, -7, 7000, 100000, 1 << 32, math.MaxInt - 1, math.MaxInt}

// waterwayOf returns a Waterway of n Reaches that differ.
func waterwayOf(n int) impl.Waterway {
	w := impl.Waterway{}
	for i := range n {
		w.Reaches = append(w.Reaches, impl.Reach{Length: 3 + i*7%5, Depth: 300 - 40*i*(3-i), Speed: 7 + i*5%9})
		if i > 0 {
			w.Rises = append(w.Rises, 100*i*(i%3-1)+i)
		}
	}
	return w
}

// rowOf returns the Waterway with the Length, Depth and Speed of a Reach, the rise behind it, the numbers of the next Reach, and so on.
func rowOf(numbers ...int) impl.Waterway {
	w := impl.Waterway{}
	for part := range slices.Chunk(numbers, 4) {
		w.Reaches = append(w.Reaches, impl.Reach{Length: part[0], Depth: part[1], Speed: part[2]})
		w.Rises = append(w.Rises, part[3:]...)
	}
	return w
}

// someWaterways returns valid Waterways of every number of Reaches, those at all limits among them.
func someWaterways() []impl.Waterway {
	low := impl.Reach{Length: 1, Depth: 100, Speed: 1}
	high := impl.Reach{Length: 100, Depth: 900, Speed: 20}
	list := []impl.Waterway{
		{Reaches: []impl.Reach{low}},
		{Reaches: []impl.Reach{high}, Rises: []int{}},
		{Reaches: []impl.Reach{low, high}, Rises: []int{-1000}},
		{Reaches: []impl.Reach{high, low}, Rises: []int{1000}},
		{Reaches: []impl.Reach{low, low, low}, Rises: []int{0, 0}},
		{Reaches: []impl.Reach{high, high, high, high, high, high}, Rises: []int{1000, 1000, 1000, 1000, 1000}},
		{Reaches: []impl.Reach{low, low, low, low, low, low}, Rises: []int{-1000, -1000, -1000, -1000, -1000}},
		rowOf(5, 300, 10, 250, 10, 250, 8, -100, 2, 400, 12),
		// Speeds without common divisors, so that the denominators grow.
		rowOf(1, 100, 19, 1, 7, 101, 17, -1, 11, 899, 13, 999, 13, 900, 11, -999, 1, 500, 7, 10, 23, 499, 16),
	}
	for n := 1; n <= 6; n++ {
		list = append(list, waterwayOf(n))
	}
	return list
}

// copyOf returns w in new memory.
func copyOf(w impl.Waterway) impl.Waterway {
	return impl.Waterway{Reaches: slices.Clone(w.Reaches), Rises: slices.Clone(w.Rises)}
}

func sameWaterways(a impl.Waterway, b impl.Waterway) bool {
	return slices.Equal(a.Reaches, b.Reaches) && slices.Equal(a.Rises, b.Rises)
}

func isZero(w impl.Waterway) bool { return len(w.Reaches) == 0 && len(w.Rises) == 0 }

// brokenWaterways returns Waterways that are invalid in one respect each, and some in several.
func brokenWaterways() []impl.Waterway {
	list := []impl.Waterway{
		{},
		{Reaches: []impl.Reach{}, Rises: []int{}},
		{Rises: []int{1}},
		{Reaches: waterwayOf(1).Reaches, Rises: []int{1}},
		{Reaches: waterwayOf(1).Reaches, Rises: []int{0}},
		{Reaches: waterwayOf(2).Reaches},
		{Reaches: waterwayOf(2).Reaches, Rises: []int{1, 2}},
		{Reaches: waterwayOf(3).Reaches, Rises: []int{1}},
		{Reaches: waterwayOf(3).Reaches, Rises: []int{1, 2, 3}},
		{Reaches: waterwayOf(6).Reaches, Rises: []int{1, 2, 3, 4}},
		{Reaches: waterwayOf(6).Reaches, Rises: []int{1, 2, 3, 4, 5, 6}},
		{Reaches: slices.Repeat(waterwayOf(1).Reaches, 7), Rises: make([]int, 6)},
		{Reaches: slices.Repeat(waterwayOf(1).Reaches, 7), Rises: make([]int, 5)},
		{Reaches: slices.Repeat(waterwayOf(1).Reaches, 8), Rises: make([]int, 7)},
		{Reaches: slices.Repeat(waterwayOf(1).Reaches, 10000), Rises: make([]int, 9999)},
		{Reaches: make([]impl.Reach, 1)},
		{Reaches: make([]impl.Reach, 6), Rises: make([]int, 5)},
	}
	for n := 1; n <= 6; n++ {
		for i := range n {
			for _, bad := range append([]int{0, 101}, farNumbers...) {
				w := waterwayOf(n)
				w.Reaches[i].Length = bad
				list = append(list, w)
			}
			for _, bad := range append([]int{0, 99, 901}, farNumbers...) {
				w := waterwayOf(n)
				w.Reaches[i].Depth = bad
				list = append(list, w)
			}
			for _, bad := range append([]int{0, 21}, farNumbers...) {
				w := waterwayOf(n)
				w.Reaches[i].Speed = bad
				list = append(list, w)
			}
		}
		for i := range n - 1 {
			for _, bad := range []int{-1001, 1001, math.MinInt, -1 << 32, 7000, 1 << 32, math.MaxInt} {
				w := waterwayOf(n)
				w.Rises[i] = bad
				list = append(list, w)
			}
		}
	}
	return list
}

// lengthOf adds the Lengths up, apart from the program.
func lengthOf(w impl.Waterway) int {
	n := 0
	for _, r := range w.Reaches {
		n += r.Length
	}
	return n
}

// kilometersOf returns, for each kilometer of w, the number of the Reach in which it lies: that from the place k to k + 1 at the index k.
func kilometersOf(w impl.Waterway) []int {
	list := []int{}
	for i, r := range w.Reaches {
		for range r.Length {
			list = append(list, i)
		}
	}
	return list
}

// reachOf returns the Reach of a place: that of the kilometer before it, and the first one for the place 0.
func reachOf(w impl.Waterway, place int) int {
	if place == 0 {
		return 0
	}
	return kilometersOf(w)[place-1]
}

// minutesOf adds up 60 minutes divided by the speed for each kilometer of a way.
func minutesOf(w impl.Waterway, from int, to int, speed int) *big.Rat {
	sum := new(big.Rat)
	for _, i := range kilometersOf(w)[min(from, to):max(from, to)] {
		sum.Add(sum, big.NewRat(60, int64(min(speed, w.Reaches[i].Speed))))
	}
	return sum
}

// placesOf returns the ends of the Reaches, what is next to them, and some places more.
func placesOf(w impl.Waterway) []int {
	list := []int{0}
	end := 0
	for _, r := range w.Reaches {
		list = append(list, end, end+1, end+r.Length/2, end+r.Length-1, end+r.Length)
		end += r.Length
	}
	slices.Sort(list)
	return slices.Compact(list)
}

// outside returns numbers that are not in 0..last.
func outside(last int) []int {
	return []int{-1, -2, last + 1, last + 2, -last - 1, math.MinInt, -1 << 32, 1 << 32, math.MaxInt}
}

func TestWaterwaysThatAreValid(t *testing.T) {
	if impl.MaxReaches != 6 {
		t.Error("MaxReaches", impl.MaxReaches)
	}
	for _, w := range someWaterways() {
		if !impl.IsValidWaterway(w) {
			t.Errorf("%v is not valid", w)
		}
	}
	// Every number in its range is valid, in every Reach and lock.
	for i := range 6 {
		for n := 1; n <= 100; n++ {
			expectValidWith(t, func(w impl.Waterway) { w.Reaches[i].Length = n })
		}
		for n := 100; n <= 900; n++ {
			expectValidWith(t, func(w impl.Waterway) { w.Reaches[i].Depth = n })
		}
		for n := 1; n <= 20; n++ {
			expectValidWith(t, func(w impl.Waterway) { w.Reaches[i].Speed = n })
		}
		for n := -1000; n <= 1000 && i < 5; n++ {
			expectValidWith(t, func(w impl.Waterway) { w.Rises[i] = n })
		}
	}
}

// expectValidWith makes a change to a Waterway of MaxReaches Reaches, which must be valid then.
func expectValidWith(t *testing.T, change func(w impl.Waterway)) {
	t.Helper()
	w := waterwayOf(6)
	change(w)
	if !impl.IsValidWaterway(w) {
		t.Errorf("%v is not valid", w)
	}
}

// Beyond every limit, no function has a result.
func TestWaterwaysThatAreNotValid(t *testing.T) {
	for _, w := range brokenWaterways() {
		if impl.IsValidWaterway(w) {
			t.Fatalf("%v is valid", w)
		}
		expectNoNumbers(t, w)
		expectNoWaterways(t, w)
		if s, ok := impl.WaterwayText(w); ok || s != "" {
			t.Errorf("WaterwayText(%v) = %q, %v", w, s, ok)
		}
	}
}

// expectNoNumbers expects the functions that return numbers to fail for w.
func expectNoNumbers(t *testing.T, w impl.Waterway) {
	t.Helper()
	if n, ok := impl.TotalLength(w); ok || n != 0 {
		t.Errorf("TotalLength(%v) = %d, %v", w, n, ok)
	}
	for i := range len(w.Reaches) + 1 {
		if i > 8 {
			break
		}
		if n, ok := impl.LevelOf(w, i); ok || n != 0 {
			t.Errorf("LevelOf(%v, %d) = %d, %v", w, i, n, ok)
		}
		if n, ok := impl.ShallowestDepth(w, 0, i); ok || n != 0 {
			t.Errorf("ShallowestDepth(%v, 0, %d) = %d, %v", w, i, n, ok)
		}
		if n, ok := impl.ReachAt(w, i); ok || n != 0 {
			t.Errorf("ReachAt(%v, %d) = %d, %v", w, i, n, ok)
		}
		if l, ok := impl.LocksBetween(w, i, 0); ok || len(l) != 0 {
			t.Errorf("LocksBetween(%v, %d, 0) = %d, %v", w, i, l, ok)
		}
		if n, d, ok := impl.MinutesOnWay(w, 0, i, 10); ok || n != 0 || d != 0 {
			t.Errorf("MinutesOnWay(%v, 0, %d, 10) = %d, %d, %v", w, i, n, d, ok)
		}
	}
}

// expectNoWaterways expects the functions that return Waterways to fail for w.
func expectNoWaterways(t *testing.T, w impl.Waterway) {
	t.Helper()
	for _, lock := range []int{-1, 0, 1, 4, 5} {
		if a, b, ok := impl.SplitWaterway(w, lock); ok || !isZero(a) || !isZero(b) {
			t.Errorf("SplitWaterway(%v, %d) = %v, %v, %v", w, lock, a, b, ok)
		}
	}
	for n := 1; n <= 6; n++ {
		if j, ok := impl.JoinWaterways(w, waterwayOf(n), 0); ok || !isZero(j) {
			t.Errorf("JoinWaterways(%v, %v, 0) = %v, %v", w, waterwayOf(n), j, ok)
		}
		if j, ok := impl.JoinWaterways(waterwayOf(n), w, 0); ok || !isZero(j) {
			t.Errorf("JoinWaterways(%v, %v, 0) = %v, %v", waterwayOf(n), w, j, ok)
		}
	}
	if j, ok := impl.JoinWaterways(w, w, 0); ok || !isZero(j) {
		t.Errorf("JoinWaterways(%v, itself, 0) = %v, %v", w, j, ok)
	}
}

func TestLevelOf(t *testing.T) {
	for _, w := range someWaterways() {
		level := 0
		for i := range w.Reaches {
			if i > 0 {
				level += w.Rises[i-1]
			}
			if n, ok := impl.LevelOf(w, i); !ok || n != level {
				t.Errorf("LevelOf(%v, %d) = %d, %v", w, i, n, ok)
			}
		}
		for _, i := range outside(len(w.Reaches) - 1) {
			if n, ok := impl.LevelOf(w, i); ok || n != 0 {
				t.Errorf("LevelOf(%v, %d) = %d, %v", w, i, n, ok)
			}
		}
	}
}

func TestTotalLength(t *testing.T) {
	for _, w := range someWaterways() {
		if n, ok := impl.TotalLength(w); !ok || n != lengthOf(w) {
			t.Errorf("TotalLength(%v) = %d, %v", w, n, ok)
		}
	}
	longest := someWaterways()[5]
	if n, ok := impl.TotalLength(longest); !ok || n != 600 {
		t.Error("the longest one", n, ok)
	}
}

func TestReachAt(t *testing.T) {
	for _, w := range someWaterways() {
		length := lengthOf(w)
		for place := 0; place <= length; place++ {
			if i, ok := impl.ReachAt(w, place); !ok || i != reachOf(w, place) {
				t.Errorf("ReachAt(%v, %d) = %d, %v", w, place, i, ok)
			}
		}
		for _, place := range outside(length) {
			if i, ok := impl.ReachAt(w, place); ok || i != 0 {
				t.Errorf("ReachAt(%v, %d) = %d, %v", w, place, i, ok)
			}
		}
	}
}

func TestAPlaceBetweenTwoReaches(t *testing.T) {
	w := rowOf(5, 300, 10, 250, 10, 250, 8, -100, 2, 400, 12)
	for _, x := range [][2]int{{0, 0}, {1, 0}, {4, 0}, {5, 0}, {6, 1}, {14, 1}, {15, 1}, {16, 2}, {17, 2}} {
		if i, ok := impl.ReachAt(w, x[0]); !ok || i != x[1] {
			t.Errorf("ReachAt at %d: %d, %v", x[0], i, ok)
		}
	}
	for _, c := range []struct {
		from, to int
		want     []int
	}{
		{0, 5, nil}, {5, 0, nil}, {5, 5, nil}, {5, 6, []int{0}}, {6, 5, []int{0}}, {6, 15, nil}, {15, 6, nil},
		{5, 15, []int{0}}, {15, 5, []int{0}}, {15, 16, []int{1}}, {5, 16, []int{0, 1}}, {16, 5, []int{1, 0}},
		{0, 17, []int{0, 1}}, {17, 0, []int{1, 0}}, {17, 15, []int{1}}, {0, 0, nil}, {17, 17, nil},
	} {
		if l, ok := impl.LocksBetween(w, c.from, c.to); !ok || !slices.Equal(l, c.want) {
			t.Errorf("LocksBetween %d and %d: %d, %v", c.from, c.to, l, ok)
		}
	}
}

func TestLocksBetween(t *testing.T) {
	for _, w := range someWaterways() {
		places := placesOf(w)
		for _, from := range places {
			for _, to := range places {
				want := []int{}
				for lock := reachOf(w, from); lock < reachOf(w, to); lock++ {
					want = append(want, lock)
				}
				for lock := reachOf(w, from) - 1; lock >= reachOf(w, to); lock-- {
					want = append(want, lock)
				}
				if l, ok := impl.LocksBetween(w, from, to); !ok || !slices.Equal(l, want) {
					t.Errorf("LocksBetween(%v, %d, %d) = %d, %v", w, from, to, l, ok)
				}
			}
			for _, bad := range outside(lengthOf(w)) {
				if l, ok := impl.LocksBetween(w, from, bad); ok || len(l) != 0 {
					t.Errorf("LocksBetween(%v, %d, %d) = %d, %v", w, from, bad, l, ok)
				}
				if l, ok := impl.LocksBetween(w, bad, from); ok || len(l) != 0 {
					t.Errorf("LocksBetween(%v, %d, %d) = %d, %v", w, bad, from, l, ok)
				}
			}
		}
	}
}

func TestShallowestDepth(t *testing.T) {
	for _, w := range someWaterways() {
		for a := range w.Reaches {
			for b := range w.Reaches {
				want := 1000
				for i, r := range w.Reaches {
					if i >= a && i <= b || i >= b && i <= a {
						want = min(want, r.Depth)
					}
				}
				if n, ok := impl.ShallowestDepth(w, a, b); !ok || n != want {
					t.Errorf("ShallowestDepth(%v, %d, %d) = %d, %v", w, a, b, n, ok)
				}
			}
			for _, bad := range outside(len(w.Reaches) - 1) {
				if n, ok := impl.ShallowestDepth(w, a, bad); ok || n != 0 {
					t.Errorf("ShallowestDepth(%v, %d, %d) = %d, %v", w, a, bad, n, ok)
				}
				if n, ok := impl.ShallowestDepth(w, bad, a); ok || n != 0 {
					t.Errorf("ShallowestDepth(%v, %d, %d) = %d, %v", w, bad, a, n, ok)
				}
			}
		}
	}
}

// expectMinutes expects the minutes of a way as a fraction in lowest terms.
func expectMinutes(t *testing.T, w impl.Waterway, from int, to int, speed int, want *big.Rat) {
	t.Helper()
	n, d, ok := impl.MinutesOnWay(w, from, to, speed)
	if !ok || int64(n) != want.Num().Int64() || int64(d) != want.Denom().Int64() {
		t.Errorf("MinutesOnWay(%v, %d, %d, %d) = %d, %d, %v, not %v", w, from, to, speed, n, d, ok, want)
	}
}

func TestMinutesOnWay(t *testing.T) {
	for _, w := range someWaterways() {
		places := placesOf(w)
		for _, from := range places {
			for _, to := range places {
				for _, speed := range []int{1, 7, 8, 13, 19, 20} {
					expectMinutes(t, w, from, to, speed, minutesOf(w, from, to, speed))
				}
			}
		}
		for speed := 1; speed <= 20; speed++ {
			expectMinutes(t, w, 0, lengthOf(w), speed, minutesOf(w, 0, lengthOf(w), speed))
			expectMinutes(t, w, lengthOf(w), 0, speed, minutesOf(w, 0, lengthOf(w), speed))
		}
	}
}

func TestMinutesInLowestTerms(t *testing.T) {
	w := rowOf(5, 300, 10, 250, 10, 250, 8, -100, 2, 400, 12)
	for _, c := range [][5]int{
		{0, 17, 10, 117, 1}, {17, 0, 10, 117, 1}, {6, 2, 20, 51, 2}, {2, 6, 20, 51, 2}, {0, 17, 20, 115, 1},
		{0, 17, 1, 1020, 1}, {0, 1, 7, 60, 7}, {0, 7, 7, 60, 1}, {5, 6, 8, 15, 2}, {5, 7, 8, 15, 1}, {0, 17, 7, 1020, 7},
		{0, 0, 1, 0, 1}, {5, 5, 7, 0, 1}, {15, 15, 20, 0, 1}, {17, 17, 13, 0, 1}, {9, 9, 9, 0, 1},
	} {
		n, d, ok := impl.MinutesOnWay(w, c[0], c[1], c[2])
		if !ok || n != c[3] || d != c[4] {
			t.Errorf("MinutesOnWay from %d to %d at %d: %d, %d, %v", c[0], c[1], c[2], n, d, ok)
		}
	}
}

func TestMinutesBeyondTheLimits(t *testing.T) {
	for _, w := range someWaterways() {
		length := lengthOf(w)
		for _, speed := range append([]int{0, -1, 21, 22}, farNumbers...) {
			for _, to := range []int{0, length} {
				if n, d, ok := impl.MinutesOnWay(w, 0, to, speed); ok || n != 0 || d != 0 {
					t.Errorf("MinutesOnWay(%v, 0, %d, %d) = %d, %d, %v", w, to, speed, n, d, ok)
				}
			}
		}
		for _, bad := range outside(length) {
			for _, way := range [][2]int{{0, bad}, {bad, 0}, {length, bad}, {bad, length}, {bad, bad}} {
				if n, d, ok := impl.MinutesOnWay(w, way[0], way[1], 20); ok || n != 0 || d != 0 {
					t.Errorf("MinutesOnWay(%v, %d, %d, 20) = %d, %d, %v", w, way[0], way[1], n, d, ok)
				}
			}
		}
	}
}

// P2: the minutes to a place on the way and from there on are those of the whole way, in both directions.
func TestMinutesAddUp(t *testing.T) {
	for _, w := range someWaterways() {
		places := placesOf(w)
		for i, from := range places {
			for k, to := range places[i:] {
				for _, by := range places[i : i+k+1] {
					for _, speed := range []int{1, 9, 20} {
						expectSum(t, w, speed, from, by, to)
						expectSum(t, w, speed, to, by, from)
					}
				}
			}
		}
	}
}

// expectSum expects the minutes of both parts of a way by a place to be those of the way.
func expectSum(t *testing.T, w impl.Waterway, speed int, from int, by int, to int) {
	t.Helper()
	n, d, ok := impl.MinutesOnWay(w, from, by, speed)
	m, e, fine := impl.MinutesOnWay(w, by, to, speed)
	if !ok || !fine || d < 1 || e < 1 {
		t.Fatalf("%v from %d by %d to %d at %d: no minutes", w, from, by, to, speed)
	}
	sum := new(big.Rat).Add(big.NewRat(int64(n), int64(d)), big.NewRat(int64(m), int64(e)))
	expectMinutes(t, w, from, to, speed, sum)
}

// P2: a Waterway that is split at any of its locks is joined to itself again with the rise of the lock.
func TestSplitWaterwaysAreJoinedAgain(t *testing.T) {
	for _, w := range someWaterways() {
		for lock, rise := range w.Rises {
			a, b, ok := impl.SplitWaterway(w, lock)
			wantA := impl.Waterway{Reaches: w.Reaches[:lock+1], Rises: w.Rises[:lock]}
			wantB := impl.Waterway{Reaches: w.Reaches[lock+1:], Rises: w.Rises[lock+1:]}
			if !ok || !sameWaterways(a, wantA) || !sameWaterways(b, wantB) {
				t.Fatalf("SplitWaterway(%v, %d) = %v, %v, %v", w, lock, a, b, ok)
			}
			if j, ok := impl.JoinWaterways(a, b, rise); !ok || !sameWaterways(j, w) {
				t.Errorf("JoinWaterways(%v, %v, %d) = %v, %v", a, b, rise, j, ok)
			}
			expectPartsAddUp(t, w, lock, a, b)
		}
		for _, lock := range outside(len(w.Rises) - 1) {
			if a, b, ok := impl.SplitWaterway(w, lock); ok || !isZero(a) || !isZero(b) {
				t.Errorf("SplitWaterway(%v, %d) = %v, %v, %v", w, lock, a, b, ok)
			}
		}
	}
}

// expectPartsAddUp expects the lengths, minutes and texts of both parts to be those of w.
func expectPartsAddUp(t *testing.T, w impl.Waterway, lock int, a impl.Waterway, b impl.Waterway) {
	t.Helper()
	m, _ := impl.TotalLength(a)
	n, _ := impl.TotalLength(b)
	if m+n != lengthOf(w) {
		t.Errorf("%v and %v: lengths %d and %d", a, b, m, n)
	}
	for _, speed := range []int{1, 9, 20} {
		sum := new(big.Rat).Add(minutesOf(a, 0, m, speed), minutesOf(b, 0, n, speed))
		expectMinutes(t, w, 0, m+n, speed, sum)
		expectMinutes(t, a, 0, m, speed, minutesOf(w, 0, m, speed))
		expectMinutes(t, b, n, 0, speed, minutesOf(w, m, m+n, speed))
	}
	before, _ := impl.WaterwayText(a)
	behind, _ := impl.WaterwayText(b)
	whole, _ := impl.WaterwayText(w)
	if before+"lock "+strconv.Itoa(w.Rises[lock])+"\n"+behind != whole {
		t.Errorf("%v and %v: texts %q and %q", a, b, before, behind)
	}
}

func TestJoinWaterways(t *testing.T) {
	for _, a := range someWaterways() {
		for _, b := range someWaterways() {
			for _, rise := range []int{-1001, -1000, -1, 0, 1, 1000, 1001, math.MinInt, math.MaxInt} {
				j, ok := impl.JoinWaterways(a, b, rise)
				if len(a.Reaches)+len(b.Reaches) > 6 || rise < -1000 || rise > 1000 {
					if ok || !isZero(j) {
						t.Errorf("JoinWaterways(%v, %v, %d) = %v, %v", a, b, rise, j, ok)
					}
					continue
				}
				want := copyOf(a)
				want.Reaches = append(want.Reaches, b.Reaches...)
				want.Rises = append(append(want.Rises, rise), b.Rises...)
				if !ok || !sameWaterways(j, want) {
					t.Errorf("JoinWaterways(%v, %v, %d) = %v, %v", a, b, rise, j, ok)
				}
			}
		}
	}
}

// One of the Waterways has the rise that the other one lacks, so that the sum of them would be valid.
func TestJoiningInvalidWaterways(t *testing.T) {
	two, one := waterwayOf(2), waterwayOf(1)
	for _, c := range [][2]impl.Waterway{
		{{Reaches: two.Reaches}, {Reaches: one.Reaches, Rises: []int{5}}},
		{{Reaches: one.Reaches, Rises: []int{5}}, {Reaches: two.Reaches}},
		{{Reaches: two.Reaches, Rises: []int{5, 6}}, {Reaches: two.Reaches}},
		{{Reaches: two.Reaches}, {Reaches: two.Reaches, Rises: []int{5, 6}}},
		{{Reaches: two.Reaches, Rises: []int{5, 6}}, {}},
		{{}, {Reaches: two.Reaches}},
		{two, {}},
		{{}, two},
		{{}, {}},
	} {
		if j, ok := impl.JoinWaterways(c[0], c[1], 7); ok || !isZero(j) {
			t.Errorf("JoinWaterways(%v, %v, 7) = %v, %v", c[0], c[1], j, ok)
		}
	}
}

func TestWaterwayText(t *testing.T) {
	for _, c := range []struct {
		w    impl.Waterway
		want string
	}{
		{rowOf(1, 100, 1), "reach 1 km 100 cm 1 km/h\n"},
		{rowOf(100, 900, 20), "reach 100 km 900 cm 20 km/h\n"},
		{
			rowOf(5, 300, 10, 250, 10, 250, 8, -100, 2, 400, 12),
			"reach 5 km 300 cm 10 km/h\nlock 250\nreach 10 km 250 cm 8 km/h\nlock -100\nreach 2 km 400 cm 12 km/h\n",
		},
		{
			rowOf(7, 101, 2, 0, 8, 102, 3, 1000, 9, 103, 4, -1000, 99, 899, 19),
			"reach 7 km 101 cm 2 km/h\nlock 0\nreach 8 km 102 cm 3 km/h\nlock 1000\nreach 9 km 103 cm 4 km/h\n" +
				"lock -1000\nreach 99 km 899 cm 19 km/h\n",
		},
	} {
		if s, ok := impl.WaterwayText(c.w); !ok || s != c.want {
			t.Errorf("WaterwayText(%v) = %q, %v", c.w, s, ok)
		}
		if w, ok := impl.ParseWaterway(c.want); !ok || !sameWaterways(w, c.w) {
			t.Errorf("ParseWaterway(%q) = %v, %v", c.want, w, ok)
		}
	}
}

var reachLine = regexp.MustCompile(`^reach ([1-9][0-9]{0,2}) km ([1-9][0-9]{0,2}) cm ([1-9][0-9]?) km/h$`)
var lockLine = regexp.MustCompile(`^lock (0|-?[1-9][0-9]{0,3})$`)

// waterwayIn reads a text apart from the program.
func waterwayIn(s string) (impl.Waterway, bool) {
	w := impl.Waterway{}
	if !strings.HasSuffix(s, "\n") {
		return w, false
	}
	for i, line := range strings.Split(strings.TrimSuffix(s, "\n"), "\n") {
		form := []*regexp.Regexp{reachLine, lockLine}[i%2]
		found := form.FindStringSubmatch(line)
		if found == nil || i > 10 {
			return impl.Waterway{}, false
		}
		n := [4]int{}
		for k, digits := range found {
			n[k], _ = strconv.Atoi(digits)
		}
		if i%2 == 1 {
			if n[1] < -1000 || n[1] > 1000 {
				return impl.Waterway{}, false
			}
			w.Rises = append(w.Rises, n[1])
			continue
		}
		if n[1] > 100 || n[2] < 100 || n[2] > 900 || n[3] > 20 {
			return impl.Waterway{}, false
		}
		w.Reaches = append(w.Reaches, impl.Reach{Length: n[1], Depth: n[2], Speed: n[3]})
	}
	if len(w.Reaches) != len(w.Rises)+1 {
		return impl.Waterway{}, false
	}
	return w, true
}

// expectRead expects ParseWaterway to read a text as waterwayIn does.
func expectRead(t *testing.T, s string) {
	t.Helper()
	want, right := waterwayIn(s)
	w, ok := impl.ParseWaterway(s)
	if ok != right || !sameWaterways(w, want) {
		t.Fatalf("ParseWaterway(%s) = %v, %v", shown(s), w, ok)
	}
	if !ok {
		return
	}
	if text, ok := impl.WaterwayText(w); !ok || text != s {
		t.Fatalf("WaterwayText(%v) = %q, %v", w, text, ok)
	}
}

func TestParsedTextsAreWrittenAgain(t *testing.T) {
	for _, w := range someWaterways() {
		s, ok := impl.WaterwayText(w)
		if !ok {
			t.Fatalf("no text of %v", w)
		}
		if v, ok := impl.ParseWaterway(s); !ok || !sameWaterways(v, w) {
			t.Errorf("ParseWaterway(%q) = %v, %v", s, v, ok)
		}
	}
}

// A byte that is changed, left out or added makes the text of another Waterway or of none.
func TestTextsThatDifferInOneByte(t *testing.T) {
	some := someWaterways()
	for _, w := range []impl.Waterway{some[0], some[3], some[5], some[7]} {
		s, ok := impl.WaterwayText(w)
		if !ok {
			t.Fatalf("no text of %v", w)
		}
		for near := range textsNear(s) {
			expectRead(t, near)
		}
	}
}

func TestTextsOfNoWaterway(t *testing.T) {
	reach, lock := "reach 5 km 300 cm 10 km/h\n", "lock 2\n"
	longest := strings.Repeat(reach+lock, 5) + reach
	if w, ok := impl.ParseWaterway(longest); !ok || len(w.Reaches) != 6 {
		t.Error("six reaches", w, ok)
	}
	for _, s := range []string{
		"", "\n", "\n\n", "x", "reach", "reach \n", "reach  km  cm  km/h\n", "reach ? km ? cm ? km/h\n", "lock\n", "lock \n", lock,
		"reach 5 km 300 cm 10 km/h", reach + lock, reach + reach, reach + lock + lock, lock + reach, reach + lock + reach + lock,
		reach + lock + lock + reach, reach + "\n", "\n" + reach, reach + lock + "\n" + reach, longest + lock, longest + lock + reach,
		longest + reach, longest[:len(longest)-1], reach + "lock ?\n" + reach,
		"reach 0 km 300 cm 10 km/h\n", "reach 101 km 300 cm 10 km/h\n", "reach -5 km 300 cm 10 km/h\n", "reach 05 km 300 cm 10 km/h\n",
		"reach +5 km 300 cm 10 km/h\n", "reach 5 km 99 cm 10 km/h\n", "reach 5 km 901 cm 10 km/h\n", "reach 5 km 0300 cm 10 km/h\n",
		"reach 5 km 300 cm 0 km/h\n", "reach 5 km 300 cm 21 km/h\n", "reach 5 km 300 cm 010 km/h\n", "reach 5 km 300 cm -1 km/h\n",
		"reach 5 km 300 cm 10 km/h \n", " reach 5 km 300 cm 10 km/h\n", "reach  5 km 300 cm 10 km/h\n", "reach 5 km 300 cm 10  km/h\n",
		"reach 5 km 300 cm 10 km/h\r\n", "Reach 5 km 300 cm 10 km/h\n", "reach 5 km 300 cm 10 km\n", "reach 5 km 300 cm 10\n",
		"reach 5 km 300 cm\n", "reach 5 km\n", "reach 5\n", "reach 5 km 300 cm 10 km/h 1\n", "reach 5km 300cm 10km/h\n",
		"lock 5 km 300 cm 10 km/h\n", "reach 300 km 5 cm 10 km/h\n", "reach 5 cm 300 km 10 km/h\n", "reach\t5 km 300 cm 10 km/h\n",
		reach + "lock\n" + reach, reach + "lock \n" + reach, reach + "lock -0\n" + reach, reach + "lock 02\n" + reach,
		reach + "lock +2\n" + reach, reach + "lock 1001\n" + reach, reach + "lock -1001\n" + reach, reach + "lock 2 \n" + reach,
		reach + "lock  2\n" + reach, reach + "lock 2 cm\n" + reach, reach + "reach 2\n" + reach, reach + "LOCK 2\n" + reach,
		reach + "lock 2.0\n" + reach, reach + "lock x\n" + reach, reach + "lock 18446744073709551618\n" + reach,
		"reach 18446744073709551621 km 300 cm 10 km/h\n", "reach 1000000 km 300 cm 10 km/h\n", "reach \u0665 km 300 cm 10 km/h\n",
		strings.Repeat(reach+lock, 1000) + reach, strings.Repeat("\n", 4000), strings.Repeat("\n", 4001), strings.Repeat(" ", 100000),
		reach + strings.Repeat("\n", 3970), reach + strings.Repeat("x", 100000), strings.Repeat(lock, 500), strings.Repeat(reach, 150),
	} {
		if w, ok := impl.ParseWaterway(s); ok || !isZero(w) {
			t.Errorf("ParseWaterway(%s) = %v, %v", shown(s), w, ok)
		}
	}
	for _, s := range []string{
		"reach 1 km 100 cm 1 km/h\n", "reach 100 km 900 cm 20 km/h\n", reach + "lock 1000\n" + reach, reach + "lock -1000\n" + reach,
		reach + "lock 0\n" + reach,
	} {
		if w, ok := impl.ParseWaterway(s); !ok || isZero(w) {
			t.Errorf("ParseWaterway(%s) = %v, %v", shown(s), w, ok)
		}
	}
}

// withMore returns w in slices that have room behind their elements, and that room filled with what would be valid.
func withMore(w impl.Waterway) impl.Waterway {
	reaches := append(slices.Clone(w.Reaches), impl.Reach{Length: 50, Depth: 111, Speed: 3}, impl.Reach{Length: 60, Depth: 112, Speed: 4})
	rises := append(slices.Clone(w.Rises), 77, 78)
	return impl.Waterway{Reaches: reaches[:len(w.Reaches)], Rises: rises[:len(w.Rises)]}
}

// wholeOf returns all of the slices of a Waterway of withMore.
func wholeOf(w impl.Waterway) impl.Waterway {
	return impl.Waterway{Reaches: w.Reaches[:cap(w.Reaches)], Rises: w.Rises[:cap(w.Rises)]}
}

// P29: all functions return whatever their arguments, the same when called again, and leave their arguments as they are, also
// beyond their lengths, where what stands plays no part.
func TestWaterwayFunctionsLeaveTheirArguments(t *testing.T) {
	for _, w := range append(someWaterways(), brokenWaterways()...) {
		if len(w.Reaches) > 10 {
			continue
		}
		given := withMore(w)
		before := copyOf(wholeOf(given))
		if impl.IsValidWaterway(given) != impl.IsValidWaterway(w) {
			t.Errorf("IsValidWaterway(%v) has read too far", w)
		}
		for _, x := range append([]int{-1, 0, 1, 2, 5, 6, 20}, farNumbers...) {
			expectSameNumbers(t, given, w, x)
			expectSameWaterways(t, given, w, x)
		}
		if !sameWaterways(wholeOf(given), before) {
			t.Fatalf("%v was changed to %v", before, wholeOf(given))
		}
	}
}

// expectSameNumbers calls the functions that return numbers for both of two equal Waterways.
func expectSameNumbers(t *testing.T, v impl.Waterway, w impl.Waterway, x int) {
	t.Helper()
	a, ok := impl.LevelOf(v, x)
	b, fine := impl.LevelOf(w, x)
	if a != b || ok != fine {
		t.Errorf("LevelOf(%v, %d) = %d and %d", w, x, a, b)
	}
	a, ok = impl.TotalLength(v)
	b, fine = impl.TotalLength(w)
	if a != b || ok != fine {
		t.Errorf("TotalLength(%v) = %d and %d", w, a, b)
	}
	a, ok = impl.ReachAt(v, x)
	b, fine = impl.ReachAt(w, x)
	if a != b || ok != fine {
		t.Errorf("ReachAt(%v, %d) = %d and %d", w, x, a, b)
	}
	a, ok = impl.ShallowestDepth(v, 0, x)
	b, fine = impl.ShallowestDepth(w, 0, x)
	if a != b || ok != fine {
		t.Errorf("ShallowestDepth(%v, 0, %d) = %d and %d", w, x, a, b)
	}
	l, ok := impl.LocksBetween(v, x, 0)
	m, fine := impl.LocksBetween(w, x, 0)
	if !slices.Equal(l, m) || ok != fine {
		t.Errorf("LocksBetween(%v, %d, 0) = %d and %d", w, x, l, m)
	}
	a, c, ok := impl.MinutesOnWay(v, x, 1, 20)
	b, d, fine := impl.MinutesOnWay(w, x, 1, 20)
	if a != b || c != d || ok != fine {
		t.Errorf("MinutesOnWay(%v, %d, 1, 20) = %d/%d and %d/%d", w, x, a, c, b, d)
	}
	a, c, ok = impl.MinutesOnWay(v, 0, 1, x)
	b, d, fine = impl.MinutesOnWay(w, 0, 1, x)
	if a != b || c != d || ok != fine {
		t.Errorf("MinutesOnWay(%v, 0, 1, %d) = %d/%d and %d/%d", w, x, a, c, b, d)
	}
}

// expectSameWaterways calls the functions that return Waterways or texts for both of two equal Waterways.
func expectSameWaterways(t *testing.T, v impl.Waterway, w impl.Waterway, x int) {
	t.Helper()
	a, b, ok := impl.SplitWaterway(v, x)
	c, d, fine := impl.SplitWaterway(w, x)
	if !sameWaterways(a, c) || !sameWaterways(b, d) || ok != fine {
		t.Errorf("SplitWaterway(%v, %d) = %v, %v and %v, %v", w, x, a, b, c, d)
	}
	a, ok = impl.JoinWaterways(v, waterwayOf(2), x)
	c, fine = impl.JoinWaterways(w, waterwayOf(2), x)
	if !sameWaterways(a, c) || ok != fine {
		t.Errorf("JoinWaterways(%v, .., %d) = %v and %v", w, x, a, c)
	}
	a, ok = impl.JoinWaterways(waterwayOf(2), v, x)
	c, fine = impl.JoinWaterways(waterwayOf(2), w, x)
	if !sameWaterways(a, c) || ok != fine {
		t.Errorf("JoinWaterways(.., %v, %d) = %v and %v", w, x, a, c)
	}
	s, ok := impl.WaterwayText(v)
	u, fine := impl.WaterwayText(w)
	if s != u || ok != fine {
		t.Errorf("WaterwayText(%v) = %q and %q", w, s, u)
	}
}

// overwrite writes over all of a Waterway's memory.
func overwrite(w impl.Waterway) {
	w = wholeOf(w)
	for i := range w.Reaches {
		w.Reaches[i] = impl.Reach{Length: -1, Depth: -1, Speed: -1}
	}
	for i := range w.Rises {
		w.Rises[i] = -9999
	}
}

// A result shares no memory with an argument or with another result.
func TestSplitWaterwaysShareNoMemory(t *testing.T) {
	for _, w := range someWaterways() {
		for lock := range w.Rises {
			given := withMore(w)
			before := copyOf(wholeOf(given))
			a, b, _ := impl.SplitWaterway(given, lock)
			wantB := copyOf(b)
			overwrite(a)
			if !sameWaterways(b, wantB) {
				t.Errorf("the parts of %v at %d share memory", w, lock)
			}
			overwrite(b)
			if !sameWaterways(wholeOf(given), before) {
				t.Errorf("%v shares memory with its parts at %d", w, lock)
			}
			a, b, _ = impl.SplitWaterway(given, lock)
			wantA, wantB := copyOf(a), copyOf(b)
			overwrite(given)
			if !sameWaterways(a, wantA) || !sameWaterways(b, wantB) {
				t.Errorf("the parts of %v at %d are changed with it", w, lock)
			}
		}
	}
}

func TestJoinedWaterwaysShareNoMemory(t *testing.T) {
	for _, m := range []int{1, 2, 3} {
		for _, n := range []int{1, 2, 3} {
			a, b := withMore(waterwayOf(m)), withMore(waterwayOf(n))
			beforeA, beforeB := copyOf(wholeOf(a)), copyOf(wholeOf(b))
			j, ok := impl.JoinWaterways(a, b, 5)
			if !ok {
				t.Fatal("not joined", a, b)
			}
			want := copyOf(j)
			overwrite(j)
			if !sameWaterways(wholeOf(a), beforeA) || !sameWaterways(wholeOf(b), beforeB) {
				t.Errorf("%v and %v are changed with what they are joined to", beforeA, beforeB)
			}
			j, _ = impl.JoinWaterways(a, b, 5)
			overwrite(a)
			overwrite(b)
			if !sameWaterways(j, want) {
				t.Errorf("%v shares memory with its parts", want)
			}
		}
	}
}

func TestListsOfLocksAreNew(t *testing.T) {
	w := waterwayOf(6)
	for _, way := range [][2]int{{0, lengthOf(w)}, {lengthOf(w), 0}} {
		expectNewInts(t, 5, func() ([]int, bool) { return impl.LocksBetween(w, way[0], way[1]) })
	}
	s, _ := impl.WaterwayText(w)
	v, _ := impl.ParseWaterway(s)
	overwrite(v)
	if again, ok := impl.ParseWaterway(s); !ok || !sameWaterways(again, w) {
		t.Error("shared", v, again)
	}
}
