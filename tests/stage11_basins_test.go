package tests

import (
	"iter"
	"math/big"
	"slices"
	"sort"
	"testing"

	"loop.example/g00924/impl"
)

// poolsOf returns Pools of their Area, Floor and Water.
func poolsOf(triples ...[3]int) []impl.Pool {
	list := []impl.Pool{}
	for _, n := range triples {
		list = append(list, impl.Pool{Area: n[0], Floor: n[1], Water: n[2]})
	}
	return list
}

// withWaters returns the Pools with other Water.
func withWaters(list []impl.Pool, waters ...int) []impl.Pool {
	other := slices.Clone(list)
	for i, water := range waters {
		other[i].Water = water
	}
	return other
}

// somePools returns locks with basins of every number, at all limits, with Floors above the chamber and with full and empty Pools.
func somePools() [][]impl.Pool {
	five := poolsOf([3]int{7, 100, 900}, [3]int{3, 90, 40}, [3]int{5, 300, 0}, [3]int{1, 0, 60}, [3]int{4, 150, 333})
	lists := [][]impl.Pool{
		poolsOf([3]int{2, 0, 40}, [3]int{2, 10, 0}, [3]int{2, 4, 0}),
		poolsOf([3]int{1, 0, 0}, [3]int{100, 2000, 100000}),
		poolsOf([3]int{1, 0, 100000}, [3]int{100, 2000, 0}),
		poolsOf([3]int{100, 2000, 100000}, [3]int{100, 2000, 100000}, [3]int{100, 2000, 100000}),
		poolsOf([3]int{100, 2000, 100000}, [3]int{1, 0, 0}, [3]int{1, 0, 0}, [3]int{1, 0, 0}, [3]int{1, 0, 0}),
		poolsOf([3]int{1, 0, 0}, [3]int{1, 0, 0}),
	}
	for n := 2; n <= 5; n++ {
		lists = append(lists, five[:n], five[5-n:])
	}
	return lists
}

// brokenPools returns lists that are no locks with basins: too short, too long, or with a Pool that is not valid in any place.
func brokenPools() [][]impl.Pool {
	valid := impl.Pool{Area: 3, Floor: 20, Water: 70}
	lists := [][]impl.Pool{nil, {}, {valid}, slices.Repeat([]impl.Pool{valid}, 6), slices.Repeat([]impl.Pool{valid}, 1000)}
	for n := 1; n <= 5; n++ {
		for i := range n {
			for _, b := range noPools() {
				list := slices.Repeat([]impl.Pool{valid}, n)
				list[i] = b
				lists = append(lists, list)
			}
		}
	}
	return lists
}

// noPools returns Pools that are not valid.
func noPools() []impl.Pool {
	broken := poolsOf(
		[3]int{0, 0, 0}, [3]int{0, 20, 70}, [3]int{-1, 20, 70}, [3]int{101, 20, 70}, [3]int{3, -1, 70}, [3]int{3, 2001, 70},
		[3]int{3, 20, -1}, [3]int{3, 20, 100001}, [3]int{-1, -1, -1}, [3]int{101, 2001, 100001}, [3]int{-3, 20, -70},
	)
	for _, n := range farVolumes() {
		broken = append(broken, impl.Pool{Area: n, Floor: 20, Water: 70}, impl.Pool{Area: 3, Floor: n, Water: 70})
		broken = append(broken, impl.Pool{Area: 3, Floor: 20, Water: n}, impl.Pool{Area: n, Floor: n, Water: n})
	}
	return broken
}

// smallPools returns all Pools with these numbers.
func smallPools(areas []int, floors []int, waters []int) []impl.Pool {
	list := []impl.Pool{}
	for _, area := range areas {
		for _, floor := range floors {
			for _, water := range waters {
				list = append(list, impl.Pool{Area: area, Floor: floor, Water: water})
			}
		}
	}
	return list
}

// randomPools returns n Pools, many of them at or near a limit if wide.
func randomPools(next func(below int) int, n int, wide bool) []impl.Pool {
	list := []impl.Pool{}
	for range n {
		b := impl.Pool{Area: 1 + next(5), Floor: next(20), Water: next(60)}
		if wide {
			b.Area = []int{1, 100, 1 + next(100), 1 + next(4)}[next(4)]
			b.Floor = []int{0, 2000, next(2001), next(30)}[next(4)]
			b.Water = []int{0, next(3000), next(100001), 100000 - next(30), 100000}[next(5)]
		}
		list = append(list, b)
	}
	return list
}

// manyPools yields locks with one and two basins of all small numbers, and others with up to four basins.
func manyPools() iter.Seq[[]impl.Pool] {
	return func(yield func([]impl.Pool) bool) {
		for k, small := range [][]impl.Pool{
			smallPools([]int{1, 2, 3}, []int{0, 1, 3}, []int{0, 1, 2, 5}),
			smallPools([]int{1, 2}, []int{0, 2}, []int{0, 1, 4}),
		} {
			for places := range listsOver(countingUp(len(small)), 2+k) {
				list := []impl.Pool{}
				for _, place := range places {
					list = append(list, small[place])
				}
				if !yield(list) {
					return
				}
			}
		}
		next := sequence()
		for k := range 800 {
			if !yield(randomPools(next, 2+k%4, k/4%2 == 1)) {
				return
			}
		}
	}
}

// poolOrders returns all orders of 1 to n - 1, and those of some of these numbers, lexicographically.
func poolOrders(n int) [][]int {
	orders := [][]int{}
	for _, order := range ordersOf(n - 1) {
		for i := range order {
			order[i]++
		}
		for length := range n {
			orders = append(orders, slices.Clone(order[:length]))
		}
	}
	slices.SortFunc(orders, slices.Compare)
	return slices.CompactFunc(orders, slices.Equal)
}

// brokenPoolOrders returns lists that are no orders for a lock with n Pools.
func brokenPoolOrders(n int) [][]int {
	lists := [][]int{{0}, {n}, {n + 1}, {-1}, {0, 1}, {1, 0}, {1, 1}, {n - 1, n - 1}, countingUp(n), slices.Repeat([]int{1}, 1000)}
	for _, order := range poolOrders(n) {
		for i := range len(order) + 1 {
			lists = append(lists, slices.Insert(slices.Clone(order), i, 0), slices.Insert(slices.Clone(order), i, n))
			lists = append(lists, slices.Insert(slices.Clone(order), i, -1))
			if len(order) > 0 {
				lists = append(lists, slices.Insert(slices.Clone(order), i, order[0]))
			}
		}
	}
	for _, far := range farVolumes() {
		lists = append(lists, []int{far}, []int{1, far}, []int{far, 1})
	}
	return lists
}

// levelWith returns the level of a Pool with other Water, apart from the program.
func levelWith(b impl.Pool, water int) *big.Rat {
	level := big.NewRat(int64(water), int64(b.Area))
	return level.Add(level, big.NewRat(int64(b.Floor), 1))
}

// compareAfter compares the level of a with that of b after a volume has flowed from a to b, apart from the program.
func compareAfter(a impl.Pool, b impl.Pool, volume int) int {
	return levelWith(a, a.Water-volume).Cmp(levelWith(b, b.Water+volume))
}

// flowByLevels searches for the greatest volume after which a is not lower than b, apart from the program.
func flowByLevels(a impl.Pool, b impl.Pool) int {
	if compareAfter(a, b, 0) <= 0 {
		return 0
	}
	return sort.Search(a.Water, func(volume int) bool { return compareAfter(a, b, volume+1) < 0 })
}

// courseOfWater is what becomes of a lock with basins: the Pools, the sum of the volumes and whether no Pool got too much.
type courseOfWater struct {
	after []impl.Pool
	sum   int
	ok    bool
}

// courseByLevels lets water flow from the first to the second index of each pair, apart from the program.
func courseByLevels(list []impl.Pool, pairs ...[2]int) courseOfWater {
	c := courseOfWater{after: slices.Clone(list), ok: true}
	for _, p := range pairs {
		volume := flowByLevels(c.after[p[0]], c.after[p[1]])
		c.after[p[0]].Water -= volume
		c.after[p[1]].Water += volume
		c.sum += volume
		if c.after[p[1]].Water > 100000 {
			return courseOfWater{}
		}
	}
	return c
}

// drainByLevels lets the chamber flow into the Pools of an order, apart from the program.
func drainByLevels(list []impl.Pool, order []int) courseOfWater {
	pairs := [][2]int{}
	for _, i := range order {
		pairs = append(pairs, [2]int{0, i})
	}
	return courseByLevels(list, pairs...)
}

// fillByLevels lets the Pools of an order flow into the chamber, apart from the program.
func fillByLevels(list []impl.Pool, order []int) courseOfWater {
	pairs := [][2]int{}
	for _, i := range order {
		pairs = append(pairs, [2]int{i, 0})
	}
	return courseByLevels(list, pairs...)
}

// drains is what all whole orders together tell: the best one and its volume, how many of them save as much, and how many fail.
type drains struct {
	best   []int
	volume int
	equal  int
	failed int
}

// drainsByLevels looks at all whole orders, lexicographically, apart from the program.
func drainsByLevels(list []impl.Pool) drains {
	d := drains{volume: -1}
	for _, order := range poolOrders(len(list)) {
		if len(order) < len(list)-1 {
			continue
		}
		c := drainByLevels(list, order)
		switch {
		case !c.ok:
			d.failed++
		case c.sum > d.volume:
			d.best, d.volume, d.equal = order, c.sum, 1
		case c.sum == d.volume:
			d.equal++
		}
	}
	return d
}

func expectFlow(t *testing.T, a impl.Pool, b impl.Pool, want int) {
	t.Helper()
	if n, ok := impl.FlowBetween(a, b); !ok || n != want {
		t.Fatalf("FlowBetween(%v, %v) = %d, %v instead of %d", a, b, n, ok, want)
	}
}

// expectCourseOf expects a call to return what a course tells, with all the Water in it if it does not fail.
func expectCourseOf(t *testing.T, name string, list []impl.Pool, with []int, want courseOfWater, call func() ([]impl.Pool, int, bool)) {
	t.Helper()
	after, n, ok := call()
	if ok != want.ok || n != want.sum || !slices.Equal(after, want.after) {
		t.Fatalf("%s(%v, %d) = %v, %d, %v instead of %v", name, list, with, after, n, ok, want)
	}
	if ok {
		before, _ := impl.AllWater(list)
		expectAllWater(t, after, before)
	}
}

// expectLet expects LetFlow to return this.
func expectLet(t *testing.T, list []impl.Pool, from int, to int, want courseOfWater) {
	t.Helper()
	expectCourseOf(t, "LetFlow", list, []int{from, to}, want, func() ([]impl.Pool, int, bool) { return impl.LetFlow(list, from, to) })
}

func expectDrained(t *testing.T, list []impl.Pool, order []int, want courseOfWater) {
	t.Helper()
	expectCourseOf(t, "DrainChamber", list, order, want, func() ([]impl.Pool, int, bool) { return impl.DrainChamber(list, order) })
}

func expectFilled(t *testing.T, list []impl.Pool, order []int, want courseOfWater) {
	t.Helper()
	expectCourseOf(t, "FillChamber", list, order, want, func() ([]impl.Pool, int, bool) { return impl.FillChamber(list, order) })
}

func expectAllWater(t *testing.T, list []impl.Pool, want int) {
	t.Helper()
	if n, ok := impl.AllWater(list); !ok || n != want {
		t.Fatalf("AllWater(%v) = %d, %v instead of %d", list, n, ok, want)
	}
}

// expectShare expects the share of an order, or a failure if the denominator is 0.
func expectShare(t *testing.T, list []impl.Pool, order []int, num int, den int) {
	t.Helper()
	if a, b, ok := impl.SavedShare(list, order); ok != (den > 0) || a != num || b != den {
		t.Fatalf("SavedShare(%v, %d) = %d, %d, %v instead of %d, %d", list, order, a, b, ok, num, den)
	}
}

func expectBestDrain(t *testing.T, list []impl.Pool, want []int, volume int) {
	t.Helper()
	if order, n, ok := impl.BestDrain(list); !ok || n != volume || !slices.Equal(order, want) {
		t.Fatalf("BestDrain(%v) = %d, %d, %v instead of %d, %d", list, order, n, ok, want, volume)
	}
}

func expectNoBestDrain(t *testing.T, list []impl.Pool) {
	t.Helper()
	if order, n, ok := impl.BestDrain(list); ok || n != 0 || len(order) != 0 {
		t.Fatalf("BestDrain(%v) = %d, %d, %v", list, order, n, ok)
	}
}

// expectNoDrain expects all functions that take an order to fail.
func expectNoDrain(t *testing.T, list []impl.Pool, order []int) {
	t.Helper()
	expectDrained(t, list, order, courseOfWater{})
	expectFilled(t, list, order, courseOfWater{})
	expectShare(t, list, order, 0, 0)
}

// expectNoPools expects all functions to fail for a list that is no lock with basins.
func expectNoPools(t *testing.T, list []impl.Pool) {
	t.Helper()
	if impl.ArePools(list) {
		t.Fatalf("ArePools(%v)", list)
	}
	if n, ok := impl.AllWater(list); ok || n != 0 {
		t.Fatalf("AllWater(%v) = %d, %v", list, n, ok)
	}
	expectNoBestDrain(t, list)
	n := min(len(list), 6)
	for _, order := range [][]int{nil, {}, {0}, {1}, {2}, {1, 2}, {2, 1}, {1, 2, 3, 4}, {n - 1}, {n}, {-1}} {
		expectNoDrain(t, list, order)
	}
	for from := -1; from <= n; from++ {
		for to := -1; to <= n; to++ {
			expectLet(t, list, from, to, courseOfWater{})
		}
	}
}

func TestLimitsOfPools(t *testing.T) {
	if impl.MaxPools != 5 || impl.MaxWater != 100000 {
		t.Error("limits", impl.MaxPools, impl.MaxWater)
	}
}

// expectPool expects a Pool to be valid, alone and in every place of a lock, or not to be.
func expectPool(t *testing.T, b impl.Pool, want bool) {
	t.Helper()
	if impl.IsValidPool(b) != want {
		t.Fatalf("IsValidPool(%v) is not %v", b, want)
	}
	for i := range 5 {
		list := poolsOf([3]int{1, 0, 0}, [3]int{100, 2000, 100000}, [3]int{3, 20, 70}, [3]int{1, 1, 1}, [3]int{100, 0, 0})
		list[i] = b
		if impl.ArePools(list) != want {
			t.Fatalf("ArePools(%v) is not %v", list, want)
		}
	}
	if want {
		return
	}
	if num, den, ok := impl.LevelIn(b); ok || num != 0 || den != 0 {
		t.Fatalf("LevelIn(%v) = %d, %d, %v", b, num, den, ok)
	}
	for _, other := range append(poolsOf([3]int{1, 0, 0}, [3]int{100, 2000, 100000}, [3]int{1, 0, 100000}), b) {
		for _, pair := range [][2]impl.Pool{{b, other}, {other, b}} {
			if n, ok := impl.FlowBetween(pair[0], pair[1]); ok || n != 0 {
				t.Fatalf("FlowBetween(%v, %v) = %d, %v", pair[0], pair[1], n, ok)
			}
		}
	}
}

// Every number in its range is valid, and none beyond it.
func TestPoolsThatAreValid(t *testing.T) {
	numbers := append([]int{-2, -1, 0, 1, 2, 50, 99, 100, 101, 102, 1999, 2000, 2001, 2002, 99999, 100000, 100001}, farVolumes()...)
	for _, b := range poolsOf([3]int{1, 0, 0}, [3]int{100, 2000, 100000}, [3]int{3, 20, 70}) {
		for _, n := range numbers {
			expectPool(t, impl.Pool{Area: n, Floor: b.Floor, Water: b.Water}, 1 <= n && n <= 100)
			expectPool(t, impl.Pool{Area: b.Area, Floor: n, Water: b.Water}, 0 <= n && n <= 2000)
			expectPool(t, impl.Pool{Area: b.Area, Floor: b.Floor, Water: n}, 0 <= n && n <= 100000)
		}
	}
	for _, b := range noPools() {
		expectPool(t, b, false)
	}
}

// No Pools, one of them, two, MaxPools of them, and more.
func TestListsOfManyPools(t *testing.T) {
	for _, b := range poolsOf([3]int{1, 0, 0}, [3]int{3, 20, 70}, [3]int{100, 2000, 100000}) {
		for n := range 10 {
			list := slices.Repeat([]impl.Pool{b}, n)
			if n < 2 || n > 5 {
				expectNoPools(t, list)
				continue
			}
			if !impl.ArePools(list) {
				t.Errorf("ArePools(%v) is false", list)
			}
			// All levels are equal, so nothing flows; the sum of the Water has no limit of its own.
			expectAllWater(t, list, n*b.Water)
			expectBestDrain(t, list, countingUp(n)[1:], 0)
			for _, order := range poolOrders(n) {
				expectDrained(t, list, order, courseOfWater{list, 0, true})
				expectFilled(t, list, order, courseOfWater{list, 0, true})
				expectShare(t, list, order, 0, min(b.Water, 1))
			}
		}
	}
	for _, list := range somePools() {
		if !impl.ArePools(list) {
			t.Errorf("ArePools(%v) is false", list)
		}
	}
}

func TestListsThatAreNoPools(t *testing.T) {
	for _, list := range brokenPools() {
		expectNoPools(t, list)
	}
}

// The level 0, whole ones, ones that are cut by a common divisor, and the greatest one.
func TestLevelIn(t *testing.T) {
	for _, c := range []struct {
		pool [3]int
		num  int
		den  int
	}{
		{[3]int{1, 0, 0}, 0, 1}, {[3]int{7, 0, 0}, 0, 1}, {[3]int{100, 0, 0}, 0, 1},
		{[3]int{1, 5, 0}, 5, 1}, {[3]int{6, 5, 0}, 5, 1}, {[3]int{100, 2000, 0}, 2000, 1}, {[3]int{1, 0, 9}, 9, 1}, {[3]int{1, 4, 9}, 13, 1},
		{[3]int{3, 0, 9}, 3, 1}, {[3]int{3, 4, 9}, 7, 1}, {[3]int{100, 2000, 100000}, 3000, 1}, {[3]int{1, 2000, 100000}, 102000, 1},
		{[3]int{4, 1, 6}, 5, 2}, {[3]int{4, 0, 6}, 3, 2}, {[3]int{4, 0, 5}, 5, 4}, {[3]int{4, 3, 5}, 17, 4}, {[3]int{6, 0, 1}, 1, 6},
		{[3]int{6, 1, 3}, 3, 2}, {[3]int{6, 10, 4}, 32, 3}, {[3]int{100, 0, 1}, 1, 100}, {[3]int{100, 0, 10}, 1, 10}, {[3]int{100, 7, 75}, 31, 4},
		{[3]int{100, 2000, 99999}, 299999, 100}, {[3]int{99, 2000, 100000}, 298000, 99}, {[3]int{96, 2000, 100000}, 9125, 3},
	} {
		if num, den, ok := impl.LevelIn(poolsOf(c.pool)[0]); !ok || num != c.num || den != c.den {
			t.Errorf("LevelIn(%v) = %d, %d, %v instead of %d, %d", c.pool, num, den, ok, c.num, c.den)
		}
	}
}

// The levels of many Pools against fractions of the library, which are in lowest terms with a positive denominator.
func TestLevelsOfManyPools(t *testing.T) {
	for area := 1; area <= 100; area++ {
		for _, floor := range []int{0, 1, 2, 7, 60, 1999, 2000} {
			for _, water := range []int{0, 1, 2, 3, 30, 59, 60, 100, 360, 99999, 100000} {
				b := impl.Pool{Area: area, Floor: floor, Water: water}
				num, den, ok := impl.LevelIn(b)
				if want := levelWith(b, water); !ok || int64(num) != want.Num().Int64() || int64(den) != want.Denom().Int64() {
					t.Fatalf("LevelIn(%v) = %d, %d, %v instead of %v", b, num, den, ok, want)
				}
			}
		}
	}
}

// flowCase is a flow that is counted by hand.
type flowCase struct {
	name string
	from [3]int
	to   [3]int
	want int
}

func flowCases() []flowCase {
	return []flowCase{
		{"higher", [3]int{2, 0, 40}, [3]int{2, 10, 0}, 10},
		{"the other way", [3]int{2, 10, 0}, [3]int{2, 0, 40}, 0},
		{"equal levels", [3]int{2, 0, 40}, [3]int{5, 20, 0}, 0},
		{"equal levels that are not whole", [3]int{4, 1, 6}, [3]int{2, 0, 5}, 0},
		{"equal afterwards", [3]int{1, 0, 10}, [3]int{1, 0, 0}, 5},
		{"equal afterwards, not whole", [3]int{2, 0, 6}, [3]int{2, 1, 0}, 2},
		{"equal afterwards, different Areas", [3]int{3, 0, 30}, [3]int{2, 0, 0}, 12},
		// One unit more would make 5 and 6 of 6 and 5.
		{"one unit more would be too much", [3]int{1, 0, 11}, [3]int{1, 0, 0}, 5},
		{"and of different Areas", [3]int{3, 0, 34}, [3]int{2, 0, 0}, 13},
		{"and one less than exactly enough", [3]int{3, 0, 29}, [3]int{2, 0, 0}, 11},
		{"higher by one unit", [3]int{1, 0, 1}, [3]int{1, 0, 0}, 0},
		{"higher by two units", [3]int{1, 0, 2}, [3]int{1, 0, 0}, 1},
		{"higher by less than the unit would change", [3]int{1, 0, 1}, [3]int{100, 0, 0}, 0},
		{"one unit of a wide Pool", [3]int{100, 0, 100}, [3]int{1, 0, 0}, 0},
		{"one unit more in the wide Pool", [3]int{100, 0, 101}, [3]int{1, 0, 0}, 1},
		{"all the Water", [3]int{1, 50, 7}, [3]int{1, 0, 0}, 7},
		{"all the Water, equal afterwards", [3]int{1, 7, 7}, [3]int{1, 0, 0}, 7},
		{"all but one unit", [3]int{1, 6, 7}, [3]int{1, 0, 0}, 6},
		{"a Floor above the level", [3]int{2, 0, 40}, [3]int{3, 21, 0}, 0},
		{"a Floor at the level", [3]int{2, 0, 40}, [3]int{3, 20, 0}, 0},
		// A second unit would make 19 and 19 2/3 of 19 1/2 and 19 1/3.
		{"a Floor one below the level", [3]int{2, 0, 40}, [3]int{3, 19, 0}, 1},
		{"from above, down to the Floor", [3]int{3, 30, 9}, [3]int{2, 0, 40}, 9},
		{"from above with no Water", [3]int{3, 30, 0}, [3]int{2, 0, 40}, 0},
		{"no Water at all", [3]int{3, 0, 0}, [3]int{2, 0, 0}, 0},
		{"the most that can be", [3]int{100, 2000, 100000}, [3]int{100, 0, 0}, 100000},
		{"half of the most", [3]int{1, 0, 100000}, [3]int{1, 0, 0}, 50000},
		{"into the widest one", [3]int{1, 0, 100000}, [3]int{100, 0, 0}, 99009},
		{"into the highest one", [3]int{1, 0, 100000}, [3]int{1, 2000, 0}, 49000},
		{"up to a full one", [3]int{1, 0, 1001}, [3]int{100, 0, 99999}, 1},
		{"into a full one of the same level", [3]int{1, 0, 1000}, [3]int{100, 0, 100000}, 0},
		{"into a full one that is hardly lower", [3]int{1, 0, 1001}, [3]int{100, 0, 100000}, 0},
		{"into a full one that is higher", [3]int{1, 0, 100000}, [3]int{1, 1, 100000}, 0},
		{"full ones of the same level", [3]int{1, 0, 100000}, [3]int{1, 0, 100000}, 0},
	}
}

// overflowCases are flows that bring a Pool more than MaxWater.
func overflowCases() []flowCase {
	return []flowCase{
		{"one unit too much", [3]int{1, 0, 1003}, [3]int{100, 0, 99999}, 2},
		{"one unit into a full one", [3]int{1, 0, 1002}, [3]int{100, 0, 100000}, 1},
		{"one unit from above", [3]int{1, 2000, 1}, [3]int{100, 0, 100000}, 1},
		{"nearly as much as there is", [3]int{1, 0, 100000}, [3]int{100, 0, 99999}, 98019},
		{"all that there is into a full one", [3]int{100, 2000, 100000}, [3]int{100, 0, 100000}, 100000},
		{"all that there is", [3]int{100, 2000, 100000}, [3]int{100, 0, 1}, 100000},
	}
}

// Flows between two Pools, which LetFlow makes in both places, and orders of one Pool in both directions.
func TestFlowBetween(t *testing.T) {
	for _, c := range flowCases() {
		t.Run(c.name, func(t *testing.T) {
			pools := poolsOf(c.from, c.to)
			expectFlow(t, pools[0], pools[1], c.want)
			if n := flowByLevels(pools[0], pools[1]); n != c.want {
				t.Errorf("by the levels it is %d", n)
			}
			after := withWaters(pools, pools[0].Water-c.want, pools[1].Water+c.want)
			expectLet(t, pools, 0, 1, courseOfWater{after, c.want, true})
			expectDrained(t, pools, []int{1}, courseOfWater{after, c.want, true})
			back, backAfter := []impl.Pool{pools[1], pools[0]}, []impl.Pool{after[1], after[0]}
			expectLet(t, back, 1, 0, courseOfWater{backAfter, c.want, true})
			expectFilled(t, back, []int{1}, courseOfWater{backAfter, c.want, true})
			expectBestDrain(t, pools, []int{1}, c.want)
		})
	}
}

// FlowBetween tells also what would flow into a Pool that would get too much, but all other functions fail.
func TestPoolsThatWouldGetTooMuch(t *testing.T) {
	for _, c := range overflowCases() {
		t.Run(c.name, func(t *testing.T) {
			pools := poolsOf(c.from, c.to)
			expectFlow(t, pools[0], pools[1], c.want)
			if n := flowByLevels(pools[0], pools[1]); n != c.want {
				t.Errorf("by the levels it is %d", n)
			}
			expectLet(t, pools, 0, 1, courseOfWater{})
			expectDrained(t, pools, []int{1}, courseOfWater{})
			expectShare(t, pools, []int{1}, 0, 0)
			expectNoBestDrain(t, pools)
			back := []impl.Pool{pools[1], pools[0]}
			expectLet(t, back, 1, 0, courseOfWater{})
			expectFilled(t, back, []int{1}, courseOfWater{})
			// The other way nothing flows, and so nothing is too much.
			expectFlow(t, pools[1], pools[0], 0)
			expectLet(t, pools, 1, 0, courseOfWater{pools, 0, true})
			expectFilled(t, pools, []int{1}, courseOfWater{pools, 0, true})
			expectDrained(t, back, []int{1}, courseOfWater{back, 0, true})
		})
	}
}

// Flows between all Pools of a lock, of each with itself, and with indices that do not occur.
func TestLetFlow(t *testing.T) {
	for _, list := range somePools() {
		for from := -3; from <= len(list)+3; from++ {
			for to := -3; to <= len(list)+3; to++ {
				occur := 0 <= min(from, to) && max(from, to) < len(list)
				if occur && from == to {
					expectFlow(t, list[from], list[to], 0)
				}
				if !occur || from == to {
					expectLet(t, list, from, to, courseOfWater{})
				} else {
					expectLet(t, list, from, to, courseByLevels(list, [2]int{from, to}))
				}
			}
		}
		for _, far := range farVolumes() {
			for i := range list {
				expectLet(t, list, i, far, courseOfWater{})
				expectLet(t, list, far, i, courseOfWater{})
			}
			expectLet(t, list, far, far, courseOfWater{})
		}
	}
}

// kindOfFlow tells what ends a flow.
func kindOfFlow(a impl.Pool, b impl.Pool, volume int) string {
	switch {
	case compareAfter(a, b, 0) <= 0:
		return "not higher"
	case volume == a.Water:
		return "all the Water"
	case compareAfter(a, b, volume) == 0:
		return "equal afterwards"
	case volume == 0:
		return "less than a unit"
	}
	return "a unit more would be too much"
}

// expectKept expects a flow to keep the Water and to leave nothing that could flow, or to fail, and tells what ended it.
func expectKept(t *testing.T, list []impl.Pool, from int, to int) string {
	t.Helper()
	volume := flowByLevels(list[from], list[to])
	expectFlow(t, list[from], list[to], volume)
	want := courseByLevels(list, [2]int{from, to})
	expectLet(t, list, from, to, want)
	if !want.ok {
		return "too much"
	}
	a, b := want.after[from], want.after[to]
	expectFlow(t, a, b, 0)
	expectLet(t, want.after, from, to, courseOfWater{want.after, 0, true})
	if a.Water > 0 && compareAfter(a, b, 1) >= 0 {
		t.Fatalf("one unit more could flow from %d to %d in %v", from, to, want.after)
	}
	return kindOfFlow(list[from], list[to], volume)
}

// P11: the Water that flows is kept, all other Pools stay as they are, and afterwards no unit more could flow.
func TestWaterThatFlowsIsKept(t *testing.T) {
	seen := map[string]int{}
	for list := range manyPools() {
		for from := range list {
			for to := range list {
				if from != to {
					seen[expectKept(t, list, from, to)]++
				}
			}
		}
	}
	// Without each of them a part of the rule would go untested here.
	if len(seen) != 6 {
		t.Error("what there was:", seen)
	}
}

// drainCase is a chamber that is drained or filled by hand.
type drainCase struct {
	name  string
	list  []impl.Pool
	order []int
	want  []int
	sum   int
}

func drainCases() []drainCase {
	three := poolsOf([3]int{2, 0, 40}, [3]int{2, 10, 0}, [3]int{2, 4, 0})
	four := poolsOf([3]int{1, 0, 64}, [3]int{1, 0, 0}, [3]int{1, 0, 0}, [3]int{1, 0, 0})
	return []drainCase{
		{"none", three, []int{}, []int{40, 0, 0}, 0},
		{"the first one", three, []int{1}, []int{30, 10, 0}, 10},
		{"the last one", three, []int{2}, []int{24, 0, 16}, 16},
		{"all of them", three, []int{1, 2}, []int{19, 10, 11}, 21},
		{"all of them in the other order", three, []int{2, 1}, []int{22, 2, 16}, 18},
		{"always half of it", four, []int{1, 2, 3}, []int{8, 32, 16, 8}, 56},
		{"always half of it, in another order", four, []int{3, 1, 2}, []int{8, 16, 8, 32}, 56},
		{"some of them", four, []int{3, 1}, []int{16, 16, 0, 32}, 48},
		// The second one is above what the first one has left.
		{"a Floor above the chamber in between", poolsOf([3]int{1, 0, 40}, [3]int{1, 0, 0}, [3]int{1, 20, 0}, [3]int{1, 0, 10}), []int{1, 2, 3}, []int{15, 20, 0, 15}, 25},
		{"Floors above the chamber alone", poolsOf([3]int{1, 0, 40}, [3]int{1, 40, 0}, [3]int{1, 41, 9}, [3]int{1, 2000, 10}), []int{3, 2, 1}, []int{40, 0, 9, 10}, 0},
		{"no Water", poolsOf([3]int{1, 900, 0}, [3]int{1, 0, 0}, [3]int{1, 0, 5}), []int{2, 1}, []int{0, 0, 5}, 0},
		{"all the Water", poolsOf([3]int{1, 900, 60}, [3]int{1, 930, 0}, [3]int{1, 0, 5}), []int{1, 2}, []int{0, 15, 50}, 60},
		{"full ones that are higher", poolsOf([3]int{1, 0, 1001}, [3]int{100, 0, 100000}, [3]int{1, 0, 0}), []int{1, 2}, []int{501, 100000, 500}, 500},
		{"up to MaxWater", poolsOf([3]int{1, 0, 1001}, [3]int{100, 0, 99999}, [3]int{1, 0, 0}), []int{1, 2}, []int{500, 100000, 500}, 501},
		// The first one takes what would be too much for the second one.
		{"low enough when it comes to the full one", poolsOf([3]int{1, 0, 2000}, [3]int{1, 0, 0}, [3]int{100, 0, 100000}), []int{1, 2}, []int{1000, 1000, 100000}, 1000},
	}
}

func TestDrainChamber(t *testing.T) {
	for _, c := range drainCases() {
		t.Run(c.name, func(t *testing.T) {
			want := courseOfWater{withWaters(c.list, c.want...), c.sum, true}
			expectDrained(t, c.list, c.order, want)
			if by := drainByLevels(c.list, c.order); by.sum != c.sum || !slices.Equal(by.after, want.after) {
				t.Errorf("by the levels it is %v", by)
			}
		})
	}
	// A Pool gets too much at the beginning, in between and at the end, and only if the chamber is still high enough.
	full := poolsOf([3]int{1, 0, 2000}, [3]int{1, 0, 0}, [3]int{100, 0, 100000}, [3]int{1, 0, 1990})
	for _, c := range []struct {
		order []int
		ok    bool
	}{
		{[]int{2}, false}, {[]int{2, 1, 3}, false}, {[]int{3, 2, 1}, false}, {[]int{3, 2}, false}, {[]int{1, 2, 3}, true}, {[]int{3, 1, 2}, true}, {[]int{1, 3, 2}, true},
	} {
		if _, _, ok := impl.DrainChamber(full, c.order); ok != c.ok {
			t.Errorf("DrainChamber(%v, %d) has %v", full, c.order, ok)
		}
		expectDrained(t, full, c.order, drainByLevels(full, c.order))
	}
}

func fillCases() []drainCase {
	three := poolsOf([3]int{2, 0, 0}, [3]int{2, 10, 10}, [3]int{2, 4, 11})
	return []drainCase{
		{"none", three, []int{}, []int{0, 10, 11}, 0},
		{"the first one", three, []int{1}, []int{10, 0, 11}, 10},
		{"the last one", three, []int{2}, []int{9, 10, 2}, 9},
		{"all of them", three, []int{1, 2}, []int{14, 0, 7}, 14},
		{"all of them in the other order", three, []int{2, 1}, []int{19, 0, 2}, 19},
		{"a chamber that is higher", withWaters(three, 50), []int{1, 2}, []int{50, 10, 11}, 0},
		{"a Floor above the Pools", poolsOf([3]int{3, 70, 0}, [3]int{1, 0, 70}, [3]int{1, 0, 1}), []int{1, 2}, []int{0, 70, 1}, 0},
		{"just above that Floor", poolsOf([3]int{3, 70, 0}, [3]int{1, 0, 80}, [3]int{1, 0, 1}), []int{1, 2}, []int{7, 73, 1}, 7},
		{"Pools with no Water", poolsOf([3]int{1, 0, 5}, [3]int{1, 900, 0}, [3]int{1, 2000, 0}), []int{2, 1}, []int{5, 0, 0}, 0},
		{"up to MaxWater", poolsOf([3]int{100, 0, 99999}, [3]int{1, 0, 1001}, [3]int{1, 0, 1000}), []int{1, 2}, []int{100000, 1000, 1000}, 1},
		{"in a full chamber", poolsOf([3]int{100, 0, 100000}, [3]int{1, 0, 1001}, [3]int{1, 0, 1000}), []int{2, 1}, []int{100000, 1001, 1000}, 0},
	}
}

func TestFillChamber(t *testing.T) {
	for _, c := range fillCases() {
		t.Run(c.name, func(t *testing.T) {
			want := courseOfWater{withWaters(c.list, c.want...), c.sum, true}
			expectFilled(t, c.list, c.order, want)
			if by := fillByLevels(c.list, c.order); by.sum != c.sum || !slices.Equal(by.after, want.after) {
				t.Errorf("by the levels it is %v", by)
			}
		})
	}
	// The chamber would get too much from the first one, and from the other two together, but not from each of them alone.
	full := poolsOf([3]int{100, 0, 99990}, [3]int{1, 0, 1300}, [3]int{1, 1100, 8}, [3]int{1, 1100, 3})
	for _, order := range poolOrders(4) {
		want := fillByLevels(full, order)
		if want.ok != (!slices.Contains(order, 1) && len(order) < 2) {
			t.Errorf("the chamber with %d: %v", order, want)
		}
		expectFilled(t, full, order, want)
	}
}

// The same lock drained and filled again, as it is and when the rest of the chamber has flowed out in between.
func TestDrainedAndFilledAgain(t *testing.T) {
	list := poolsOf([3]int{2, 0, 40}, [3]int{2, 10, 0}, [3]int{2, 4, 0})
	drained := withWaters(list, 19, 10, 11)
	expectDrained(t, list, []int{1, 2}, courseOfWater{drained, 21, true})
	expectFilled(t, drained, []int{1, 2}, courseOfWater{withWaters(list, 24, 5, 11), 5, true})
	expectFilled(t, drained, []int{2, 1}, courseOfWater{withWaters(list, 24, 5, 11), 5, true})
	expectFilled(t, withWaters(drained, 0), []int{2, 1}, courseOfWater{withWaters(list, 19, 0, 2), 19, true})
	expectFilled(t, withWaters(drained, 0), []int{1, 2}, courseOfWater{withWaters(list, 14, 0, 7), 14, true})
	expectDrained(t, drained, []int{1, 2}, courseOfWater{drained, 0, true})
	// Into one basin and back nothing flows, as the levels have met; nor when drained again.
	one := poolsOf([3]int{3, 5, 100}, [3]int{7, 2, 9})
	met := drainByLevels(one, []int{1})
	expectDrained(t, one, []int{1}, met)
	expectFilled(t, met.after, []int{1}, courseOfWater{met.after, 0, true})
	expectDrained(t, met.after, []int{1}, courseOfWater{met.after, 0, true})
	for list := range manyPools() {
		order := countingUp(len(list))[1:]
		slices.Reverse(order)
		first := drainByLevels(list, order)
		expectDrained(t, list, order, first)
		if !first.ok {
			continue
		}
		for _, given := range [][]impl.Pool{first.after, withWaters(first.after, 0)} {
			second := fillByLevels(given, order)
			expectFilled(t, given, order, second)
			if second.ok {
				expectDrained(t, second.after, order, drainByLevels(second.after, order))
			}
		}
	}
}

// Orders with the chamber, with an index twice and with indices that do not occur.
func TestOrdersOfPoolsThatAreNone(t *testing.T) {
	for _, list := range somePools() {
		for _, order := range brokenPoolOrders(len(list)) {
			expectNoDrain(t, list, order)
		}
	}
}

// All orders of many locks: the water is kept in each of them, whether it has some Pools or all.
func TestDrainsOfManyPools(t *testing.T) {
	seen := map[bool]int{}
	expectAsByLevels := func(list []impl.Pool) {
		for _, order := range poolOrders(len(list)) {
			drained := drainByLevels(list, order)
			expectDrained(t, list, order, drained)
			filled := fillByLevels(list, order)
			expectFilled(t, list, order, filled)
			expectShareByLevels(t, list, order)
			seen[drained.ok]++
			seen[filled.ok]++
		}
	}
	for _, list := range somePools() {
		expectAsByLevels(list)
	}
	next := sequence()
	for k := range 160 {
		expectAsByLevels(randomPools(next, 2+k%4, k/4%2 == 1))
	}
	if seen[true] == 0 || seen[false] == 0 {
		t.Error("what there was:", seen)
	}
}

// expectShareByLevels expects the share that the library's fractions give.
func expectShareByLevels(t *testing.T, list []impl.Pool, order []int) {
	t.Helper()
	drained := drainByLevels(list, order)
	if !drained.ok || list[0].Water == 0 {
		expectShare(t, list, order, 0, 0)
		return
	}
	share := big.NewRat(int64(drained.sum), int64(list[0].Water))
	expectShare(t, list, order, int(share.Num().Int64()), int(share.Denom().Int64()))
}

// The best orders counted by hand.
func TestBestDrain(t *testing.T) {
	for _, c := range []struct {
		name   string
		list   []impl.Pool
		want   []int
		volume int
	}{
		{"in order", poolsOf([3]int{2, 0, 40}, [3]int{2, 10, 0}, [3]int{2, 4, 0}), []int{1, 2}, 21},
		{"the other way", poolsOf([3]int{2, 0, 40}, [3]int{2, 4, 0}, [3]int{2, 10, 0}), []int{2, 1}, 21},
		{"one", poolsOf([3]int{2, 0, 40}, [3]int{2, 4, 0}), []int{1}, 16},
		{"equal ones", poolsOf([3]int{1, 0, 64}, [3]int{1, 0, 0}, [3]int{1, 0, 0}, [3]int{1, 0, 0}), []int{1, 2, 3}, 56},
		{"two equal ones behind a lower one", poolsOf([3]int{2, 0, 40}, [3]int{2, 4, 0}, [3]int{2, 10, 0}, [3]int{2, 10, 0}), []int{2, 3, 1}, 23},
		{"from the highest to the lowest", poolsOf([3]int{1, 0, 160}, [3]int{1, 0, 0}, [3]int{1, 100, 0}, [3]int{1, 40, 0}, [3]int{1, 60, 0}), []int{2, 4, 3, 1}, 126},
		// Only the second one is below the chamber, so its place among the others plays no part.
		{"others that take nothing", poolsOf([3]int{1, 0, 40}, [3]int{1, 90, 0}, [3]int{1, 0, 0}, [3]int{1, 80, 5}), []int{1, 2, 3}, 20},
		{"all of them above the chamber", poolsOf([3]int{1, 0, 40}, [3]int{1, 90, 0}, [3]int{1, 40, 0}, [3]int{1, 80, 5}), []int{1, 2, 3}, 0},
		{"no Water in the chamber", poolsOf([3]int{1, 2000, 0}, [3]int{1, 9, 0}, [3]int{1, 4, 0}, [3]int{1, 8, 5}, [3]int{1, 0, 5}), []int{1, 2, 3, 4}, 0},
		{"all the Water in every order", poolsOf([3]int{1, 2000, 9}, [3]int{1, 9, 0}, [3]int{1, 4, 0}), []int{1, 2}, 9},
	} {
		t.Run(c.name, func(t *testing.T) {
			expectBestDrain(t, c.list, c.want, c.volume)
			if d := drainsByLevels(c.list); d.failed > 0 || d.volume != c.volume || !slices.Equal(d.best, c.want) {
				t.Errorf("by the levels it is %v", d)
			}
		})
	}
}

// One order, the first one or the last one, saves something, but another one brings a Pool too much.
func TestBestDrainOfWhichAnotherOneFails(t *testing.T) {
	for _, list := range [][]impl.Pool{
		poolsOf([3]int{1, 0, 1003}, [3]int{1, 0, 0}, [3]int{100, 0, 99999}),
		poolsOf([3]int{1, 0, 1003}, [3]int{100, 0, 99999}, [3]int{1, 0, 0}),
		poolsOf([3]int{1, 0, 1003}, [3]int{1, 0, 0}, [3]int{1, 0, 1}, [3]int{100, 0, 99999}),
		poolsOf([3]int{1, 0, 1003}, [3]int{1, 0, 0}, [3]int{100, 0, 99999}, [3]int{1, 0, 1}),
		poolsOf([3]int{1, 0, 1003}, [3]int{100, 0, 99999}, [3]int{1, 0, 1}, [3]int{1, 0, 0}),
	} {
		d := drainsByLevels(list)
		if d.failed == 0 || d.volume <= 0 {
			t.Errorf("drains of %v: %v", list, d)
		}
		expectDrained(t, list, d.best, drainByLevels(list, d.best))
		expectNoBestDrain(t, list)
	}
}

// No order saves more than the best one, and none before it saves as much.
func TestBestDrainsOfManyPools(t *testing.T) {
	seen := map[string]int{}
	for list := range manyPools() {
		d := drainsByLevels(list)
		if d.failed > 0 {
			seen["failed"]++
			if d.volume >= 0 {
				seen["failed, but not all"]++
			}
			expectNoBestDrain(t, list)
			continue
		}
		expectBestDrain(t, list, d.best, d.volume)
		if d.best[0] != 1 {
			seen["not in order"]++
		}
		if d.best[0] != 1 && d.equal > 1 {
			seen["not in order, and several"]++
		}
	}
	if len(seen) != 4 {
		t.Error("what there was:", seen)
	}
}

// Shares of nothing, of a part, cut by a common divisor or not, and of all the Water; and failures.
func TestSavedShare(t *testing.T) {
	three := poolsOf([3]int{2, 0, 40}, [3]int{2, 10, 0}, [3]int{2, 4, 0})
	high := poolsOf([3]int{1, 900, 60}, [3]int{1, 930, 0}, [3]int{1, 0, 5})
	wide := poolsOf([3]int{1, 0, 100000}, [3]int{100, 0, 0}, [3]int{100, 2000, 100000})
	for _, c := range []struct {
		list  []impl.Pool
		order []int
		num   int
		den   int
	}{
		{three, []int{1}, 1, 4}, {three, []int{2}, 2, 5}, {three, []int{1, 2}, 21, 40}, {three, []int{2, 1}, 9, 20}, {three, nil, 0, 1},
		{high, []int{2}, 1, 1}, {high, []int{1, 2}, 1, 1}, {high, []int{1}, 1, 4}, {high, nil, 0, 1},
		{wide, []int{1}, 99009, 100000}, {wide, []int{2}, 0, 0}, {wide, []int{1, 2}, 99009, 100000}, {wide, []int{2, 1}, 0, 0}, {wide, nil, 0, 1},
		{withWaters(three, 20), []int{1}, 0, 1}, {withWaters(three, 20), []int{1, 2}, 3, 10}, {withWaters(three, 1), []int{1, 2}, 0, 1},
		{withWaters(three, 0), nil, 0, 0}, {withWaters(three, 0), []int{1, 2}, 0, 0}, {withWaters(high, 0), []int{1}, 0, 0}, {withWaters(high, 1), []int{2, 1}, 1, 1},
	} {
		expectShare(t, c.list, c.order, c.num, c.den)
	}
}

func TestAllWater(t *testing.T) {
	for _, c := range []struct {
		list []impl.Pool
		want int
	}{
		{poolsOf([3]int{1, 0, 0}, [3]int{1, 0, 0}), 0},
		{poolsOf([3]int{3, 2000, 1}, [3]int{1, 7, 0}), 1},
		{poolsOf([3]int{3, 5, 0}, [3]int{1, 7, 6}), 6},
		{poolsOf([3]int{2, 0, 19}, [3]int{2, 10, 10}, [3]int{2, 4, 11}), 40},
		{poolsOf([3]int{7, 100, 900}, [3]int{3, 90, 40}, [3]int{5, 300, 0}, [3]int{1, 0, 60}, [3]int{4, 150, 333}), 1333},
		// More together than one Pool can have.
		{slices.Repeat(poolsOf([3]int{100, 2000, 100000}), 5), 500000},
	} {
		expectAllWater(t, c.list, c.want)
	}
}

// withMorePools returns the Pools with others behind their end.
func withMorePools(list []impl.Pool) []impl.Pool {
	return append(slices.Clone(list), impl.Pool{Area: 1, Water: 9}, impl.Pool{}, impl.Pool{Area: -1, Floor: 2001, Water: -5})[:len(list)]
}

// withMoreIndices returns an order with other indices behind its end.
func withMoreIndices(order []int) []int {
	return append(slices.Clone(order), 1, 0, -1, 99)[:len(order)]
}

// poolsAsNumbers calls all functions and returns everything that they return, a bool as 0 or 1 and a Pool as its numbers.
func poolsAsNumbers(list []impl.Pool, order []int, from int, to int) []int {
	numbers := []int{}
	add := func(ok bool, more ...int) {
		numbers = append(append(numbers, map[bool]int{true: 1}[ok], len(more)), more...)
	}
	addPools := func(pools []impl.Pool, sum int, ok bool) {
		add(ok, len(pools), sum)
		for _, b := range pools {
			add(ok, b.Area, b.Floor, b.Water)
		}
	}
	add(impl.ArePools(list))
	for _, a := range list[:min(len(list), 6)] {
		add(impl.IsValidPool(a))
		num, den, ok := impl.LevelIn(a)
		add(ok, num, den)
		volume, ok := impl.FlowBetween(a, list[0])
		add(ok, volume)
	}
	addPools(impl.LetFlow(list, from, to))
	addPools(impl.DrainChamber(list, order))
	addPools(impl.FillChamber(list, order))
	best, saved, ok := impl.BestDrain(list)
	add(ok, append(slices.Clone(best), saved)...)
	num, den, ok := impl.SavedShare(list, order)
	add(ok, num, den)
	all, ok := impl.AllWater(list)
	add(ok, all)
	return numbers
}

// P29: all functions return whatever their arguments, the same when called again, and leave their arguments as they are, also
// beyond their lengths, where what stands plays no part.
func TestPoolFunctionsLeaveTheirArguments(t *testing.T) {
	lists := append(somePools(), brokenPools()...)
	for _, c := range append(drainCases(), fillCases()...) {
		lists = append(lists, c.list)
	}
	for _, c := range append(flowCases(), overflowCases()...) {
		lists = append(lists, poolsOf(c.from, c.to))
	}
	next := sequence()
	for _, list := range lists {
		n := min(max(len(list), 2), 5)
		given := withMorePools(list)
		before := slices.Clone(given[:cap(given)])
		broken := brokenPoolOrders(n)
		for _, order := range append(poolOrders(n), broken[next(len(broken))], broken[next(len(broken))], nil) {
			longer := withMoreIndices(order)
			orderBefore := slices.Clone(longer[:cap(longer)])
			from, to := next(n+2)-1, next(n+2)-1
			a, b := poolsAsNumbers(given, longer, from, to), poolsAsNumbers(list, order, from, to)
			if !slices.Equal(a, b) {
				t.Fatalf("%v, %d: %d and %d", list, order, a, b)
			}
			if !slices.Equal(longer[:cap(longer)], orderBefore) {
				t.Fatalf("%d was changed to %d", orderBefore, longer[:cap(longer)])
			}
		}
		if !slices.Equal(given[:cap(given)], before) {
			t.Fatalf("%v was changed to %v", before, given[:cap(given)])
		}
	}
}

// expectNewPools expects a call that is given the list to return memory of its own: what is written into its result, also beyond
// its length, changes neither the list nor a later result, and what is written into the list afterwards does not change the result.
func expectNewPools(t *testing.T, list []impl.Pool, call func(list []impl.Pool) ([]impl.Pool, int, bool)) {
	t.Helper()
	given := withMorePools(list)
	before := slices.Clone(given[:cap(given)])
	first, _, ok := call(given)
	if !ok || len(first) != len(list) {
		t.Fatalf("%v, %v for %v", first, ok, list)
	}
	want := slices.Clone(first)
	for i := range first[:cap(first)] {
		first[:cap(first)][i] = impl.Pool{Water: -7}
	}
	if !slices.Equal(given[:cap(given)], before) {
		t.Errorf("%v was changed to %v", before, given[:cap(given)])
	}
	again, _, _ := call(given)
	for i := range given {
		given[i] = impl.Pool{Water: -8}
	}
	if !slices.Equal(again, want) {
		t.Errorf("%v instead of %v", again, want)
	}
}

// Results share no memory with the arguments, also where nothing flows, nor with each other.
func TestResultsOfPoolsAreNew(t *testing.T) {
	lists := somePools()
	for _, c := range append(drainCases(), fillCases()...) {
		lists = append(lists, c.list)
	}
	for _, list := range lists {
		for i := range list {
			to := (i + 1) % len(list)
			if courseByLevels(list, [2]int{i, to}).ok {
				expectNewPools(t, list, func(given []impl.Pool) ([]impl.Pool, int, bool) { return impl.LetFlow(given, i, to) })
			}
		}
		for _, order := range poolOrders(len(list)) {
			if drainByLevels(list, order).ok {
				expectNewPools(t, list, func(given []impl.Pool) ([]impl.Pool, int, bool) { return impl.DrainChamber(given, order) })
			}
			if fillByLevels(list, order).ok {
				expectNewPools(t, list, func(given []impl.Pool) ([]impl.Pool, int, bool) { return impl.FillChamber(given, order) })
			}
		}
		if drainsByLevels(list).failed == 0 {
			expectNewInts(t, len(list)-1, func() ([]int, bool) {
				order, _, ok := impl.BestDrain(list)
				return order, ok
			})
		}
	}
}
