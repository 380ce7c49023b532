package tests

import (
	"cmp"
	"iter"
	"slices"
	"testing"

	"loop.example/g00924/impl"
)

// arrivalsOf returns Arrivals with the Ids 10, 20, .. and these triples of direction, Minute and Weight; a direction of 1 is up, 0 is
// down.
func arrivalsOf(triples ...[3]int) []impl.Arrival {
	list := []impl.Arrival{}
	for i, triple := range triples {
		list = append(list, impl.Arrival{Id: 10*i + 10, Up: triple[0] == 1, Minute: triple[1], Weight: triple[2]})
	}
	return list
}

// fullArrivals returns MaxWaiting Arrivals of both directions that differ in all numbers.
func fullArrivals() []impl.Arrival {
	return arrivalsOf([3]int{1, 30, 2}, [3]int{0, 0, 5}, [3]int{0, 12, 9}, [3]int{1, 5, 1}, [3]int{1, 17, 4}, [3]int{0, 40, 3})
}

// someArrivals returns lists of every number of Arrivals.
func someArrivals() [][]impl.Arrival {
	return [][]impl.Arrival{
		nil,
		{},
		arrivalsOf([3]int{1, 0, 1}),
		arrivalsOf([3]int{0, 9999, 9}),
		{{Id: 1, Up: true, Minute: 7, Weight: 2}, {Id: 99, Minute: 7, Weight: 2}},
		arrivalsOf([3]int{1, 0, 1}, [3]int{0, 0, 3}, [3]int{1, 10, 1}),
		arrivalsOf([3]int{1, 20, 4}, [3]int{1, 0, 1}, [3]int{1, 20, 9}, [3]int{1, 5, 2}),
		arrivalsOf([3]int{0, 3, 1}, [3]int{0, 2, 1}, [3]int{0, 1, 1}, [3]int{0, 0, 1}, [3]int{0, 0, 9}),
		arrivalsOf([3]int{1, 50, 1}, [3]int{0, 50, 1}, [3]int{0, 50, 1}, [3]int{1, 50, 1}, [3]int{0, 50, 1}, [3]int{1, 50, 1}),
		fullArrivals(),
	}
}

// manyArrivals yields all short lists of some vessels, and many of up to MaxWaiting that come at once, one after the other or late.
func manyArrivals() iter.Seq[[]impl.Arrival] {
	return func(yield func([]impl.Arrival) bool) {
		kinds := [][3]int{}
		for _, minute := range []int{0, 1, 7, 25} {
			kinds = append(kinds, [3]int{0, minute, 1}, [3]int{1, minute, 1}, [3]int{minute % 2, minute, 9})
		}
		for n := range 3 {
			for picked := range listsOver([]int{0, 1, 2, 3, 4, 5, 6, 7, 8, 9, 10, 11}, n) {
				triples := [][3]int{}
				for _, number := range picked {
					triples = append(triples, kinds[number])
				}
				if !yield(arrivalsOf(triples...)) {
					return
				}
			}
		}
		next := sequence()
		for number := range 240 {
			triples := [][3]int{}
			for range number%4 + 3 {
				minute := next([]int{1, 4, 20, 60, 200}[number%5])
				triples = append(triples, [3]int{next(2), minute, next(number%3*4+1) + 1})
			}
			if !yield(arrivalsOf(triples...)) {
				return
			}
		}
	}
}

// brokenArrivals returns lists that are invalid in one respect each.
func brokenArrivals() [][]impl.Arrival {
	right := fullArrivals()
	lists := [][]impl.Arrival{
		make([]impl.Arrival, 1),
		make([]impl.Arrival, 6),
		append(slices.Clone(right), impl.Arrival{Id: 99, Weight: 1}),
		slices.Repeat(right, 1000),
	}
	// Ids that are equal or descend, of neighbours and of others.
	for n := 2; n <= 6; n++ {
		for i := 1; i < n; i++ {
			for j := range i {
				same, less := slices.Clone(right[:n]), slices.Clone(right[:n])
				same[i].Id, less[i].Id = right[j].Id, right[j].Id-1
				swapped := slices.Clone(right[:n])
				swapped[i], swapped[j] = swapped[j], swapped[i]
				lists = append(lists, same, less, swapped)
			}
		}
	}
	breakWith := func(change func(a *impl.Arrival)) {
		for _, n := range []int{1, 2, 6} {
			for i := range n {
				list := slices.Clone(right[:n])
				change(&list[i])
				lists = append(lists, list)
			}
		}
	}
	for _, n := range append([]int{-1, 0, 100}, farNumbers...) {
		breakWith(func(a *impl.Arrival) { a.Id = n })
	}
	for _, n := range append([]int{-1, 0, 10}, farNumbers...) {
		breakWith(func(a *impl.Arrival) { a.Weight = n })
	}
	for _, n := range []int{-1, 10000, -1 << 62, 1 << 62, 100000, -100000} {
		breakWith(func(a *impl.Arrival) { a.Minute = n })
	}
	return lists
}

// noMinutes returns numbers that are no minutes of a lockage.
func noMinutes() []int { return append([]int{-60, -1, 0, 61, 62}, farNumbers...) }

// countingUp returns the numbers 0..n-1.
func countingUp(n int) []int {
	list := []int{}
	for i := range n {
		list = append(list, i)
	}
	return list
}

// isOrderByPairs looks at every pair of one direction, apart from the program. The order is a permutation.
func isOrderByPairs(list []impl.Arrival, order []int) bool {
	for i, a := range list {
		for j, b := range list {
			first := a.Minute < b.Minute || a.Minute == b.Minute && i < j
			if a.Up == b.Up && first && slices.Index(order, i) > slices.Index(order, j) {
				return false
			}
		}
	}
	return true
}

// ordersByPairs returns all orders of a list, lexicographically, apart from the program.
func ordersByPairs(list []impl.Arrival) [][]int {
	orders := slices.DeleteFunc(ordersOf(len(list)), func(order []int) bool { return !isOrderByPairs(list, order) })
	slices.SortFunc(orders, slices.Compare)
	return orders
}

// course is what happens when the vessels are taken in an order.
type course struct {
	begins []int
	turns  int
	end    int
	delay  int
	// The index of the vessel that waits longest, -1 if there is none, and its minutes.
	longest int
	wait    int
}

// courseByMinutes lets one minute pass after the other, apart from the program.
func courseByMinutes(list []impl.Arrival, high bool, minutes int, order []int) course {
	c := course{begins: []int{}, longest: -1}
	// Minutes until the chamber is free.
	left := 0
	for now := 0; len(c.begins) < len(order); now++ {
		if left == 0 {
			i := order[len(c.begins)]
			switch {
			case list[i].Up && high || !list[i].Up && !high:
				c.turns++
				high, left = !high, minutes
			case list[i].Minute <= now:
				c.begins = append(c.begins, now)
				high, left = !high, minutes
				c.end = now + minutes
			}
		}
		if left > 0 {
			left--
		}
	}
	for i, a := range list {
		wait := c.begins[slices.Index(order, i)] - a.Minute
		c.delay += a.Weight * wait
		if c.longest < 0 || wait > c.wait {
			c.longest, c.wait = i, wait
		}
	}
	return c
}

// bestByMinutes looks at all orders, apart from the program.
func bestByMinutes(list []impl.Arrival, high bool, minutes int) ([]int, int) {
	best, delay := []int{}, -1
	for _, order := range ordersByPairs(list) {
		if c := courseByMinutes(list, high, minutes, order); delay < 0 || c.delay < delay {
			best, delay = order, c.delay
		}
	}
	return best, delay
}

// firstComeByCounting gives each vessel the place of the number of those before it, apart from the program.
func firstComeByCounting(list []impl.Arrival) []int {
	order := make([]int, len(list))
	for i, a := range list {
		before := 0
		for _, b := range list {
			if b.Minute < a.Minute || b.Minute == a.Minute && b.Id < a.Id {
				before++
			}
		}
		order[before] = i
	}
	return order
}

// expectCourse expects this of an order.
func expectCourse(t *testing.T, list []impl.Arrival, high bool, minutes int, order []int, want course) {
	t.Helper()
	if !impl.IsLockageOrder(list, order) {
		t.Fatalf("IsLockageOrder(%v, %d) is false", list, order)
	}
	if m, ok := impl.LockageTimes(list, high, minutes, order); !ok || !slices.Equal(m, want.begins) {
		t.Fatalf("LockageTimes(%v, %v, %d, %d) = %d, %v instead of %d", list, high, minutes, order, m, ok, want.begins)
	}
	if n, ok := impl.LockageDelay(list, high, minutes, order); !ok || n != want.delay {
		t.Fatalf("LockageDelay(%v, %v, %d, %d) = %d, %v instead of %d", list, high, minutes, order, n, ok, want.delay)
	}
	if n, ok := impl.EmptyTurns(list, high, order); !ok || n != want.turns {
		t.Fatalf("EmptyTurns(%v, %v, %d) = %d, %v instead of %d", list, high, order, n, ok, want.turns)
	}
	if n, ok := impl.LastLockage(list, high, minutes, order); !ok || n != want.end {
		t.Fatalf("LastLockage(%v, %v, %d, %d) = %d, %v instead of %d", list, high, minutes, order, n, ok, want.end)
	}
	i, n, ok := impl.LongestWait(list, high, minutes, order)
	if want.longest < 0 {
		if ok || i != 0 || n != 0 {
			t.Fatalf("LongestWait(%v, %v, %d, %d) = %d, %d, %v", list, high, minutes, order, i, n, ok)
		}
	} else if !ok || i != want.longest || n != want.wait {
		t.Fatalf("LongestWait(%v, %v, %d, %d) = %d, %d, %v instead of %d, %d", list, high, minutes, order, i, n, ok, want.longest, want.wait)
	}
}

// expectNoCourse expects the functions that take minutes of a lockage to fail for all of these arguments together.
func expectNoCourse(t *testing.T, list []impl.Arrival, high bool, minutes int, order []int) {
	t.Helper()
	if m, ok := impl.LockageTimes(list, high, minutes, order); ok || len(m) != 0 {
		t.Errorf("LockageTimes(%v, %v, %d, %d) = %d, %v", list, high, minutes, order, m, ok)
	}
	if n, ok := impl.LockageDelay(list, high, minutes, order); ok || n != 0 {
		t.Errorf("LockageDelay(%v, %v, %d, %d) = %d, %v", list, high, minutes, order, n, ok)
	}
	if n, ok := impl.LastLockage(list, high, minutes, order); ok || n != 0 {
		t.Errorf("LastLockage(%v, %v, %d, %d) = %d, %v", list, high, minutes, order, n, ok)
	}
	if i, n, ok := impl.LongestWait(list, high, minutes, order); ok || i != 0 || n != 0 {
		t.Errorf("LongestWait(%v, %v, %d, %d) = %d, %d, %v", list, high, minutes, order, i, n, ok)
	}
}

// expectNoOrder expects an order to be none of a list, and all functions to fail for both.
func expectNoOrder(t *testing.T, list []impl.Arrival, order []int) {
	t.Helper()
	if impl.IsLockageOrder(list, order) {
		t.Errorf("IsLockageOrder(%v, %d)", list, order)
	}
	for _, high := range []bool{false, true} {
		for _, minutes := range []int{0, 1, 10, 60, 61} {
			expectNoCourse(t, list, high, minutes, order)
		}
		if n, ok := impl.EmptyTurns(list, high, order); ok || n != 0 {
			t.Errorf("EmptyTurns(%v, %v, %d) = %d, %v", list, high, order, n, ok)
		}
	}
}

func expectBest(t *testing.T, list []impl.Arrival, high bool, minutes int, want []int, delay int) {
	t.Helper()
	if order, n, ok := impl.BestLockages(list, high, minutes); !ok || n != delay || !slices.Equal(order, want) {
		t.Fatalf("BestLockages(%v, %v, %d) = %d, %d, %v instead of %d, %d", list, high, minutes, order, n, ok, want, delay)
	}
}

func expectNoBest(t *testing.T, list []impl.Arrival, high bool, minutes int) {
	t.Helper()
	if order, n, ok := impl.BestLockages(list, high, minutes); ok || n != 0 || len(order) != 0 {
		t.Errorf("BestLockages(%v, %v, %d) = %d, %d, %v", list, high, minutes, order, n, ok)
	}
}

// expectNoArrivals expects a list to be invalid, and all functions to fail for it.
func expectNoArrivals(t *testing.T, list []impl.Arrival) {
	t.Helper()
	if impl.AreArrivals(list) {
		t.Errorf("AreArrivals(%v)", list)
	}
	if order, ok := impl.FirstComeLockages(list); ok || len(order) != 0 {
		t.Errorf("FirstComeLockages(%v) = %d, %v", list, order, ok)
	}
	for _, minutes := range []int{0, 1, 60} {
		expectNoBest(t, list, false, minutes)
		expectNoBest(t, list, true, minutes)
	}
	expectNoOrder(t, list, nil)
	expectNoOrder(t, list, countingUp(len(list)))
	if len(list) <= 6 {
		expectNoOrder(t, list, firstComeByCounting(list))
	}
}

func TestLimitsOfLockages(t *testing.T) {
	if impl.MaxMinute != 9999 || impl.MaxWaiting != 6 {
		t.Error("limits", impl.MaxMinute, impl.MaxWaiting)
	}
}

// Every number in its range is valid, and none beyond it.
func TestArrivalsThatAreValid(t *testing.T) {
	for _, a := range []impl.Arrival{{Id: 1, Weight: 1}, {Id: 99, Up: true, Minute: 9999, Weight: 9}, {Id: 50, Up: true, Minute: 70, Weight: 4}} {
		numbers := append([]int{-2, -1, 0, 1, 2, 8, 9, 10, 11, 98, 99, 100, 101, 9998, 9999, 10000, 10001}, farNumbers...)
		for _, n := range numbers {
			other := a
			other.Id = n
			expectArrival(t, other, 1 <= n && n <= 99)
			other = a
			other.Minute = n
			expectArrival(t, other, 0 <= n && n <= 9999)
			other = a
			other.Weight = n
			expectArrival(t, other, 1 <= n && n <= 9)
		}
	}
}

// expectArrival expects a vessel to be valid alone, and what happens to it then, or not to be valid.
func expectArrival(t *testing.T, a impl.Arrival, want bool) {
	t.Helper()
	list := []impl.Arrival{a}
	if impl.AreArrivals(list) != want {
		t.Errorf("AreArrivals(%v) is not %v", list, want)
	}
	if !want {
		expectNoArrivals(t, list)
		return
	}
	if order, ok := impl.FirstComeLockages(list); !ok || !slices.Equal(order, []int{0}) {
		t.Errorf("FirstComeLockages(%v) = %d, %v", list, order, ok)
	}
	for _, high := range []bool{false, true} {
		for _, minutes := range []int{1, 2, 59, 60} {
			begin, turns := a.Minute, 0
			if a.Up == high {
				begin, turns = max(minutes, a.Minute), 1
			}
			wait := begin - a.Minute
			want := course{begins: []int{begin}, turns: turns, end: begin + minutes, delay: a.Weight * wait, longest: 0, wait: wait}
			expectCourse(t, list, high, minutes, []int{0}, want)
			expectBest(t, list, high, minutes, []int{0}, a.Weight*wait)
		}
	}
}

// No Arrivals, one, MaxWaiting, and more.
func TestListsOfManyArrivals(t *testing.T) {
	for n := range 20 {
		list := []impl.Arrival{}
		for i := range n {
			list = append(list, impl.Arrival{Id: i + 1, Up: i%2 == 0, Weight: 1})
		}
		if impl.AreArrivals(list) != (n <= 6) {
			t.Errorf("AreArrivals of %d is %v", n, n > 6)
		}
		if n > 6 {
			expectNoArrivals(t, list)
			continue
		}
		// Up, down, up and so on, without a turn.
		order := countingUp(n)
		begins := []int{}
		for i := range n {
			begins = append(begins, 10*i)
		}
		want := course{begins: begins, end: 10 * n, delay: 5 * n * (n - 1), longest: n - 1, wait: max(10*(n-1), 0)}
		expectCourse(t, list, false, 10, order, want)
		expectBest(t, list, false, 10, order, 5*n*(n-1))
	}
	for _, list := range someArrivals() {
		if !impl.AreArrivals(list) {
			t.Errorf("AreArrivals(%v) is false", list)
		}
	}
}

func TestListsThatAreNoArrivals(t *testing.T) {
	for _, list := range brokenArrivals() {
		expectNoArrivals(t, list)
	}
}

// The order of nobody is one, whatever the chamber; but it has no longest wait.
func TestOrderOfNobody(t *testing.T) {
	for _, list := range [][]impl.Arrival{nil, {}} {
		for _, order := range [][]int{nil, {}} {
			for _, high := range []bool{false, true} {
				for _, minutes := range []int{1, 30, 60} {
					expectCourse(t, list, high, minutes, order, course{longest: -1})
					expectBest(t, list, high, minutes, nil, 0)
				}
				for _, minutes := range noMinutes() {
					expectNoCourse(t, list, high, minutes, order)
					expectNoBest(t, list, high, minutes)
				}
			}
		}
		if order, ok := impl.FirstComeLockages(list); !ok || len(order) != 0 {
			t.Errorf("FirstComeLockages of nobody = %d, %v", order, ok)
		}
		for _, order := range [][]int{{0}, {-1}, {1}, {0, 1}} {
			expectNoOrder(t, list, order)
		}
	}
}

// All permutations of all lists: those in which each direction stands in its order are orders, and no others.
func TestOrdersOfArrivals(t *testing.T) {
	for _, list := range someArrivals() {
		for _, order := range ordersOf(len(list)) {
			if !isOrderByPairs(list, order) {
				expectNoOrder(t, list, order)
			} else if !impl.IsLockageOrder(list, order) {
				t.Errorf("IsLockageOrder(%v, %d) is false", list, order)
			}
		}
	}
	for list := range manyArrivals() {
		for _, order := range ordersOf(len(list)) {
			if impl.IsLockageOrder(list, order) != isOrderByPairs(list, order) {
				t.Fatalf("IsLockageOrder(%v, %d) is %v", list, order, !isOrderByPairs(list, order))
			}
		}
	}
}

// Lists of indices that are no permutations: too few or too many, one that occurs twice, and ones out of range.
func TestOrdersThatAreNone(t *testing.T) {
	for _, list := range someArrivals() {
		n := len(list)
		right := firstComeByCounting(list)
		for k := range n {
			expectNoOrder(t, list, right[:k])
			expectNoOrder(t, list, right[k+1:])
			expectNoOrder(t, list, append(slices.Clone(right), right[k]))
			for j := range n {
				if j != k {
					twice := slices.Clone(right)
					twice[k] = right[j]
					expectNoOrder(t, list, twice)
				}
			}
			for _, i := range append([]int{-1, n, n + 1}, farNumbers...) {
				other := slices.Clone(right)
				other[k] = i
				expectNoOrder(t, list, other)
				expectNoOrder(t, list, slices.Insert(slices.Clone(right), k, i))
			}
		}
		expectNoOrder(t, list, append(slices.Clone(right), n))
		expectNoOrder(t, list, append(slices.Clone(right), -1))
		expectNoOrder(t, list, slices.Repeat([]int{0}, n+1))
		expectNoOrder(t, list, countingUp(1000))
	}
}

// A vessel may stand before an earlier one only if that goes the other way.
func TestOrdersOfOneDirection(t *testing.T) {
	for _, direction := range []int{0, 1} {
		other := 1 - direction
		for _, c := range []struct {
			list  []impl.Arrival
			order []int
			want  bool
		}{
			{arrivalsOf([3]int{direction, 5, 1}, [3]int{direction, 6, 1}), []int{0, 1}, true},
			{arrivalsOf([3]int{direction, 5, 1}, [3]int{direction, 6, 1}), []int{1, 0}, false},
			{arrivalsOf([3]int{direction, 6, 1}, [3]int{direction, 5, 1}), []int{0, 1}, false},
			{arrivalsOf([3]int{direction, 6, 1}, [3]int{direction, 5, 1}), []int{1, 0}, true},
			// At the same minute the Ids decide, not the Weights.
			{arrivalsOf([3]int{direction, 5, 1}, [3]int{direction, 5, 9}), []int{0, 1}, true},
			{arrivalsOf([3]int{direction, 5, 1}, [3]int{direction, 5, 9}), []int{1, 0}, false},
			{arrivalsOf([3]int{direction, 5, 1}, [3]int{other, 5, 1}), []int{0, 1}, true},
			{arrivalsOf([3]int{direction, 5, 1}, [3]int{other, 5, 1}), []int{1, 0}, true},
			{arrivalsOf([3]int{direction, 5, 1}, [3]int{other, 6, 1}), []int{1, 0}, true},
			{arrivalsOf([3]int{direction, 6, 1}, [3]int{other, 5, 1}), []int{0, 1}, true},
			// Not neighbours.
			{arrivalsOf([3]int{direction, 5, 1}, [3]int{other, 7, 1}, [3]int{direction, 6, 1}), []int{0, 1, 2}, true},
			{arrivalsOf([3]int{direction, 5, 1}, [3]int{other, 7, 1}, [3]int{direction, 6, 1}), []int{2, 1, 0}, false},
			{arrivalsOf([3]int{direction, 6, 1}, [3]int{other, 5, 1}, [3]int{direction, 6, 1}), []int{2, 1, 0}, false},
			{arrivalsOf([3]int{direction, 6, 1}, [3]int{other, 5, 1}, [3]int{direction, 6, 1}), []int{0, 2, 1}, true},
		} {
			if impl.IsLockageOrder(c.list, c.order) != c.want {
				t.Errorf("IsLockageOrder(%v, %d) is not %v", c.list, c.order, c.want)
			}
			if !c.want {
				expectNoOrder(t, c.list, c.order)
			}
		}
	}
}

// lockageCase is an order with what happens in it, counted by hand.
type lockageCase struct {
	name    string
	list    []impl.Arrival
	high    bool
	minutes int
	order   []int
	want    course
}

// lockageCases returns orders of one vessel and of some that go one way.
func lockageCases() []lockageCase {
	up, down := arrivalsOf([3]int{1, 0, 2}), arrivalsOf([3]int{0, 4, 3})
	ups := arrivalsOf([3]int{1, 0, 1}, [3]int{1, 0, 2}, [3]int{1, 30, 3})
	downs := arrivalsOf([3]int{0, 7, 1}, [3]int{0, 2, 2}, [3]int{0, 2, 9})
	return []lockageCase{
		{"up from below", up, false, 10, []int{0}, course{[]int{0}, 0, 10, 0, 0, 0}},
		{"up from above", up, true, 10, []int{0}, course{[]int{10}, 1, 20, 20, 0, 10}},
		{"down from above", down, true, 10, []int{0}, course{[]int{4}, 0, 14, 0, 0, 0}},
		{"arrives while the chamber is turned", down, false, 10, []int{0}, course{[]int{10}, 1, 20, 18, 0, 6}},
		{"arrives when the chamber is turned", down, false, 4, []int{0}, course{[]int{4}, 1, 8, 0, 0, 0}},
		{"arrives a minute before that", down, false, 5, []int{0}, course{[]int{5}, 1, 10, 3, 0, 1}},
		{"arrives a minute after that", down, false, 3, []int{0}, course{[]int{4}, 1, 7, 0, 0, 0}},
		{"all up from below", ups, false, 10, []int{0, 1, 2}, course{[]int{0, 20, 40}, 2, 50, 70, 1, 20}},
		{"all up from above", ups, true, 10, []int{0, 1, 2}, course{[]int{10, 30, 50}, 3, 60, 130, 1, 30}},
		{"the chamber waits for the last one", ups, false, 5, []int{0, 1, 2}, course{[]int{0, 10, 30}, 2, 35, 20, 1, 10}},
		{"all down from above", downs, true, 10, []int{1, 2, 0}, course{[]int{2, 22, 42}, 2, 52, 215, 0, 35}},
		{"all down from below", downs, false, 10, []int{1, 2, 0}, course{[]int{10, 30, 50}, 3, 60, 311, 0, 43}},
		{"the longest lockages", downs, false, 60, []int{1, 2, 0}, course{[]int{60, 180, 300}, 3, 360, 2011, 0, 293}},
		{"the shortest lockages", downs, false, 1, []int{1, 2, 0}, course{[]int{2, 4, 7}, 3, 8, 18, 2, 2}},
		{"at the last minute", arrivalsOf([3]int{1, 9999, 9}, [3]int{1, 9999, 9}), true, 60, []int{0, 1}, course{[]int{9999, 10119}, 2, 10179, 1080, 1, 120}},
	}
}

// lockageCasesBothWays returns orders of vessels that go both ways.
func lockageCasesBothWays() []lockageCase {
	three := arrivalsOf([3]int{1, 0, 1}, [3]int{0, 0, 3}, [3]int{1, 10, 1})
	same := arrivalsOf([3]int{1, 5, 1}, [3]int{1, 5, 4}, [3]int{0, 5, 2}, [3]int{0, 5, 3})
	late := arrivalsOf([3]int{0, 100, 1}, [3]int{1, 3, 2})
	return []lockageCase{
		{"in turn", three, false, 10, []int{0, 1, 2}, course{[]int{0, 10, 20}, 0, 30, 40, 1, 10}},
		{"down first", three, false, 10, []int{1, 0, 2}, course{[]int{10, 20, 40}, 2, 50, 80, 2, 30}},
		{"both up first", three, false, 10, []int{0, 2, 1}, course{[]int{0, 20, 30}, 1, 40, 100, 1, 30}},
		{"down first from above", three, true, 10, []int{1, 0, 2}, course{[]int{0, 10, 30}, 1, 40, 30, 2, 20}},
		{"in turn from above", three, true, 10, []int{0, 1, 2}, course{[]int{10, 20, 30}, 1, 40, 90, 1, 20}},
		{"at the same minute in turn", same, false, 6, []int{0, 2, 1, 3}, course{[]int{5, 11, 17, 23}, 0, 29, 114, 3, 18}},
		{"at the same minute one way first", same, false, 6, []int{0, 1, 2, 3}, course{[]int{5, 17, 23, 35}, 2, 41, 174, 3, 30}},
		{"at the same minute from above", same, true, 6, []int{2, 0, 3, 1}, course{[]int{5, 11, 17, 23}, 0, 29, 114, 1, 18}},
		{"the later one first", late, true, 10, []int{0, 1}, course{[]int{100, 110}, 0, 120, 214, 1, 107}},
		{"the later one last", late, true, 10, []int{1, 0}, course{[]int{10, 100}, 1, 110, 14, 1, 7}},
		{"both wait as long", arrivalsOf([3]int{0, 0, 1}, [3]int{1, 10, 1}), false, 10, []int{0, 1}, course{[]int{10, 20}, 1, 30, 20, 0, 10}},
		{"both wait as long, taken otherwise", arrivalsOf([3]int{0, 10, 1}, [3]int{1, 0, 1}), true, 10, []int{1, 0}, course{[]int{10, 20}, 1, 30, 20, 0, 10}},
		{"nobody waits", arrivalsOf([3]int{0, 60, 9}, [3]int{1, 0, 9}, [3]int{1, 120, 9}), false, 60, []int{1, 0, 2}, course{[]int{0, 60, 120}, 0, 180, 0, 0, 0}},
	}
}

// The orders counted by hand, and each of them with minutes of lockages that are out of range.
func TestCoursesOfOrders(t *testing.T) {
	for _, c := range append(lockageCases(), lockageCasesBothWays()...) {
		t.Run(c.name, func(t *testing.T) {
			expectCourse(t, c.list, c.high, c.minutes, c.order, c.want)
			if by := courseByMinutes(c.list, c.high, c.minutes, c.order); !slices.Equal(by.begins, c.want.begins) || by.delay != c.want.delay {
				t.Errorf("minute by minute it is %v", by)
			}
			for _, minutes := range noMinutes() {
				expectNoCourse(t, c.list, c.high, minutes, c.order)
				expectNoBest(t, c.list, c.high, minutes)
			}
		})
	}
}

// All orders of many Arrivals, minute by minute.
func TestCoursesOfManyOrders(t *testing.T) {
	for list := range manyArrivals() {
		for _, order := range ordersByPairs(list) {
			for _, high := range []bool{false, true} {
				for _, minutes := range []int{1, 7, 60} {
					expectCourse(t, list, high, minutes, order, courseByMinutes(list, high, minutes, order))
				}
			}
		}
	}
}

// Minutes of lockages in their range and beyond it.
func TestMinutesOfLockages(t *testing.T) {
	for _, list := range someArrivals() {
		order := firstComeByCounting(list)
		for _, high := range []bool{false, true} {
			for minutes := 1; minutes <= 60; minutes++ {
				expectCourse(t, list, high, minutes, order, courseByMinutes(list, high, minutes, order))
				if _, _, ok := impl.BestLockages(list, high, minutes); !ok {
					t.Errorf("BestLockages(%v, %v, %d) fails", list, high, minutes)
				}
			}
			for _, minutes := range noMinutes() {
				expectNoCourse(t, list, high, minutes, order)
				expectNoBest(t, list, high, minutes)
			}
		}
	}
}

func TestBestLockages(t *testing.T) {
	three := arrivalsOf([3]int{1, 0, 1}, [3]int{0, 0, 3}, [3]int{1, 10, 1})
	for _, c := range []struct {
		name    string
		list    []impl.Arrival
		high    bool
		minutes int
		want    []int
		delay   int
	}{
		{"in turn", three, false, 10, []int{0, 1, 2}, 40},
		{"from above", three, true, 10, []int{1, 0, 2}, 30},
		{"one way, by Minutes", arrivalsOf([3]int{1, 5, 9}, [3]int{1, 0, 1}), false, 1, []int{1, 0}, 0},
		{"one way, by Ids whatever the Weights", arrivalsOf([3]int{1, 0, 1}, [3]int{1, 0, 9}), false, 10, []int{0, 1}, 180},
		{"as it stands", arrivalsOf([3]int{0, 0, 1}, [3]int{1, 0, 1}), false, 10, []int{1, 0}, 10},
		{"a turn for the heavy one", arrivalsOf([3]int{0, 0, 9}, [3]int{1, 5, 1}), false, 10, []int{0, 1}, 105},
		{"no turn for a light one", arrivalsOf([3]int{0, 0, 1}, [3]int{1, 5, 9}), false, 10, []int{1, 0}, 15},
		// Of equal delay: turned for the first one, or taking the second one before it.
		{"equal delay", arrivalsOf([3]int{0, 0, 2}, [3]int{1, 10, 2}), false, 10, []int{0, 1}, 40},
		{"equal delay, the other way", arrivalsOf([3]int{1, 10, 2}, [3]int{0, 0, 2}), false, 10, []int{0, 1}, 40},
		{"equal delay at the last minute", arrivalsOf([3]int{1, 9999, 1}, [3]int{0, 9999, 1}), true, 1, []int{0, 1}, 1},
		{"late and early", arrivalsOf([3]int{1, 9999, 9}, [3]int{0, 0, 1}), true, 60, []int{1, 0}, 0},
	} {
		order, n, ok := impl.BestLockages(c.list, c.high, c.minutes)
		if !ok || n != c.delay || !slices.Equal(order, c.want) {
			t.Errorf("%s: BestLockages(%v, %v, %d) = %d, %d, %v", c.name, c.list, c.high, c.minutes, order, n, ok)
		}
	}
}

// P8: no order has a smaller delay than the best one, and none with the same delay comes before it.
func TestNoOrderIsBetter(t *testing.T) {
	ties := 0
	for list := range manyArrivals() {
		orders := ordersByPairs(list)
		for _, high := range []bool{false, true} {
			for _, minutes := range []int{1, 3, 12, 60} {
				want, delay := bestByMinutes(list, high, minutes)
				expectBest(t, list, high, minutes, want, delay)
				for _, order := range orders {
					n, ok := impl.LockageDelay(list, high, minutes, order)
					if !ok || n < delay || n == delay && slices.Compare(order, want) < 0 {
						t.Fatalf("LockageDelay(%v, %v, %d, %d) = %d, %v, but the best is %d", list, high, minutes, order, n, ok, delay)
					}
					if n == delay && !slices.Equal(order, want) {
						ties++
					}
				}
			}
		}
	}
	// Without them the tie rule would go untested here.
	if ties == 0 {
		t.Error("no orders of equal delay")
	}
}

// The best order of full lists of every mixture of directions, with vessels that come at once, in turn and far apart.
func TestBestOfFullLists(t *testing.T) {
	for directions := range listsOver([]int{0, 1}, 6) {
		for _, minutes := range []int{0, 1, 8, 25} {
			triples := [][3]int{}
			for i, direction := range directions {
				triples = append(triples, [3]int{direction, minutes * (i * 5 % 6), 9 - i*i%9})
			}
			list := arrivalsOf(triples...)
			for _, high := range []bool{false, true} {
				want, delay := bestByMinutes(list, high, 10)
				expectBest(t, list, high, 10, want, delay)
			}
		}
	}
}

func TestFirstComeLockages(t *testing.T) {
	for _, c := range []struct {
		list []impl.Arrival
		want []int
	}{
		{nil, nil},
		{arrivalsOf([3]int{1, 9999, 1}), []int{0}},
		{arrivalsOf([3]int{1, 0, 1}, [3]int{0, 0, 9}), []int{0, 1}},
		{arrivalsOf([3]int{0, 1, 1}, [3]int{1, 0, 1}), []int{1, 0}},
		{arrivalsOf([3]int{0, 9, 1}, [3]int{1, 10, 1}, [3]int{0, 9, 9}, [3]int{1, 9, 1}), []int{0, 2, 3, 1}},
		{arrivalsOf([3]int{0, 6, 1}, [3]int{1, 5, 1}, [3]int{0, 4, 1}, [3]int{1, 3, 1}, [3]int{0, 2, 1}, [3]int{1, 1, 1}), []int{5, 4, 3, 2, 1, 0}},
		{arrivalsOf([3]int{0, 7, 1}, [3]int{1, 7, 2}, [3]int{0, 7, 3}, [3]int{1, 7, 4}, [3]int{0, 7, 5}, [3]int{1, 7, 6}), []int{0, 1, 2, 3, 4, 5}},
		{fullArrivals(), []int{1, 3, 2, 4, 0, 5}},
	} {
		if order, ok := impl.FirstComeLockages(c.list); !ok || !slices.Equal(order, c.want) {
			t.Errorf("FirstComeLockages(%v) = %d, %v", c.list, order, ok)
		}
	}
	for list := range manyArrivals() {
		order, ok := impl.FirstComeLockages(list)
		if !ok || !slices.Equal(order, firstComeByCounting(list)) || !impl.IsLockageOrder(list, order) {
			t.Fatalf("FirstComeLockages(%v) = %d, %v", list, order, ok)
		}
	}
}

// Vessels of one direction have one order alone, which is that of first come and the best one.
func TestOneDirectionHasOneOrder(t *testing.T) {
	for list := range manyArrivals() {
		for _, up := range []bool{false, true} {
			for i := range list {
				list[i].Up = up
			}
			want := firstComeByCounting(list)
			for _, high := range []bool{false, true} {
				expectBest(t, list, high, 5, want, courseByMinutes(list, high, 5, want).delay)
				turns := len(list)
				if up != high {
					turns = max(turns-1, 0)
				}
				if n, ok := impl.EmptyTurns(list, high, want); !ok || n != turns {
					t.Fatalf("EmptyTurns(%v, %v, %d) = %d, %v", list, high, want, n, ok)
				}
			}
		}
	}
}

// Several vessels wait longest: the smallest index counts, not the first one in the order.
func TestSeveralWaitLongest(t *testing.T) {
	// They come every 10 minutes, so with lockages of 10 minutes all wait as long as the first one.
	list := arrivalsOf([3]int{1, 40, 1}, [3]int{0, 30, 9}, [3]int{1, 20, 1}, [3]int{0, 10, 1}, [3]int{1, 0, 1})
	order := []int{4, 3, 2, 1, 0}
	for _, c := range []struct {
		high    bool
		minutes int
		index   int
		wait    int
	}{
		{false, 10, 0, 0},
		{true, 10, 0, 10},
		{false, 11, 0, 4},
		{true, 1, 4, 1},
		{false, 1, 0, 0},
		{true, 5, 4, 5},
	} {
		if i, n, ok := impl.LongestWait(list, c.high, c.minutes, order); !ok || i != c.index || n != c.wait {
			t.Errorf("LongestWait(%v, %v, %d, %d) = %d, %d, %v", list, c.high, c.minutes, order, i, n, ok)
		}
	}
}

// withMoreArrivals returns Arrivals in a slice that has room behind them, and that room filled.
func withMoreArrivals(list []impl.Arrival) []impl.Arrival {
	return append(slices.Clone(list), impl.Arrival{Id: 99, Up: true, Minute: 1, Weight: 9}, impl.Arrival{Id: -1, Minute: -1})[:len(list)]
}

// P29: all functions return whatever their arguments, the same when called again, and leave their arguments as they are, also
// beyond their lengths, where what stands plays no part.
func TestLockageFunctionsLeaveTheirArguments(t *testing.T) {
	for _, list := range append(someArrivals(), brokenArrivals()...) {
		if len(list) > 10 {
			continue
		}
		n := len(list)
		given := withMoreArrivals(list)
		before := slices.Clone(given[:cap(given)])
		right := countingUp(n)
		slices.SortFunc(right, func(i int, j int) int { return cmp.Compare(list[i].Minute, list[j].Minute) })
		for _, high := range []bool{false, true} {
			for _, minutes := range []int{-1, 0, 1, 10, 60, 61, farNumbers[0]} {
				for _, order := range [][]int{nil, right, countingUp(n), append(slices.Clone(right), n), make([]int, n), farNumbers, farNumbers[:n]} {
					expectSameCourse(t, given, list, high, minutes, order)
				}
			}
		}
		if !slices.Equal(given[:cap(given)], before) {
			t.Fatalf("%v was changed to %v", before, given[:cap(given)])
		}
	}
}

// expectSameCourse calls all functions for both of two equal lists, the second time with the order in a slice of its own length.
func expectSameCourse(t *testing.T, a []impl.Arrival, b []impl.Arrival, high bool, minutes int, order []int) {
	t.Helper()
	given := append(slices.Clone(order), len(a), 0, -1)[:len(order)]
	before := slices.Clone(given[:cap(given)])
	if impl.AreArrivals(a) != impl.AreArrivals(b) || impl.IsLockageOrder(a, given) != impl.IsLockageOrder(b, order) {
		t.Errorf("IsLockageOrder(%v, %d) has read too far", b, order)
	}
	expectSameInts := func(name string, call func(list []impl.Arrival, order []int) ([]int, int, bool)) {
		l, m, ok := call(a, given)
		if k, n, fine := call(b, order); !slices.Equal(k, l) || n != m || ok != fine {
			t.Errorf("%s(%v, %v, %d, %d) = %d, %d, %v and %d, %d, %v", name, b, high, minutes, order, k, n, fine, l, m, ok)
		}
	}
	expectSameInts("LockageTimes", func(list []impl.Arrival, order []int) ([]int, int, bool) {
		times, ok := impl.LockageTimes(list, high, minutes, order)
		return times, 0, ok
	})
	expectSameInts("LockageDelay", func(list []impl.Arrival, order []int) ([]int, int, bool) {
		delay, ok := impl.LockageDelay(list, high, minutes, order)
		return nil, delay, ok
	})
	expectSameInts("BestLockages", func(list []impl.Arrival, order []int) ([]int, int, bool) {
		return impl.BestLockages(list, high, minutes)
	})
	expectSameInts("FirstComeLockages", func(list []impl.Arrival, order []int) ([]int, int, bool) {
		first, ok := impl.FirstComeLockages(list)
		return first, 0, ok
	})
	expectSameInts("EmptyTurns", func(list []impl.Arrival, order []int) ([]int, int, bool) {
		turns, ok := impl.EmptyTurns(list, high, order)
		return nil, turns, ok
	})
	expectSameInts("LastLockage", func(list []impl.Arrival, order []int) ([]int, int, bool) {
		end, ok := impl.LastLockage(list, high, minutes, order)
		return nil, end, ok
	})
	expectSameInts("LongestWait", func(list []impl.Arrival, order []int) ([]int, int, bool) {
		i, wait, ok := impl.LongestWait(list, high, minutes, order)
		return []int{i}, wait, ok
	})
	if !slices.Equal(given[:cap(given)], before) {
		t.Fatalf("%d was changed to %d", before, given[:cap(given)])
	}
}

// A result shares no memory with an argument, nor with a later result.
func TestResultsOfLockagesAreNew(t *testing.T) {
	for _, list := range someArrivals() {
		n := len(list)
		order := firstComeByCounting(list)
		expectNewInts(t, n, func() ([]int, bool) { return impl.LockageTimes(list, true, 10, order) })
		expectNewInts(t, n, func() ([]int, bool) { return impl.FirstComeLockages(list) })
		expectNewInts(t, n, func() ([]int, bool) {
			best, _, ok := impl.BestLockages(list, true, 10)
			return best, ok
		})
		if !slices.Equal(order, firstComeByCounting(list)) {
			t.Errorf("the order of %v was changed to %d", list, order)
		}
	}
}
