package tests

import (
	"cmp"
	"iter"
	"slices"
	"testing"

	"loop.example/g00924/impl"
)

// cargosOf returns vessels with Ids that ascend, and these pairs of Length and Cones.
func cargosOf(pairs ...[2]int) []impl.Cargo {
	list := []impl.Cargo{}
	for i, pair := range pairs {
		list = append(list, impl.Cargo{Id: 10*i + 10, Length: pair[0], Cones: pair[1]})
	}
	return list
}

// withIds returns a list in which the vessels have these Ids.
func withIds(list []impl.Cargo, ids ...int) []impl.Cargo {
	other := slices.Clone(list)
	for i := range other {
		other[i].Id = ids[i]
	}
	return other
}

// idsIn returns the Ids of a list in its order.
func idsIn(list []impl.Cargo) []int {
	ids := []int{}
	for _, c := range list {
		ids = append(ids, c.Id)
	}
	return ids
}

// inOrder returns the vessels of a list in an order of their indices.
func inOrder(list []impl.Cargo, order []int) []impl.Cargo {
	row := []impl.Cargo{}
	for _, i := range order {
		row = append(row, list[i])
	}
	return row
}

// someCargos returns lists of every number of vessels, with all Cones, with and without order of the Ids.
func someCargos() [][]impl.Cargo {
	return [][]impl.Cargo{
		nil,
		{},
		cargosOf([2]int{3, 0}),
		cargosOf([2]int{8, 3}),
		cargosOf([2]int{3, 1}, [2]int{2, 0}, [2]int{4, 3}),
		withIds(cargosOf([2]int{1, 2}, [2]int{1, 0}, [2]int{1, 2}), 30, 99, 1),
		withIds(cargosOf([2]int{2, 0}, [2]int{2, 0}, [2]int{1, 0}, [2]int{8, 0}), 9, 10, 2, 1),
		cargosOf([2]int{1, 1}, [2]int{1, 0}, [2]int{1, 0}, [2]int{1, 0}, [2]int{1, 1}),
		withIds(cargosOf([2]int{8, 0}, [2]int{1, 3}), 2, 1),
		withIds(cargosOf([2]int{8, 3}, [2]int{8, 3}, [2]int{8, 3}, [2]int{8, 3}, [2]int{8, 3}, [2]int{8, 3}), 6, 5, 4, 3, 2, 1),
		withIds(cargosOf([2]int{1, 2}, [2]int{5, 0}, [2]int{2, 3}, [2]int{7, 1}, [2]int{3, 0}, [2]int{1, 1}), 50, 1, 99, 9, 10, 2),
	}
}

// manyCargos yields all short lists of some vessels, and many of up to MaxRow, with Ids in ever other orders.
func manyCargos() iter.Seq[[]impl.Cargo] {
	return func(yield func([]impl.Cargo) bool) {
		k, orders := 0, ordersOf(6)
		give := func(pairs ...[2]int) bool {
			k++
			ids := []int{}
			for _, i := range orders[k*7%len(orders)] {
				ids = append(ids, []int{1, 2, 9, 10, 50, 99}[i])
			}
			return yield(withIds(cargosOf(pairs...), ids...))
		}
		for _, lengths := range [][]int{{1, 3}, {2, 8}} {
			for n := range 4 {
				for picked := range listsOver([]int{0, 1, 2, 3, 4, 5, 6, 7}, n) {
					pairs := [][2]int{}
					for _, number := range picked {
						pairs = append(pairs, [2]int{lengths[number/4], number % 4})
					}
					if !give(pairs...) {
						return
					}
				}
			}
		}
		next := sequence()
		for number := range 600 {
			pairs := [][2]int{}
			for range number%3 + 4 {
				pairs = append(pairs, [2]int{next(8) + 1, next(number%4 + 1)})
			}
			if !give(pairs...) {
				return
			}
		}
	}
}

// gapByTable returns the cells needed between vessels with Cones, apart from the program.
func gapByTable(x int, y int) int {
	return [][]int{{0, 1, 2, 5}, {1, 2, 3, 5}, {2, 3, 4, 5}, {5, 5, 5, 5}}[x][y]
}

// cellsApart counts the cells between two vessels, and tells whether there is none that both cover; cell by cell, apart from the
// program.
func cellsApart(a impl.Cargo, atA int, b impl.Cargo, atB int) (int, bool) {
	n := 0
	for cell := range 220 {
		beforeA, behindA := cell < atA, cell >= atA+a.Length
		beforeB, behindB := cell < atB, cell >= atB+b.Length
		if !beforeA && !behindA && !beforeB && !behindB {
			return 0, false
		}
		if behindA && beforeB || behindB && beforeA {
			n++
		}
	}
	return n, true
}

// unsafeByCells returns the pairs of Ids of vessels that are not far enough from one another, apart from the program.
func unsafeByCells(list []impl.Cargo, cells []int) [][]int {
	indices := []int{}
	for i := range list {
		indices = append(indices, i)
	}
	slices.SortFunc(indices, func(i int, j int) int { return cmp.Compare(list[i].Id, list[j].Id) })
	pairs := [][]int{}
	for k, i := range indices {
		for _, j := range indices[k+1:] {
			n, apart := cellsApart(list[i], cells[i], list[j], cells[j])
			if !apart || n < gapByTable(list[i].Cones, list[j].Cones) {
				pairs = append(pairs, []int{list[i].Id, list[j].Id})
			}
		}
	}
	return pairs
}

// placedByCells tries one cell after the other for each vessel, apart from the program.
func placedByCells(list []impl.Cargo) []int {
	cells := []int{}
	for i := range list {
		cell := 0
		if i > 0 {
			cell = cells[i-1] + list[i-1].Length
		}
		for len(unsafeByCells(list[:i+1], append(slices.Clone(cells), cell))) > 0 {
			cell++
		}
		cells = append(cells, cell)
	}
	return cells
}

// extentBySum adds the Lengths and the gaps of neighbours. No other gap counts: none is greater than those to a vessel in between.
func extentBySum(row []impl.Cargo) int {
	extent := 0
	for i, c := range row {
		extent += c.Length
		if i > 0 {
			extent += gapByTable(row[i-1].Cones, c.Cones)
		}
	}
	return extent
}

// shortestBySums looks at all orders, apart from the program.
func shortestBySums(list []impl.Cargo) ([]int, int) {
	best, extent := []int{}, -1
	for _, order := range ordersOf(len(list)) {
		row := inOrder(list, order)
		n := extentBySum(row)
		if extent < 0 || n < extent || n == extent && slices.Compare(idsIn(row), best) < 0 {
			best, extent = idsIn(row), n
		}
	}
	return best, extent
}

func samePairs(a [][]int, b [][]int) bool { return slices.EqualFunc(a, b, slices.Equal[[]int]) }

func TestLimitsOfRows(t *testing.T) {
	if impl.MaxRow != 6 {
		t.Error("MaxRow", impl.MaxRow)
	}
}

// Every number in its range is valid, and none beyond it.
func TestCargosThatAreValid(t *testing.T) {
	for _, c := range []impl.Cargo{{Id: 1, Length: 1, Cones: 0}, {Id: 99, Length: 8, Cones: 3}, {Id: 50, Length: 4, Cones: 1}} {
		for _, n := range append(farNumbers, -2, -1, 0, 1, 2, 3, 4, 5, 6, 7, 8, 9, 10, 98, 99, 100, 101) {
			expectCargo(t, impl.Cargo{Id: n, Length: c.Length, Cones: c.Cones}, 1 <= n && n <= 99)
			expectCargo(t, impl.Cargo{Id: c.Id, Length: n, Cones: c.Cones}, 1 <= n && n <= 8)
			expectCargo(t, impl.Cargo{Id: c.Id, Length: c.Length, Cones: n}, 0 <= n && n <= 3)
		}
	}
	for id := range 200 {
		for length := range 12 {
			for cones := range 6 {
				want := 1 <= id && id <= 99 && 1 <= length && length <= 8 && cones <= 3
				expectCargo(t, impl.Cargo{Id: id, Length: length, Cones: cones}, want)
			}
		}
	}
}

func expectCargo(t *testing.T, c impl.Cargo, want bool) {
	t.Helper()
	list := []impl.Cargo{c}
	if impl.IsCargoList(list) != want {
		t.Errorf("IsCargoList(%v) is not %v", list, want)
	}
	if !want {
		expectNoCargos(t, list)
		return
	}
	if cells, ok := impl.PlaceRow(list); !ok || !slices.Equal(cells, []int{0}) {
		t.Errorf("PlaceRow(%v) = %d, %v", list, cells, ok)
	}
	if n, ok := impl.RowExtent(list); !ok || n != c.Length {
		t.Errorf("RowExtent(%v) = %d, %v", list, n, ok)
	}
	if ids, n, ok := impl.ShortestRow(list); !ok || n != c.Length || !slices.Equal(ids, []int{c.Id}) {
		t.Errorf("ShortestRow(%v) = %d, %d, %v", list, ids, n, ok)
	}
	if id, ok := impl.MostDangerous(list); !ok || id != c.Id {
		t.Errorf("MostDangerous(%v) = %d, %v", list, id, ok)
	}
	for _, cell := range []int{0, 1, 199, 200} {
		expectPairs(t, list, []int{cell}, nil)
	}
	expectSharing(t, list, 0, true)
	expectSharing(t, list, 1, c.Cones < 2)
}

// expectPairs expects these pairs to be unsafe, and the row to be safe if there are none.
func expectPairs(t *testing.T, list []impl.Cargo, cells []int, want [][]int) {
	t.Helper()
	if pairs, ok := impl.UnsafePairs(list, cells); !ok || !samePairs(pairs, want) {
		t.Fatalf("UnsafePairs(%v, %d) = %d, %v instead of %d", list, cells, pairs, ok, want)
	}
	if safe, ok := impl.IsSafeRow(list, cells); !ok || safe != (len(want) == 0) {
		t.Fatalf("IsSafeRow(%v, %d) = %v, %v", list, cells, safe, ok)
	}
}

func expectNoPairs(t *testing.T, list []impl.Cargo, cells []int) {
	t.Helper()
	if pairs, ok := impl.UnsafePairs(list, cells); ok || len(pairs) != 0 {
		t.Errorf("UnsafePairs(%v, %d) = %d, %v", list, cells, pairs, ok)
	}
	if safe, ok := impl.IsSafeRow(list, cells); ok || safe {
		t.Errorf("IsSafeRow(%v, %d) = %v, %v", list, cells, safe, ok)
	}
}

func expectSharing(t *testing.T, list []impl.Cargo, passengers int, want bool) {
	t.Helper()
	if may, ok := impl.MayShareLock(list, passengers); !ok || may != want {
		t.Errorf("MayShareLock(%v, %d) = %v, %v", list, passengers, may, ok)
	}
}

func expectNoSharing(t *testing.T, list []impl.Cargo, passengers int) {
	t.Helper()
	if may, ok := impl.MayShareLock(list, passengers); ok || may {
		t.Errorf("MayShareLock(%v, %d) = %v, %v", list, passengers, may, ok)
	}
}

// expectNoCargos expects a list to be invalid, and all functions to fail for it.
func expectNoCargos(t *testing.T, list []impl.Cargo) {
	t.Helper()
	if impl.IsCargoList(list) {
		t.Errorf("IsCargoList(%v)", list)
	}
	if cells, ok := impl.PlaceRow(list); ok || len(cells) != 0 {
		t.Errorf("PlaceRow(%v) = %d, %v", list, cells, ok)
	}
	if n, ok := impl.RowExtent(list); ok || n != 0 {
		t.Errorf("RowExtent(%v) = %d, %v", list, n, ok)
	}
	if ids, n, ok := impl.ShortestRow(list); ok || n != 0 || len(ids) != 0 {
		t.Errorf("ShortestRow(%v) = %d, %d, %v", list, ids, n, ok)
	}
	if id, ok := impl.MostDangerous(list); ok || id != 0 {
		t.Errorf("MostDangerous(%v) = %d, %v", list, id, ok)
	}
	for _, passengers := range []int{-1, 0, 1, 1000, 1001} {
		expectNoSharing(t, list, passengers)
	}
	apart := []int{}
	for i := range list {
		apart = append(apart, 20*i%200)
	}
	expectNoPairs(t, list, apart)
	expectNoPairs(t, list, make([]int, len(list)))
	expectNoPairs(t, list, nil)
}

// No vessels at all, one, MaxRow, and more.
func TestListsOfManyCargos(t *testing.T) {
	for n := range 20 {
		list := cargosOf(slices.Repeat([][2]int{{1, 0}}, n)...)
		for i := range list {
			list[i].Id = i + 1
		}
		if impl.IsCargoList(list) != (n <= 6) {
			t.Errorf("IsCargoList of %d is %v", n, n > 6)
		}
		if n > 6 {
			expectNoCargos(t, list)
			continue
		}
		if extent, ok := impl.RowExtent(list); !ok || extent != n {
			t.Errorf("RowExtent of %d = %d, %v", n, extent, ok)
		}
	}
	for _, list := range someCargos() {
		for _, order := range ordersOf(len(list)) {
			if !impl.IsCargoList(inOrder(list, order)) {
				t.Errorf("IsCargoList(%v) is false", inOrder(list, order))
			}
		}
	}
}

// brokenCargos returns lists that are invalid in one respect each.
func brokenCargos() [][]impl.Cargo {
	right := cargosOf([2]int{1, 0}, [2]int{2, 3}, [2]int{8, 1}, [2]int{4, 2}, [2]int{1, 0}, [2]int{3, 1})
	lists := [][]impl.Cargo{
		make([]impl.Cargo, 1),
		make([]impl.Cargo, 6),
		append(slices.Clone(right), impl.Cargo{Id: 99, Length: 1}),
		slices.Repeat(right, 1000),
	}
	// Equal Ids: of neighbours, of the first and the last one, and of vessels that are equal altogether.
	for n := 2; n <= 6; n++ {
		for i := range n {
			for j := range i {
				sameId, same := slices.Clone(right[:n]), slices.Clone(right[:n])
				sameId[i].Id = right[j].Id
				same[i] = right[j]
				lists = append(lists, sameId, same)
			}
		}
	}
	breakWith := func(change func(c *impl.Cargo)) {
		for _, n := range []int{1, 2, 6} {
			for i := range n {
				list := slices.Clone(right[:n])
				change(&list[i])
				lists = append(lists, list)
			}
		}
	}
	for _, n := range append([]int{-1, 0, 100}, farNumbers...) {
		breakWith(func(c *impl.Cargo) { c.Id = n })
	}
	for _, n := range append([]int{-1, 0, 9}, farNumbers...) {
		breakWith(func(c *impl.Cargo) { c.Length = n })
	}
	for _, n := range append([]int{-1, 4}, farNumbers...) {
		breakWith(func(c *impl.Cargo) { c.Cones = n })
	}
	return lists
}

func TestListsThatAreNoCargos(t *testing.T) {
	for _, list := range brokenCargos() {
		expectNoCargos(t, list)
	}
}

// All pairs of Cones in their range and beyond it, in both orders.
func TestNeededGap(t *testing.T) {
	numbers := append([]int{-1, 0, 1, 2, 3, 4, 5}, farNumbers...)
	for _, x := range numbers {
		for _, y := range numbers {
			want, right := 0, 0 <= x && x <= 3 && 0 <= y && y <= 3
			if right {
				want = gapByTable(x, y)
			}
			if n, ok := impl.NeededGap(x, y); ok != right || n != want {
				t.Errorf("NeededGap(%d, %d) = %d, %v", x, y, n, ok)
			}
		}
	}
}

func TestPlaceRow(t *testing.T) {
	for _, c := range []struct {
		name   string
		pairs  [][2]int
		want   []int
		extent int
	}{
		{"no vessels", nil, nil, 0},
		{"the shortest one", [][2]int{{1, 0}}, []int{0}, 1},
		{"the longest one, with the most Cones", [][2]int{{8, 3}}, []int{0}, 8},
		{"no Cones", [][2]int{{2, 0}, {1, 0}, {8, 0}}, []int{0, 2, 3}, 11},
		{"one and none", [][2]int{{2, 1}, {3, 0}}, []int{0, 3}, 6},
		{"none and one", [][2]int{{2, 0}, {3, 1}}, []int{0, 3}, 6},
		{"two and none", [][2]int{{2, 2}, {3, 0}}, []int{0, 4}, 7},
		{"three and none", [][2]int{{2, 3}, {3, 0}}, []int{0, 7}, 10},
		{"none and three", [][2]int{{2, 0}, {3, 3}}, []int{0, 7}, 10},
		{"one and one", [][2]int{{1, 1}, {1, 1}}, []int{0, 3}, 4},
		{"one and two", [][2]int{{1, 1}, {1, 2}}, []int{0, 4}, 5},
		{"two and two", [][2]int{{1, 2}, {1, 2}}, []int{0, 5}, 6},
		{"two and three", [][2]int{{1, 2}, {1, 3}}, []int{0, 6}, 7},
		{"three and three", [][2]int{{1, 3}, {1, 3}}, []int{0, 6}, 7},
		{"three gaps", [][2]int{{3, 1}, {2, 0}, {4, 3}}, []int{0, 4, 11}, 15},
		{"none between one and one", [][2]int{{1, 1}, {1, 0}, {1, 1}}, []int{0, 2, 4}, 5},
		{"none between two and two", [][2]int{{1, 2}, {1, 0}, {1, 2}}, []int{0, 3, 6}, 7},
		{"none between three and three", [][2]int{{1, 3}, {1, 0}, {1, 3}}, []int{0, 6, 12}, 13},
		{"two without between three and three", [][2]int{{1, 3}, {1, 0}, {1, 0}, {1, 3}}, []int{0, 6, 7, 13}, 14},
		{"two behind three without", [][2]int{{2, 0}, {2, 0}, {2, 0}, {1, 2}}, []int{0, 2, 4, 8}, 9},
		{"three behind one and three without", [][2]int{{1, 1}, {1, 0}, {1, 0}, {1, 0}, {1, 3}}, []int{0, 2, 3, 4, 10}, 11},
		{"three between none and none", [][2]int{{1, 0}, {1, 3}, {1, 0}}, []int{0, 6, 12}, 13},
		{"MaxRow without", slices.Repeat([][2]int{{8, 0}}, 6), []int{0, 8, 16, 24, 32, 40}, 48},
		{"MaxRow with three", slices.Repeat([][2]int{{8, 3}}, 6), []int{0, 13, 26, 39, 52, 65}, 73},
	} {
		list := cargosOf(c.pairs...)
		if cells, ok := impl.PlaceRow(list); !ok || !slices.Equal(cells, c.want) {
			t.Errorf("%s: PlaceRow(%v) = %d, %v", c.name, list, cells, ok)
		}
		if n, ok := impl.RowExtent(list); !ok || n != c.extent {
			t.Errorf("%s: RowExtent(%v) = %d, %v", c.name, list, n, ok)
		}
		// The Ids do not count.
		other := withIds(list, 99, 3, 98, 1, 50, 2)
		if cells, ok := impl.PlaceRow(other); !ok || !slices.Equal(cells, c.want) {
			t.Errorf("%s: PlaceRow(%v) = %d, %v", c.name, other, cells, ok)
		}
		if n, ok := impl.RowExtent(other); !ok || n != c.extent {
			t.Errorf("%s: RowExtent(%v) = %d, %v", c.name, other, n, ok)
		}
	}
}

// P7: vessels that are placed are a safe row, and no longer one if one begins a cell earlier.
func TestPlacedVesselsAreASafeRow(t *testing.T) {
	for list := range manyCargos() {
		want := placedByCells(list)
		cells, ok := impl.PlaceRow(list)
		if !ok || !slices.Equal(cells, want) {
			t.Fatalf("PlaceRow(%v) = %d, %v instead of %d", list, cells, ok, want)
		}
		expectPairs(t, list, cells, nil)
		if n, ok := impl.RowExtent(list); !ok || n != extentBySum(list) {
			t.Fatalf("RowExtent(%v) = %d, %v", list, n, ok)
		}
		for i := 1; i < len(list); i++ {
			earlier := slices.Clone(cells[:i+1])
			earlier[i]--
			if safe, ok := impl.IsSafeRow(list[:i+1], earlier); !ok || safe {
				t.Fatalf("IsSafeRow(%v, %d) = %v, %v", list[:i+1], earlier, safe, ok)
			}
		}
	}
}

// rowToJudge is a list with first cells, and the pairs of Ids that are unsafe.
type rowToJudge struct {
	list  []impl.Cargo
	cells []int
	want  [][]int
}

// rowsToJudge returns rows in which vessels touch each other, cover the same cells, or are just far enough from or too near to others.
func rowsToJudge() []rowToJudge {
	three := cargosOf([2]int{3, 1}, [2]int{2, 0}, [2]int{4, 3})
	plain := cargosOf([2]int{2, 0}, [2]int{2, 0}, [2]int{1, 0})
	long := cargosOf([2]int{8, 0}, [2]int{1, 0})
	twos := cargosOf([2]int{1, 2}, [2]int{1, 0}, [2]int{1, 2})
	threes := cargosOf([2]int{1, 3}, [2]int{1, 0}, [2]int{1, 3})
	five := cargosOf([2]int{1, 1}, [2]int{1, 0}, [2]int{1, 0}, [2]int{1, 0}, [2]int{1, 1})
	mixed := withIds(slices.Repeat(cargosOf([2]int{1, 0}), 4), 99, 9, 10, 1)
	all := [][]int{{10, 20}, {10, 30}, {20, 30}}
	return []rowToJudge{
		{nil, nil, nil},
		{[]impl.Cargo{}, []int{}, nil},
		{three, []int{0, 4, 11}, nil},
		{three, []int{0, 4, 10}, [][]int{{20, 30}}},
		{three, []int{0, 3, 11}, [][]int{{10, 20}}},
		{three, []int{0, 1, 7}, all},
		{three, []int{0, 2, 100}, [][]int{{10, 20}}},
		// From behind.
		{three, []int{12, 9, 0}, nil},
		{three, []int{11, 9, 0}, [][]int{{10, 20}}},
		{three, []int{12, 8, 0}, [][]int{{20, 30}}},
		{three, []int{11, 4, 0}, [][]int{{20, 30}}},
		{three, []int{11, 4, 200}, nil},
		{three, []int{200, 4, 11}, nil},
		{three, []int{200, 200, 200}, all},
		{three, []int{0, 0, 200}, [][]int{{10, 20}}},
		// Without Cones, in any order: touching each other, and with cells that are covered twice.
		{plain, []int{0, 2, 4}, nil},
		{plain, []int{4, 2, 0}, nil},
		{plain, []int{1, 3, 0}, nil},
		{plain, []int{0, 1, 4}, [][]int{{10, 20}}},
		{plain, []int{1, 0, 3}, [][]int{{10, 20}}},
		{plain, []int{0, 3, 1}, [][]int{{10, 30}}},
		{plain, []int{3, 0, 1}, [][]int{{20, 30}}},
		{plain, []int{5, 5, 0}, [][]int{{10, 20}}},
		{plain, []int{0, 0, 0}, all},
		{long, []int{0, 8}, nil},
		{long, []int{0, 7}, [][]int{{10, 20}}},
		{long, []int{0, 3}, [][]int{{10, 20}}},
		{long, []int{1, 0}, nil},
		{long, []int{192, 200}, nil},
		{long, []int{193, 200}, [][]int{{10, 20}}},
		{long, []int{200, 199}, nil},
		{long, []int{200, 200}, [][]int{{10, 20}}},
		// Distances from vessels that are not neighbours.
		{twos, []int{0, 3, 6}, nil},
		{twos, []int{0, 1, 4}, [][]int{{10, 20}, {10, 30}}},
		{twos, []int{0, 3, 5}, [][]int{{20, 30}}},
		{twos, []int{0, 3, 4}, [][]int{{10, 30}, {20, 30}}},
		{twos, []int{4, 3, 0}, [][]int{{10, 20}, {10, 30}}},
		{threes, []int{0, 6, 12}, nil},
		{threes, []int{0, 3, 6}, [][]int{{10, 20}, {20, 30}}},
		{threes, []int{0, 2, 5}, all},
		{threes, []int{5, 2, 0}, all},
		{threes, []int{0, 100, 5}, [][]int{{10, 30}}},
		{five, []int{0, 2, 3, 4, 6}, nil},
		{five, []int{0, 2, 3, 4, 5}, [][]int{{40, 50}}},
		{five, []int{0, 1, 2, 3, 4}, [][]int{{10, 20}, {40, 50}}},
		{five, []int{0, 7, 8, 9, 2}, [][]int{{10, 50}}},
		// Ids that are not in the order of the list, and that would be in another order as texts.
		{withIds(plain, 30, 10, 20), []int{0, 0, 0}, all},
		{withIds(three, 30, 20, 10), []int{0, 4, 10}, [][]int{{10, 20}}},
		{withIds(three, 30, 20, 10), []int{0, 3, 11}, [][]int{{20, 30}}},
		{withIds(twos, 20, 30, 10), []int{0, 1, 4}, [][]int{{10, 20}, {20, 30}}},
		{mixed, []int{0, 0, 0, 0}, [][]int{{1, 9}, {1, 10}, {1, 99}, {9, 10}, {9, 99}, {10, 99}}},
		{mixed, []int{0, 1, 0, 1}, [][]int{{1, 9}, {10, 99}}},
	}
}

func TestRowsThatAreSafe(t *testing.T) {
	for _, c := range rowsToJudge() {
		expectPairs(t, c.list, c.cells, c.want)
		// Neither the order of the list counts nor, up to the last cell, where it begins.
		for _, order := range ordersOf(len(c.list)) {
			cells := []int{}
			for _, i := range order {
				cells = append(cells, c.cells[i])
			}
			expectPairs(t, inOrder(c.list, order), cells, c.want)
			for len(cells) > 0 && slices.Max(cells) < 200 {
				for i := range cells {
					cells[i]++
				}
				expectPairs(t, inOrder(c.list, order), cells, c.want)
			}
		}
	}
}

// Gaps that are exactly enough and one cell too small, on either side, for all Cones.
func TestGapsThatAreExactlyEnough(t *testing.T) {
	for picked := range listsOver([]int{0, 1, 2, 3}, 2) {
		for lengths := range listsOver([]int{1, 2, 8}, 2) {
			list := cargosOf([2]int{lengths[0], picked[0]}, [2]int{lengths[1], picked[1]})
			gap := gapByTable(picked[0], picked[1])
			tooNear := [][]int{{10, 20}}
			for _, cell := range []int{0, 1, 20, 100, 185} {
				behind := cell + lengths[0] + gap
				expectPairs(t, list, []int{cell, behind}, nil)
				expectPairs(t, list, []int{cell, behind + 1}, nil)
				expectPairs(t, list, []int{cell, behind - 1}, tooNear)
				behind = cell + lengths[1] + gap
				expectPairs(t, list, []int{behind, cell}, nil)
				expectPairs(t, list, []int{behind + 1, cell}, nil)
				expectPairs(t, list, []int{behind - 1, cell}, tooNear)
			}
		}
	}
}

// Every distance of two vessels, cell by cell.
func TestPairsOfTwoVessels(t *testing.T) {
	for picked := range listsOver([]int{0, 1, 2, 3}, 2) {
		for lengths := range listsOver([]int{1, 3, 8}, 2) {
			list := withIds(cargosOf([2]int{lengths[0], picked[0]}, [2]int{lengths[1], picked[1]}), 7, 3)
			for _, first := range []int{0, 10, 100, 200} {
				for second := max(0, first-15); second <= min(200, first+15); second++ {
					cells := []int{first, second}
					expectPairs(t, list, cells, unsafeByCells(list, cells))
				}
			}
		}
	}
}

// Vessels anywhere, near to and far from each other, cell by cell.
func TestPairsOfManyRows(t *testing.T) {
	next := sequence()
	for list := range manyCargos() {
		for _, width := range []int{8, 40, 201} {
			cells := []int{}
			for range list {
				cells = append(cells, next(width))
			}
			expectPairs(t, list, cells, unsafeByCells(list, cells))
		}
	}
	// All pairs of MaxRow vessels.
	list := withIds(slices.Repeat(cargosOf([2]int{1, 0}), 6), 6, 2, 4, 1, 5, 3)
	want := [][]int{}
	for a := 1; a <= 6; a++ {
		for b := a + 1; b <= 6; b++ {
			want = append(want, []int{a, b})
		}
	}
	expectPairs(t, list, make([]int, 6), want)
}

// Cells at their limits and beyond them, and fewer and more cells than vessels.
func TestCellsOfVessels(t *testing.T) {
	for _, list := range someCargos() {
		right := placedByCells(list)
		expectPairs(t, list, right, nil)
		for _, cells := range [][]int{append(slices.Clone(right), 0), append(slices.Clone(right), 100), append(slices.Clone(right), 150, 200)} {
			expectNoPairs(t, list, cells)
		}
		for n := range right {
			expectNoPairs(t, list, right[:n])
		}
		for i := range list {
			cells := slices.Clone(right)
			for _, n := range append([]int{-2, -1, 201, 202}, farNumbers...) {
				cells[i] = n
				expectNoPairs(t, list, cells)
			}
			for _, n := range []int{0, 200} {
				cells[i] = n
				expectPairs(t, list, cells, unsafeByCells(list, cells))
			}
		}
	}
}

func TestShortestRow(t *testing.T) {
	for _, c := range []struct {
		name   string
		list   []impl.Cargo
		want   []int
		extent int
	}{
		{"no vessels", nil, nil, 0},
		{"one", withIds(cargosOf([2]int{8, 3}), 99), []int{99}, 8},
		{"two", withIds(cargosOf([2]int{2, 1}, [2]int{3, 2}), 10, 9), []int{9, 10}, 8},
		{"none between", cargosOf([2]int{3, 1}, [2]int{2, 0}, [2]int{4, 3}), []int{10, 20, 30}, 15},
		{"two with three behind each other", cargosOf([2]int{1, 3}, [2]int{1, 3}, [2]int{1, 0}, [2]int{1, 0}), []int{10, 20, 30, 40}, 14},
		{"with three at both ends", cargosOf([2]int{1, 3}, [2]int{1, 0}, [2]int{1, 3}, [2]int{1, 0}), []int{10, 20, 40, 30}, 14},
		{"with two at both ends", cargosOf([2]int{1, 2}, [2]int{1, 0}, [2]int{1, 2}, [2]int{1, 1}), []int{10, 20, 40, 30}, 10},
		{"the first one within", cargosOf([2]int{5, 0}, [2]int{1, 1}, [2]int{1, 2}), []int{20, 10, 30}, 10},
		{"the most Cones first", cargosOf([2]int{1, 2}, [2]int{1, 1}, [2]int{1, 1}), []int{10, 20, 30}, 8},
		{"the most Cones at the end", cargosOf([2]int{1, 1}, [2]int{1, 1}, [2]int{1, 2}), []int{10, 20, 30}, 8},
		{"the most Cones not within", cargosOf([2]int{1, 1}, [2]int{1, 2}, [2]int{1, 1}), []int{10, 30, 20}, 8},
		{"all equal", withIds(slices.Repeat(cargosOf([2]int{2, 1}), 6), 5, 3, 6, 1, 4, 2), []int{1, 2, 3, 4, 5, 6}, 22},
		{"no Cones", withIds(cargosOf([2]int{8, 0}, [2]int{1, 0}, [2]int{5, 0}), 11, 99, 2), []int{2, 11, 99}, 14},
		{"MaxRow with three", withIds(slices.Repeat(cargosOf([2]int{8, 3}), 6), 6, 5, 4, 3, 2, 1), []int{1, 2, 3, 4, 5, 6}, 73},
	} {
		if ids, n, ok := impl.ShortestRow(c.list); !ok || n != c.extent || !slices.Equal(ids, c.want) {
			t.Errorf("%s: ShortestRow(%v) = %d, %d, %v", c.name, c.list, ids, n, ok)
		}
	}
}

// P7: no order has a smaller extent than the shortest one, and none with the same extent has smaller Ids.
func TestNoRowIsShorter(t *testing.T) {
	for list := range manyCargos() {
		ids, extent, ok := impl.ShortestRow(list)
		if want, n := shortestBySums(list); !ok || extent != n || !slices.Equal(ids, want) {
			t.Fatalf("ShortestRow(%v) = %d, %d, %v instead of %d, %d", list, ids, extent, ok, want, n)
		}
		found := false
		for _, order := range ordersOf(len(list)) {
			row := inOrder(list, order)
			n, ok := impl.RowExtent(row)
			if !ok || n < extent || n == extent && slices.Compare(idsIn(row), ids) < 0 {
				t.Fatalf("RowExtent(%v) = %d, %v, but ShortestRow has %d, %d", row, n, ok, ids, extent)
			}
			found = found || n == extent && slices.Equal(idsIn(row), ids)
		}
		if !found {
			t.Fatalf("no order of %v has the Ids %d and the extent %d", list, ids, extent)
		}
	}
}

// The shortest row of MaxRow vessels is the same whatever their order in the list.
func TestShortestRowOfEveryOrder(t *testing.T) {
	for _, list := range [][]impl.Cargo{
		cargosOf([2]int{1, 2}, [2]int{5, 0}, [2]int{2, 3}, [2]int{7, 1}, [2]int{3, 0}, [2]int{1, 1}),
		withIds(cargosOf([2]int{1, 1}, [2]int{2, 1}, [2]int{3, 1}, [2]int{4, 1}, [2]int{5, 1}, [2]int{6, 2}), 1, 2, 9, 10, 11, 99),
	} {
		want, extent := shortestBySums(list)
		for _, order := range ordersOf(6) {
			row := inOrder(list, order)
			if ids, n, ok := impl.ShortestRow(row); !ok || n != extent || !slices.Equal(ids, want) {
				t.Fatalf("ShortestRow(%v) = %d, %d, %v instead of %d, %d", row, ids, n, ok, want, extent)
			}
			if cells, ok := impl.PlaceRow(row); !ok || !slices.Equal(cells, placedByCells(row)) {
				t.Fatalf("PlaceRow(%v) = %d, %v", row, cells, ok)
			}
		}
	}
}

// None, one and two Cones, and numbers of passengers at their limits and beyond them.
func TestMayShareLock(t *testing.T) {
	for picked := range listsOver([]int{0, 1, 2, 3}, 3) {
		for n := range 4 {
			list := cargosOf([2]int{1, picked[0]}, [2]int{8, picked[1]}, [2]int{3, picked[2]})[:n]
			harmless := true
			for _, c := range list {
				harmless = harmless && c.Cones != 2 && c.Cones != 3
			}
			expectSharing(t, list, 0, true)
			for _, passengers := range []int{1, 2, 500, 999, 1000} {
				expectSharing(t, list, passengers, harmless)
			}
			for _, passengers := range append([]int{-2, -1, 1001, 1002}, farNumbers...) {
				expectNoSharing(t, list, passengers)
			}
		}
	}
	for _, passengers := range []int{0, 1, 1000} {
		expectSharing(t, nil, passengers, true)
		// Cones do not add up.
		expectSharing(t, cargosOf(slices.Repeat([][2]int{{1, 1}}, 6)...), passengers, true)
		expectSharing(t, cargosOf(append(slices.Repeat([][2]int{{1, 0}}, 5), [2]int{1, 2})...), passengers, passengers == 0)
	}
}

func TestMostDangerous(t *testing.T) {
	for _, c := range []struct {
		list []impl.Cargo
		want int
	}{
		{cargosOf([2]int{1, 0}), 10},
		{cargosOf([2]int{8, 0}, [2]int{1, 1}), 20},
		{cargosOf([2]int{8, 2}, [2]int{1, 3}, [2]int{7, 1}), 20},
		// Equally many Cones.
		{cargosOf([2]int{3, 2}, [2]int{4, 2}, [2]int{8, 1}), 20},
		{cargosOf([2]int{4, 2}, [2]int{3, 2}, [2]int{8, 1}), 10},
		{cargosOf([2]int{2, 0}, [2]int{1, 0}, [2]int{8, 0}), 30},
		// Of equal Length as well.
		{cargosOf([2]int{3, 2}, [2]int{4, 2}, [2]int{4, 2}), 20},
		{withIds(cargosOf([2]int{4, 2}, [2]int{4, 2}, [2]int{3, 2}), 50, 9, 1), 9},
		{withIds(cargosOf([2]int{4, 2}, [2]int{4, 2}, [2]int{3, 3}), 2, 1, 99), 99},
		{withIds(slices.Repeat(cargosOf([2]int{4, 1}), 6), 10, 9, 99, 11, 8, 20), 8},
	} {
		for _, order := range ordersOf(len(c.list)) {
			row := inOrder(c.list, order)
			if id, ok := impl.MostDangerous(row); !ok || id != c.want {
				t.Errorf("MostDangerous(%v) = %d, %v", row, id, ok)
			}
		}
	}
	for _, list := range [][]impl.Cargo{nil, {}} {
		if id, ok := impl.MostDangerous(list); ok || id != 0 {
			t.Errorf("MostDangerous of none = %d, %v", id, ok)
		}
	}
}

// Against all that no other one comes before.
func TestMostDangerousOfMany(t *testing.T) {
	for list := range manyCargos() {
		want := 0
		for _, c := range list {
			first := true
			for _, d := range list {
				longer := d.Length > c.Length || d.Length == c.Length && d.Id < c.Id
				first = first && d.Cones <= c.Cones && (d.Cones < c.Cones || !longer)
			}
			if first {
				want = c.Id
			}
		}
		if id, ok := impl.MostDangerous(list); ok != (len(list) > 0) || id != want {
			t.Fatalf("MostDangerous(%v) = %d, %v", list, id, ok)
		}
	}
}

// withMoreCargos returns vessels in a slice that has room behind them, and that room filled with what would make them others.
func withMoreCargos(list []impl.Cargo) []impl.Cargo {
	more := append(slices.Clone(list), impl.Cargo{Id: 77, Length: 8, Cones: 3}, impl.Cargo{Id: 77, Length: -1, Cones: 9})
	return more[:len(list)]
}

// withMoreCells returns first cells in a slice that has room behind them, and that room filled.
func withMoreCells(cells []int) []int { return append(slices.Clone(cells), 0, 0, -1, 201)[:len(cells)] }

// P29: all functions return whatever their arguments, the same when called again, and leave their arguments as they are, also
// beyond their lengths, where what stands plays no part.
func TestCargoFunctionsLeaveTheirArguments(t *testing.T) {
	for _, list := range append(someCargos(), brokenCargos()...) {
		if len(list) > 10 {
			continue
		}
		given := withMoreCargos(list)
		before := slices.Clone(given[:cap(given)])
		expectSameRows(t, given, list)
		for _, passengers := range append([]int{-1, 0, 1, 1000, 1001}, farNumbers...) {
			may, ok := impl.MayShareLock(given, passengers)
			if again, fine := impl.MayShareLock(list, passengers); again != may || ok != fine {
				t.Errorf("MayShareLock(%v, %d) = %v and %v", list, passengers, again, may)
			}
		}
		placed, _ := impl.PlaceRow(list)
		for _, cells := range [][]int{nil, placed, make([]int, len(list)), append(slices.Clone(placed), 0), {200}, farNumbers, farNumbers[:len(list)]} {
			expectSamePairs(t, given, list, cells)
		}
		if !slices.Equal(given[:cap(given)], before) {
			t.Fatalf("%v was changed to %v", before, given[:cap(given)])
		}
	}
}

// expectSameRows calls the functions that take vessels alone for both of two equal lists.
func expectSameRows(t *testing.T, a []impl.Cargo, b []impl.Cargo) {
	t.Helper()
	if impl.IsCargoList(a) != impl.IsCargoList(b) {
		t.Errorf("IsCargoList(%v) has read too far", b)
	}
	cells, ok := impl.PlaceRow(a)
	if l, fine := impl.PlaceRow(b); !slices.Equal(l, cells) || ok != fine {
		t.Errorf("PlaceRow(%v) = %d and %d", b, l, cells)
	}
	m, ok := impl.RowExtent(a)
	if n, fine := impl.RowExtent(b); n != m || ok != fine {
		t.Errorf("RowExtent(%v) = %d and %d", b, n, m)
	}
	ids, m, ok := impl.ShortestRow(a)
	if l, n, fine := impl.ShortestRow(b); !slices.Equal(l, ids) || n != m || ok != fine {
		t.Errorf("ShortestRow(%v) = %d, %d and %d, %d", b, l, n, ids, m)
	}
	m, ok = impl.MostDangerous(a)
	if n, fine := impl.MostDangerous(b); n != m || ok != fine {
		t.Errorf("MostDangerous(%v) = %d and %d", b, n, m)
	}
}

// expectSamePairs calls the functions that take first cells for both of two equal lists.
func expectSamePairs(t *testing.T, a []impl.Cargo, b []impl.Cargo, cells []int) {
	t.Helper()
	given := withMoreCells(cells)
	before := slices.Clone(given[:cap(given)])
	safe, ok := impl.IsSafeRow(a, given)
	if again, fine := impl.IsSafeRow(b, cells); again != safe || ok != fine {
		t.Errorf("IsSafeRow(%v, %d) = %v and %v", b, cells, again, safe)
	}
	pairs, ok := impl.UnsafePairs(a, given)
	if l, fine := impl.UnsafePairs(b, cells); !samePairs(l, pairs) || ok != fine {
		t.Errorf("UnsafePairs(%v, %d) = %d and %d", b, cells, l, pairs)
	}
	if !slices.Equal(given[:cap(given)], before) {
		t.Fatalf("%d was changed to %d", before, given[:cap(given)])
	}
}

// A result shares no memory with an argument, nor with a later result, nor do two pairs of one.
func TestResultsOfRowsAreNew(t *testing.T) {
	for _, list := range someCargos() {
		n := len(list)
		expectNewInts(t, n, func() ([]int, bool) { return impl.PlaceRow(list) })
		expectNewInts(t, n, func() ([]int, bool) {
			ids, _, ok := impl.ShortestRow(list)
			return ids, ok
		})
		cells := make([]int, n)
		want := unsafeByCells(list, cells)
		for i := range want {
			pairs, ok := impl.UnsafePairs(list, cells)
			if !ok || !samePairs(pairs, want) {
				t.Fatalf("UnsafePairs(%v, %d) = %d, %v", list, cells, pairs, ok)
			}
			whole := pairs[i][:cap(pairs[i])]
			for k := range whole {
				whole[k] = -1
			}
			if !samePairs(pairs[:i], want[:i]) || !samePairs(pairs[i+1:], want[i+1:]) || !slices.Equal(cells, make([]int, n)) {
				t.Errorf("UnsafePairs(%v, %d) has shared memory: %d", list, cells, pairs)
			}
		}
	}
}
