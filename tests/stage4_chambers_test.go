package tests

import (
	"cmp"
	"iter"
	"math"
	"slices"
	"strings"
	"testing"

	"loop.example/g00924/impl"
)

// The letters of the hulls in a picture, in order.
const lettersOfHulls = "abcd"

func chamberOf(length int, width int) impl.Chamber {
	return impl.Chamber{Length: length, Width: width}
}

// allChambers returns every valid Chamber.
func allChambers() []impl.Chamber {
	list := []impl.Chamber{}
	for length := 1; length <= 6; length++ {
		for width := 1; width <= 3; width++ {
			list = append(list, chamberOf(length, width))
		}
	}
	return list
}

// brokenChambers returns Chambers that are invalid in one respect each, and the zero Chamber.
func brokenChambers() []impl.Chamber {
	list := []impl.Chamber{{}}
	for _, n := range append([]int{-1, 0, 7}, farNumbers...) {
		list = append(list, chamberOf(n, 1), chamberOf(n, 3))
	}
	for _, n := range append([]int{-1, 0, 4}, farNumbers...) {
		list = append(list, chamberOf(1, n), chamberOf(6, n))
	}
	return list
}

// hullsWith returns hulls with Ids that ascend, and a Length and a Width from each of the shapes.
func hullsWith(shapes ...[2]int) []impl.Hull {
	list := []impl.Hull{}
	for i, s := range shapes {
		list = append(list, impl.Hull{Id: 20*i + 7, Length: s[0], Width: s[1]})
	}
	return list
}

// allShapes returns the Length and the Width of every valid Hull.
func allShapes() [][2]int {
	list := [][2]int{}
	for _, c := range allChambers() {
		list = append(list, [2]int{c.Length, c.Width})
	}
	return list
}

// manyHulls yields every Hull and every two, and a part of every three and every four that is another one for each k.
func manyHulls(k int) iter.Seq[[]impl.Hull] {
	return func(yield func([]impl.Hull) bool) {
		shapes := allShapes()
		steps := []int{1, 1, 5, 401}
		lists := 1
		for n, step := range steps {
			lists *= len(shapes)
			for number := k % step; number < lists; number += step {
				chosen := [][2]int{}
				for rest := number; len(chosen) <= n; rest /= len(shapes) {
					chosen = append(chosen, shapes[rest%len(shapes)])
				}
				if !yield(hullsWith(chosen...)) {
					return
				}
			}
		}
	}
}

// brokenHulls returns lists that are not hulls, in one respect each.
func brokenHulls() [][]impl.Hull {
	right := hullsWith([2]int{1, 1}, [2]int{2, 1}, [2]int{1, 2}, [2]int{1, 1})
	list := [][]impl.Hull{
		make([]impl.Hull, 1),
		{right[1], right[0]},
		{right[0], right[2], right[1]},
		{right[0], right[0]},
		{right[0], {Id: right[0].Id, Length: 2, Width: 2}},
		{right[0], right[1], {Id: right[1].Id, Length: 1, Width: 1}},
		append(slices.Clone(right), impl.Hull{Id: 99, Length: 1, Width: 1}),
		slices.Repeat(right, 1000),
	}
	breakWith := func(change func(h *impl.Hull)) {
		for n := 1; n <= 4; n++ {
			hulls := slices.Clone(right[:n])
			change(&hulls[n-1])
			list = append(list, hulls)
		}
		hulls := slices.Clone(right)
		change(&hulls[0])
		list = append(list, hulls)
	}
	for _, n := range append([]int{-1, 0, 100}, farNumbers...) {
		breakWith(func(h *impl.Hull) { h.Id = n })
	}
	for _, n := range append([]int{-1, 0, 7}, farNumbers...) {
		breakWith(func(h *impl.Hull) { h.Length = n })
	}
	for _, n := range append([]int{-1, 0, 4}, farNumbers...) {
		breakWith(func(h *impl.Hull) { h.Width = n })
	}
	return list
}

// someHulls returns no hulls, and hulls of every number: those that fit together, that do not, and that do not fit alone.
func someHulls() [][]impl.Hull {
	return [][]impl.Hull{
		nil,
		{},
		hullsWith([2]int{1, 1}),
		hullsWith([2]int{6, 3}),
		hullsWith([2]int{2, 3}, [2]int{4, 3}),
		hullsWith([2]int{2, 1}, [2]int{6, 1}, [2]int{2, 1}),
		hullsWith([2]int{1, 3}, [2]int{2, 2}, [2]int{3, 1}, [2]int{1, 1}),
		hullsWith([2]int{6, 2}, [2]int{3, 3}, [2]int{3, 2}, [2]int{5, 1}),
		hullsWith([2]int{1, 1}, [2]int{1, 1}, [2]int{1, 1}, [2]int{1, 1}),
		{{Id: 1, Length: 1, Width: 1}, {Id: 2, Length: 6, Width: 1}, {Id: 98, Length: 1, Width: 3}, {Id: 99, Length: 2, Width: 2}},
	}
}

// cellsAt returns the numbers of the cells that a Hull covers at a Spot, one after the other, and false if one is not in the Chamber.
func cellsAt(c impl.Chamber, h impl.Hull, s impl.Spot) ([]int, bool) {
	cells := []int{}
	for at := s.At; at != s.At+h.Length; at++ {
		for side := s.Side; side != s.Side+h.Width; side++ {
			if at < 0 || at >= c.Length || side < 0 || side >= c.Width {
				return nil, false
			}
			cells = append(cells, side*c.Length+at)
		}
	}
	return cells, true
}

// ownersOf returns the index of the hull that covers each cell, -1 for a free one, and false if spots are no packing; cell by cell,
// apart from the program.
func ownersOf(c impl.Chamber, hulls []impl.Hull, spots []impl.Spot) ([]int, bool) {
	if len(hulls) != len(spots) {
		return nil, false
	}
	owners := slices.Repeat([]int{-1}, c.Length*c.Width)
	for i, h := range hulls {
		cells, ok := cellsAt(c, h, spots[i])
		if !ok {
			return nil, false
		}
		for _, cell := range cells {
			if owners[cell] >= 0 {
				return nil, false
			}
			owners[cell] = i
		}
	}
	return owners, true
}

// spotsAround returns all Spots in a Chamber and those that are beyond it by up to two cells.
func spotsAround(c impl.Chamber) []impl.Spot {
	list := []impl.Spot{}
	for at := -2; at <= c.Length+1; at++ {
		for side := -2; side <= c.Width+1; side++ {
			list = append(list, impl.Spot{At: at, Side: side})
		}
	}
	return list
}

func compareSpots(a impl.Spot, b impl.Spot) int {
	return cmp.Or(cmp.Compare(a.At, b.At), cmp.Compare(a.Side, b.Side))
}

// maskAt returns the cells that a Hull covers at a Spot as bits, and false if one is not in the Chamber.
func maskAt(c impl.Chamber, h impl.Hull, s impl.Spot) (int, bool) {
	cells, ok := cellsAt(c, h, s)
	mask := 0
	for _, cell := range cells {
		mask |= 1 << cell
	}
	return mask, ok
}

// smallestPacking tries all Spots for all hulls, the last hull first, and returns the smallest packing that it meets.
func smallestPacking(c impl.Chamber, hulls []impl.Hull) ([]impl.Spot, bool) {
	best, found := []impl.Spot(nil), false
	spots := make([]impl.Spot, len(hulls))
	var try func(i int, covered int)
	try = func(i int, covered int) {
		if i < 0 {
			if !found || slices.CompareFunc(spots, best, compareSpots) < 0 {
				best, found = slices.Clone(spots), true
			}
			return
		}
		for side := range c.Width {
			for at := range c.Length {
				spots[i] = impl.Spot{At: at, Side: side}
				if mask, ok := maskAt(c, hulls[i], spots[i]); ok && covered&mask == 0 {
					try(i-1, covered|mask)
				}
			}
		}
	}
	try(len(hulls)-1, 0)
	return best, found
}

// fitTogether reports whether hulls have a packing beside the cells that are covered, apart from the program; unlike smallestPacking,
// it ends with the first one that it meets.
func fitTogether(c impl.Chamber, hulls []impl.Hull, covered int) bool {
	if len(hulls) == 0 {
		return true
	}
	for side := range c.Width {
		for at := range c.Length {
			mask, ok := maskAt(c, hulls[len(hulls)-1], impl.Spot{At: at, Side: side})
			if ok && covered&mask == 0 && fitTogether(c, hulls[:len(hulls)-1], covered|mask) {
				return true
			}
		}
	}
	return false
}

// groupsThatFit tells for each group of hulls, a number with a bit for each of them, whether it has a packing.
func groupsThatFit(c impl.Chamber, hulls []impl.Hull) []bool {
	fit := make([]bool, 1<<len(hulls))
	for group := range fit {
		some := []impl.Hull{}
		for i, h := range hulls {
			if group&(1<<i) != 0 {
				some = append(some, h)
			}
		}
		fit[group] = fitTogether(c, some, 0)
	}
	return fit
}

func TestLimitsOfChambers(t *testing.T) {
	if impl.MaxChamber != 6 || impl.MaxHulls != 4 {
		t.Error("limits", impl.MaxChamber, impl.MaxHulls)
	}
}

// Every Length and Width in its range is valid, and none beyond it.
func TestChambersThatAreValid(t *testing.T) {
	for length := -10; length <= 100; length++ {
		for width := -10; width <= 100; width++ {
			c := chamberOf(length, width)
			want := 1 <= length && length <= 6 && 1 <= width && width <= 3
			if impl.IsPacking(c, nil, nil) != want {
				t.Errorf("%v: %v", c, !want)
			}
			if _, free, ok := impl.CoveredCells(c, nil, nil); ok != want || want && free != length*width || !want && free != 0 {
				t.Errorf("CoveredCells of %v: %d, %v", c, free, ok)
			}
		}
	}
}

// expectNothing expects all functions to fail but AreHulls.
func expectNothing(t *testing.T, c impl.Chamber, hulls []impl.Hull, spots []impl.Spot) {
	t.Helper()
	if l, ok := impl.FirstPacking(c, hulls); ok || len(l) != 0 {
		t.Errorf("FirstPacking(%v, %v) = %v, %v", c, hulls, l, ok)
	}
	if ids, ok := impl.MostHulls(c, hulls); ok || len(ids) != 0 {
		t.Errorf("MostHulls(%v, %v) = %d, %v", c, hulls, ids, ok)
	}
	if n, ok := impl.FewestLockages(c, hulls); ok || n != 0 {
		t.Errorf("FewestLockages(%v, %v) = %d, %v", c, hulls, n, ok)
	}
	if l, ok := impl.LockagesInOrder(c, hulls); ok || len(l) != 0 {
		t.Errorf("LockagesInOrder(%v, %v) = %d, %v", c, hulls, l, ok)
	}
	expectNoPacking(t, c, hulls, spots)
}

// expectNoPacking expects spots to be no packing, and the functions of a packing to fail.
func expectNoPacking(t *testing.T, c impl.Chamber, hulls []impl.Hull, spots []impl.Spot) {
	t.Helper()
	if impl.IsPacking(c, hulls, spots) {
		t.Errorf("IsPacking(%v, %v, %v)", c, hulls, spots)
	}
	if covered, free, ok := impl.CoveredCells(c, hulls, spots); ok || covered != 0 || free != 0 {
		t.Errorf("CoveredCells(%v, %v, %v) = %d, %d, %v", c, hulls, spots, covered, free, ok)
	}
	if s, ok := impl.ChamberPicture(c, hulls, spots); ok || s != "" {
		t.Errorf("ChamberPicture(%v, %v, %v) = %q, %v", c, hulls, spots, s, ok)
	}
	for by := -1; by <= 1; by++ {
		if l, ok := impl.ShiftSpots(c, hulls, spots, by); ok || len(l) != 0 {
			t.Errorf("ShiftSpots(%v, %v, %v, %d) = %v, %v", c, hulls, spots, by, l, ok)
		}
	}
}

func TestChambersThatAreNotValid(t *testing.T) {
	for _, c := range brokenChambers() {
		for _, hulls := range someHulls() {
			expectNothing(t, c, hulls, nil)
			expectNothing(t, c, hulls, make([]impl.Spot, len(hulls)))
			spots := []impl.Spot{}
			for i := range hulls {
				spots = append(spots, impl.Spot{At: 2 * i})
			}
			expectNothing(t, c, hulls, spots)
		}
	}
}

// Every number in its range is valid, and none beyond it.
func TestHullsThatAreValid(t *testing.T) {
	for _, h := range []impl.Hull{{Id: 1, Length: 1, Width: 1}, {Id: 99, Length: 6, Width: 3}, {Id: 50, Length: 3, Width: 2}} {
		for _, n := range append(farNumbers, -1, 0, 1, 2, 3, 4, 5, 6, 7, 8, 98, 99, 100, 101) {
			expectHull(t, impl.Hull{Id: n, Length: h.Length, Width: h.Width}, 1 <= n && n <= 99)
			expectHull(t, impl.Hull{Id: h.Id, Length: n, Width: h.Width}, 1 <= n && n <= 6)
			expectHull(t, impl.Hull{Id: h.Id, Length: h.Length, Width: n}, 1 <= n && n <= 3)
		}
	}
	for id := range 200 {
		for _, s := range allShapes() {
			expectHull(t, impl.Hull{Id: id, Length: s[0], Width: s[1]}, 1 <= id && id <= 99)
		}
	}
}

func expectHull(t *testing.T, h impl.Hull, want bool) {
	t.Helper()
	if impl.AreHulls([]impl.Hull{h}) != want {
		t.Errorf("AreHulls of %v is not %v", h, want)
	}
	if ids, ok := impl.MostHulls(chamberOf(6, 3), []impl.Hull{h}); ok != want || want && !slices.Equal(ids, []int{h.Id}) || !want && len(ids) != 0 {
		t.Errorf("MostHulls of %v = %d, %v", h, ids, ok)
	}
}

// No hulls at all, MaxHulls of them and one more, and every order of them.
func TestListsThatAreHulls(t *testing.T) {
	for _, hulls := range someHulls() {
		if !impl.AreHulls(hulls) {
			t.Errorf("AreHulls(%v) is false", hulls)
		}
	}
	shapes := slices.Repeat([][2]int{{1, 1}}, 5)
	for n := range 6 {
		hulls := hullsWith(shapes[:n]...)
		if impl.AreHulls(hulls) != (n <= 4) {
			t.Errorf("AreHulls(%v) is %v", hulls, n > 4)
		}
		if s, ok := impl.FirstPacking(chamberOf(6, 3), hulls); ok != (n <= 4) || ok && len(s) != n || !ok && len(s) != 0 {
			t.Errorf("FirstPacking of %v = %v, %v", hulls, s, ok)
		}
	}
	right := hullsWith([2]int{1, 3}, [2]int{2, 2}, [2]int{3, 1}, [2]int{6, 3})
	for n := range 5 {
		for _, order := range ordersOf(n) {
			hulls := []impl.Hull{}
			for _, i := range order {
				hulls = append(hulls, right[i])
			}
			if impl.AreHulls(hulls) != slices.IsSorted(order) {
				t.Errorf("AreHulls(%v) is %v", hulls, impl.AreHulls(hulls))
			}
		}
	}
	// Ids need not follow one upon the other, but none may be there twice.
	for first := 1; first <= 99; first++ {
		for second := 1; second <= 99; second++ {
			hulls := []impl.Hull{{Id: first, Length: 1, Width: 1}, {Id: second, Length: 1, Width: 1}}
			if impl.AreHulls(hulls) != (first < second) {
				t.Errorf("AreHulls(%v) is %v", hulls, impl.AreHulls(hulls))
			}
		}
	}
}

func TestListsThatAreNoHulls(t *testing.T) {
	for _, hulls := range brokenHulls() {
		if impl.AreHulls(hulls) {
			t.Errorf("AreHulls(%v)", hulls)
		}
		// These would be a packing if the hulls were some that are short and narrow.
		apart := []impl.Spot{}
		for i := range hulls {
			apart = append(apart, impl.Spot{At: i % 3 * 2, Side: i / 3 % 3})
		}
		for _, c := range []impl.Chamber{chamberOf(6, 3), chamberOf(1, 1), chamberOf(6, 1)} {
			expectNothing(t, c, hulls, apart)
			expectNothing(t, c, hulls, nil)
		}
	}
}

// Every Hull in every Chamber: one as long or as wide as the Chamber, and one that is longer or wider, at all Spots in and around it.
func TestPackingsOfOneHull(t *testing.T) {
	for _, c := range allChambers() {
		for _, shape := range allShapes() {
			hulls := hullsWith(shape)
			places := 0
			for _, s := range spotsAround(c) {
				want := 0 <= s.At && s.At+shape[0] <= c.Length && 0 <= s.Side && s.Side+shape[1] <= c.Width
				if impl.IsPacking(c, hulls, []impl.Spot{s}) != want {
					t.Errorf("IsPacking(%v, %v, %v) is not %v", c, hulls, s, want)
				}
				if want {
					places++
					expectPacked(t, c, hulls, []impl.Spot{s})
				}
			}
			if places != max(0, c.Length-shape[0]+1)*max(0, c.Width-shape[1]+1) {
				t.Errorf("%v has %d places for %v", c, places, hulls)
			}
		}
	}
}

// Every two hulls in every Chamber at all Spots in it: with cells that are covered twice, and with none.
func TestPackingsOfTwoHulls(t *testing.T) {
	for _, c := range allChambers() {
		inside := slices.DeleteFunc(spotsAround(c), func(s impl.Spot) bool {
			return s.At < 0 || s.At >= c.Length || s.Side < 0 || s.Side >= c.Width
		})
		for _, first := range allShapes() {
			for _, second := range allShapes() {
				if first[0] > c.Length || first[1] > c.Width || second[0] > c.Length || second[1] > c.Width {
					continue
				}
				hulls := hullsWith(first, second)
				for _, r := range inside {
					for _, s := range inside {
						expectPackingAsByCells(t, c, hulls, []impl.Spot{r, s})
					}
				}
			}
		}
	}
}

// expectPackingAsByCells expects IsPacking to tell the same as ownersOf.
func expectPackingAsByCells(t *testing.T, c impl.Chamber, hulls []impl.Hull, spots []impl.Spot) {
	t.Helper()
	_, want := ownersOf(c, hulls, spots)
	if impl.IsPacking(c, hulls, spots) != want {
		t.Fatalf("IsPacking(%v, %v, %v) is not %v", c, hulls, spots, want)
	}
}

// Three and four hulls of which any two may cover a cell both.
func TestPackingsOfMoreHulls(t *testing.T) {
	c := chamberOf(3, 2)
	spots := []impl.Spot{{At: 0, Side: 0}, {At: 1, Side: 0}, {At: 2, Side: 0}, {At: 0, Side: 1}, {At: 1, Side: 1}, {At: 2, Side: 1}, {At: 3, Side: 0}, {At: -1, Side: 1}}
	lists := [][]impl.Hull{
		hullsWith([2]int{1, 1}, [2]int{2, 1}, [2]int{1, 2}, [2]int{1, 1}),
		hullsWith([2]int{1, 1}, [2]int{1, 1}, [2]int{2, 1}, [2]int{2, 1}),
		hullsWith([2]int{1, 2}, [2]int{1, 1}, [2]int{1, 1}, [2]int{1, 1}),
	}
	for _, hulls := range lists {
		for number := range 8 * 8 * 8 * 8 {
			four := []impl.Spot{spots[number%8], spots[number/8%8], spots[number/64%8], spots[number/512]}
			expectPackingAsByCells(t, c, hulls, four)
			expectPackingAsByCells(t, c, hulls[:3], four[:3])
		}
	}
}

func TestSpotsThatAreFewerOrMore(t *testing.T) {
	c := chamberOf(6, 3)
	hulls := hullsWith([2]int{1, 1}, [2]int{1, 1}, [2]int{1, 1}, [2]int{1, 1})
	spots := []impl.Spot{{At: 0}, {At: 1}, {At: 2}, {At: 3}, {At: 4}, {At: 5}}
	for m := range 5 {
		for n := range 7 {
			if m == n {
				expectPacked(t, c, hulls[:m], spots[:n])
			} else {
				expectNoPacking(t, c, hulls[:m], spots[:n])
			}
		}
	}
	expectNoPacking(t, c, nil, make([]impl.Spot, 1))
	expectNoPacking(t, c, hulls[:1], nil)
	expectNoPacking(t, c, hulls, slices.Repeat(spots, 1000))
}

// A Spot that is negative or beyond the Chamber by one cell, or by so much that a sum of it would wrap around, in the place of each
// Spot of a packing.
func TestSpotsOutsideTheChamber(t *testing.T) {
	c := chamberOf(5, 3)
	hulls := hullsWith([2]int{1, 3}, [2]int{2, 2}, [2]int{3, 1}, [2]int{1, 1})
	right := []impl.Spot{{At: 0, Side: 0}, {At: 1, Side: 0}, {At: 1, Side: 2}, {At: 4, Side: 1}}
	expectPacked(t, c, hulls, right)
	for i, h := range hulls {
		for _, n := range append([]int{-1, c.Length - h.Length + 1, math.MaxInt - h.Length, math.MaxInt - h.Length + 1, math.MaxInt - 5}, farNumbers...) {
			spots := slices.Clone(right)
			spots[i].At = n
			expectNoPacking(t, c, hulls, spots)
		}
		for _, n := range append([]int{-1, c.Width - h.Width + 1, math.MaxInt - h.Width, math.MaxInt - h.Width + 1, math.MaxInt - 2}, farNumbers...) {
			spots := slices.Clone(right)
			spots[i].Side = n
			expectNoPacking(t, c, hulls, spots)
		}
	}
	for _, m := range append(farNumbers, 0) {
		for _, n := range farNumbers {
			for _, shape := range allShapes() {
				expectNoPacking(t, chamberOf(6, 3), hullsWith(shape), []impl.Spot{{At: m, Side: n}})
				expectNoPacking(t, chamberOf(6, 3), hullsWith(shape, [2]int{1, 1}), []impl.Spot{{At: m, Side: n}, {At: m, Side: n}})
			}
		}
	}
}

// P4: the hulls of a packing cover as many cells as they have, by their number and in their picture.
func expectPacked(t *testing.T, c impl.Chamber, hulls []impl.Hull, spots []impl.Spot) {
	t.Helper()
	if !impl.IsPacking(c, hulls, spots) {
		t.Fatalf("IsPacking(%v, %v, %v) is false", c, hulls, spots)
	}
	sum := 0
	for _, h := range hulls {
		sum += h.Length * h.Width
	}
	if covered, free, ok := impl.CoveredCells(c, hulls, spots); !ok || covered != sum || free != c.Length*c.Width-sum {
		t.Fatalf("CoveredCells(%v, %v, %v) = %d, %d, %v", c, hulls, spots, covered, free, ok)
	}
	picture, ok := impl.ChamberPicture(c, hulls, spots)
	if want, packed := pictureOf(c, hulls, spots); !ok || !packed || picture != want {
		t.Fatalf("ChamberPicture(%v, %v, %v) = %q, %v", c, hulls, spots, picture, ok)
	}
	for i, letter := range lettersOfHulls {
		cells := 0
		if i < len(hulls) {
			cells = hulls[i].Length * hulls[i].Width
		}
		if strings.Count(picture, string(letter)) != cells {
			t.Fatalf("%v covers not as many cells in %q", hulls, picture)
		}
	}
	if strings.Count(picture, ".") != c.Length*c.Width-sum {
		t.Fatalf("%v leaves not as many cells in %q", hulls, picture)
	}
}

// pictureOf draws a packing cell by cell, apart from the program.
func pictureOf(c impl.Chamber, hulls []impl.Hull, spots []impl.Spot) (string, bool) {
	owners, ok := ownersOf(c, hulls, spots)
	text := strings.Builder{}
	for cell, owner := range owners {
		text.WriteByte(("." + lettersOfHulls)[owner+1])
		if cell%c.Length == c.Length-1 {
			text.WriteByte('\n')
		}
	}
	return text.String(), ok
}

func TestPicturesOfChambers(t *testing.T) {
	for _, c := range []struct {
		chamber impl.Chamber
		hulls   []impl.Hull
		spots   []impl.Spot
		want    string
	}{
		{chamberOf(1, 1), nil, nil, ".\n"},
		{chamberOf(6, 1), nil, nil, "......\n"},
		{chamberOf(1, 3), nil, nil, ".\n.\n.\n"},
		{chamberOf(6, 3), nil, nil, "......\n......\n......\n"},
		{chamberOf(1, 1), hullsWith([2]int{1, 1}), []impl.Spot{{}}, "a\n"},
		{chamberOf(6, 3), hullsWith([2]int{6, 3}), []impl.Spot{{}}, "aaaaaa\naaaaaa\naaaaaa\n"},
		{chamberOf(4, 2), hullsWith([2]int{2, 1}), []impl.Spot{{At: 1, Side: 1}}, "....\n.aa.\n"},
		{chamberOf(4, 2), hullsWith([2]int{1, 2}), []impl.Spot{{At: 3}}, "...a\n...a\n"},
		{chamberOf(3, 3), hullsWith([2]int{1, 1}, [2]int{1, 1}), []impl.Spot{{At: 2}, {Side: 2}}, "..a\n...\nb..\n"},
		{chamberOf(4, 2), hullsWith([2]int{2, 1}, [2]int{2, 1}, [2]int{4, 1}), []impl.Spot{{}, {At: 2}, {Side: 1}}, "aabb\ncccc\n"},
		{chamberOf(5, 3), hullsWith([2]int{1, 3}, [2]int{2, 2}, [2]int{3, 1}, [2]int{1, 1}), []impl.Spot{{}, {At: 1}, {At: 1, Side: 2}, {At: 4, Side: 1}}, "abb..\nabb.d\naccc.\n"},
		{chamberOf(5, 3), hullsWith([2]int{1, 1}, [2]int{3, 1}, [2]int{2, 2}, [2]int{1, 3}), []impl.Spot{{At: 4, Side: 1}, {At: 1, Side: 2}, {At: 1}, {}}, "dcc..\ndcc.a\ndbbb.\n"},
	} {
		expectPacked(t, c.chamber, c.hulls, c.spots)
		if s, ok := impl.ChamberPicture(c.chamber, c.hulls, c.spots); !ok || s != c.want {
			t.Errorf("ChamberPicture(%v, %v, %v) = %q, %v", c.chamber, c.hulls, c.spots, s, ok)
		}
	}
}

func TestCoveredCells(t *testing.T) {
	for _, c := range []struct {
		chamber       impl.Chamber
		hulls         []impl.Hull
		spots         []impl.Spot
		covered, free int
	}{
		{chamberOf(6, 3), nil, nil, 0, 18},
		{chamberOf(1, 1), nil, nil, 0, 1},
		{chamberOf(1, 1), hullsWith([2]int{1, 1}), []impl.Spot{{}}, 1, 0},
		{chamberOf(6, 3), hullsWith([2]int{6, 3}), []impl.Spot{{}}, 18, 0},
		{chamberOf(4, 2), hullsWith([2]int{2, 1}, [2]int{2, 1}, [2]int{4, 1}), []impl.Spot{{}, {At: 2}, {Side: 1}}, 8, 0},
		{chamberOf(4, 2), hullsWith([2]int{2, 1}, [2]int{3, 1}), []impl.Spot{{At: 2}, {Side: 1}}, 5, 3},
	} {
		if covered, free, ok := impl.CoveredCells(c.chamber, c.hulls, c.spots); !ok || covered != c.covered || free != c.free {
			t.Errorf("CoveredCells(%v, %v, %v) = %d, %d, %v", c.chamber, c.hulls, c.spots, covered, free, ok)
		}
	}
}

func TestFirstPacking(t *testing.T) {
	for _, c := range []struct {
		name    string
		chamber impl.Chamber
		shapes  [][2]int
		want    []impl.Spot
	}{
		{"one hull that fills the chamber", chamberOf(6, 3), [][2]int{{6, 3}}, []impl.Spot{{}}},
		{"the smallest of all", chamberOf(1, 1), [][2]int{{1, 1}}, []impl.Spot{{}}},
		{"across before along", chamberOf(6, 3), [][2]int{{1, 1}, {1, 1}, {1, 1}, {1, 1}}, []impl.Spot{{}, {Side: 1}, {Side: 2}, {At: 1}}},
		{"as wide as the chamber", chamberOf(6, 2), [][2]int{{1, 2}, {2, 2}, {3, 2}}, []impl.Spot{{}, {At: 1}, {At: 3}}},
		{"as long as the chamber", chamberOf(4, 3), [][2]int{{4, 1}, {4, 1}, {4, 1}}, []impl.Spot{{}, {Side: 1}, {Side: 2}}},
		{"a wide one behind a narrow one", chamberOf(3, 3), [][2]int{{1, 1}, {2, 3}}, []impl.Spot{{}, {At: 1}}},
		{"before a narrow one", chamberOf(3, 3), [][2]int{{2, 3}, {1, 1}}, []impl.Spot{{}, {At: 2}}},
		{"four that fill the chamber", chamberOf(5, 3), [][2]int{{1, 3}, {4, 1}, {2, 2}, {2, 2}}, []impl.Spot{{}, {At: 1}, {At: 1, Side: 1}, {At: 3, Side: 1}}},
		// The second one may not lie beside the first one, at the smallest Spot that is free.
		{"one that makes room", chamberOf(4, 3), [][2]int{{2, 1}, {2, 1}, {2, 3}}, []impl.Spot{{}, {Side: 1}, {At: 2}}},
		{"one that makes room for a long one", chamberOf(4, 2), [][2]int{{2, 1}, {2, 1}, {4, 1}}, []impl.Spot{{}, {At: 2}, {Side: 1}}},
		{"a long one beside a wide one", chamberOf(3, 3), [][2]int{{1, 2}, {3, 1}}, []impl.Spot{{}, {Side: 2}}},
		{"the end for the longest", chamberOf(5, 3), [][2]int{{2, 1}, {2, 2}, {3, 1}, {3, 2}}, []impl.Spot{{}, {Side: 1}, {At: 2}, {At: 2, Side: 1}}},
	} {
		hulls := hullsWith(c.shapes...)
		s, ok := impl.FirstPacking(c.chamber, hulls)
		if !ok || !slices.Equal(s, c.want) {
			t.Errorf("%s: FirstPacking(%v, %v) = %v, %v", c.name, c.chamber, hulls, s, ok)
			continue
		}
		if want, found := smallestPacking(c.chamber, hulls); !found || !slices.Equal(want, s) {
			t.Errorf("%s: the smallest packing is %v", c.name, want)
		}
	}
	for _, c := range allChambers() {
		for _, hulls := range [][]impl.Hull{nil, {}} {
			if s, ok := impl.FirstPacking(c, hulls); !ok || len(s) != 0 {
				t.Errorf("FirstPacking(%v, %v) = %v, %v", c, hulls, s, ok)
			}
		}
	}
}

// Hulls that are too long or too wide, that have a cell too many, or that have few enough cells and no packing all the same.
func TestHullsWithoutAPacking(t *testing.T) {
	for _, c := range []struct {
		chamber impl.Chamber
		shapes  [][2]int
	}{
		{chamberOf(1, 1), [][2]int{{1, 1}, {1, 1}}},
		{chamberOf(1, 1), [][2]int{{2, 1}}},
		{chamberOf(1, 1), [][2]int{{1, 2}}},
		{chamberOf(5, 3), [][2]int{{6, 1}}},
		{chamberOf(6, 2), [][2]int{{1, 3}}},
		{chamberOf(2, 3), [][2]int{{3, 2}}},
		{chamberOf(6, 3), [][2]int{{6, 3}, {1, 1}}},
		{chamberOf(3, 3), [][2]int{{2, 2}, {2, 2}}},
		{chamberOf(3, 3), [][2]int{{3, 1}, {1, 3}}},
		{chamberOf(6, 3), [][2]int{{2, 2}, {2, 2}, {2, 2}, {2, 2}}},
		{chamberOf(4, 2), [][2]int{{2, 1}, {2, 1}, {4, 1}, {1, 1}}},
		{chamberOf(4, 3), [][2]int{{3, 2}, {3, 2}}},
		{chamberOf(6, 3), [][2]int{{1, 1}, {1, 1}, {1, 1}, {6, 3}}},
		{chamberOf(6, 3), [][2]int{{1, 2}, {1, 2}, {1, 1}, {5, 3}}},
	} {
		hulls := hullsWith(c.shapes...)
		if s, ok := impl.FirstPacking(c.chamber, hulls); ok || len(s) != 0 {
			t.Errorf("FirstPacking(%v, %v) = %v, %v", c.chamber, hulls, s, ok)
		}
		if s, found := smallestPacking(c.chamber, hulls); found {
			t.Errorf("%v and %v have a packing: %v", c.chamber, hulls, s)
		}
	}
}

func TestFirstPackingIsTheSmallest(t *testing.T) {
	for k, c := range allChambers() {
		for hulls := range manyHulls(k) {
			expectSmallestPacking(t, c, hulls)
		}
	}
}

// expectSmallestPacking expects FirstPacking to find what smallestPacking does, and a packing with all that belongs to it.
func expectSmallestPacking(t *testing.T, c impl.Chamber, hulls []impl.Hull) {
	t.Helper()
	want, found := smallestPacking(c, hulls)
	s, ok := impl.FirstPacking(c, hulls)
	if ok != found || !slices.Equal(s, want) {
		t.Fatalf("FirstPacking(%v, %v) = %v, %v instead of %v", c, hulls, s, ok, want)
	}
	if ok {
		expectPacked(t, c, hulls, s)
	}
}

func TestMostHulls(t *testing.T) {
	for _, c := range []struct {
		name    string
		chamber impl.Chamber
		shapes  [][2]int
		want    []int
	}{
		{"no hulls", chamberOf(6, 3), nil, nil},
		{"one that fits", chamberOf(6, 3), [][2]int{{6, 3}}, []int{7}},
		{"one that is too long", chamberOf(5, 3), [][2]int{{6, 3}}, nil},
		{"none of four", chamberOf(1, 1), [][2]int{{2, 1}, {1, 2}, {1, 3}, {6, 1}}, nil},
		{"all of four", chamberOf(5, 3), [][2]int{{1, 3}, {2, 2}, {3, 1}, {1, 1}}, []int{7, 27, 47, 67}},
		{"one of four", chamberOf(3, 2), [][2]int{{3, 2}, {3, 2}, {2, 2}, {3, 2}}, []int{7}},
		{"the only one that fits", chamberOf(3, 2), [][2]int{{4, 2}, {3, 3}, {4, 1}, {3, 2}}, []int{67}},
		{"any two of three", chamberOf(4, 2), [][2]int{{2, 2}, {2, 2}, {2, 2}}, []int{7, 27}},
		{"without the first one", chamberOf(4, 2), [][2]int{{4, 2}, {2, 2}, {2, 2}}, []int{27, 47}},
		{"the last two, for the first one is long", chamberOf(4, 2), [][2]int{{3, 2}, {3, 2}, {2, 2}, {2, 2}}, []int{47, 67}},
		{"the first with the last, before two in the middle", chamberOf(4, 2), [][2]int{{3, 2}, {2, 2}, {2, 2}, {1, 2}}, []int{7, 67}},
		{"the first with the third, before the first with the last", chamberOf(4, 2), [][2]int{{2, 2}, {3, 2}, {2, 2}, {2, 2}}, []int{7, 47}},
		{"three of four, without the second one", chamberOf(6, 1), [][2]int{{2, 1}, {3, 1}, {2, 1}, {2, 1}}, []int{7, 47, 67}},
		{"three behind a longer one", chamberOf(3, 1), [][2]int{{2, 1}, {1, 1}, {1, 1}, {1, 1}}, []int{27, 47, 67}},
	} {
		if ids, ok := impl.MostHulls(c.chamber, hullsWith(c.shapes...)); !ok || !slices.Equal(ids, c.want) {
			t.Errorf("%s: MostHulls(%v, %v) = %d, %v", c.name, c.chamber, c.shapes, ids, ok)
		}
	}
}

func TestFewestLockages(t *testing.T) {
	for _, c := range []struct {
		name    string
		chamber impl.Chamber
		shapes  [][2]int
		want    int
		ok      bool
	}{
		{"no hulls", chamberOf(1, 1), nil, 0, true},
		{"one hull", chamberOf(6, 3), [][2]int{{6, 3}}, 1, true},
		{"four in one", chamberOf(5, 3), [][2]int{{1, 3}, {2, 2}, {3, 1}, {1, 1}}, 1, true},
		{"each alone", chamberOf(3, 2), [][2]int{{2, 2}, {3, 1}, {3, 2}, {2, 2}}, 4, true},
		{"two and two", chamberOf(4, 2), [][2]int{{2, 2}, {2, 2}, {2, 2}, {2, 2}}, 2, true},
		// In order, there would be three, and with the first greatest number at once as well.
		{"not the first two at once", chamberOf(6, 1), [][2]int{{2, 1}, {2, 1}, {4, 1}, {4, 1}}, 2, true},
		{"the first with the last", chamberOf(6, 1), [][2]int{{4, 1}, {3, 1}, {3, 1}, {2, 1}}, 2, true},
		{"the first with the third", chamberOf(6, 1), [][2]int{{4, 1}, {5, 1}, {2, 1}, {1, 1}}, 2, true},
		{"three at once and one", chamberOf(6, 1), [][2]int{{2, 1}, {2, 1}, {2, 1}, {6, 1}}, 2, true},
		{"three", chamberOf(6, 1), [][2]int{{4, 1}, {3, 1}, {4, 1}, {3, 1}}, 3, true},
		{"one that is too long", chamberOf(5, 3), [][2]int{{6, 1}}, 0, false},
		{"one that is too wide", chamberOf(6, 2), [][2]int{{1, 3}}, 0, false},
		{"the last one too long", chamberOf(3, 3), [][2]int{{1, 1}, {1, 1}, {1, 1}, {4, 1}}, 0, false},
		{"the second one too wide", chamberOf(3, 2), [][2]int{{1, 1}, {1, 3}, {1, 1}, {1, 1}}, 0, false},
	} {
		if n, ok := impl.FewestLockages(c.chamber, hullsWith(c.shapes...)); ok != c.ok || n != c.want {
			t.Errorf("%s: FewestLockages(%v, %v) = %d, %v", c.name, c.chamber, c.shapes, n, ok)
		}
	}
}

func TestLockagesInOrder(t *testing.T) {
	for _, c := range []struct {
		name    string
		chamber impl.Chamber
		shapes  [][2]int
		want    []int
		ok      bool
	}{
		{"no hulls", chamberOf(1, 1), nil, nil, true},
		{"one hull", chamberOf(6, 3), [][2]int{{6, 3}}, []int{0}, true},
		{"four in one", chamberOf(5, 3), [][2]int{{1, 3}, {2, 2}, {3, 1}, {1, 1}}, []int{0, 0, 0, 0}, true},
		{"each alone", chamberOf(3, 2), [][2]int{{2, 2}, {3, 1}, {3, 2}, {2, 2}}, []int{0, 1, 2, 3}, true},
		{"two and two", chamberOf(4, 2), [][2]int{{2, 2}, {2, 2}, {2, 2}, {2, 2}}, []int{0, 0, 1, 1}, true},
		{"three and one", chamberOf(4, 2), [][2]int{{2, 1}, {2, 1}, {4, 1}, {1, 1}}, []int{0, 0, 0, 1}, true},
		// The last one has room beside the first one, but goes with those before it.
		{"where a later one fits", chamberOf(6, 1), [][2]int{{4, 1}, {3, 1}, {3, 1}, {2, 1}}, []int{0, 1, 1, 2}, true},
		{"where a later one fits before", chamberOf(6, 1), [][2]int{{4, 1}, {5, 1}, {2, 1}, {1, 1}}, []int{0, 1, 2, 2}, true},
		{"where all that follow fit", chamberOf(6, 1), [][2]int{{5, 1}, {6, 1}, {1, 1}, {5, 1}}, []int{0, 1, 2, 2}, true},
		{"the last one too long", chamberOf(3, 3), [][2]int{{1, 1}, {1, 1}, {1, 1}, {4, 1}}, nil, false},
		{"the first one too wide", chamberOf(3, 2), [][2]int{{1, 3}, {1, 1}, {1, 1}, {1, 1}}, nil, false},
		{"the only one too long", chamberOf(5, 3), [][2]int{{6, 1}}, nil, false},
	} {
		if l, ok := impl.LockagesInOrder(c.chamber, hullsWith(c.shapes...)); ok != c.ok || !slices.Equal(l, c.want) {
			t.Errorf("%s: LockagesInOrder(%v, %v) = %d, %v", c.name, c.chamber, c.shapes, l, ok)
		}
	}
}

func TestGroupsOfHulls(t *testing.T) {
	for k, c := range allChambers() {
		for hulls := range manyHulls(k) {
			expectGroups(t, c, hulls)
		}
	}
}

// Most of all hulls do not fit alone into a small Chamber: all that do, four at a time.
func TestGroupsOfHullsThatFitAlone(t *testing.T) {
	for _, c := range []impl.Chamber{chamberOf(2, 2), chamberOf(3, 2), chamberOf(2, 3), chamberOf(6, 1), chamberOf(3, 3)} {
		fit := slices.DeleteFunc(allShapes(), func(s [2]int) bool { return s[0] > c.Length || s[1] > c.Width })
		n := len(fit)
		for number := range n * n * n * n {
			expectGroups(t, c, hullsWith(fit[number%n], fit[number/n%n], fit[number/n/n%n], fit[number/n/n/n]))
		}
	}
}

// expectGroups expects the functions of groups of hulls to return what follows from the groups that fit.
func expectGroups(t *testing.T, c impl.Chamber, hulls []impl.Hull) {
	t.Helper()
	fit := groupsThatFit(c, hulls)
	want := idsThatFit(hulls, fit)
	if ids, ok := impl.MostHulls(c, hulls); !ok || !slices.Equal(ids, want) {
		t.Fatalf("MostHulls(%v, %v) = %d, %v instead of %d", c, hulls, ids, ok, want)
	}
	n, possible := groupsNeeded(fit, len(hulls))
	if m, ok := impl.FewestLockages(c, hulls); ok != possible || m != n {
		t.Fatalf("FewestLockages(%v, %v) = %d, %v instead of %d", c, hulls, m, ok, n)
	}
	order := groupsInOrder(fit, len(hulls))
	l, ok := impl.LockagesInOrder(c, hulls)
	if ok != possible || ok && !slices.Equal(l, order) || !ok && len(l) != 0 {
		t.Fatalf("LockagesInOrder(%v, %v) = %d, %v instead of %d", c, hulls, l, ok, order)
	}
	if _, ok := impl.FirstPacking(c, hulls); ok != (len(want) == len(hulls)) {
		t.Fatalf("FirstPacking(%v, %v) is %v, but %d fit", c, hulls, ok, want)
	}
}

// idsThatFit sorts the Ids of all groups that fit, the longest lists first, and returns the first of them.
func idsThatFit(hulls []impl.Hull, fit []bool) []int {
	lists := [][]int{}
	for group, fits := range fit {
		ids := []int{}
		for i, h := range hulls {
			if group&(1<<i) != 0 {
				ids = append(ids, h.Id)
			}
		}
		if fits {
			lists = append(lists, ids)
		}
	}
	slices.SortFunc(lists, func(a []int, b []int) int {
		if len(a) != len(b) {
			return len(b) - len(a)
		}
		return slices.Compare(a, b)
	})
	return lists[0]
}

// groupsNeeded gives each of n hulls the number of a group in all ways, and returns the smallest number of groups that all fit.
func groupsNeeded(fit []bool, n int) (int, bool) {
	fewest, possible := 0, false
	ways := 1
	for range n {
		ways *= n
	}
	for way := range ways {
		groups := make([]int, n)
		for i := range n {
			groups[way%n] |= 1 << i
			way /= n
		}
		used, all := 0, true
		for _, group := range groups {
			all = all && fit[group]
			if group != 0 {
				used++
			}
		}
		if all && (!possible || used < fewest) {
			fewest, possible = used, true
		}
	}
	return fewest, possible
}

// groupsInOrder returns the number of the group of each of n hulls, of which every group takes as many as fit.
func groupsInOrder(fit []bool, n int) []int {
	list := []int{}
	for number := 0; len(list) < n; number++ {
		begin := len(list)
		end := n
		for end > begin+1 && !fit[1<<end-1<<begin] {
			end--
		}
		for len(list) < end {
			list = append(list, number)
		}
	}
	return list
}

// All packings of some hulls, shifted by all numbers from one beyond -MaxChamber to one beyond MaxChamber.
func TestShiftSpots(t *testing.T) {
	for _, c := range []impl.Chamber{chamberOf(1, 1), chamberOf(6, 1), chamberOf(4, 2), chamberOf(6, 3)} {
		for _, first := range spotsAround(c) {
			for _, second := range spotsAround(c) {
				expectShifted(t, c, hullsWith([2]int{1, 1}, [2]int{2, 1}), []impl.Spot{first, second})
			}
			for _, shape := range allShapes() {
				expectShifted(t, c, hullsWith(shape), []impl.Spot{first})
			}
		}
		expectShifted(t, c, nil, nil)
	}
}

func expectShifted(t *testing.T, c impl.Chamber, hulls []impl.Hull, spots []impl.Spot) {
	t.Helper()
	_, packed := ownersOf(c, hulls, spots)
	for by := -7; by <= 7; by++ {
		want := []impl.Spot{}
		for _, s := range spots {
			want = append(want, impl.Spot{At: s.At + by, Side: s.Side})
		}
		_, fits := ownersOf(c, hulls, want)
		right := packed && fits && -6 <= by && by <= 6
		l, ok := impl.ShiftSpots(c, hulls, spots, by)
		if ok != right || ok && !slices.Equal(l, want) || !ok && len(l) != 0 {
			t.Fatalf("ShiftSpots(%v, %v, %v, %d) = %v, %v", c, hulls, spots, by, l, ok)
		}
		if ok {
			expectPacked(t, c, hulls, l)
		}
	}
}

func TestShiftSpotsAtItsLimits(t *testing.T) {
	c := chamberOf(6, 3)
	one := hullsWith([2]int{1, 1})
	for _, d := range []struct {
		at, by int
		ok     bool
	}{
		{0, 0, true}, {5, 0, true}, {0, 5, true}, {5, -5, true}, {3, 2, true}, {3, -3, true}, {3, 3, false}, {3, -4, false},
		{0, 6, false}, {5, -6, false}, {0, 7, false}, {5, -7, false}, {0, -1, false}, {5, 1, false}, {6, -1, false}, {-1, 1, false}, {6, -6, false}, {-1, 6, false},
	} {
		l, ok := impl.ShiftSpots(c, one, []impl.Spot{{At: d.at, Side: 2}}, d.by)
		if ok != d.ok || ok && !slices.Equal(l, []impl.Spot{{At: d.at + d.by, Side: 2}}) || !ok && len(l) != 0 {
			t.Errorf("ShiftSpots of a Spot at %d by %d = %v, %v", d.at, d.by, l, ok)
		}
	}
	// Without hulls, only the number itself can be out of range.
	for _, by := range append([]int{-8, -7, -6, 0, 6, 7, 8}, farNumbers...) {
		if l, ok := impl.ShiftSpots(c, nil, nil, by); ok != (-6 <= by && by <= 6) || len(l) != 0 {
			t.Errorf("ShiftSpots of none by %d = %v, %v", by, l, ok)
		}
	}
	// A sum that wraps around would be in the Chamber.
	for _, by := range farNumbers {
		if l, ok := impl.ShiftSpots(c, one, []impl.Spot{{At: 3}}, by); ok || len(l) != 0 {
			t.Errorf("ShiftSpots by %d = %v, %v", by, l, ok)
		}
		if l, ok := impl.ShiftSpots(c, one, []impl.Spot{{At: math.MinInt - by}}, by); ok || len(l) != 0 {
			t.Errorf("ShiftSpots by %d = %v, %v", by, l, ok)
		}
	}
}

// withMoreHulls returns hulls in a slice that has room behind them, and that room filled with what would make them others.
func withMoreHulls(hulls []impl.Hull) []impl.Hull {
	more := append(slices.Clone(hulls), impl.Hull{Id: 99, Length: 1, Width: 1}, impl.Hull{Id: 3, Length: -1, Width: 9})
	return more[:len(hulls)]
}

func withMoreSpots(spots []impl.Spot) []impl.Spot {
	more := append(slices.Clone(spots), impl.Spot{At: 5, Side: 2}, impl.Spot{At: -1, Side: 9})
	return more[:len(spots)]
}

// P29: all functions return whatever their arguments, the same when called again, and leave their arguments as they are, also
// beyond their lengths, where what stands plays no part.
func TestChamberFunctionsLeaveTheirArguments(t *testing.T) {
	chambers := append(brokenChambers(), chamberOf(1, 1), chamberOf(3, 2), chamberOf(5, 3), chamberOf(6, 3), chamberOf(6, 1))
	for _, hulls := range append(someHulls(), brokenHulls()...) {
		if len(hulls) > 10 {
			continue
		}
		for _, c := range chambers {
			packing, _ := impl.FirstPacking(c, hulls)
			for _, spots := range [][]impl.Spot{nil, packing, make([]impl.Spot, len(hulls)), {{At: math.MaxInt, Side: math.MinInt}}} {
				expectArgumentsLeft(t, c, hulls, spots)
			}
		}
	}
}

func expectArgumentsLeft(t *testing.T, c impl.Chamber, hulls []impl.Hull, spots []impl.Spot) {
	t.Helper()
	givenHulls, givenSpots := withMoreHulls(hulls), withMoreSpots(spots)
	hullsBefore := slices.Clone(givenHulls[:cap(givenHulls)])
	spotsBefore := slices.Clone(givenSpots[:cap(givenSpots)])
	expectSameGroups(t, c, givenHulls, hulls)
	if impl.IsPacking(c, givenHulls, givenSpots) != impl.IsPacking(c, hulls, spots) {
		t.Errorf("IsPacking(%v, %v, %v) has read too far", c, hulls, spots)
	}
	covered, free, ok := impl.CoveredCells(c, givenHulls, givenSpots)
	if m, n, fine := impl.CoveredCells(c, hulls, spots); m != covered || n != free || ok != fine {
		t.Errorf("CoveredCells(%v, %v, %v) = %d, %d and %d, %d", c, hulls, spots, m, n, covered, free)
	}
	picture, ok := impl.ChamberPicture(c, givenHulls, givenSpots)
	if s, fine := impl.ChamberPicture(c, hulls, spots); s != picture || ok != fine {
		t.Errorf("ChamberPicture(%v, %v, %v) = %q and %q", c, hulls, spots, s, picture)
	}
	for _, by := range append([]int{-1, 0, 1}, farNumbers...) {
		shifted, ok := impl.ShiftSpots(c, givenHulls, givenSpots, by)
		if l, fine := impl.ShiftSpots(c, hulls, spots, by); !slices.Equal(l, shifted) || ok != fine {
			t.Errorf("ShiftSpots(%v, %v, %v, %d) = %v and %v", c, hulls, spots, by, l, shifted)
		}
	}
	if !slices.Equal(givenHulls[:cap(givenHulls)], hullsBefore) {
		t.Fatalf("%v was changed to %v", hullsBefore, givenHulls[:cap(givenHulls)])
	}
	if !slices.Equal(givenSpots[:cap(givenSpots)], spotsBefore) {
		t.Fatalf("%v was changed to %v", spotsBefore, givenSpots[:cap(givenSpots)])
	}
}

// expectSameGroups calls the functions that take no Spots for both of two equal lists.
func expectSameGroups(t *testing.T, c impl.Chamber, a []impl.Hull, b []impl.Hull) {
	t.Helper()
	if impl.AreHulls(a) != impl.AreHulls(b) {
		t.Errorf("AreHulls(%v) has read too far", b)
	}
	r, ok := impl.FirstPacking(c, a)
	if s, fine := impl.FirstPacking(c, b); !slices.Equal(r, s) || ok != fine {
		t.Errorf("FirstPacking(%v, %v) = %v and %v", c, b, r, s)
	}
	ids, ok := impl.MostHulls(c, a)
	if l, fine := impl.MostHulls(c, b); !slices.Equal(ids, l) || ok != fine {
		t.Errorf("MostHulls(%v, %v) = %d and %d", c, b, ids, l)
	}
	m, ok := impl.FewestLockages(c, a)
	if n, fine := impl.FewestLockages(c, b); m != n || ok != fine {
		t.Errorf("FewestLockages(%v, %v) = %d and %d", c, b, m, n)
	}
	lockages, ok := impl.LockagesInOrder(c, a)
	if l, fine := impl.LockagesInOrder(c, b); !slices.Equal(lockages, l) || ok != fine {
		t.Errorf("LockagesInOrder(%v, %v) = %d and %d", c, b, lockages, l)
	}
}

// A result shares no memory with an argument, nor with a later result.
func TestResultsOfChambersAreNew(t *testing.T) {
	c := chamberOf(5, 3)
	hulls := hullsWith([2]int{1, 3}, [2]int{2, 2}, [2]int{3, 1}, [2]int{1, 1})
	expectNewInts(t, 4, func() ([]int, bool) { return impl.MostHulls(c, hulls) })
	expectNewInts(t, 4, func() ([]int, bool) { return impl.LockagesInOrder(c, hulls) })
	first, _ := impl.FirstPacking(c, hulls)
	want := slices.Clone(first)
	overwriteSpots(first)
	if again, ok := impl.FirstPacking(c, hulls); !ok || !slices.Equal(again, want) {
		t.Error("shared", first, again)
	}
	// Shifted by nothing, the Spots are the same, in another place.
	for _, by := range []int{0, 1} {
		given := withMoreSpots(want[:1])
		before := slices.Clone(given[:cap(given)])
		shifted, ok := impl.ShiftSpots(c, hulls[:1], given, by)
		if !ok {
			t.Fatal("not shifted", by)
		}
		overwriteSpots(shifted)
		if !slices.Equal(given[:cap(given)], before) {
			t.Error("changed with the result", before, given)
		}
		shifted, _ = impl.ShiftSpots(c, hulls[:1], given, by)
		overwriteSpots(given)
		if !slices.Equal(shifted, []impl.Spot{{At: by}}) {
			t.Error("changed with the argument", shifted)
		}
	}
}

// overwriteSpots writes over all of a list's memory.
func overwriteSpots(spots []impl.Spot) {
	for i := range spots[:cap(spots)] {
		spots[:cap(spots)][i] = impl.Spot{At: -7, Side: -7}
	}
}
