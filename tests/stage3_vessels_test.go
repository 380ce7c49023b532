package tests

import (
	"cmp"
	"math"
	"regexp"
	"slices"
	"strconv"
	"strings"
	"testing"

	"loop.example/g00924/impl"
)

// The words of the Kinds 1 to 4, in order.
var wordsOfKinds = []string{"barge", "tanker", "passenger", "pleasure"}

// someVessels returns eight Vessels, a fleet, that differ in all respects but their cells and Draughts.
func someVessels() []impl.Vessel {
	return []impl.Vessel{
		{Id: 2, Name: "anna", Length: 4, Width: 3, Draught: 120, Kind: 1},
		{Id: 3, Name: "otto", Length: 6, Width: 2, Draught: 120, Kind: 2},
		{Id: 7, Name: "maria", Length: 6, Width: 2, Draught: 250, Kind: 2},
		{Id: 20, Name: "z", Length: 1, Width: 1, Draught: 50, Kind: 4},
		{Id: 21, Name: "abcdefghij", Length: 8, Width: 3, Draught: 500, Kind: 3},
		{Id: 50, Name: "otta", Length: 2, Width: 2, Draught: 51, Kind: 1},
		{Id: 51, Name: "ott", Length: 4, Width: 1, Draught: 499, Kind: 4},
		{Id: 98, Name: "ottoo", Length: 3, Width: 3, Draught: 250, Kind: 3},
	}
}

// lowestVessel and highestVessel are at all limits of the chapter.
func lowestVessel() impl.Vessel {
	return impl.Vessel{Id: 1, Name: "a", Length: 1, Width: 1, Draught: 50, Kind: impl.KindBarge}
}

func highestVessel() impl.Vessel {
	return impl.Vessel{Id: 99, Name: "zzzzzzzzzz", Length: 8, Width: 3, Draught: 500, Kind: impl.KindPleasure}
}

// someFleets returns the empty fleet, fleets of every number of Vessels, and those at all limits.
func someFleets() [][]impl.Vessel {
	list := [][]impl.Vessel{
		nil,
		{},
		{lowestVessel()},
		{highestVessel()},
		{lowestVessel(), highestVessel()},
		slices.Concat([]impl.Vessel{lowestVessel()}, someVessels()[1:7], []impl.Vessel{highestVessel()}),
	}
	for n := 1; n <= 8; n++ {
		list = append(list, someVessels()[:n], someVessels()[8-n:])
	}
	return list
}

// brokenVessels returns Vessels that are invalid in one respect each, and the zero Vessel.
func brokenVessels() []impl.Vessel {
	list := []impl.Vessel{{}}
	breakWith := func(change func(v *impl.Vessel)) {
		v := impl.Vessel{Id: 40, Name: "berta", Length: 3, Width: 2, Draught: 200, Kind: 2}
		change(&v)
		list = append(list, v)
	}
	for _, n := range farNumbers {
		breakWith(func(v *impl.Vessel) { v.Id = n })
		breakWith(func(v *impl.Vessel) { v.Length = n })
		breakWith(func(v *impl.Vessel) { v.Width = n })
		breakWith(func(v *impl.Vessel) { v.Draught = n })
		breakWith(func(v *impl.Vessel) { v.Kind = n })
	}
	for _, n := range []int{-1, 0, 100} {
		breakWith(func(v *impl.Vessel) { v.Id = n })
	}
	for _, n := range []int{-1, 0, 9} {
		breakWith(func(v *impl.Vessel) { v.Length = n })
	}
	for _, n := range []int{-1, 0, 4} {
		breakWith(func(v *impl.Vessel) { v.Width = n })
	}
	for _, n := range []int{-50, 0, 49, 501} {
		breakWith(func(v *impl.Vessel) { v.Draught = n })
	}
	for _, n := range []int{-1, 0, 5} {
		breakWith(func(v *impl.Vessel) { v.Kind = n })
	}
	for _, name := range brokenNames() {
		breakWith(func(v *impl.Vessel) { v.Name = name })
	}
	return list
}

// brokenNames returns Names of none and of more than ten letters, and Names with another byte at each of their ends and in between.
func brokenNames() []string {
	list := []string{"", "abcdefghijk", "zzzzzzzzzzz", strings.Repeat("a", 10000), "\u00e9", "\uff41", "Berta", "ber ta", "berta\n", "be?ta"}
	for c := range 256 {
		if sign := string([]byte{byte(c)}); c < 'a' || c > 'z' {
			list = append(list, sign, sign+"b", "b"+sign, "b"+sign+"b", "bbbbbbbbb"+sign)
		}
	}
	return list
}

// brokenFleets returns lists that are not fleets, in one respect each.
func brokenFleets() [][]impl.Vessel {
	all := someVessels()
	list := [][]impl.Vessel{
		make([]impl.Vessel, 1),
		{all[1], all[0]},
		{all[0], all[2], all[1]},
		{all[2], all[0], all[1]},
		{all[0], all[0]},
		{all[0], withId(all[1], all[0].Id)},
		{all[0], all[1], withId(all[2], all[1].Id)},
		{all[0], withName(all[1], all[0].Name)},
		{all[0], all[1], withName(all[2], all[0].Name)},
		{all[0], all[1], withName(all[2], all[1].Name)},
		slices.Concat(all, []impl.Vessel{highestVessel()}),
		slices.Concat([]impl.Vessel{lowestVessel()}, all),
		slices.Concat(all[:7], []impl.Vessel{withName(all[7], all[0].Name)}),
		slices.Concat(all[:7], []impl.Vessel{withName(all[7], all[6].Name)}),
		slices.Repeat(all, 1000),
	}
	for _, v := range brokenVessels() {
		list = append(list, []impl.Vessel{v})
		for _, n := range []int{1, 5, 7} {
			// The broken Vessel has its place by its Id, where it has a valid one.
			fleet := append(slices.Clone(all[:n]), v)
			slices.SortFunc(fleet, func(a impl.Vessel, b impl.Vessel) int { return cmp.Compare(a.Id, b.Id) })
			list = append(list, fleet)
		}
	}
	return list
}

func withId(v impl.Vessel, id int) impl.Vessel {
	v.Id = id
	return v
}

func withName(v impl.Vessel, name string) impl.Vessel {
	v.Name = name
	return v
}

func withDraught(v impl.Vessel, draught int) impl.Vessel {
	v.Draught = draught
	return v
}

// idsThatPass returns the Ids of the Vessels with at most a Draught, apart from the program.
func idsThatPass(list []impl.Vessel, draught int) []int {
	ids := []int{}
	for _, v := range list {
		if v.Draught <= draught {
			ids = append(ids, v.Id)
		}
	}
	return ids
}

// comesFirst reports whether a has its place before b in the order of OrderVessels, apart from the program.
func comesFirst(a impl.Vessel, b impl.Vessel) bool {
	if a.Length*a.Width != b.Length*b.Width {
		return a.Length*a.Width > b.Length*b.Width
	}
	if a.Draught != b.Draught {
		return a.Draught > b.Draught
	}
	return a.Id < b.Id
}

// orderOf returns the Ids of a fleet, each at the index of how many Vessels come before it.
func orderOf(list []impl.Vessel) []int {
	ids := make([]int, len(list))
	for _, v := range list {
		before := 0
		for _, w := range list {
			if comesFirst(w, v) {
				before++
			}
		}
		ids[before] = v.Id
	}
	return ids
}

// ordersOf returns all orders of the numbers 0..n-1.
func ordersOf(n int) [][]int {
	if n == 0 {
		return [][]int{{}}
	}
	list := [][]int{}
	for _, order := range ordersOf(n - 1) {
		for i := range n {
			list = append(list, slices.Insert(slices.Clone(order), i, n-1))
		}
	}
	return list
}

func TestLimitsOfVessels(t *testing.T) {
	if impl.MaxVessels != 8 {
		t.Error("MaxVessels", impl.MaxVessels)
	}
	if impl.KindBarge != 1 || impl.KindTanker != 2 || impl.KindPassenger != 3 || impl.KindPleasure != 4 {
		t.Error("Kinds", impl.KindBarge, impl.KindTanker, impl.KindPassenger, impl.KindPleasure)
	}
}

// Every number in its range is valid, and none beyond it.
func TestVesselsThatAreValid(t *testing.T) {
	for _, v := range append(someVessels(), lowestVessel(), highestVessel()) {
		if !impl.IsValidVessel(v) {
			t.Errorf("%v is not valid", v)
		}
		for n := -600; n <= 600; n++ {
			expectFieldValid(t, v, 1 <= n && n <= 99, func(v *impl.Vessel) { v.Id = n })
			expectFieldValid(t, v, 1 <= n && n <= 8, func(v *impl.Vessel) { v.Length = n })
			expectFieldValid(t, v, 1 <= n && n <= 3, func(v *impl.Vessel) { v.Width = n })
			expectFieldValid(t, v, 50 <= n && n <= 500, func(v *impl.Vessel) { v.Draught = n })
			expectFieldValid(t, v, 1 <= n && n <= 4, func(v *impl.Vessel) { v.Kind = n })
		}
	}
}

// expectFieldValid makes a change to a Vessel and expects it to be valid or not.
func expectFieldValid(t *testing.T, v impl.Vessel, want bool, change func(v *impl.Vessel)) {
	t.Helper()
	change(&v)
	expectValidVessel(t, v, want)
}

func expectValidVessel(t *testing.T, v impl.Vessel, want bool) {
	t.Helper()
	if impl.IsValidVessel(v) != want {
		t.Errorf("IsValidVessel(%v) is not %v", v, want)
	}
	if impl.IsFleet([]impl.Vessel{v}) != want {
		t.Errorf("IsFleet of %v is not %v", v, want)
	}
}

func TestNamesOfVessels(t *testing.T) {
	for n := range 13 {
		for _, letters := range []string{"abcdefghijklm", "nopqrstuvwxyz", "zzzzzzzzzzzzz", "aaaaaaaaaaaaa"} {
			expectValidVessel(t, withName(lowestVessel(), letters[:n]), 1 <= n && n <= 10)
		}
	}
	for c := range 256 {
		letter := 'a' <= c && c <= 'z'
		for i := range 10 {
			name := []byte("qqqqqqqqqq")
			name[i] = byte(c)
			expectValidVessel(t, withName(highestVessel(), string(name)), letter)
			expectValidVessel(t, withName(highestVessel(), string(name[:i+1])), letter)
		}
	}
}

// Beyond every limit, no function has a result.
func TestVesselsThatAreNotValid(t *testing.T) {
	for _, v := range brokenVessels() {
		expectValidVessel(t, v, false)
		if s, ok := impl.VesselText(v); ok || s != "" {
			t.Errorf("VesselText(%v) = %q, %v", v, s, ok)
		}
		for _, list := range someFleets() {
			if l, ok := impl.AddVessel(list, v); ok || len(l) != 0 {
				t.Errorf("AddVessel(%v, %v) = %v, %v", list, v, l, ok)
			}
		}
	}
}

func TestFleets(t *testing.T) {
	for _, list := range someFleets() {
		if !impl.IsFleet(list) {
			t.Errorf("%v is no fleet", list)
		}
	}
	// Every part of a fleet is one, in its order only.
	all := someVessels()
	for _, order := range ordersOf(4) {
		list := []impl.Vessel{}
		for _, i := range order {
			list = append(list, all[2*i])
		}
		if impl.IsFleet(list) != slices.IsSorted(order) {
			t.Errorf("IsFleet(%v) = %v", list, impl.IsFleet(list))
		}
	}
	for first := range 8 {
		for second := range 8 {
			list := []impl.Vessel{all[first], all[second]}
			if impl.IsFleet(list) != (first < second) {
				t.Errorf("IsFleet(%v) = %v", list, impl.IsFleet(list))
			}
		}
	}
}

func TestListsThatAreNoFleets(t *testing.T) {
	for _, list := range brokenFleets() {
		if impl.IsFleet(list) {
			t.Fatalf("%v is a fleet", list)
		}
		expectNoVessels(t, list)
		if n, ok := impl.CellsOf(list); ok || n != 0 {
			t.Errorf("CellsOf(%v) = %d, %v", list, n, ok)
		}
		for _, depth := range []int{0, 200, 1000} {
			if ids, ok := impl.PassDepth(list, depth, 0); ok || len(ids) != 0 {
				t.Errorf("PassDepth(%v, %d, 0) = %d, %v", list, depth, ids, ok)
			}
		}
		if ids, ok := impl.OrderVessels(list); ok || len(ids) != 0 {
			t.Errorf("OrderVessels(%v) = %d, %v", list, ids, ok)
		}
	}
}

// expectNoVessels expects the functions that return Vessels to fail for a list that is no fleet.
func expectNoVessels(t *testing.T, list []impl.Vessel) {
	t.Helper()
	for _, v := range []impl.Vessel{lowestVessel(), highestVessel(), withName(withId(someVessels()[0], 30), "neu")} {
		if l, ok := impl.AddVessel(list, v); ok || len(l) != 0 {
			t.Errorf("AddVessel(%v, %v) = %v, %v", list, v, l, ok)
		}
	}
	for i, w := range list {
		if i > 10 {
			break
		}
		if v, ok := impl.VesselNamed(list, w.Name); ok || v != (impl.Vessel{}) {
			t.Errorf("VesselNamed(%v, %q) = %v, %v", list, w.Name, v, ok)
		}
		if l, ok := impl.LightenVessel(list, w.Id, 1); ok || len(l) != 0 {
			t.Errorf("LightenVessel(%v, %d, 1) = %v, %v", list, w.Id, l, ok)
		}
	}
}

// A list that would be a fleet if its one Vessel was lighter is none before.
func TestLighteningAVesselThatIsTooDeep(t *testing.T) {
	for _, draught := range []int{501, 510, 600} {
		list := []impl.Vessel{withDraught(lowestVessel(), draught)}
		if l, ok := impl.LightenVessel(list, 1, draught-400); ok || len(l) != 0 {
			t.Errorf("LightenVessel(%v, 1, %d) = %v, %v", list, draught-400, l, ok)
		}
	}
}

func TestAddVessel(t *testing.T) {
	all := someVessels()
	for n := range 9 {
		for i := range n {
			without := slices.Delete(slices.Clone(all[:n]), i, i+1)
			if l, ok := impl.AddVessel(without, all[i]); !ok || !slices.Equal(l, all[:n]) {
				t.Errorf("AddVessel(%v, %v) = %v, %v", without, all[i], l, ok)
			}
		}
	}
	for n := range 9 {
		for _, id := range []int{1, 4, 22, 49, 60, 99} {
			v := withName(withId(all[2], id), "neu")
			want := []impl.Vessel{}
			for _, w := range all[:n] {
				if w.Id < id {
					want = append(want, w)
				}
			}
			want = append(want, v)
			want = append(want, all[len(want)-1:n]...)
			l, ok := impl.AddVessel(all[:n], v)
			if ok != (n < 8) || ok && !slices.Equal(l, want) || !ok && len(l) != 0 {
				t.Errorf("AddVessel(%v, %v) = %v, %v", all[:n], v, l, ok)
			}
		}
	}
}

// A Vessel with the Id or the Name of another one is not added, also if it is the same one.
func TestVesselsThatAreThereAlready(t *testing.T) {
	all := someVessels()
	for n := range 9 {
		for _, v := range all[:n] {
			for _, w := range []impl.Vessel{
				v, withName(v, "neu"), withDraught(v, 77), withId(v, 1), withId(v, 99), withId(v, 30), withName(withDraught(v, 77), "neu"),
			} {
				if l, ok := impl.AddVessel(all[:n], w); ok || len(l) != 0 {
					t.Errorf("AddVessel(%v, %v) = %v, %v", all[:n], w, l, ok)
				}
			}
		}
	}
}

// P3: in whichever order Vessels are added, each of them is found by its name from then on, and the fleet is the same.
func TestAddedVesselsAreFound(t *testing.T) {
	all := someVessels()
	for _, order := range ordersOf(6) {
		list := []impl.Vessel{}
		for _, i := range order {
			more, ok := impl.AddVessel(list, all[i])
			if !ok || len(more) != len(list)+1 || !impl.IsFleet(more) {
				t.Fatalf("AddVessel(%v, %v) = %v, %v", list, all[i], more, ok)
			}
			for _, v := range append(slices.Clone(list), all[i]) {
				if w, ok := impl.VesselNamed(more, v.Name); !ok || w != v {
					t.Fatalf("VesselNamed(%v, %q) = %v, %v", more, v.Name, w, ok)
				}
			}
			if w, ok := impl.VesselNamed(list, all[i].Name); ok || w != (impl.Vessel{}) {
				t.Fatalf("VesselNamed(%v, %q) = %v, %v", list, all[i].Name, w, ok)
			}
			list = more
		}
		if !slices.Equal(list, all[:6]) {
			t.Fatalf("added in the order %d: %v", order, list)
		}
	}
}

func TestVesselNamed(t *testing.T) {
	for _, list := range someFleets() {
		for _, v := range list {
			if w, ok := impl.VesselNamed(list, v.Name); !ok || w != v {
				t.Errorf("VesselNamed(%v, %q) = %v, %v", list, v.Name, w, ok)
			}
		}
		for _, name := range append(brokenNames(), "nobody", "ot", "ottoot", "ann", "nna", "aa", "zz", "y", "maria ", "Maria", "maria\x00") {
			if w, ok := impl.VesselNamed(list, name); ok || w != (impl.Vessel{}) {
				t.Errorf("VesselNamed(%v, %q) = %v, %v", list, name, w, ok)
			}
		}
	}
}

func TestCellsOf(t *testing.T) {
	for _, list := range someFleets() {
		want := 0
		for _, v := range list {
			want += v.Length * v.Width
		}
		if n, ok := impl.CellsOf(list); !ok || n != want {
			t.Errorf("CellsOf(%v) = %d, %v", list, n, ok)
		}
	}
	if n, ok := impl.CellsOf(nil); !ok || n != 0 {
		t.Error("the empty fleet", n, ok)
	}
	if n, ok := impl.CellsOf(someVessels()); !ok || n != 12+12+12+1+24+4+4+9 {
		t.Error("the whole fleet", n, ok)
	}
	for length := 1; length <= 8; length++ {
		for width := 1; width <= 3; width++ {
			v := impl.Vessel{Id: 1, Name: "a", Length: length, Width: width, Draught: 50, Kind: 1}
			if n, ok := impl.CellsOf([]impl.Vessel{v}); !ok || n != length*width {
				t.Errorf("CellsOf %v = %d, %v", v, n, ok)
			}
		}
	}
}

// For all depths and keels, and one beyond each.
func TestPassDepth(t *testing.T) {
	all := someVessels()
	for depth := -1; depth <= 1001; depth++ {
		for keel := -1; keel <= 101; keel++ {
			valid := 0 <= depth && depth <= 1000 && 0 <= keel && keel <= 100
			want := []int{}
			if valid {
				want = idsThatPass(all, depth-keel)
			}
			if ids, ok := impl.PassDepth(all, depth, keel); ok != valid || !slices.Equal(ids, want) {
				t.Fatalf("PassDepth(%v, %d, %d) = %d, %v", all, depth, keel, ids, ok)
			}
		}
	}
}

func TestPassDepthAtItsLimits(t *testing.T) {
	both := []impl.Vessel{lowestVessel(), highestVessel()}
	for _, c := range []struct {
		depth, keel int
		want        []int
	}{
		{49, 0, nil}, {50, 0, []int{1}}, {51, 0, []int{1}}, {50, 1, nil}, {51, 1, []int{1}}, {149, 100, nil}, {150, 100, []int{1}},
		{499, 0, []int{1}}, {500, 0, []int{1, 99}}, {500, 1, []int{1}}, {599, 100, []int{1}}, {600, 100, []int{1, 99}},
		{0, 0, nil}, {0, 100, nil}, {1000, 0, []int{1, 99}}, {1000, 100, []int{1, 99}},
	} {
		if ids, ok := impl.PassDepth(both, c.depth, c.keel); !ok || !slices.Equal(ids, c.want) {
			t.Errorf("PassDepth at %d with %d = %d, %v", c.depth, c.keel, ids, ok)
		}
		if ids, ok := impl.PassDepth(nil, c.depth, c.keel); !ok || len(ids) != 0 {
			t.Errorf("PassDepth of none at %d with %d = %d, %v", c.depth, c.keel, ids, ok)
		}
	}
	for _, list := range someFleets() {
		for _, bad := range append([]int{-1, -50, 1001}, farNumbers...) {
			if ids, ok := impl.PassDepth(list, bad, 50); ok || len(ids) != 0 {
				t.Errorf("PassDepth(%v, %d, 50) = %d, %v", list, bad, ids, ok)
			}
		}
		for _, bad := range append([]int{-1, -50, 101}, farNumbers...) {
			if ids, ok := impl.PassDepth(list, 1000, bad); ok || len(ids) != 0 {
				t.Errorf("PassDepth(%v, 1000, %d) = %d, %v", list, bad, ids, ok)
			}
		}
	}
}

// Every Vessel of every fleet, lightened by every number up to its least Draught and beyond it.
func TestLightenVessel(t *testing.T) {
	for _, list := range someFleets() {
		for i, v := range list {
			for by := -2; by <= 501; by++ {
				want := []impl.Vessel{}
				if by > 0 && v.Draught-by >= 50 {
					want = slices.Clone(list)
					want[i].Draught -= by
				}
				l, ok := impl.LightenVessel(list, v.Id, by)
				if ok != (len(want) > 0) || !slices.Equal(l, want) {
					t.Fatalf("LightenVessel(%v, %d, %d) = %v, %v", list, v.Id, by, l, ok)
				}
			}
			for _, by := range farNumbers {
				if l, ok := impl.LightenVessel(list, v.Id, by); ok || len(l) != 0 {
					t.Errorf("LightenVessel(%v, %d, %d) = %v, %v", list, v.Id, by, l, ok)
				}
			}
		}
		for _, id := range append([]int{-2, -1, 0, 4, 8, 19, 22, 49, 52, 97, 100, 101}, farNumbers...) {
			if l, ok := impl.LightenVessel(list, id, 1); ok || len(l) != 0 {
				t.Errorf("LightenVessel(%v, %d, 1) = %v, %v", list, id, l, ok)
			}
		}
	}
}

func TestLightenVesselAtItsLimits(t *testing.T) {
	list := []impl.Vessel{lowestVessel(), withDraught(highestVessel(), 51)}
	if l, ok := impl.LightenVessel(list, 99, 1); !ok || !slices.Equal(l, []impl.Vessel{lowestVessel(), withDraught(highestVessel(), 50)}) {
		t.Error("to the least Draught", l, ok)
	}
	for _, c := range [][2]int{{99, 2}, {1, 1}, {99, 0}, {1, 0}, {99, -1}, {1, -1}, {99, -449}, {99, -450}} {
		if l, ok := impl.LightenVessel(list, c[0], c[1]); ok || len(l) != 0 {
			t.Errorf("LightenVessel of %d by %d = %v, %v", c[0], c[1], l, ok)
		}
	}
	if l, ok := impl.LightenVessel([]impl.Vessel{highestVessel()}, 99, 450); !ok || len(l) != 1 || l[0].Draught != 50 {
		t.Error("from the greatest Draught to the least one", l, ok)
	}
}

// P3: where a Vessel passes, it passes as well when it is lighter, as do all others.
func TestLighterVesselsPass(t *testing.T) {
	for _, list := range someFleets() {
		for i, v := range list {
			for _, by := range []int{1, 2, 69, 200, 449, 450} {
				lighter, ok := impl.LightenVessel(list, v.Id, by)
				if !ok {
					continue
				}
				for depth := 0; depth <= 1000; depth += 3 {
					expectPassAsBefore(t, list, lighter, i, depth, depth%101)
				}
				for _, keel := range []int{0, 1, 99, 100} {
					expectPassAsBefore(t, list, lighter, i, v.Draught+keel, keel)
					expectPassAsBefore(t, list, lighter, i, v.Draught+keel-1, keel)
					expectPassAsBefore(t, list, lighter, i, v.Draught+keel-by, keel)
				}
			}
		}
	}
}

// expectPassAsBefore expects the same Vessels to pass when that with an index is lighter, and this one besides where it may now.
func expectPassAsBefore(t *testing.T, list []impl.Vessel, lighter []impl.Vessel, i int, depth int, keel int) {
	t.Helper()
	before, ok := impl.PassDepth(list, depth, keel)
	after, fine := impl.PassDepth(lighter, depth, keel)
	if !ok || !fine {
		t.Fatalf("nothing passes at %d with %d", depth, keel)
	}
	for _, v := range list {
		passed, passes := slices.Contains(before, v.Id), slices.Contains(after, v.Id)
		if passed && !passes || v.Id != list[i].Id && passed != passes {
			t.Errorf("at %d with %d, %v: %d, and %v: %d", depth, keel, list, before, lighter, after)
		}
	}
	if slices.Contains(after, list[i].Id) != (lighter[i].Draught+keel <= depth) {
		t.Errorf("at %d with %d, %v: %d", depth, keel, lighter, after)
	}
}

func TestOrderVessels(t *testing.T) {
	for _, list := range someFleets() {
		if ids, ok := impl.OrderVessels(list); !ok || !slices.Equal(ids, orderOf(list)) {
			t.Errorf("OrderVessels(%v) = %d, %v", list, ids, ok)
		}
	}
	// Equal cells of 12 and of 4, of which the first ones have equal Draughts, too.
	if ids, ok := impl.OrderVessels(someVessels()); !ok || !slices.Equal(ids, []int{21, 7, 2, 3, 98, 51, 50, 20}) {
		t.Error("the whole fleet", ids, ok)
	}
	same := []impl.Vessel{}
	for i := range 8 {
		same = append(same, impl.Vessel{Id: 90 + i, Name: "hgfedcba"[i : i+1], Length: 2, Width: 2, Draught: 100, Kind: 4 - i%4})
	}
	if ids, ok := impl.OrderVessels(same); !ok || !slices.Equal(ids, []int{90, 91, 92, 93, 94, 95, 96, 97}) {
		t.Error("equal ones", ids, ok)
	}
	if ids, ok := impl.OrderVessels(nil); !ok || len(ids) != 0 {
		t.Error("the empty fleet", ids, ok)
	}
}

// All fleets of up to four Vessels with few cells and Draughts, so that many of them are equal.
func TestOrderOfEqualVessels(t *testing.T) {
	sorts := []impl.Vessel{
		{Length: 4, Width: 1, Draught: 50, Kind: 1}, {Length: 2, Width: 2, Draught: 50, Kind: 2},
		{Length: 2, Width: 2, Draught: 51, Kind: 3}, {Length: 4, Width: 1, Draught: 500, Kind: 4},
		{Length: 3, Width: 1, Draught: 500, Kind: 1}, {Length: 1, Width: 3, Draught: 50, Kind: 2},
		{Length: 5, Width: 1, Draught: 51, Kind: 3},
	}
	fleets := [][]impl.Vessel{{}}
	for len(fleets[0]) < 4 {
		more := [][]impl.Vessel{}
		for _, list := range fleets {
			for _, v := range sorts {
				v.Id, v.Name = 10*len(list)+5, "dacb"[len(list):len(list)+1]
				more = append(more, append(slices.Clone(list), v))
			}
		}
		fleets = more
		for _, list := range fleets {
			if ids, ok := impl.OrderVessels(list); !ok || !slices.Equal(ids, orderOf(list)) {
				t.Fatalf("OrderVessels(%v) = %d, %v", list, ids, ok)
			}
		}
	}
}

func TestVesselText(t *testing.T) {
	for _, c := range []struct {
		v    impl.Vessel
		want string
	}{
		{someVessels()[2], "7 maria tanker 6x2 draught 250"},
		{lowestVessel(), "1 a barge 1x1 draught 50"},
		{highestVessel(), "99 zzzzzzzzzz pleasure 8x3 draught 500"},
		{impl.Vessel{Id: 10, Name: "x", Length: 2, Width: 3, Draught: 99, Kind: impl.KindPassenger}, "10 x passenger 2x3 draught 99"},
		{impl.Vessel{Id: 9, Name: "draught", Length: 7, Width: 1, Draught: 100, Kind: impl.KindBarge}, "9 draught barge 7x1 draught 100"},
		{impl.Vessel{Id: 5, Name: "tanker", Length: 5, Width: 2, Draught: 101, Kind: impl.KindTanker}, "5 tanker tanker 5x2 draught 101"},
	} {
		if s, ok := impl.VesselText(c.v); !ok || s != c.want {
			t.Errorf("VesselText(%v) = %q, %v", c.v, s, ok)
		}
		if v, ok := impl.ParseVessel(c.want); !ok || v != c.v {
			t.Errorf("ParseVessel(%q) = %v, %v", c.want, v, ok)
		}
	}
}

// Every Vessel is written and read again: all Ids, Kinds, Lengths and Widths, and all Draughts.
func TestVesselTextsRoundTrip(t *testing.T) {
	for id := 1; id <= 99; id++ {
		for draught := 50; draught <= 500; draught++ {
			v := impl.Vessel{Id: id, Name: "abcdefghij"[:1+draught%10], Length: 1 + draught%8, Width: 1 + (id+draught)%3, Draught: draught, Kind: 1 + (id+draught/4)%4}
			want := strconv.Itoa(id) + " " + v.Name + " " + wordsOfKinds[v.Kind-1] + " " +
				strconv.Itoa(v.Length) + "x" + strconv.Itoa(v.Width) + " draught " + strconv.Itoa(draught)
			if s, ok := impl.VesselText(v); !ok || s != want {
				t.Fatalf("VesselText(%v) = %q, %v", v, s, ok)
			}
			if w, ok := impl.ParseVessel(want); !ok || w != v {
				t.Fatalf("ParseVessel(%q) = %v, %v", want, w, ok)
			}
		}
	}
}

var vesselLine = regexp.MustCompile(`^([1-9][0-9]?) ([a-z]{1,10}) (barge|tanker|passenger|pleasure) ([1-8])x([1-3]) draught ([1-9][0-9]{1,2})\z`)

// vesselIn reads a text apart from the program.
func vesselIn(s string) (impl.Vessel, bool) {
	found := vesselLine.FindStringSubmatch(s)
	if found == nil {
		return impl.Vessel{}, false
	}
	n := [7]int{}
	for i, digits := range found {
		n[i], _ = strconv.Atoi(digits)
	}
	if n[6] < 50 || n[6] > 500 {
		return impl.Vessel{}, false
	}
	kind := 1 + slices.Index(wordsOfKinds, found[3])
	return impl.Vessel{Id: n[1], Name: found[2], Length: n[4], Width: n[5], Draught: n[6], Kind: kind}, true
}

// expectVesselRead expects ParseVessel to read a text as vesselIn does.
func expectVesselRead(t *testing.T, s string) {
	t.Helper()
	want, right := vesselIn(s)
	if v, ok := impl.ParseVessel(s); ok != right || v != want {
		t.Fatalf("ParseVessel(%s) = %v, %v", shown(s), v, ok)
	}
	if !right {
		return
	}
	if text, ok := impl.VesselText(want); !ok || text != s {
		t.Fatalf("VesselText(%v) = %q, %v", want, text, ok)
	}
}

// A byte that is changed, left out or added makes the text of another Vessel or of none.
func TestVesselTextsThatDifferInOneByte(t *testing.T) {
	for _, v := range append(someVessels(), lowestVessel(), highestVessel()) {
		s, ok := impl.VesselText(v)
		if !ok {
			t.Fatalf("no text of %v", v)
		}
		for near := range textsNear(s) {
			expectVesselRead(t, near)
		}
	}
}

func TestTextsOfNoVessel(t *testing.T) {
	right := "7 maria tanker 6x2 draught 250"
	for _, s := range []string{
		"", " ", "     ", "      ", "7", "x", "7 maria", "7 maria tanker", "7 maria tanker 6x2", "7 maria tanker 6x2 draught",
		"7 maria tanker 6x2 draught ", "7 maria tanker 6x2 250", "7 maria tanker draught 250", "7 maria 6x2 draught 250", "maria tanker 6x2 draught 250",
		"7 tanker 6x2 draught 250", "7  tanker 6x2 draught 250", " maria tanker 6x2 draught 250", "7 maria  6x2 draught 250",
		right + " ", " " + right, right + "\n", "\n" + right, right + "\x00", right + " 1", right + right, right + " " + right,
		"0 maria tanker 6x2 draught 250", "100 maria tanker 6x2 draught 250", "-7 maria tanker 6x2 draught 250", "+7 maria tanker 6x2 draught 250",
		"07 maria tanker 6x2 draught 250", "7.0 maria tanker 6x2 draught 250", "x maria tanker 6x2 draught 250", "? maria tanker 6x2 draught 250",
		"18446744073709551623 maria tanker 6x2 draught 250", "\u0667 maria tanker 6x2 draught 250",
		"7 Maria tanker 6x2 draught 250", "7 mari4 tanker 6x2 draught 250", "7 m-a tanker 6x2 draught 250", "7 abcdefghijk tanker 6x2 draught 250",
		"7 maria boat 6x2 draught 250", "7 maria Tanker 6x2 draught 250", "7 maria tankers 6x2 draught 250", "7 maria tank 6x2 draught 250",
		"7 maria 2 6x2 draught 250", "7 maria kind 6x2 draught 250", "7 maria none 6x2 draught 250", "7 maria ? 6x2 draught 250",
		"7 maria tanker 0x2 draught 250", "7 maria tanker 9x2 draught 250", "7 maria tanker 6x0 draught 250", "7 maria tanker 6x4 draught 250",
		"7 maria tanker 06x2 draught 250", "7 maria tanker 6x02 draught 250", "7 maria tanker -6x2 draught 250", "7 maria tanker 6x-2 draught 250",
		"7 maria tanker +6x2 draught 250", "7 maria tanker 6x+2 draught 250", "7 maria tanker 6x2x1 draught 250", "7 maria tanker 6xx2 draught 250",
		"7 maria tanker 6x2x draught 250", "7 maria tanker x6x2 draught 250", "7 maria tanker x2 draught 250", "7 maria tanker 6x draught 250",
		"7 maria tanker x draught 250", "7 maria tanker 62 draught 250", "7 maria tanker 6 draught 250", "7 maria tanker 6 x 2 draught 250",
		"7 maria tanker 6X2 draught 250", "7 maria tanker 6*2 draught 250", "7 maria tanker 6,2 draught 250", "7 maria tanker ?x? draught 250",
		"7 maria tanker 6x2 Draught 250", "7 maria tanker 6x2 draft 250", "7 maria tanker 6x2 draughts 250", "7 maria tanker 6x2  250",
		"7 maria tanker 6x2 depth 250", "7 maria tanker 6x2 250 draught", "7 maria tanker 2 draught 6x250",
		"7 maria tanker 6x2 draught 49", "7 maria tanker 6x2 draught 501", "7 maria tanker 6x2 draught 0250", "7 maria tanker 6x2 draught +250",
		"7 maria tanker 6x2 draught -250", "7 maria tanker 6x2 draught 0", "7 maria tanker 6x2 draught x", "7 maria tanker 6x2 draught 1000000",
		"7 maria tanker 6x2 draught 250 cm", "7 maria tanker 6x2 draught 250cm", "7 maria tanker 6x2 draught ?",
		"7\tmaria tanker 6x2 draught 250", "7 maria  tanker 6x2 draught 250", "7  maria tanker 6x2 draught 250", "maria 7 tanker 6x2 draught 250",
		"7 maria tanker 6x2 draught 18446744073709551866", strings.Repeat(" ", 4000), strings.Repeat(" ", 100000), strings.Repeat(right, 1000),
		"7 " + strings.Repeat("m", 100000) + " tanker 6x2 draught 250", right + strings.Repeat(" ", 3970), right + strings.Repeat("0", 100000), allBytes(),
	} {
		if v, ok := impl.ParseVessel(s); ok || v != (impl.Vessel{}) {
			t.Errorf("ParseVessel(%s) = %v, %v", shown(s), v, ok)
		}
		if _, ok := vesselIn(s); ok {
			t.Errorf("%s is the text of a Vessel", shown(s))
		}
	}
}

// withMoreVessels returns a list in a slice that has room behind its elements, and that room filled with what would make it longer.
func withMoreVessels(list []impl.Vessel) []impl.Vessel {
	more := append(slices.Clone(list), withName(highestVessel(), "more"), withName(withId(highestVessel(), 97), "moreover"))
	return more[:len(list)]
}

func wholeFleet(list []impl.Vessel) []impl.Vessel { return list[:cap(list)] }

// P29: all functions return whatever their arguments, the same when called again, and leave their arguments as they are, also
// beyond their lengths, where what stands plays no part.
func TestVesselFunctionsLeaveTheirArguments(t *testing.T) {
	for _, list := range append(someFleets(), brokenFleets()...) {
		if len(list) > 10 {
			continue
		}
		given := withMoreVessels(list)
		before := slices.Clone(wholeFleet(given))
		if impl.IsFleet(given) != impl.IsFleet(list) {
			t.Errorf("IsFleet(%v) has read too far", list)
		}
		expectSameIds(t, given, list)
		for _, v := range []impl.Vessel{{}, lowestVessel(), highestVessel(), withName(withId(lowestVessel(), 30), "more"), someVessels()[2]} {
			expectSameVessels(t, given, list, v)
		}
		if !slices.Equal(wholeFleet(given), before) {
			t.Fatalf("%v was changed to %v", before, wholeFleet(given))
		}
	}
}

// expectSameIds calls the functions that return numbers for both of two equal lists.
func expectSameIds(t *testing.T, a []impl.Vessel, b []impl.Vessel) {
	t.Helper()
	m, ok := impl.CellsOf(a)
	n, fine := impl.CellsOf(b)
	if m != n || ok != fine {
		t.Errorf("CellsOf(%v) = %d and %d", b, m, n)
	}
	l, ok := impl.OrderVessels(a)
	k, fine := impl.OrderVessels(b)
	if !slices.Equal(l, k) || ok != fine {
		t.Errorf("OrderVessels(%v) = %d and %d", b, l, k)
	}
	for _, depth := range append([]int{0, 100, 499, 500, 600, 1000}, farNumbers...) {
		for _, keel := range append([]int{0, 1, 100}, farNumbers...) {
			l, ok = impl.PassDepth(a, depth, keel)
			k, fine = impl.PassDepth(b, depth, keel)
			if !slices.Equal(l, k) || ok != fine {
				t.Errorf("PassDepth(%v, %d, %d) = %d and %d", b, depth, keel, l, k)
			}
		}
	}
}

// expectSameVessels calls the functions that return Vessels for both of two equal lists.
func expectSameVessels(t *testing.T, a []impl.Vessel, b []impl.Vessel, v impl.Vessel) {
	t.Helper()
	l, ok := impl.AddVessel(a, v)
	k, fine := impl.AddVessel(b, v)
	if !slices.Equal(l, k) || ok != fine {
		t.Errorf("AddVessel(%v, %v) = %v and %v", b, v, l, k)
	}
	for _, name := range []string{v.Name, "more", "moreover", "maria"} {
		x, ok := impl.VesselNamed(a, name)
		y, fine := impl.VesselNamed(b, name)
		if x != y || ok != fine {
			t.Errorf("VesselNamed(%v, %q) = %v and %v", b, name, x, y)
		}
	}
	for _, id := range append([]int{v.Id, 97, 99}, farNumbers...) {
		for _, by := range []int{math.MinInt, -1, 0, 1, 100, math.MaxInt} {
			l, ok = impl.LightenVessel(a, id, by)
			k, fine = impl.LightenVessel(b, id, by)
			if !slices.Equal(l, k) || ok != fine {
				t.Errorf("LightenVessel(%v, %d, %d) = %v and %v", b, id, by, l, k)
			}
		}
	}
}

// overwriteFleet writes over all of a list's memory.
func overwriteFleet(list []impl.Vessel) {
	for i := range wholeFleet(list) {
		wholeFleet(list)[i] = impl.Vessel{Id: -1, Name: "overwritten"}
	}
}

// expectOwnMemory expects a result to keep what it has when its argument is overwritten, and the argument when the result is.
func expectOwnMemory(t *testing.T, call func(list []impl.Vessel) []impl.Vessel, list []impl.Vessel) {
	t.Helper()
	given := withMoreVessels(list)
	before := slices.Clone(wholeFleet(given))
	overwriteFleet(call(given))
	if !slices.Equal(wholeFleet(given), before) {
		t.Errorf("%v is changed with its result", before)
	}
	given = withMoreVessels(list)
	result := call(given)
	want := slices.Clone(result)
	overwriteFleet(given)
	if !slices.Equal(result, want) {
		t.Errorf("%v is changed with its argument", want)
	}
}

// A result shares no memory with an argument.
func TestFleetsShareNoMemory(t *testing.T) {
	for _, list := range someFleets() {
		for _, id := range []int{1, 5, 99} {
			expectOwnMemory(t, func(list []impl.Vessel) []impl.Vessel {
				more, _ := impl.AddVessel(list, withName(withId(lowestVessel(), id), "neu"))
				return more
			}, list)
		}
		for _, v := range list {
			expectOwnMemory(t, func(list []impl.Vessel) []impl.Vessel {
				lighter, _ := impl.LightenVessel(list, v.Id, 1)
				return lighter
			}, list)
		}
	}
}

func TestListsOfIdsAreNew(t *testing.T) {
	all := someVessels()
	expectNewInts(t, 8, func() ([]int, bool) { return impl.PassDepth(all, 1000, 100) })
	expectNewInts(t, 8, func() ([]int, bool) { return impl.OrderVessels(all) })
}
