package tests

import (
	"cmp"
	"iter"
	"math"
	"slices"
	"testing"

	"loop.example/g00924/impl"
)

// farVolumes are numbers far from every limit of the chapter.
func farVolumes() []int {
	return []int{math.MinInt, math.MinInt + 1, -1 << 32, -100001, -100000, 200000, 1 << 32, math.MaxInt - 1, math.MaxInt}
}

// basinsOf returns Basins of their Volume, Least and Most.
func basinsOf(triples ...[3]int) []impl.Basin {
	list := []impl.Basin{}
	for _, n := range triples {
		list = append(list, impl.Basin{Volume: n[0], Least: n[1], Most: n[2]})
	}
	return list
}

// flowsOf returns Flows of their From, To and Volume.
func flowsOf(triples ...[3]int) []impl.Flow {
	flows := []impl.Flow{}
	for _, n := range triples {
		flows = append(flows, impl.Flow{From: n[0], To: n[1], Volume: n[2]})
	}
	return flows
}

// withVolumes returns the Basins with other Volumes.
func withVolumes(list []impl.Basin, volumes ...int) []impl.Basin {
	other := slices.Clone(list)
	for i, volume := range volumes {
		other[i].Volume = volume
	}
	return other
}

// someBasins returns Basins of every number, among them full ones, ones at their Least and ones whose Least is their Most.
func someBasins() [][]impl.Basin {
	six := basinsOf([3]int{50, 10, 60}, [3]int{20, 0, 40}, [3]int{30, 30, 70}, [3]int{45, 5, 45}, [3]int{25, 25, 25}, [3]int{8, 0, 100000})
	lists := [][]impl.Basin{
		basinsOf([3]int{0, 0, 0}),
		basinsOf([3]int{100000, 100000, 100000}),
		basinsOf([3]int{0, 0, 100000}, [3]int{100000, 0, 100000}),
		basinsOf([3]int{100000, 0, 100000}, [3]int{0, 0, 100000}, [3]int{50000, 0, 100000}),
	}
	for n := 1; n <= 6; n++ {
		lists = append(lists, six[:n], six[6-n:])
	}
	return lists
}

// smallBasins returns all Basins whose Most is at most most.
func smallBasins(most int) []impl.Basin {
	list := []impl.Basin{}
	for m := range most + 1 {
		for volume := range m + 1 {
			for least := range volume + 1 {
				list = append(list, impl.Basin{Volume: volume, Least: least, Most: m})
			}
		}
	}
	return list
}

// manyBasins yields all lists of up to three very small Basins, and 3000 of up to six greater ones, of which many are full or at
// their Least.
func manyBasins() iter.Seq[[]impl.Basin] {
	return func(yield func([]impl.Basin) bool) {
		small := smallBasins(3)
		for n := 1; n <= 3; n++ {
			for places := range listsOver(countingUp(len(small)), n) {
				list := []impl.Basin{}
				for _, place := range places {
					list = append(list, small[place])
				}
				if !yield(list) {
					return
				}
			}
		}
		next := sequence()
		for k := range 3000 {
			list := []impl.Basin{}
			for range 1 + k%6 {
				least := next(10)
				room := next([]int{6, 15, 60, 300}[k/6%4])
				volume := least + []int{0, room, next(room + 1), next(room + 1)}[next(4)]
				list = append(list, impl.Basin{Volume: volume, Least: least, Most: least + room})
			}
			if !yield(list) {
				return
			}
		}
	}
}

// brokenBasins returns lists that are no Basins: too short, too long, or with one that is not valid in any place.
func brokenBasins() [][]impl.Basin {
	valid := impl.Basin{Volume: 20, Least: 10, Most: 30}
	lists := [][]impl.Basin{nil, {}, slices.Repeat([]impl.Basin{valid}, 7), slices.Repeat([]impl.Basin{valid}, 1000)}
	broken := basinsOf(
		[3]int{-1, -1, 30}, [3]int{-1, 0, 30}, [3]int{0, -1, 30}, [3]int{20, -1, 30}, [3]int{9, 10, 30}, [3]int{31, 10, 30},
		[3]int{20, 21, 30}, [3]int{20, 10, 19}, [3]int{20, 31, 30}, [3]int{20, 30, 10}, [3]int{30, 30, 29}, [3]int{10, 11, 10},
		[3]int{20, 10, 100001}, [3]int{100000, 0, 100001}, [3]int{100001, 0, 100001}, [3]int{100001, 100001, 100001},
		[3]int{100001, 0, 100000}, [3]int{20, 10, 0}, [3]int{0, 0, -1}, [3]int{-1, -1, -1},
	)
	for _, n := range farVolumes() {
		broken = append(broken, impl.Basin{Volume: n, Least: 10, Most: 30}, impl.Basin{Volume: 20, Least: n, Most: 30})
		broken = append(broken, impl.Basin{Volume: n, Least: n, Most: n}, impl.Basin{Volume: 20, Least: 10, Most: n})
	}
	for n := 1; n <= 6; n++ {
		for i := range n {
			for _, b := range broken {
				list := slices.Repeat([]impl.Basin{valid}, n)
				list[i] = b
				lists = append(lists, list)
			}
		}
	}
	return lists
}

// brokenFlows returns Flows that are not valid for n Basins.
func brokenFlows(n int) []impl.Flow {
	flows := flowsOf([3]int{-1, -1, 1}, [3]int{-1, -1, 5}, [3]int{n, -1, 1}, [3]int{-1, n, 1}, [3]int{n, n, 1}, [3]int{n + 1, -1, 1})
	for i := range n {
		flows = append(flows, flowsOf([3]int{i, i, 1}, [3]int{i, n, 1}, [3]int{n, i, 1}, [3]int{i, -2, 1}, [3]int{-2, i, 1})...)
		flows = append(flows, flowsOf([3]int{i, i, 0}, [3]int{i, 6, 1}, [3]int{7, i, 1}, [3]int{-2, -2, 1}, [3]int{-1, -2, 1})...)
		for _, far := range append([]int{0, -1, 100001}, farVolumes()...) {
			flows = append(flows, flowsOf([3]int{i, -1, far}, [3]int{-1, i, far})...)
			if i > 0 {
				flows = append(flows, flowsOf([3]int{i, 0, far}, [3]int{0, i, far})...)
			}
		}
		for _, far := range farVolumes() {
			flows = append(flows, flowsOf([3]int{i, far, 1}, [3]int{far, i, 1}, [3]int{-1, far, 1}, [3]int{far, -1, 1})...)
		}
	}
	return flows
}

// flowsAmong returns a Flow of each volume between every two ends among n Basins.
func flowsAmong(n int, volumes ...int) []impl.Flow {
	flows := []impl.Flow{}
	for from := -1; from < n; from++ {
		for to := -1; to < n; to++ {
			for _, volume := range volumes {
				if from != to {
					flows = append(flows, impl.Flow{From: from, To: to, Volume: volume})
				}
			}
		}
	}
	return flows
}

// randomFlows returns some of the Flows among n Basins with Volumes of at most most.
func randomFlows(next func(below int) int, n int, many int, most int) []impl.Flow {
	flows := []impl.Flow{}
	for range many {
		ends := flowsAmong(n, 1+next(most))
		flows = append(flows, ends[next(len(ends))])
	}
	return flows
}

// areBasinsByRules goes by the rules of the chapter, apart from the program.
func areBasinsByRules(list []impl.Basin) bool {
	for _, b := range list {
		if b.Least < 0 || b.Volume < b.Least || b.Most < b.Volume || 100000 < b.Most {
			return false
		}
	}
	return 1 <= len(list) && len(list) <= 6
}

// afterFlow returns the Basins after a valid Flow and whether it is possible, apart from the program.
func afterFlow(list []impl.Basin, f impl.Flow) ([]impl.Basin, bool) {
	after := slices.Clone(list)
	for i := range after {
		if i == f.From {
			after[i].Volume -= f.Volume
		}
		if i == f.To {
			after[i].Volume += f.Volume
		}
	}
	return after, areBasinsByRules(after)
}

// afterFlows returns the Basins after the Flows up to the first one that is not possible and the number of those, apart from the
// program.
func afterFlows(list []impl.Basin, flows []impl.Flow) ([]impl.Basin, int) {
	for made, f := range flows {
		after, ok := afterFlow(list, f)
		if !ok {
			return list, made
		}
		list = after
	}
	return list, len(flows)
}

// waterIn returns the sum of all Volumes, apart from the program.
func waterIn(list []impl.Basin) int {
	sum := 0
	for _, b := range list {
		sum += b.Volume
	}
	return sum
}

// inflowOf returns by how much more water the Flows bring in than out, apart from the program.
func inflowOf(n int, flows []impl.Flow) int {
	// Enough water for all of them in every Basin.
	list := slices.Repeat([]impl.Basin{{Volume: 12 * 100000}}, n)
	for _, f := range flows {
		list, _ = afterFlow(list, f)
	}
	return waterIn(list) - n*12*100000
}

// lockagesByRepeating makes a Flow again and again, apart from the program.
func lockagesByRepeating(list []impl.Basin, f impl.Flow) int {
	for n := 0; ; n++ {
		after, ok := afterFlow(list, f)
		if !ok {
			return n
		}
		list = after
	}
}

// leveling is what becomes of Basins that are leveled out: the Basins, the number of units that were moved, and what was in the
// way of one more.
type leveling struct {
	after  []impl.Basin
	moved  int
	reason string
}

// leveledBySorting puts the Basins into both orders for each unit, apart from the program.
func leveledBySorting(list []impl.Basin) leveling {
	l := leveling{after: slices.Clone(list)}
	givers, takers := countingUp(len(list)), countingUp(len(list))
	for {
		height := func(i int) int { return l.after[i].Volume - l.after[i].Least }
		slices.SortFunc(givers, func(i int, j int) int { return cmp.Or(height(j)-height(i), i-j) })
		room := func(i int) int { return l.after[i].Most - l.after[i].Volume }
		slices.SortFunc(takers, func(i int, j int) int { return cmp.Or(room(j)-room(i), i-j) })
		giver, taker := givers[0], takers[0]
		after, ok := afterFlow(l.after, impl.Flow{From: giver, To: taker, Volume: 1})
		switch {
		case giver == taker:
			l.reason = "both are the same"
		case height(giver)-height(taker) < 2:
			l.reason = "they are near each other"
		case !ok:
			l.reason = "there is no room"
		default:
			l.after, l.moved = after, l.moved+1
			continue
		}
		return l
	}
}

// refillByTrying gives each Basin more water, unit by unit, until it is never below its Least, apart from the program.
func refillByTrying(list []impl.Basin, flows []impl.Flow) []int {
	needed := make([]int, len(list))
	for i, b := range list {
		for !staysAbove(b.Volume+needed[i], b.Least, i, flows) {
			needed[i]++
		}
	}
	return needed
}

// staysAbove reports whether the Basin with an index never has less than its Least.
func staysAbove(volume int, least int, i int, flows []impl.Flow) bool {
	for _, f := range flows {
		switch i {
		case f.From:
			volume -= f.Volume
		case f.To:
			volume += f.Volume
		}
		if volume < least {
			return false
		}
	}
	return true
}

func expectMoved(t *testing.T, list []impl.Basin, f impl.Flow, want []impl.Basin) {
	t.Helper()
	if after, ok := impl.MoveWater(list, f); !ok || !slices.Equal(after, want) {
		t.Fatalf("MoveWater(%v, %v) = %v, %v instead of %v", list, f, after, ok, want)
	}
}

func expectNotMoved(t *testing.T, list []impl.Basin, f impl.Flow) {
	t.Helper()
	if after, ok := impl.MoveWater(list, f); ok || len(after) != 0 {
		t.Fatalf("MoveWater(%v, %v) = %v, %v", list, f, after, ok)
	}
}

func expectFlowsMade(t *testing.T, list []impl.Basin, flows []impl.Flow, want []impl.Basin, made int) {
	t.Helper()
	if after, n, ok := impl.RunFlows(list, flows); !ok || n != made || !slices.Equal(after, want) {
		t.Fatalf("RunFlows(%v, %v) = %v, %d, %v instead of %v, %d", list, flows, after, n, ok, want, made)
	}
}

func expectWater(t *testing.T, list []impl.Basin, want int) {
	t.Helper()
	if n, ok := impl.TotalWater(list); !ok || n != want {
		t.Fatalf("TotalWater(%v) = %d, %v instead of %d", list, n, ok, want)
	}
}

func expectInflow(t *testing.T, list []impl.Basin, flows []impl.Flow, want int) {
	t.Helper()
	if n, ok := impl.NetInflow(list, flows); !ok || n != want {
		t.Fatalf("NetInflow(%v, %v) = %d, %v instead of %d", list, flows, n, ok, want)
	}
}

func expectLockages(t *testing.T, list []impl.Basin, from int, to int, volume int, want int) {
	t.Helper()
	if n, ok := impl.MostLockages(list, from, to, volume); !ok || n != want {
		t.Fatalf("MostLockages(%v, %d, %d, %d) = %d, %v instead of %d", list, from, to, volume, n, ok, want)
	}
}

// expectLeveled expects Basins to be leveled out to these, which are leveled out already.
func expectLeveled(t *testing.T, list []impl.Basin, want []impl.Basin) {
	t.Helper()
	for _, given := range [][]impl.Basin{list, want} {
		if after, ok := impl.LevelOut(given); !ok || !slices.Equal(after, want) {
			t.Fatalf("LevelOut(%v) = %v, %v instead of %v", given, after, ok, want)
		}
	}
}

func expectRefill(t *testing.T, list []impl.Basin, flows []impl.Flow, want []int) {
	t.Helper()
	if needed, ok := impl.RefillNeeded(list, flows); !ok || !slices.Equal(needed, want) {
		t.Fatalf("RefillNeeded(%v, %v) = %d, %v instead of %d", list, flows, needed, ok, want)
	}
}

// expectNoFlows expects the functions that take several Flows to fail for these.
func expectNoFlows(t *testing.T, list []impl.Basin, flows []impl.Flow) {
	t.Helper()
	if after, n, ok := impl.RunFlows(list, flows); ok || n != 0 || len(after) != 0 {
		t.Fatalf("RunFlows(%v, %v) = %v, %d, %v", list, flows, after, n, ok)
	}
	if n, ok := impl.NetInflow(list, flows); ok || n != 0 {
		t.Fatalf("NetInflow(%v, %v) = %d, %v", list, flows, n, ok)
	}
	if needed, ok := impl.RefillNeeded(list, flows); ok || len(needed) != 0 {
		t.Fatalf("RefillNeeded(%v, %v) = %d, %v", list, flows, needed, ok)
	}
}

// expectNoFlow expects all functions to fail for a Flow that is not valid.
func expectNoFlow(t *testing.T, list []impl.Basin, f impl.Flow) {
	t.Helper()
	if impl.IsFlow(list, f) {
		t.Fatalf("IsFlow(%v, %v)", list, f)
	}
	expectNotMoved(t, list, f)
	if n, ok := impl.MostLockages(list, f.From, f.To, f.Volume); ok || n != 0 {
		t.Fatalf("MostLockages(%v, %d, %d, %d) = %d, %v", list, f.From, f.To, f.Volume, n, ok)
	}
	expectNoFlows(t, list, []impl.Flow{f})
}

// expectNoBasins expects all functions to fail for a list that is none of Basins.
func expectNoBasins(t *testing.T, list []impl.Basin) {
	t.Helper()
	if impl.AreBasins(list) {
		t.Fatalf("AreBasins(%v)", list)
	}
	if n, ok := impl.TotalWater(list); ok || n != 0 {
		t.Fatalf("TotalWater(%v) = %d, %v", list, n, ok)
	}
	if after, ok := impl.LevelOut(list); ok || len(after) != 0 {
		t.Fatalf("LevelOut(%v) = %v, %v", list, after, ok)
	}
	for _, flows := range [][]impl.Flow{nil, {}, flowsOf([3]int{-1, 0, 1}, [3]int{0, -1, 1})} {
		expectNoFlows(t, list, flows)
	}
	for _, f := range flowsAmong(min(len(list), 7)+1, 1, 100000) {
		expectNoFlow(t, list, f)
	}
}

func TestLimitsOfWater(t *testing.T) {
	if impl.MaxVolume != 100000 || impl.Outside != -1 || impl.MaxFlows != 12 {
		t.Error("limits", impl.MaxVolume, impl.Outside, impl.MaxFlows)
	}
}

// All Basins with numbers at and around their limits and each other.
func TestBasinsThatAreValid(t *testing.T) {
	valid := 0
	for numbers := range listsOver([]int{-1, 0, 1, 2, 50, 99999, 100000, 100001}, 3) {
		list := basinsOf([3]int(numbers))
		for _, more := range [][]impl.Basin{nil, {{}}, someBasins()[len(someBasins())-2][:5]} {
			with := append(slices.Clone(more), list...)
			if want := areBasinsByRules(list); impl.AreBasins(with) != want {
				t.Fatalf("AreBasins(%v) = %v", with, !want)
			} else if want {
				valid++
			}
		}
	}
	// Three numbers out of six that are valid, in ascending order and with repetitions.
	if valid != 3*56 {
		t.Error("valid:", valid)
	}
}

// One Basin, MaxReaches of them, and one more.
func TestListsOfManyBasins(t *testing.T) {
	for _, b := range basinsOf([3]int{5, 5, 5}, [3]int{5, 5, 9}, [3]int{9, 5, 9}, [3]int{0, 0, 0}, [3]int{0, 0, 100000}, [3]int{100000, 0, 100000}) {
		for n := range 10 {
			list := slices.Repeat([]impl.Basin{b}, n)
			if n < 1 || n > 6 {
				expectNoBasins(t, list)
				continue
			}
			if !impl.AreBasins(list) {
				t.Errorf("AreBasins(%v) = false", list)
			}
			expectWater(t, list, n*b.Volume)
			expectLeveled(t, list, list)
			for _, flows := range [][]impl.Flow{nil, {}} {
				expectFlowsMade(t, list, flows, list, 0)
				expectInflow(t, list, flows, 0)
				expectRefill(t, list, flows, make([]int, n))
			}
		}
	}
}

func TestListsThatAreNoBasins(t *testing.T) {
	for _, list := range brokenBasins() {
		expectNoBasins(t, list)
	}
}

// Flows between all ends near the Basins, with Volumes at and around their limits; whether they are possible plays no part.
func TestFlowsThatAreValid(t *testing.T) {
	for _, list := range someBasins() {
		n, valid := len(list), 0
		for from := -3; from <= n+2; from++ {
			for to := -3; to <= n+2; to++ {
				for _, volume := range append([]int{-100, -1, 0, 1, 2, 99999, 100000, 100001}, farVolumes()...) {
					f := impl.Flow{From: from, To: to, Volume: volume}
					if slices.Contains(flowsAmong(n, 1, 2, 99999, 100000), f) {
						valid++
						if !impl.IsFlow(list, f) {
							t.Errorf("IsFlow(%v, %v) = false", list, f)
						}
					} else {
						expectNoFlow(t, list, f)
					}
				}
			}
		}
		if valid != 4*n*(n+1) {
			t.Error("valid:", n, valid)
		}
	}
}

func TestFlowsThatAreNotValid(t *testing.T) {
	for _, list := range someBasins() {
		for _, f := range brokenFlows(len(list)) {
			expectNoFlow(t, list, f)
			possible := impl.Flow{From: impl.Outside, Volume: 1}
			// The first Flow is not possible where the Basin is full, but that does not spare the others from having to be valid.
			expectNoFlows(t, list, []impl.Flow{possible, f})
			expectNoFlows(t, list, []impl.Flow{f, possible})
			twelve := slices.Repeat([]impl.Flow{{From: 0, To: impl.Outside, Volume: 100000}}, 12)
			twelve[11] = f
			expectNoFlows(t, list, twelve)
		}
	}
}

// The moves counted by hand: exactly what there is and what there is room for, and one unit more.
func TestMoveWater(t *testing.T) {
	two := basinsOf([3]int{50, 10, 60}, [3]int{20, 0, 40})
	wide := basinsOf([3]int{100000, 0, 100000}, [3]int{0, 0, 100000})
	edges := basinsOf([3]int{60, 10, 60}, [3]int{10, 10, 60}, [3]int{30, 30, 30}, [3]int{30, 0, 90})
	for _, c := range []struct {
		name string
		list []impl.Basin
		flow [3]int
		want []int
	}{
		{"from one to another", two, [3]int{0, 1, 10}, []int{40, 30}},
		{"back", two, [3]int{1, 0, 10}, []int{60, 10}},
		{"one unit", two, [3]int{0, 1, 1}, []int{49, 21}},
		{"fills the target", two, [3]int{0, 1, 20}, []int{30, 40}},
		{"more than fills the target", two, [3]int{0, 1, 21}, nil},
		{"fills the first one", two, [3]int{1, 0, 10}, []int{60, 10}},
		{"more than fills the first one", two, [3]int{1, 0, 11}, nil},
		{"out, down to the Least", two, [3]int{0, -1, 40}, []int{10, 20}},
		{"out, below the Least", two, [3]int{0, -1, 41}, nil},
		{"out, down to nothing", two, [3]int{1, -1, 20}, []int{50, 0}},
		{"out, more than there is", two, [3]int{1, -1, 21}, nil},
		{"in, up to the Most", two, [3]int{-1, 0, 10}, []int{60, 20}},
		{"in, above the Most", two, [3]int{-1, 0, 11}, nil},
		{"in, up to the Most of the other one", two, [3]int{-1, 1, 20}, []int{50, 40}},
		{"in, above the Most of the other one", two, [3]int{-1, 1, 21}, nil},
		{"in, one unit", two, [3]int{-1, 1, 1}, []int{50, 21}},
		{"out, one unit", two, [3]int{1, -1, 1}, []int{50, 19}},
		{"all that can be", wide, [3]int{0, 1, 100000}, []int{0, 100000}},
		{"all that can be, out", wide, [3]int{0, -1, 100000}, []int{0, 0}},
		{"all that can be, in", wide, [3]int{-1, 1, 100000}, []int{100000, 100000}},
		{"all that can be, back", wide, [3]int{1, 0, 100000}, nil},
		{"into a full one", edges, [3]int{3, 0, 1}, nil},
		{"into a full one from outside", edges, [3]int{-1, 0, 1}, nil},
		{"out of a full one", edges, [3]int{0, 3, 1}, []int{59, 10, 30, 31}},
		{"out of one at its Least", edges, [3]int{1, 3, 1}, nil},
		{"out of one at its Least to outside", edges, [3]int{1, -1, 1}, nil},
		{"into one at its Least", edges, [3]int{3, 1, 30}, []int{60, 40, 30, 0}},
		{"from the full one to the one at its Least", edges, [3]int{0, 1, 50}, []int{10, 60, 30, 30}},
		{"and one unit more", edges, [3]int{0, 1, 51}, nil},
		{"into one whose Least is its Most", edges, [3]int{3, 2, 1}, nil},
		{"out of one whose Least is its Most", edges, [3]int{2, 3, 1}, nil},
		{"the last one to the first one", edges[1:], [3]int{2, 0, 30}, []int{40, 30, 0}},
	} {
		t.Run(c.name, func(t *testing.T) {
			f := flowsOf(c.flow)[0]
			if !impl.IsFlow(c.list, f) {
				t.Errorf("IsFlow(%v, %v) = false", c.list, f)
			}
			if c.want == nil {
				expectNotMoved(t, c.list, f)
				expectFlowsMade(t, c.list, []impl.Flow{f}, c.list, 0)
				expectLockages(t, c.list, f.From, f.To, f.Volume, 0)
			} else {
				expectMoved(t, c.list, f, withVolumes(c.list, c.want...))
				expectFlowsMade(t, c.list, []impl.Flow{f}, withVolumes(c.list, c.want...), 1)
			}
		})
	}
}

// P10: All Flows among many Basins, with Volumes from one unit to more than there is; the total water changes by the net inflow.
func TestManyMoves(t *testing.T) {
	seen := map[bool]int{}
	for list := range manyBasins() {
		for _, f := range flowsAmong(len(list), 1, 2, 3, 4, 17, 100000) {
			want, ok := afterFlow(list, f)
			seen[ok]++
			expectLockages(t, list, f.From, f.To, f.Volume, lockagesByRepeating(list, f))
			if !ok {
				expectNotMoved(t, list, f)
				continue
			}
			expectMoved(t, list, f, want)
			inflow, _ := impl.NetInflow(list, []impl.Flow{f})
			expectWater(t, want, waterIn(list)+inflow)
		}
	}
	if len(seen) != 2 {
		t.Error("what there was:", seen)
	}
}

// The runs counted by hand, and the net inflow of all their Flows.
func TestRunFlows(t *testing.T) {
	two := basinsOf([3]int{50, 10, 60}, [3]int{20, 0, 40})
	wide := basinsOf([3]int{0, 0, 100000}, [3]int{100000, 0, 100000})
	for _, c := range []struct {
		name   string
		list   []impl.Basin
		flows  []impl.Flow
		want   []int
		made   int
		inflow int
	}{
		{"none", two, nil, []int{50, 20}, 0, 0},
		{"one within", two, flowsOf([3]int{0, 1, 20}), []int{30, 40}, 1, 0},
		{"one in", two, flowsOf([3]int{-1, 0, 10}), []int{60, 20}, 1, 10},
		{"one out", two, flowsOf([3]int{1, -1, 20}), []int{50, 0}, 1, -20},
		{"all of several", two, flowsOf([3]int{-1, 0, 5}, [3]int{1, -1, 8}, [3]int{0, 1, 3}), []int{52, 15}, 3, -3},
		{"a later one is not possible", two, flowsOf([3]int{-1, 0, 5}, [3]int{-1, 0, 6}), []int{55, 20}, 1, 11},
		{"nothing behind that is made", two, flowsOf([3]int{-1, 0, 5}, [3]int{-1, 0, 6}, [3]int{-1, 1, 1}, [3]int{0, -1, 1}), []int{55, 20}, 1, 11},
		{"the first one is not possible", two, flowsOf([3]int{0, 1, 21}, [3]int{0, 1, 1}), []int{50, 20}, 0, 0},
		{"possible only after the first one", two, flowsOf([3]int{1, -1, 1}, [3]int{0, 1, 21}), []int{29, 40}, 2, -1},
		{"in a circle", two, flowsOf([3]int{0, 1, 7}, [3]int{1, 0, 7}, [3]int{0, 1, 7}, [3]int{1, 0, 7}), []int{50, 20}, 4, 0},
		{"in and out", two, flowsOf([3]int{-1, 1, 20}, [3]int{1, -1, 40}), []int{50, 0}, 2, -20},
		{"the last one of twelve is not possible", two, append(slices.Repeat(flowsOf([3]int{-1, 0, 1}, [3]int{0, -1, 1}), 5),
			flowsOf([3]int{-1, 0, 10}, [3]int{-1, 0, 1})...), []int{60, 20}, 11, 11},
		{"the greatest ones", wide, flowsOf([3]int{1, 0, 100000}, [3]int{-1, 1, 100000}, [3]int{0, -1, 100000}), []int{0, 100000}, 3, 0},
		{"the greatest inflow", wide, slices.Repeat(flowsOf([3]int{-1, 0, 100000}), 12), []int{100000, 100000}, 1, 1200000},
		{"the greatest outflow", wide, slices.Repeat(flowsOf([3]int{1, -1, 100000}), 12), []int{0, 0}, 1, -1200000},
	} {
		t.Run(c.name, func(t *testing.T) {
			expectFlowsMade(t, c.list, c.flows, withVolumes(c.list, c.want...), c.made)
			expectInflow(t, c.list, c.flows, c.inflow)
			net, _ := impl.NetInflow(c.list, c.flows[:c.made])
			expectWater(t, withVolumes(c.list, c.want...), waterIn(c.list)+net)
		})
	}
}

// MaxFlows Flows, and one more; and more of them are not tried, however soon one is not possible.
func TestManyFlows(t *testing.T) {
	list := basinsOf([3]int{5, 0, 17}, [3]int{0, 0, 17})
	for n := range 16 {
		for _, f := range flowsOf([3]int{-1, 0, 1}, [3]int{0, 1, 1}, [3]int{0, -1, 1}, [3]int{-1, 1, 18}) {
			flows := slices.Repeat([]impl.Flow{f}, n)
			if n > 12 {
				expectNoFlows(t, list, flows)
				continue
			}
			after, made := afterFlows(list, flows)
			expectFlowsMade(t, list, flows, after, made)
			expectInflow(t, list, flows, inflowOf(2, flows))
			expectRefill(t, list, flows, refillByTrying(list, flows))
		}
	}
}

// P10: Runs of many Flows through many Basins; the total water changes by the net inflow of those that are made.
func TestRunsOfManyFlows(t *testing.T) {
	next, k := sequence(), 0
	stopped, whole, late, needed := 0, 0, 0, 0
	for list := range manyBasins() {
		k++
		flows := randomFlows(next, len(list), k%13, []int{1, 2, 5, 30}[k/13%4])
		after, made := afterFlows(list, flows)
		expectFlowsMade(t, list, flows, after, made)
		if !impl.AreBasins(after) {
			t.Fatalf("AreBasins(%v) = false", after)
		}
		expectInflow(t, list, flows, inflowOf(len(list), flows))
		net, ok := impl.NetInflow(list, flows[:made])
		if !ok {
			t.Fatalf("NetInflow(%v, %v) fails", list, flows[:made])
		}
		expectWater(t, list, waterIn(list))
		expectWater(t, after, waterIn(list)+net)
		refill := refillByTrying(list, flows)
		expectRefill(t, list, flows, refill)
		switch {
		case made == len(flows):
			whole++
		case made > 3:
			late++
		default:
			stopped++
		}
		if slices.Max(refill) > 0 {
			needed++
		}
	}
	if stopped == 0 || whole == 0 || late == 0 || needed == 0 {
		t.Error("what there was:", stopped, whole, late, needed)
	}
}

func TestTotalWater(t *testing.T) {
	for _, c := range []struct {
		list []impl.Basin
		want int
	}{
		{basinsOf([3]int{50, 10, 60}, [3]int{20, 0, 40}), 70},
		{basinsOf([3]int{0, 0, 0}), 0},
		{basinsOf([3]int{0, 0, 9}, [3]int{0, 0, 9}), 0},
		{basinsOf([3]int{7, 7, 7}), 7},
		{basinsOf([3]int{1, 0, 9}, [3]int{2, 1, 9}, [3]int{4, 2, 9}, [3]int{8, 3, 9}, [3]int{16, 4, 99}, [3]int{32, 5, 99}), 63},
		{basinsOf([3]int{100000, 0, 100000}), 100000},
		// The sum may be more than what one Basin can have.
		{slices.Repeat(basinsOf([3]int{100000, 100000, 100000}), 6), 600000},
	} {
		expectWater(t, c.list, c.want)
	}
}

// None, one and many, within and from and to Outside, limited by the source, by the target and by both.
func TestMostLockages(t *testing.T) {
	list := basinsOf([3]int{50, 10, 60}, [3]int{20, 0, 40}, [3]int{30, 30, 100}, [3]int{45, 5, 45}, [3]int{25, 25, 25}, [3]int{8, 0, 100000})
	for _, c := range []struct {
		from   int
		to     int
		volume int
		want   int
	}{
		{0, 1, 10, 2}, {0, 1, 20, 1}, {0, 1, 21, 0}, {0, 1, 1, 20}, {0, 1, 3, 6}, {0, 1, 100000, 0},
		{1, 0, 10, 1}, {1, 0, 5, 2}, {1, 0, 11, 0},
		{0, 2, 40, 1}, {0, 2, 41, 0}, {0, 2, 13, 3}, {0, 2, 14, 2}, {3, 2, 1, 40},
		{0, -1, 10, 4}, {0, -1, 40, 1}, {0, -1, 41, 0}, {0, -1, 1, 40}, {1, -1, 20, 1}, {1, -1, 21, 0}, {1, -1, 6, 3}, {3, -1, 1, 40},
		{-1, 0, 10, 1}, {-1, 0, 11, 0}, {-1, 0, 5, 2}, {-1, 0, 6, 1}, {-1, 1, 1, 20}, {-1, 2, 7, 10}, {-1, 2, 70, 1}, {-1, 2, 71, 0},
		{-1, 5, 1, 99992}, {-1, 5, 99992, 1}, {-1, 5, 99993, 0}, {-1, 5, 100000, 0}, {5, -1, 1, 8}, {5, 0, 4, 2}, {5, 0, 3, 2},
		// One at its Least, one that is full and one that is both.
		{2, 0, 1, 0}, {2, -1, 1, 0}, {0, 3, 1, 0}, {-1, 3, 1, 0}, {4, 5, 1, 0}, {5, 4, 1, 0}, {4, -1, 1, 0}, {-1, 4, 1, 0}, {3, 4, 1, 0}, {2, 3, 1, 0},
	} {
		expectLockages(t, list, c.from, c.to, c.volume, c.want)
		if n := lockagesByRepeating(list, impl.Flow{From: c.from, To: c.to, Volume: c.volume}); n != c.want {
			t.Errorf("from %d to %d with %d: %d when repeated", c.from, c.to, c.volume, n)
		}
	}
	wide := basinsOf([3]int{100000, 0, 100000}, [3]int{0, 0, 100000})
	for _, ends := range [][2]int{{0, 1}, {0, -1}, {-1, 1}} {
		for volume, want := range map[int]int{1: 100000, 2: 50000, 3: 33333, 50000: 2, 50001: 1, 99999: 1, 100000: 1} {
			expectLockages(t, wide, ends[0], ends[1], volume, want)
		}
	}
}

// levelCase is one that is leveled out by hand.
type levelCase struct {
	name string
	list []impl.Basin
	want []int
}

func levelCases() []levelCase {
	fullAndEmpty := slices.Repeat(basinsOf([3]int{100000, 0, 100000}), 5)
	return []levelCase{
		{"two far apart", basinsOf([3]int{50, 10, 60}, [3]int{20, 0, 40}), []int{45, 25}},
		{"one alone", basinsOf([3]int{50, 10, 60}), []int{50}},
		{"equal numbers", basinsOf([3]int{5, 0, 9}, [3]int{5, 0, 9}), []int{5, 5}},
		{"one apart", basinsOf([3]int{6, 0, 9}, [3]int{5, 0, 9}), []int{6, 5}},
		{"one apart, the other way", basinsOf([3]int{5, 0, 9}, [3]int{6, 0, 9}), []int{5, 6}},
		{"two apart", basinsOf([3]int{7, 0, 9}, [3]int{5, 0, 9}), []int{6, 6}},
		{"two apart, the other way", basinsOf([3]int{5, 0, 9}, [3]int{7, 0, 9}), []int{6, 6}},
		{"three apart", basinsOf([3]int{8, 0, 9}, [3]int{5, 0, 9}), []int{7, 6}},
		{"one unit above the other Least", basinsOf([3]int{1, 0, 9}, [3]int{0, 0, 9}), []int{1, 0}},
		{"two units above it", basinsOf([3]int{2, 0, 9}, [3]int{0, 0, 9}), []int{1, 1}},
		{"equal Volumes above different Leasts", basinsOf([3]int{8, 8, 20}, [3]int{8, 2, 12}), []int{11, 5}},
		{"different Volumes as far above their Leasts", basinsOf([3]int{18, 13, 30}, [3]int{7, 2, 9}), []int{18, 7}},
		{"the receiving one becomes full", basinsOf([3]int{20, 0, 20}, [3]int{2, 0, 3}), []int{19, 3}},
		{"until the giving one has as much room", basinsOf([3]int{20, 0, 20}, [3]int{0, 0, 3}), []int{18, 2}},
		{"no room anywhere", basinsOf([3]int{1, 0, 1}, [3]int{9, 0, 9}), []int{1, 9}},
		{"no room in itself first", basinsOf([3]int{9, 0, 9}, [3]int{1, 0, 1}), []int{9, 1}},
		{"one at its Least, one full", basinsOf([3]int{30, 30, 60}, [3]int{12, 0, 12}), []int{36, 6}},
		{"all at their Least", basinsOf([3]int{4, 4, 60}, [3]int{8, 8, 20}, [3]int{0, 0, 3}), []int{4, 8, 0}},
		{"the Least is the Most", basinsOf([3]int{7, 7, 7}, [3]int{7, 7, 7}), []int{7, 7}},
		{"nothing from one whose Least is its Most", basinsOf([3]int{90, 90, 90}, [3]int{0, 0, 50}), []int{90, 0}},
		{"nothing into it", basinsOf([3]int{0, 0, 0}, [3]int{50, 0, 50}), []int{0, 50}},
		// The second one is the farthest above its Least, and none has more room, so nothing is moved to the first one.
		{"the same for both", basinsOf([3]int{2, 0, 5}, [3]int{30, 0, 60}), []int{2, 30}},
		{"the same for both, the other way", basinsOf([3]int{30, 0, 60}, [3]int{2, 0, 5}), []int{30, 2}},
		// The first one gives to the second one until the room of both is equal, and then it is the first of both.
		{"until it is the same for both", basinsOf([3]int{30, 0, 40}, [3]int{2, 0, 18}), []int{27, 5}},
		// Here the receiving one is the first of both, and so takes one unit more.
		{"until it is the same for both, the other way", basinsOf([3]int{2, 0, 18}, [3]int{30, 0, 40}), []int{6, 26}},
		// The farthest below its Most is nearly as high as the giving one, so the lowest one has to wait.
		{"the one with the most room is high", basinsOf([3]int{20, 0, 20}, [3]int{19, 0, 90}, [3]int{0, 0, 50}), []int{20, 19, 0}},
		{"the smaller index gives", basinsOf([3]int{8, 0, 8}, [3]int{8, 0, 8}, [3]int{6, 0, 99}), []int{7, 8, 7}},
		{"the smaller index receives", basinsOf([3]int{7, 0, 7}, [3]int{5, 0, 12}, [3]int{5, 0, 12}), []int{6, 6, 5}},
		{"the highest one gives", basinsOf([3]int{7, 0, 7}, [3]int{8, 0, 8}, [3]int{6, 0, 99}), []int{7, 7, 7}},
		{"the one with the most room receives", basinsOf([3]int{7, 0, 7}, [3]int{5, 0, 12}, [3]int{5, 0, 13}), []int{6, 5, 6}},
		// The second one takes two units and gives one of them on to the first one.
		{"a unit that is moved on", basinsOf([3]int{0, 0, 2}, [3]int{0, 0, 4}, [3]int{4, 0, 4}), []int{1, 1, 2}},
		{"five full ones and an empty one", append(fullAndEmpty, impl.Basin{Most: 100000}), []int{83333, 83333, 83333, 83334, 83334, 83333}},
		{"a full one and five empty ones", append(slices.Repeat(basinsOf([3]int{0, 0, 100000}), 5), fullAndEmpty[0]), []int{16667, 16667, 16667, 16666, 16666, 16667}},
		{"between the limits", basinsOf([3]int{100000, 0, 100000}, [3]int{0, 0, 100000}), []int{50000, 50000}},
		{"not from above the Least", basinsOf([3]int{100000, 99999, 100000}, [3]int{0, 0, 100000}), []int{100000, 0}},
		{"one unit from above the Least", basinsOf([3]int{100000, 99998, 100000}, [3]int{0, 0, 100000}), []int{99999, 1}},
	}
}

func TestLevelOut(t *testing.T) {
	for _, c := range levelCases() {
		t.Run(c.name, func(t *testing.T) {
			expectLeveled(t, c.list, withVolumes(c.list, c.want...))
			if l := leveledBySorting(c.list); !slices.Equal(l.after, withVolumes(c.list, c.want...)) {
				t.Errorf("by sorting they are %v", l)
			}
		})
	}
}

// P10: Many Basins leveled out, unit by unit; all are valid afterwards, and the total water is the same.
func TestManyBasinsLeveledOut(t *testing.T) {
	seen := map[string]int{}
	for list := range manyBasins() {
		l := leveledBySorting(list)
		expectLeveled(t, list, l.after)
		if !impl.AreBasins(l.after) {
			t.Fatalf("AreBasins(%v) = false", l.after)
		}
		expectWater(t, l.after, waterIn(list))
		seen[l.reason]++
		if l.moved > 1 {
			seen["several units: "+l.reason]++
		}
	}
	// Without each of them a part of the rule would go untested here. Room is lacking only from the beginning, as a unit leaves room
	// behind it.
	if len(seen) != 5 {
		t.Error("what there was:", seen)
	}
}

// The refills counted by hand, whatever the Mosts are and whether the Flows are possible or not.
func TestRefillNeeded(t *testing.T) {
	two := basinsOf([3]int{50, 10, 60}, [3]int{20, 0, 40})
	edges := basinsOf([3]int{60, 10, 60}, [3]int{10, 10, 60}, [3]int{30, 30, 30})
	for _, c := range []struct {
		name  string
		list  []impl.Basin
		flows []impl.Flow
		want  []int
	}{
		{"no Flows", two, nil, []int{0, 0}},
		{"exactly down to the Least", two, flowsOf([3]int{0, -1, 40}), []int{0, 0}},
		{"one unit more", two, flowsOf([3]int{0, -1, 41}), []int{1, 0}},
		{"several units more", two, flowsOf([3]int{0, -1, 45}), []int{5, 0}},
		{"within", two, flowsOf([3]int{1, 0, 27}), []int{0, 7}},
		{"within, above the Most", two, flowsOf([3]int{0, 1, 45}), []int{5, 0}},
		{"only inflows", two, flowsOf([3]int{-1, 0, 100000}, [3]int{-1, 1, 100000}), []int{0, 0}},
		{"brought back afterwards", two, flowsOf([3]int{0, -1, 45}, [3]int{-1, 0, 45}), []int{5, 0}},
		{"brought before", two, flowsOf([3]int{-1, 0, 45}, [3]int{0, -1, 45}), []int{0, 0}},
		{"a part brought before", two, flowsOf([3]int{-1, 0, 3}, [3]int{0, -1, 45}), []int{2, 0}},
		{"brought before, above the Most", two, flowsOf([3]int{-1, 0, 1000}, [3]int{0, -1, 1040}), []int{0, 0}},
		{"the same and one unit more", two, flowsOf([3]int{-1, 0, 1000}, [3]int{0, -1, 1041}), []int{1, 0}},
		{"lacking more and more", two, flowsOf([3]int{0, -1, 41}, [3]int{0, -1, 7}, [3]int{0, -1, 2}), []int{10, 0}},
		{"lacking most in between", two, flowsOf([3]int{0, -1, 48}, [3]int{-1, 0, 20}, [3]int{0, -1, 15}), []int{8, 0}},
		{"lacking most at the end", two, flowsOf([3]int{0, -1, 48}, [3]int{-1, 0, 20}, [3]int{0, -1, 25}), []int{13, 0}},
		{"both of them", two, flowsOf([3]int{0, -1, 44}, [3]int{1, -1, 26}), []int{4, 6}},
		{"one from the other and back", two, flowsOf([3]int{1, 0, 26}, [3]int{0, 1, 70}, [3]int{1, -1, 70}), []int{4, 6}},
		// What the one lacks does not keep the other one from having it.
		{"passed on", two, flowsOf([3]int{0, 1, 60}, [3]int{1, -1, 80}), []int{20, 0}},
		{"from a full one", edges, flowsOf([3]int{0, 1, 51}), []int{1, 0, 0}},
		{"from one at its Least", edges, flowsOf([3]int{1, 0, 1}), []int{0, 1, 0}},
		{"from one whose Least is its Most", edges, flowsOf([3]int{2, 0, 9}, [3]int{2, -1, 9}), []int{0, 0, 18}},
		{"through one whose Least is its Most", edges, flowsOf([3]int{0, 2, 9}, [3]int{2, 1, 9}), []int{0, 0, 0}},
		{"the most that can be lacking", basinsOf([3]int{0, 0, 0}), slices.Repeat(flowsOf([3]int{0, -1, 100000}), 12), []int{1200000}},
		{"and from the greatest Least", basinsOf([3]int{100000, 100000, 100000}), slices.Repeat(flowsOf([3]int{0, -1, 100000}), 12), []int{1200000}},
		{"and without a Least", basinsOf([3]int{100000, 0, 100000}), slices.Repeat(flowsOf([3]int{0, -1, 100000}), 12), []int{1100000}},
	} {
		t.Run(c.name, func(t *testing.T) {
			expectRefill(t, c.list, c.flows, c.want)
			if needed := refillByTrying(c.list, c.flows); !slices.Equal(needed, c.want) {
				t.Errorf("by trying it is %d", needed)
			}
		})
	}
}

// withMoreBasins returns the Basins with others behind their end.
func withMoreBasins(list []impl.Basin) []impl.Basin {
	return append(slices.Clone(list), impl.Basin{Volume: 5, Most: 9}, impl.Basin{Volume: -1}, impl.Basin{Volume: 3, Least: 4, Most: 2})[:len(list)]
}

// withMoreFlows returns the Flows with others behind their end.
func withMoreFlows(flows []impl.Flow) []impl.Flow {
	return append(slices.Clone(flows), impl.Flow{From: impl.Outside, Volume: 1}, impl.Flow{}, impl.Flow{From: -2, To: 99, Volume: -5})[:len(flows)]
}

// waterAsNumbers calls all functions and returns everything that they return, a bool as 0 or 1 and a Basin as its numbers.
func waterAsNumbers(list []impl.Basin, flows []impl.Flow, f impl.Flow) []int {
	numbers := []int{}
	add := func(ok bool, more ...int) {
		numbers = append(append(numbers, map[bool]int{true: 1}[ok], len(more)), more...)
	}
	addBasins := func(basins []impl.Basin, ok bool) {
		add(ok, len(basins))
		for _, b := range basins {
			add(ok, b.Volume, b.Least, b.Most)
		}
	}
	add(impl.AreBasins(list))
	add(impl.IsFlow(list, f))
	addBasins(impl.MoveWater(list, f))
	after, made, ok := impl.RunFlows(list, flows)
	add(ok, made)
	addBasins(after, ok)
	total, ok := impl.TotalWater(list)
	add(ok, total)
	net, ok := impl.NetInflow(list, flows)
	add(ok, net)
	most, ok := impl.MostLockages(list, f.From, f.To, f.Volume)
	add(ok, most)
	addBasins(impl.LevelOut(list))
	needed, ok := impl.RefillNeeded(list, flows)
	add(ok, needed...)
	return numbers
}

// P29: all functions return whatever their arguments, the same when called again, and leave their arguments as they are, also
// beyond their lengths, where what stands plays no part.
func TestWaterFunctionsLeaveTheirArguments(t *testing.T) {
	next := sequence()
	lists := append(someBasins(), brokenBasins()...)
	for _, c := range levelCases() {
		lists = append(lists, c.list)
	}
	for _, list := range lists {
		n := min(len(list), 8)
		given := withMoreBasins(list)
		before := slices.Clone(given[:cap(given)])
		single := append(flowsAmong(n, 1, 100000), brokenFlows(n)...)
		for k, flows := range [][]impl.Flow{nil, randomFlows(next, max(n, 1), 1, 3), randomFlows(next, max(n, 1), 12, 9), randomFlows(next, n+1, 13, 5), single} {
			longer := withMoreFlows(flows)
			flowsBefore := slices.Clone(longer[:cap(longer)])
			for _, f := range []impl.Flow{{}, {From: impl.Outside, Volume: 1}, single[next(len(single))], single[next(len(single))]} {
				a, b := waterAsNumbers(given, longer, f), waterAsNumbers(list, flows, f)
				if !slices.Equal(a, b) {
					t.Fatalf("%v, %v, %v: %d and %d", list, flows, f, a, b)
				}
			}
			if !slices.Equal(longer[:cap(longer)], flowsBefore) {
				t.Fatalf("%d: %v was changed to %v", k, flowsBefore, longer[:cap(longer)])
			}
		}
		if !slices.Equal(given[:cap(given)], before) {
			t.Fatalf("%v was changed to %v", before, given[:cap(given)])
		}
	}
}

// expectNewBasins expects a call that is given the list to return memory of its own: what is written into its result, also beyond
// its length, changes neither the list nor a later result, and what is written into the list afterwards does not change the result.
func expectNewBasins(t *testing.T, list []impl.Basin, call func(list []impl.Basin) ([]impl.Basin, bool)) {
	t.Helper()
	given := withMoreBasins(list)
	before := slices.Clone(given[:cap(given)])
	first, ok := call(given)
	if !ok || len(first) != len(list) {
		t.Fatalf("%v, %v for %v", first, ok, list)
	}
	want := slices.Clone(first)
	for i := range first[:cap(first)] {
		first[:cap(first)][i] = impl.Basin{Volume: -7}
	}
	if !slices.Equal(given[:cap(given)], before) {
		t.Errorf("%v was changed to %v", before, given[:cap(given)])
	}
	again, _ := call(given)
	for i := range given {
		given[i] = impl.Basin{Volume: -8}
	}
	if !slices.Equal(again, want) {
		t.Errorf("%v instead of %v", again, want)
	}
}

// Results share no memory with the arguments, also where nothing is moved, nor with each other.
func TestResultsOfWaterAreNew(t *testing.T) {
	lists := append(someBasins(), basinsOf([3]int{7, 0, 9}, [3]int{5, 0, 9}), basinsOf([3]int{5, 0, 9}, [3]int{5, 0, 9}))
	for _, list := range lists {
		n := len(list)
		expectNewBasins(t, list, impl.LevelOut)
		for _, f := range flowsAmong(n, 1, 100000) {
			if _, possible := afterFlow(list, f); possible {
				expectNewBasins(t, list, func(given []impl.Basin) ([]impl.Basin, bool) { return impl.MoveWater(given, f) })
			}
			for _, flows := range [][]impl.Flow{nil, {f}, {f, f}} {
				expectNewBasins(t, list, func(given []impl.Basin) ([]impl.Basin, bool) {
					after, _, ok := impl.RunFlows(given, flows)
					return after, ok
				})
				expectNewInts(t, n, func() ([]int, bool) { return impl.RefillNeeded(list, flows) })
			}
		}
	}
}
