package tests

import (
	"iter"
	"slices"
	"testing"

	"loop.example/g00924/impl"
)

// pumpsOf returns Pumps of their Rate, Cost and Start.
func pumpsOf(triples ...[3]int) []impl.Pump {
	pumps := []impl.Pump{}
	for _, n := range triples {
		pumps = append(pumps, impl.Pump{Rate: n[0], Cost: n[1], Start: n[2]})
	}
	return pumps
}

// taskOf returns a PumpTask of its Low, High and Level, its Flows and its Pumps.
func taskOf(bounds [3]int, flows []int, pumps ...[3]int) impl.PumpTask {
	return impl.PumpTask{Low: bounds[0], High: bounds[1], Level: bounds[2], Flows: flows, Pumps: pumpsOf(pumps...)}
}

// sameTasks reports whether both tasks have the same numbers.
func sameTasks(s impl.PumpTask, t impl.PumpTask) bool {
	return s.Low == t.Low && s.High == t.High && s.Level == t.Level && slices.Equal(s.Flows, t.Flows) && slices.Equal(s.Pumps, t.Pumps)
}

// ownTask returns the task with memory of its own.
func ownTask(t impl.PumpTask) impl.PumpTask {
	t.Flows, t.Pumps = slices.Clone(t.Flows), slices.Clone(t.Pumps)
	return t
}

// someTasks returns tasks of every number of hours and of Pumps, at all limits, with and without safe plans.
func someTasks() []impl.PumpTask {
	tasks := []impl.PumpTask{
		taskOf([3]int{90, 120, 110}, []int{10, 10, 0}, [3]int{10, 3, 5}),
		taskOf([3]int{0, 0, 0}, []int{0}),
		taskOf([3]int{0, 0, 0}, []int{50, 50, 50, 50, 50}, [3]int{50, 20, 50}),
		taskOf([3]int{500, 500, 500}, []int{-50, 50}, [3]int{1, 0, 0}, [3]int{50, 20, 50}),
		taskOf([3]int{0, 500, 500}, []int{50, 50, 50, 50, 50}, [3]int{50, 20, 50}, [3]int{50, 20, 50}),
		taskOf([3]int{0, 500, 0}, []int{-50, -50, -50, -50, -50}, [3]int{1, 0, 0}, [3]int{50, 0, 0}),
		taskOf([3]int{10, 50, 30}, []int{5, 20, -10, 0, 15}, [3]int{10, 3, 5}, [3]int{7, 2, 9}),
	}
	flows, pumps := []int{10, -3, 18, 7, 12}, [][3]int{{10, 4, 2}, {6, 2, 3}}
	for hours := 1; hours <= 5; hours++ {
		for n := range 3 {
			tasks = append(tasks, taskOf([3]int{20, 45, 40}, flows[:hours], pumps[:n]...))
		}
	}
	return tasks
}

// brokenTasks returns tasks that are not valid in one respect each, and some in several.
func brokenTasks() []impl.PumpTask {
	tasks := []impl.PumpTask{
		{}, taskOf([3]int{10, 50, 30}, nil), taskOf([3]int{10, 50, 30}, []int{}, [3]int{10, 3, 5}),
		taskOf([3]int{10, 50, 30}, make([]int, 6)), taskOf([3]int{10, 50, 30}, make([]int, 6), [3]int{10, 3, 5}),
		taskOf([3]int{10, 50, 30}, make([]int, 1000)), taskOf([3]int{10, 50, 30}, []int{1}, [3]int{1, 1, 1}, [3]int{2, 2, 2}, [3]int{3, 3, 3}),
		taskOf([3]int{10, 50, 30}, []int{1}, slices.Repeat([][3]int{{1, 1, 1}}, 1000)...), taskOf([3]int{-1, 501, 502}, make([]int, 6)),
	}
	for _, t := range someTasks() {
		for _, bounds := range [][3]int{
			{-1, 50, 30}, {-1, -1, -1}, {51, 50, 50}, {51, 50, 51}, {10, 501, 30}, {501, 501, 501}, {500, 501, 500},
			{10, 50, 9}, {10, 50, 51}, {0, 0, 1}, {0, 0, -1}, {0, 500, 501}, {0, 500, -1}, {10, -50, 30}, {-50, -10, -30},
		} {
			tasks = append(tasks, impl.PumpTask{Low: bounds[0], High: bounds[1], Level: bounds[2], Flows: t.Flows, Pumps: t.Pumps})
		}
		for _, n := range farVolumes() {
			tasks = append(tasks, impl.PumpTask{Low: n, High: t.High, Level: t.Level, Flows: t.Flows, Pumps: t.Pumps})
			tasks = append(tasks, impl.PumpTask{Low: t.Low, High: n, Level: t.Level, Flows: t.Flows, Pumps: t.Pumps})
			tasks = append(tasks, impl.PumpTask{Low: t.Low, High: t.High, Level: n, Flows: t.Flows, Pumps: t.Pumps})
			tasks = append(tasks, impl.PumpTask{Low: n, High: n, Level: n, Flows: t.Flows, Pumps: t.Pumps})
		}
		for hour := range t.Flows {
			for _, n := range append(farVolumes(), -51, 51) {
				broken := ownTask(t)
				broken.Flows[hour] = n
				tasks = append(tasks, broken)
			}
		}
		for i := range t.Pumps {
			for _, p := range noPumps() {
				broken := ownTask(t)
				broken.Pumps[i] = p
				tasks = append(tasks, broken)
			}
		}
	}
	return tasks
}

// noPumps returns Pumps that are not valid.
func noPumps() []impl.Pump {
	pumps := pumpsOf([3]int{}, [3]int{0, 3, 5}, [3]int{-1, 3, 5}, [3]int{51, 3, 5}, [3]int{10, -1, 5}, [3]int{10, 21, 5}, [3]int{10, 3, -1},
		[3]int{10, 3, 51}, [3]int{-10, -3, -5}, [3]int{51, 21, 51})
	for _, n := range farVolumes() {
		pumps = append(pumps, pumpsOf([3]int{n, 3, 5}, [3]int{10, n, 5}, [3]int{10, 3, n}, [3]int{n, n, n})...)
	}
	return pumps
}

// brokenPlans returns lists that are no plans of a valid task: shorter or longer ones, and ones with a number that is none in each hour.
func brokenPlans(t impl.PumpTask) [][]int {
	hours, groups := len(t.Flows), 1<<len(t.Pumps)
	plans := [][]int{make([]int, 1000)}
	for length := range 8 {
		if length != hours {
			plans = append(plans, make([]int, length), slices.Repeat([]int{groups - 1}, length))
		}
	}
	for hour := range hours {
		for _, n := range append(farVolumes(), -2, -1, groups, groups+1, 4, 5, 7, 8) {
			for _, other := range []int{0, groups - 1} {
				plan := slices.Repeat([]int{other}, hours)
				plan[hour] = n
				plans = append(plans, plan)
			}
		}
	}
	return plans
}

// plansOf yields all plans of a valid task lexicographically, in memory that is used again.
func plansOf(t impl.PumpTask) iter.Seq[[]int] {
	return listsOver(countingUp(1<<len(t.Pumps)), len(t.Flows))
}

// randomTask returns a task, many of them tight and some of them at their limits.
func randomTask(next func(below int) int) impl.PumpTask {
	low, room := next(30), next(50)
	if next(8) == 0 {
		low, room = 470-next(30), 30
	}
	t := impl.PumpTask{Low: low, High: low + room, Level: low + next(room+1)}
	for range 1 + next(5) {
		t.Flows = append(t.Flows, next(101)/(1+next(3))-next(101)/(1+next(8)))
	}
	for range next(6) / 2 {
		p := impl.Pump{Rate: 1 + next(50), Cost: next(21), Start: next(51)}
		if next(3) == 0 {
			p = impl.Pump{Rate: []int{1, 10, 50}[next(3)], Cost: 20 * next(2), Start: 50 * next(2)}
		}
		t.Pumps = append(t.Pumps, p)
	}
	for hour := range t.Flows {
		t.Flows[hour] = max(-50, min(50, t.Flows[hour]))
	}
	return t
}

// manyTasks yields tasks of all small numbers and random ones.
func manyTasks() iter.Seq[impl.PumpTask] {
	return func(yield func(impl.PumpTask) bool) {
		for flows := range listsOver([]int{-3, 0, 2, 5}, 3) {
			for n := range listsOver([]int{0, 1, 3}, 3) {
				first, second := [3]int{2, n[0], n[1]}, [3]int{3, n[2], n[0]}
				for _, pumps := range [][][3]int{{}, {first}, {first, second}, {second, first}} {
					if !yield(taskOf([3]int{0, 4, n[2]}, flows, pumps...)) {
						return
					}
				}
			}
		}
		next := sequence()
		for range 4000 {
			if !yield(randomTask(next)) {
				return
			}
		}
	}
}

// planTold is what a plan of a valid task leads to; unsafe is -1 if it is safe.
type planTold struct {
	levels []int
	unsafe int
	cost   int
	starts int
	water  int
}

// planByPumps follows each pump through all hours, one after the other, apart from the program.
func planByPumps(t impl.PumpTask, plan []int) planTold {
	told := planTold{unsafe: -1, levels: make([]int, len(plan))}
	inflow := t.Level
	for hour, flow := range t.Flows {
		inflow += flow
		told.levels[hour] = inflow
	}
	value := 1
	for _, p := range t.Pumps {
		ran := false
		for hour, n := range plan {
			runs := n/value%2 == 1
			if runs {
				told.cost += p.Cost
				told.water += p.Rate
				for later := hour; later < len(plan); later++ {
					told.levels[later] -= p.Rate
				}
			}
			if runs && !ran {
				told.starts++
				told.cost += p.Start
			}
			ran = runs
		}
		value *= 2
	}
	for hour, level := range told.levels {
		if told.unsafe < 0 && (level < t.Low || level > t.High) {
			told.unsafe = hour
		}
	}
	return told
}

// safePlans is what all plans of a task together tell: the best one and its cost, how many are safe and how many cost as much as it.
type safePlans struct {
	best  []int
	cost  int
	safe  int
	equal int
}

// cheapestOfAll looks at all plans, lexicographically, apart from the program.
func cheapestOfAll(t impl.PumpTask) safePlans {
	all := safePlans{}
	for plan := range plansOf(t) {
		told := planByPumps(t, plan)
		switch {
		case told.unsafe >= 0:
			continue
		case all.safe == 0 || told.cost < all.cost:
			all.best, all.cost, all.equal = slices.Clone(plan), told.cost, 1
		case told.cost == all.cost:
			all.equal++
		}
		all.safe++
	}
	return all
}

// expectPlan expects all functions of a plan to return this.
func expectPlan(t *testing.T, task impl.PumpTask, plan []int, want planTold) {
	t.Helper()
	if levels, ok := impl.LevelsWith(task, plan); !ok || !slices.Equal(levels, want.levels) {
		t.Fatalf("LevelsWith(%v, %d) = %d, %v instead of %d", task, plan, levels, ok, want.levels)
	}
	if safe, ok := impl.IsSafePlan(task, plan); !ok || safe != (want.unsafe < 0) {
		t.Fatalf("IsSafePlan(%v, %d) = %v, %v", task, plan, safe, ok)
	}
	if hour, ok := impl.FirstUnsafe(task, plan); ok != (want.unsafe >= 0) || hour != max(want.unsafe, 0) {
		t.Fatalf("FirstUnsafe(%v, %d) = %d, %v instead of %d", task, plan, hour, ok, want.unsafe)
	}
	if cost, ok := impl.PlanCost(task, plan); !ok || cost != want.cost {
		t.Fatalf("PlanCost(%v, %d) = %d, %v instead of %d", task, plan, cost, ok, want.cost)
	}
	if n, ok := impl.CountStarts(task, plan); !ok || n != want.starts {
		t.Fatalf("CountStarts(%v, %d) = %d, %v instead of %d", task, plan, n, ok, want.starts)
	}
	if water, ok := impl.PumpedWater(task, plan); !ok || water != want.water {
		t.Fatalf("PumpedWater(%v, %d) = %d, %v instead of %d", task, plan, water, ok, want.water)
	}
}

// expectNoPlan expects all functions of a plan to fail.
func expectNoPlan(t *testing.T, task impl.PumpTask, plan []int) {
	t.Helper()
	if levels, ok := impl.LevelsWith(task, plan); ok || len(levels) != 0 {
		t.Fatalf("LevelsWith(%v, %d) = %d, %v", task, plan, levels, ok)
	}
	if safe, ok := impl.IsSafePlan(task, plan); ok || safe {
		t.Fatalf("IsSafePlan(%v, %d) = %v, %v", task, plan, safe, ok)
	}
	for name, call := range map[string]func(impl.PumpTask, []int) (int, bool){
		"PlanCost": impl.PlanCost, "CountStarts": impl.CountStarts, "FirstUnsafe": impl.FirstUnsafe, "PumpedWater": impl.PumpedWater,
	} {
		if n, ok := call(task, plan); ok || n != 0 {
			t.Fatalf("%s(%v, %d) = %d, %v", name, task, plan, n, ok)
		}
	}
}

func expectCheapest(t *testing.T, task impl.PumpTask, want []int, cost int) {
	t.Helper()
	if plan, n, ok := impl.CheapestPlan(task); !ok || n != cost || !slices.Equal(plan, want) {
		t.Fatalf("CheapestPlan(%v) = %d, %d, %v instead of %d, %d", task, plan, n, ok, want, cost)
	}
}

func expectNoCheapest(t *testing.T, task impl.PumpTask) {
	t.Helper()
	if plan, n, ok := impl.CheapestPlan(task); ok || n != 0 || len(plan) != 0 {
		t.Fatalf("CheapestPlan(%v) = %d, %d, %v", task, plan, n, ok)
	}
}

func expectNotWithout(t *testing.T, task impl.PumpTask, i int) {
	t.Helper()
	if other, ok := impl.WithoutPump(task, i); ok || !sameTasks(other, impl.PumpTask{}) {
		t.Fatalf("WithoutPump(%v, %d) = %v, %v", task, i, other, ok)
	}
}

// expectNoTask expects all functions to fail for a task that is not valid, also with what would be a plan otherwise.
func expectNoTask(t *testing.T, task impl.PumpTask) {
	t.Helper()
	if impl.IsPumpTask(task) {
		t.Fatalf("IsPumpTask(%v)", task)
	}
	expectNoCheapest(t, task)
	for _, plan := range [][]int{nil, {0}, make([]int, len(task.Flows)), slices.Repeat([]int{1}, len(task.Flows))} {
		expectNoPlan(t, task, plan)
	}
	for i := -1; i < 4; i++ {
		expectNotWithout(t, task, i)
	}
}

func expectTask(t *testing.T, task impl.PumpTask, valid bool) {
	t.Helper()
	if !valid {
		expectNoTask(t, task)
	} else if !impl.IsPumpTask(task) {
		t.Fatalf("IsPumpTask(%v) = false", task)
	}
}

func TestLimitsOfPumps(t *testing.T) {
	if impl.MaxPumps != 2 || impl.MaxPumpHours != 5 {
		t.Error("limits", impl.MaxPumps, impl.MaxPumpHours)
	}
}

// Bounds and Levels at and around their limits and each other.
func TestBoundsOfPumpTasks(t *testing.T) {
	valid := 0
	for n := range listsOver([]int{-500, -1, 0, 1, 2, 250, 499, 500, 501, 1000}, 3) {
		low, high, level := n[0], n[1], n[2]
		want := low >= 0 && level >= low && high >= level && 500 >= high
		for _, pumps := range [][][3]int{{}, {{10, 3, 5}}, {{10, 3, 5}, {7, 2, 9}}} {
			expectTask(t, taskOf([3]int(n), []int{5, -5}, pumps...), want)
		}
		if want {
			valid++
		}
	}
	// Three numbers out of six that are valid, in ascending order and with repetitions.
	if valid != 56 {
		t.Error("valid:", valid)
	}
}

// No Flows, one of them, MaxPumpHours of them and one more, at and around their limits in every hour.
func TestFlowsOfPumpTasks(t *testing.T) {
	for hours := range 8 {
		for _, flow := range []int{-50, -1, 0, 1, 50} {
			flows := slices.Repeat([]int{flow}, hours)
			expectTask(t, taskOf([3]int{10, 50, 30}, flows), hours >= 1 && hours <= 5)
			expectTask(t, taskOf([3]int{10, 50, 30}, flows, [3]int{10, 3, 5}), hours >= 1 && hours <= 5)
			for hour := range hours {
				for _, other := range []int{-100, -51, -50, -49, 49, 50, 51, 100} {
					with := slices.Clone(flows)
					with[hour] = other
					expectTask(t, taskOf([3]int{10, 50, 30}, with, [3]int{10, 3, 5}), hours <= 5 && -50 <= other && other <= 50)
				}
			}
		}
	}
}

// All Pumps with numbers at and around their limits, alone and as the first and the last one.
func TestPumpsThatAreValid(t *testing.T) {
	valid, other := 0, [3]int{7, 2, 9}
	for _, rate := range []int{-50, -1, 0, 1, 2, 25, 49, 50, 51, 100} {
		for _, cost := range []int{-20, -1, 0, 1, 10, 19, 20, 21, 50} {
			for _, start := range []int{-50, -1, 0, 1, 25, 49, 50, 51, 100} {
				p := [3]int{rate, cost, start}
				want := 1 <= rate && rate <= 50 && 0 <= cost && cost <= 20 && 0 <= start && start <= 50
				for _, pumps := range [][][3]int{{p}, {p, other}, {other, p}, {p, p}} {
					expectTask(t, taskOf([3]int{10, 50, 30}, []int{5, -5}, pumps...), want)
				}
				if want {
					valid++
				}
			}
		}
	}
	if valid != 5*5*5 {
		t.Error("valid:", valid)
	}
}

// No Pumps, one of them, MaxPumps of them, and one more.
func TestListsOfManyPumps(t *testing.T) {
	for n := range 6 {
		for _, p := range [][3]int{{1, 0, 0}, {10, 3, 5}, {50, 20, 50}} {
			expectTask(t, taskOf([3]int{10, 50, 30}, []int{5, -5}, slices.Repeat([][3]int{p}, n)...), n <= 2)
		}
	}
}

func TestTasksThatAreNotValid(t *testing.T) {
	for _, task := range someTasks() {
		expectTask(t, task, true)
	}
	for _, task := range brokenTasks() {
		expectNoTask(t, task)
	}
}

// All lists of small numbers, of which those are plans that have a number for each hour with no other bits than those of the pumps.
func TestPlansThatAreValid(t *testing.T) {
	all := [][3]int{{10, 3, 5}, {7, 2, 9}}
	for hours := 1; hours <= 3; hours++ {
		for pumps := range 3 {
			task := taskOf([3]int{0, 60, 30}, []int{5, 20, -10}[:hours], all[:pumps]...)
			for length := range 5 {
				for plan := range listsOver([]int{-1, 0, 1, 2, 3, 4}, length) {
					allowed := []int{0, 1, 2, 3}[:[]int{1, 2, 4}[pumps]]
					isOther := func(n int) bool { return !slices.Contains(allowed, n) }
					if length != hours || slices.ContainsFunc(plan, isOther) {
						expectNoPlan(t, task, plan)
					} else {
						expectPlan(t, task, plan, planByPumps(task, plan))
					}
				}
			}
		}
	}
}

func TestPlansThatAreNone(t *testing.T) {
	for _, task := range someTasks() {
		for _, plan := range brokenPlans(task) {
			expectNoPlan(t, task, plan)
		}
	}
}

// planCase is a plan and what it leads to, counted by hand.
type planCase struct {
	name   string
	task   impl.PumpTask
	plan   []int
	levels []int
	unsafe int
	cost   int
	starts int
	water  int
}

// boundCases are plans whose levels are on the bounds or a unit outside of them.
func boundCases() []planCase {
	flowing := func(flows ...int) impl.PumpTask { return taskOf([3]int{10, 50, 30}, flows) }
	pumped := func(bounds [3]int, flows ...int) impl.PumpTask {
		return taskOf(bounds, flows, [3]int{20, 3, 5}, [3]int{1, 2, 9})
	}
	return []planCase{
		{"exactly Low", flowing(-20, 0), []int{0, 0}, []int{10, 10}, -1, 0, 0, 0},
		{"a unit below Low at first", flowing(-21, 0), []int{0, 0}, []int{9, 9}, 0, 0, 0, 0},
		{"a unit below Low at last", flowing(-20, -1), []int{0, 0}, []int{10, 9}, 1, 0, 0, 0},
		{"below Low and back", flowing(-21, 1), []int{0, 0}, []int{9, 10}, 0, 0, 0, 0},
		{"exactly High", flowing(20, 0), []int{0, 0}, []int{50, 50}, -1, 0, 0, 0},
		{"a unit above High at first", flowing(21, 0), []int{0, 0}, []int{51, 51}, 0, 0, 0, 0},
		{"a unit above High at last", flowing(20, 1), []int{0, 0}, []int{50, 51}, 1, 0, 0, 0},
		{"above High and back", flowing(21, -1), []int{0, 0}, []int{51, 50}, 0, 0, 0, 0},
		{"outside in the middle alone", flowing(20, 1, -1), []int{0, 0, 0}, []int{50, 51, 50}, 1, 0, 0, 0},
		{"from one bound to the other", flowing(20, -40, 40, -40, 41), []int{0, 0, 0, 0, 0}, []int{50, 10, 50, 10, 51}, 4, 0, 0, 0},
		{"outside twice", flowing(0, 21, -42, 21, 21), []int{0, 0, 0, 0, 0}, []int{30, 51, 9, 30, 51}, 1, 0, 0, 0},
		{"pumped to exactly Low", pumped([3]int{10, 50, 30}, 0), []int{1}, []int{10}, -1, 8, 1, 20},
		{"pumped to a unit below Low", pumped([3]int{10, 50, 30}, 0), []int{3}, []int{9}, 0, 19, 2, 21},
		{"pumped to exactly High", pumped([3]int{10, 50, 50}, 20), []int{1}, []int{50}, -1, 8, 1, 20},
		{"pumped to a unit above High", pumped([3]int{10, 50, 50}, 21), []int{1}, []int{51}, 0, 8, 1, 20},
		{"pumped by both to exactly High", pumped([3]int{10, 50, 50}, 21), []int{3}, []int{50}, -1, 19, 2, 21},
		{"the greatest level", pumped([3]int{500, 500, 500}, 20, 1), []int{1, 2}, []int{500, 500}, -1, 19, 2, 21},
		{"the smallest level", pumped([3]int{0, 0, 0}, 1, 20), []int{2, 1}, []int{0, 0}, -1, 19, 2, 21},
		{"below nothing", pumped([3]int{0, 0, 0}, -50, -50), []int{3, 3}, []int{-71, -142}, 0, 24, 2, 42},
		{"above all", pumped([3]int{0, 500, 500}, 50, 50), []int{0, 0}, []int{550, 600}, 0, 0, 0, 0},
	}
}

// runCases are plans with pumps that run in successive hours, that pause and that run together.
func runCases() []planCase {
	one := taskOf([3]int{90, 120, 110}, []int{10, 10, 0}, [3]int{10, 3, 5})
	two := taskOf([3]int{10, 50, 30}, []int{5, 20, -10, 0, 15}, [3]int{10, 3, 5}, [3]int{7, 2, 9})
	wide := taskOf([3]int{0, 500, 500}, []int{50, 50, 50, 50, 50}, [3]int{50, 20, 50}, [3]int{50, 20, 50})
	return []planCase{
		{"one stands still", one, []int{0, 0, 0}, []int{120, 130, 130}, 1, 0, 0, 0},
		{"one in the first hour", one, []int{1, 0, 0}, []int{110, 120, 120}, -1, 8, 1, 10},
		{"one in the middle", one, []int{0, 1, 0}, []int{120, 120, 120}, -1, 8, 1, 10},
		{"one in the last hour", one, []int{0, 0, 1}, []int{120, 130, 120}, 1, 8, 1, 10},
		{"one pauses for an hour", one, []int{1, 0, 1}, []int{110, 120, 110}, -1, 16, 2, 20},
		{"one in successive hours", one, []int{1, 1, 0}, []int{110, 110, 110}, -1, 11, 1, 20},
		{"one in later successive hours", one, []int{0, 1, 1}, []int{120, 120, 110}, -1, 11, 1, 20},
		{"one in all hours", one, []int{1, 1, 1}, []int{110, 110, 100}, -1, 14, 1, 30},
		{"both stand still", two, []int{0, 0, 0, 0, 0}, []int{35, 55, 45, 45, 60}, 1, 0, 0, 0},
		{"the first one alone", two, []int{1, 1, 0, 0, 1}, []int{25, 35, 25, 25, 30}, -1, 19, 2, 30},
		{"the second one alone", two, []int{2, 2, 0, 0, 0}, []int{28, 41, 31, 31, 46}, -1, 13, 1, 14},
		{"both in all hours", two, []int{3, 3, 3, 3, 3}, []int{18, 21, -6, -23, -25}, 2, 39, 2, 85},
		{"in turn", two, []int{1, 2, 1, 2, 1}, []int{25, 38, 18, 11, 16}, -1, 46, 5, 44},
		{"every second hour", two, []int{0, 1, 0, 1, 0}, []int{35, 45, 35, 25, 40}, -1, 16, 2, 20},
		{"the second one joins and stays", two, []int{1, 3, 2, 0, 0}, []int{25, 28, 11, 11, 26}, -1, 24, 2, 34},
		{"the first one goes on while the second one pauses", two, []int{3, 1, 3, 0, 0}, []int{18, 28, 1, 1, 16}, 2, 36, 3, 44},
		{"not enough at last", two, []int{0, 2, 0, 0, 0}, []int{35, 48, 38, 38, 53}, 4, 11, 1, 7},
		{"exactly enough at last", two, []int{0, 1, 0, 0, 0}, []int{35, 45, 35, 35, 50}, -1, 8, 1, 10},
		{"the most of all", wide, []int{3, 3, 3, 3, 3}, []int{450, 400, 350, 300, 250}, -1, 300, 2, 500},
		{"the most that costs", wide, []int{3, 0, 3, 0, 3}, []int{450, 500, 450, 500, 450}, -1, 420, 6, 300},
		{"as much as flows in", wide, []int{1, 2, 1, 2, 1}, []int{500, 500, 500, 500, 500}, -1, 350, 5, 250},
	}
}

// The plans counted by hand: their levels, whether and when they are unsafe, their costs, starts and water.
func TestPlansOfPumps(t *testing.T) {
	for _, c := range append(boundCases(), runCases()...) {
		t.Run(c.name, func(t *testing.T) {
			expectPlan(t, c.task, c.plan, planTold{c.levels, c.unsafe, c.cost, c.starts, c.water})
		})
	}
}

// cheapestCase is a task and its cheapest plan, found by hand; no plan is safe if plan is nil.
type cheapestCase struct {
	name string
	task impl.PumpTask
	plan []int
	cost int
}

func cheapestCases() []cheapestCase {
	two := taskOf([3]int{10, 50, 30}, []int{5, 20, -10, 0, 15}, [3]int{10, 3, 5}, [3]int{7, 2, 9})
	pumped := func(low int, flows []int, pumps ...[3]int) impl.PumpTask {
		return taskOf([3]int{low, 100, 100}, flows, pumps...)
	}
	return []cheapestCase{
		{"as much as an hour earlier, which is lexicographically greater", two, []int{0, 1, 0, 0, 0}, 8},
		{"safe without any pump", taskOf([3]int{10, 50, 30}, []int{20, -40, 40}, [3]int{1, 1, 1}), []int{0, 0, 0}, 0},
		{"safe without any pump, which are for nothing", taskOf([3]int{10, 50, 30}, []int{5, -5}, [3]int{1, 0, 0}, [3]int{2, 0, 0}), []int{0, 0}, 0},
		{"no pumps, and none needed", taskOf([3]int{30, 30, 30}, []int{0, 0, 0, 0, 0}), []int{0, 0, 0, 0, 0}, 0},
		{"no pumps, but one needed at first", pumped(0, []int{1, -1}), nil, 0},
		{"no pumps, but one needed at last", pumped(0, []int{-1, 2}), nil, 0},
		{"too low at first, where no pump helps", taskOf([3]int{0, 100, 0}, []int{-1, 50}, [3]int{1, 0, 0}), nil, 0},
		{"too low at last", taskOf([3]int{0, 100, 0}, []int{50, -50, -1}, [3]int{1, 0, 0}), nil, 0},
		{"too low or too high", taskOf([3]int{100, 100, 100}, []int{3}, [3]int{2, 0, 0}, [3]int{4, 0, 0}), nil, 0},
		{"both are too weak", pumped(0, []int{22}, [3]int{20, 1, 1}, [3]int{1, 1, 1}), nil, 0},
		{"both are just enough", pumped(0, []int{21}, [3]int{20, 1, 2}, [3]int{1, 3, 4}), []int{3}, 10},
		{"not safe at last, whatever was before", pumped(90, []int{10, 0, 31}, [3]int{10, 1, 1}), nil, 0},
		{"going on is cheaper than a pause", pumped(0, []int{10, 0, 10}, [3]int{10, 1, 50}), []int{1, 1, 0}, 52},
		{"a pause is cheaper than going on", pumped(80, []int{10, 0, 10}, [3]int{20, 20, 19}), []int{1, 0, 0}, 39},
		{"a pause is needed", pumped(95, []int{10, 0, 10}, [3]int{10, 1, 50}), []int{1, 0, 1}, 102},
		{"going on is needed", pumped(0, []int{10, 0, 20}, [3]int{10, 1, 50}), []int{1, 1, 1}, 53},
		{"the first of two equal ones", pumped(0, []int{10}, [3]int{10, 3, 4}, [3]int{10, 3, 4}), []int{1}, 7},
		{"the cheaper second one", pumped(0, []int{10}, [3]int{10, 3, 4}, [3]int{10, 3, 3}), []int{2}, 6},
		{"the second one, cheaper in an hour", pumped(0, []int{10}, [3]int{10, 3, 4}, [3]int{10, 2, 4}), []int{2}, 6},
		{"both together, cheaper than the first one twice", pumped(0, []int{10, 10}, [3]int{10, 9, 0}, [3]int{10, 3, 4}), []int{2, 2}, 10},
		{"the strong one once, not the weak one twice", pumped(0, []int{5, 5}, [3]int{5, 4, 0}, [3]int{10, 7, 0}), []int{2, 0}, 7},
		{"the weak one twice, not the strong one once", pumped(0, []int{5, 5}, [3]int{5, 4, 0}, [3]int{10, 9, 0}), []int{1, 1}, 8},
		{"both ways cost as much", pumped(0, []int{5, 5}, [3]int{5, 4, 0}, [3]int{10, 8, 0}), []int{1, 1}, 8},
		{"running before it is needed", taskOf([3]int{0, 100, 90}, []int{5, 25}, [3]int{10, 1, 0}), []int{1, 1}, 2},
		{"not running before it is needed", taskOf([3]int{85, 100, 90}, []int{5, -5, 15}, [3]int{10, 1, 0}), []int{0, 0, 1}, 1},
		{"the greatest cost", taskOf([3]int{0, 0, 0}, []int{50, 50, 50, 50, 50}, [3]int{50, 20, 50}), []int{1, 1, 1, 1, 1}, 150},
	}
}

// The cheapest plans found by hand.
func TestCheapestPlan(t *testing.T) {
	for _, c := range cheapestCases() {
		t.Run(c.name, func(t *testing.T) {
			if c.plan == nil {
				expectNoCheapest(t, c.task)
				return
			}
			expectCheapest(t, c.task, c.plan, c.cost)
			expectPlan(t, c.task, c.plan, planByPumps(c.task, c.plan))
		})
	}
}

// P12: No safe plan costs less than the cheapest one, which is safe itself and the first one of those that cost as much.
func TestNoSafePlanIsCheaper(t *testing.T) {
	seen := map[string]int{}
	for task := range manyTasks() {
		all := cheapestOfAll(task)
		if all.safe == 0 {
			expectNoCheapest(t, task)
			seen["no safe plan"]++
			continue
		}
		expectCheapest(t, task, all.best, all.cost)
		expectPlan(t, task, all.best, planByPumps(task, all.best))
		for plan := range plansOf(task) {
			safe, _ := impl.IsSafePlan(task, plan)
			cost, ok := impl.PlanCost(task, plan)
			if !ok || safe && (cost < all.cost || cost == all.cost && slices.Compare(plan, all.best) < 0) {
				t.Fatalf("%v: %d costs %d, %d only %d", task, all.best, all.cost, plan, cost)
			}
		}
		switch {
		case all.cost == 0 && slices.Max(all.best) == 0:
			seen["no pump"]++
		case all.cost == 0:
			seen["for nothing"]++
		case all.equal > 1:
			seen["equal"]++
		case slices.Contains(all.best, 3):
			seen["both"]++
		default:
			seen["alone"]++
		}
	}
	for _, kind := range []string{"no safe plan", "no pump", "for nothing", "equal", "both", "alone"} {
		if seen[kind] < 20 {
			t.Error("what there was:", seen)
		}
	}
}

// All plans of many tasks.
func TestPlansOfManyTasks(t *testing.T) {
	k, seen := 0, map[int]int{}
	for task := range manyTasks() {
		k++
		// All plans of every task would take long, and those of few hours are few.
		if k%7 > 0 && len(task.Flows) > 3 {
			continue
		}
		for plan := range plansOf(task) {
			told := planByPumps(task, plan)
			expectPlan(t, task, plan, told)
			seen[told.unsafe]++
		}
	}
	if len(seen) != 6 {
		t.Error("what there was:", seen)
	}
}

// The task without its first pump, without its last one, without its only one, and without one that is not there.
func TestWithoutPump(t *testing.T) {
	first, second := [3]int{10, 3, 5}, [3]int{7, 2, 9}
	bounds, flows := [3]int{10, 50, 30}, []int{5, 20, -10}
	both, one := taskOf(bounds, flows, first, second), taskOf(bounds, flows, first)
	for _, c := range []struct {
		name string
		task impl.PumpTask
		i    int
		want impl.PumpTask
	}{
		{"its first one", both, 0, taskOf(bounds, flows, second)},
		{"its last one", both, 1, taskOf(bounds, flows, first)},
		{"its only one", one, 0, taskOf(bounds, flows)},
		{"one of two equal ones", taskOf(bounds, flows, first, first), 1, one},
		{"at all limits", taskOf([3]int{0, 500, 500}, make([]int, 5), [3]int{50, 20, 50}), 0, taskOf([3]int{0, 500, 500}, make([]int, 5))},
	} {
		t.Run(c.name, func(t *testing.T) {
			if task, ok := impl.WithoutPump(c.task, c.i); !ok || !sameTasks(task, c.want) {
				t.Errorf("WithoutPump(%v, %d) = %v, %v", c.task, c.i, task, ok)
			}
		})
	}
	for _, task := range someTasks() {
		n := len(task.Pumps)
		for _, i := range append(farVolumes(), -2, -1, n, n+1, 2, 3) {
			expectNotWithout(t, task, i)
		}
	}
}

// A plan in which a pump stands still is one of the task without it, where its bit is left out, and costs as much.
func TestPlansWithoutPump(t *testing.T) {
	for task := range manyTasks() {
		for i := range task.Pumps {
			without, ok := impl.WithoutPump(task, i)
			if !ok {
				t.Fatalf("WithoutPump(%v, %d) fails", task, i)
			}
			best, cost, ok := impl.CheapestPlan(without)
			if !ok {
				continue
			}
			with := []int{}
			for _, n := range best {
				// With the second one left out, the first one keeps its bit; with the first one left out, the second one has its bit.
				with = append(with, n*[]int{2, 1}[i])
			}
			told := planByPumps(task, with)
			if told.unsafe >= 0 || told.cost != cost {
				t.Fatalf("%v without %d: %d costs %d, not %v", task, i, best, cost, told)
			}
			if _, least, ok := impl.CheapestPlan(task); !ok || least > cost {
				t.Fatalf("%v without %d: %d, %v instead of at most %d", task, i, least, ok, cost)
			}
		}
	}
}

// withMoreOf returns the task with other Flows and Pumps behind their ends.
func withMoreOf(t impl.PumpTask) impl.PumpTask {
	t.Flows = append(slices.Clone(t.Flows), 7, 51, -99)[:len(t.Flows)]
	t.Pumps = append(slices.Clone(t.Pumps), pumpsOf([3]int{9, 1, 1}, [3]int{-1, 0, 99})...)[:len(t.Pumps)]
	return t
}

// wholeTask returns the task with all that its memory has, also behind the ends.
func wholeTask(t impl.PumpTask) impl.PumpTask {
	t.Flows, t.Pumps = t.Flows[:cap(t.Flows)], t.Pumps[:cap(t.Pumps)]
	return t
}

// pumpsAsNumbers calls all functions and returns everything that they return, a bool as 0 or 1.
func pumpsAsNumbers(t impl.PumpTask, plan []int, i int) []int {
	numbers := []int{}
	add := func(ok bool, more ...int) {
		numbers = append(append(numbers, map[bool]int{true: 1}[ok], len(more)), more...)
	}
	add(impl.IsPumpTask(t))
	levels, ok := impl.LevelsWith(t, plan)
	add(ok, levels...)
	safe, ok := impl.IsSafePlan(t, plan)
	add(safe)
	add(ok)
	for _, call := range []func(impl.PumpTask, []int) (int, bool){impl.PlanCost, impl.CountStarts, impl.FirstUnsafe, impl.PumpedWater} {
		n, ok := call(t, plan)
		add(ok, n)
	}
	best, cost, ok := impl.CheapestPlan(t)
	add(ok, append(slices.Clone(best), cost)...)
	without, ok := impl.WithoutPump(t, i)
	add(ok, append(slices.Clone(without.Flows), without.Low, without.High, without.Level)...)
	for _, p := range without.Pumps {
		add(ok, p.Rate, p.Cost, p.Start)
	}
	return numbers
}

// P29: all functions return whatever their arguments, the same when called again, and leave their arguments as they are, also
// beyond their lengths, where what stands plays no part.
func TestPumpFunctionsLeaveTheirArguments(t *testing.T) {
	tasks := append(someTasks(), brokenTasks()...)
	for _, c := range cheapestCases() {
		tasks = append(tasks, c.task)
	}
	next := sequence()
	for _, task := range tasks {
		given := withMoreOf(task)
		before := ownTask(wholeTask(given))
		plans := [][]int{nil, {}, make([]int, len(task.Flows)), slices.Repeat([]int{1}, len(task.Flows)), slices.Repeat([]int{3}, len(task.Flows))}
		if impl.IsPumpTask(task) {
			broken := brokenPlans(task)
			plans = append(plans, broken[next(len(broken))], broken[next(len(broken))], broken[next(len(broken))])
			for plan := range plansOf(task) {
				if next(5) == 0 {
					plans = append(plans, slices.Clone(plan))
				}
			}
		}
		for k, plan := range plans {
			longer := append(slices.Clone(plan), 1, 0, -1, 99)[:len(plan)]
			planBefore := slices.Clone(longer[:cap(longer)])
			a, b := pumpsAsNumbers(given, longer, k%4-1), pumpsAsNumbers(task, plan, k%4-1)
			if !slices.Equal(a, b) {
				t.Fatalf("%v, %d: %d and %d", task, plan, a, b)
			}
			if !slices.Equal(longer[:cap(longer)], planBefore) {
				t.Fatalf("%d was changed to %d", planBefore, longer[:cap(longer)])
			}
		}
		if !sameTasks(wholeTask(given), before) {
			t.Fatalf("%v was changed to %v", before, wholeTask(given))
		}
	}
}

// A task without a pump shares no memory with that with it, however what is written into one of them, nor with a later result.
func TestTasksWithoutPumpAreNew(t *testing.T) {
	for _, task := range someTasks() {
		for i := range task.Pumps {
			given := withMoreOf(task)
			before := ownTask(wholeTask(given))
			first, _ := impl.WithoutPump(given, i)
			want := ownTask(first)
			whole := wholeTask(first)
			for k := range whole.Flows {
				whole.Flows[k] = -77
			}
			for k := range whole.Pumps {
				whole.Pumps[k] = impl.Pump{Rate: -7}
			}
			if !sameTasks(wholeTask(given), before) {
				t.Errorf("%v was changed to %v", before, wholeTask(given))
			}
			again, _ := impl.WithoutPump(given, i)
			for k := range given.Flows {
				given.Flows[k] = -88
			}
			for k := range given.Pumps {
				given.Pumps[k] = impl.Pump{Rate: -8}
			}
			if !sameTasks(again, want) {
				t.Errorf("%v instead of %v", again, want)
			}
		}
	}
}

// Levels and plans are new memory, also when nothing is pumped.
func TestPlansOfPumpsAreNew(t *testing.T) {
	for _, task := range someTasks() {
		hours := len(task.Flows)
		for plan := range plansOf(task) {
			before := slices.Clone(plan)
			expectNewInts(t, hours, func() ([]int, bool) { return impl.LevelsWith(task, plan) })
			if !slices.Equal(plan, before) {
				t.Fatalf("%d was changed to %d", before, plan)
			}
		}
		before := ownTask(task)
		if cheapestOfAll(task).safe > 0 {
			expectNewInts(t, hours, func() ([]int, bool) {
				plan, _, ok := impl.CheapestPlan(task)
				return plan, ok
			})
		}
		if !sameTasks(task, before) {
			t.Fatalf("%v was changed to %v", before, task)
		}
	}
}
