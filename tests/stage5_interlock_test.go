package tests

import (
	"iter"
	"math"
	"slices"
	"testing"

	"loop.example/g00924/impl"
)

// The numbers of a lock's parts in the order of the fields of a LockState, and as they stand in lists of parts that are open.
const (
	lowGate = iota
	highGate
	lowPaddle
	highPaddle
)

// The commands by the numbers that the document gives them: those of a part p are 2*p + 1, which opens it, and 2*p + 2.
const waitMinute = 9

// lockAt returns a state with the parts that are open, the others being closed.
func lockAt(lower int, upper int, level int, parts ...int) impl.LockState {
	s := impl.LockState{Lower: lower, Upper: upper, Level: level}
	for _, part := range parts {
		switch part {
		case lowGate:
			s.LowGate = true
		case highGate:
			s.HighGate = true
		case lowPaddle:
			s.LowPaddle = true
		case highPaddle:
			s.HighPaddle = true
		}
	}
	return s
}

// partsOpen returns the parts of a lock that are open, in order.
func partsOpen(s impl.LockState) []int {
	list := []int{}
	for part, open := range []bool{s.LowGate, s.HighGate, s.LowPaddle, s.HighPaddle} {
		if open {
			list = append(list, part)
		}
	}
	return list
}

// allParts returns every list of parts, in order.
func allParts() [][]int {
	lists := [][]int{}
	for group := range 16 {
		parts := []int{}
		for part := range 4 {
			if group&(1<<part) != 0 {
				parts = append(parts, part)
			}
		}
		lists = append(lists, parts)
	}
	return lists
}

// somePairs returns levels Lower and Upper, at their limits, equal, and about as far from each other as MaxHead and FillRate.
func somePairs() [][2]int {
	list := [][2]int{{0, 0}, {2000, 2000}, {700, 700}, {0, 2000}, {1, 2000}, {0, 1999}, {1870, 2000}, {300, 430}, {1994, 2000}, {1995, 2000}}
	for _, height := range []int{1, 4, 5, 6, 7, 10, 11, 12, 49, 50, 51, 54, 55, 56, 57, 60, 61, 100, 105, 106, 130} {
		list = append(list, [2]int{0, height}, [2]int{400, 400 + height})
	}
	return list
}

// manyStates yields all states with levels from somePairs and a Level in between or one beyond them, whatever parts are open.
func manyStates() iter.Seq[impl.LockState] {
	return func(yield func(impl.LockState) bool) {
		for _, pair := range somePairs() {
			for level := pair[0] - 1; level <= pair[1]+1; level++ {
				for _, parts := range allParts() {
					if !yield(lockAt(pair[0], pair[1], level, parts...)) {
						return
					}
				}
			}
		}
	}
}

// safeStates yields those of manyStates that are safe.
func safeStates() iter.Seq[impl.LockState] {
	return func(yield func(impl.LockState) bool) {
		for s := range manyStates() {
			if isSafeByRules(s) && !yield(s) {
				return
			}
		}
	}
}

// isSafeByRules tells whether a state is valid and safe, rule by rule, apart from the program.
func isSafeByRules(s impl.LockState) bool {
	ascending := []int{0, s.Lower, s.Level, s.Upper, 2000}
	if !slices.IsSorted(ascending) {
		return false
	}
	allowed := [][]int{{}, {lowPaddle}, {highPaddle}}
	if s.Level <= s.Lower+5 {
		allowed = append(allowed, []int{lowGate}, []int{lowGate, lowPaddle})
	}
	if s.Level >= s.Upper-5 {
		allowed = append(allowed, []int{highGate}, []int{highGate, highPaddle})
	}
	return slices.ContainsFunc(allowed, func(parts []int) bool { return slices.Equal(parts, partsOpen(s)) })
}

// stepByRules makes a command, a minute centimeter by centimeter, apart from the program.
func stepByRules(s impl.LockState, command int) (impl.LockState, bool) {
	if !isSafeByRules(s) || command < 1 || command > 9 {
		return impl.LockState{}, false
	}
	parts := partsOpen(s)
	level := s.Level
	if command == waitMinute {
		for range 50 {
			if slices.Contains(parts, lowPaddle) && level > s.Lower {
				level--
			}
			if slices.Contains(parts, highPaddle) && level < s.Upper {
				level++
			}
		}
	} else {
		part, opens := (command-1)/2, command%2 == 1
		place := slices.Index(parts, part)
		if opens == (place >= 0) {
			return impl.LockState{}, false
		}
		if opens {
			parts = append(parts, part)
		} else {
			parts = slices.Delete(parts, place, place+1)
		}
	}
	next := lockAt(s.Lower, s.Upper, level, parts...)
	if !isSafeByRules(next) {
		return impl.LockState{}, false
	}
	return next, true
}

// runByRules makes the commands up to the first one that fails, and returns the state, their number, and by how much the Level rose
// and fell.
func runByRules(s impl.LockState, commands []int) (after impl.LockState, made int, rose int, fell int) {
	for _, command := range commands {
		next, ok := stepByRules(s, command)
		if !ok {
			break
		}
		if next.Level > s.Level {
			rose += next.Level - s.Level
		} else {
			fell += s.Level - next.Level
		}
		s = next
		made++
	}
	return s, made, rose, fell
}

// planByRules tries the commands of a plan one by one and keeps those that are needed.
func planByRules(s impl.LockState, high bool) []int {
	gate, otherGate, paddle, otherPaddle := lowGate, highGate, lowPaddle, highPaddle
	if high {
		gate, otherGate, paddle, otherPaddle = otherGate, gate, otherPaddle, paddle
	}
	plan := []int{}
	try := func(command int) bool {
		next, ok := stepByRules(s, command)
		if ok {
			s = next
			plan = append(plan, command)
		}
		return ok
	}
	if slices.Contains(partsOpen(s), gate) {
		return plan
	}
	try(2*otherGate + 2)
	try(2*otherPaddle + 2)
	if try(2*gate + 1) {
		return plan
	}
	try(2*paddle + 1)
	for !try(2*gate + 1) {
		try(waitMinute)
	}
	return plan
}

// waits returns commands that let minutes pass.
func waits(n int) []int { return slices.Repeat([]int{waitMinute}, n) }

// commandLists returns lists of commands of many lengths up to 60, most of which can be made in a lock from its beginning on, and
// among which numbers that are no commands stand late.
func commandLists(s impl.LockState) [][]int {
	lists := [][]int{nil, {}}
	number := 1
	for k := range 60 {
		list := []int{}
		now := s
		for len(list) <= k {
			number = (number*48271 + k) % 2147483647
			command := number%10 + 1
			next, ok := stepByRules(now, command)
			if ok {
				now = next
			} else if number/10%40 > 0 {
				continue
			}
			list = append(list, command)
		}
		lists = append(lists, list)
	}
	return lists
}

func TestLimitsOfLocks(t *testing.T) {
	if impl.MaxLevel != 2000 || impl.FillRate != 50 || impl.MaxHead != 5 {
		t.Error("limits", impl.MaxLevel, impl.FillRate, impl.MaxHead)
	}
	commands := []int{
		impl.OpenLowGate, impl.CloseLowGate, impl.OpenHighGate, impl.CloseHighGate,
		impl.OpenLowPaddle, impl.CloseLowPaddle, impl.OpenHighPaddle, impl.CloseHighPaddle, impl.WaitMinute,
	}
	if !slices.Equal(commands, []int{1, 2, 3, 4, 5, 6, 7, 8, 9}) {
		t.Error("commands", commands)
	}
}

// All levels and some beyond them.
func TestNewLock(t *testing.T) {
	for lower := -2; lower <= 2002; lower++ {
		for upper := -2; upper <= 2002; upper++ {
			want := impl.LockState{}
			valid := 0 <= lower && lower <= upper && upper <= 2000
			if valid {
				want = impl.LockState{Lower: lower, Upper: upper, Level: lower}
			}
			if s, ok := impl.NewLock(lower, upper); ok != valid || s != want || ok && !impl.IsSafeLock(s) {
				t.Fatalf("NewLock(%d, %d) = %v, %v", lower, upper, s, ok)
			}
		}
	}
	for _, n := range farNumbers {
		for _, other := range append([]int{0, 1, 2000}, farNumbers...) {
			expectNoNewLock(t, n, other)
			expectNoNewLock(t, other, n)
		}
	}
}

func expectNoNewLock(t *testing.T, lower int, upper int) {
	t.Helper()
	if s, ok := impl.NewLock(lower, upper); ok || s != (impl.LockState{}) {
		t.Errorf("NewLock(%d, %d) = %v, %v", lower, upper, s, ok)
	}
}

// judged is a state, and whether it is valid and safe.
type judged struct {
	state impl.LockState
	safe  bool
}

// statesToJudge returns states at the limits of what is valid and safe, as the document has them.
func statesToJudge() []judged {
	return []judged{
		// Levels.
		{lockAt(0, 0, 0), true},
		{lockAt(0, 2000, 0), true},
		{lockAt(0, 2000, 2000), true},
		{lockAt(0, 2000, 1000), true},
		{lockAt(2000, 2000, 2000), true},
		{lockAt(300, 430, 300), true},
		{lockAt(300, 430, 430), true},
		{lockAt(-1, 100, 0), false},
		{lockAt(-1, -1, -1), false},
		{lockAt(0, 2001, 0), false},
		{lockAt(2001, 2001, 2001), false},
		{lockAt(101, 100, 100), false},
		{lockAt(101, 100, 101), false},
		{lockAt(300, 430, 299), false},
		{lockAt(300, 430, 431), false},
		{lockAt(300, 430, 0), false},
		{lockAt(300, 300, 301), false},
		// One gate, at MaxHead and one more.
		{lockAt(300, 430, 300, lowGate), true},
		{lockAt(300, 430, 305, lowGate), true},
		{lockAt(300, 430, 306, lowGate), false},
		{lockAt(300, 430, 430, lowGate), false},
		{lockAt(300, 430, 430, highGate), true},
		{lockAt(300, 430, 425, highGate), true},
		{lockAt(300, 430, 424, highGate), false},
		{lockAt(300, 430, 300, highGate), false},
		{lockAt(0, 5, 5, lowGate), true},
		{lockAt(0, 6, 6, lowGate), false},
		{lockAt(0, 5, 0, highGate), true},
		{lockAt(0, 6, 0, highGate), false},
		{lockAt(1995, 2000, 2000, lowGate), true},
		{lockAt(1994, 2000, 2000, lowGate), false},
		{lockAt(0, 2000, 2000, highGate), true},
		// Paddles, at whatever Level.
		{lockAt(300, 430, 300, lowPaddle), true},
		{lockAt(300, 430, 370, lowPaddle), true},
		{lockAt(300, 430, 430, lowPaddle), true},
		{lockAt(300, 430, 300, highPaddle), true},
		{lockAt(300, 430, 430, highPaddle), true},
		{lockAt(300, 430, 305, lowGate, lowPaddle), true},
		{lockAt(300, 430, 306, lowGate, lowPaddle), false},
		{lockAt(300, 430, 425, highGate, highPaddle), true},
		{lockAt(300, 430, 424, highGate, highPaddle), false},
		{lockAt(300, 430, 300, lowGate, highPaddle), false},
		{lockAt(300, 430, 430, highGate, lowPaddle), false},
		{lockAt(300, 430, 370, lowPaddle, highPaddle), false},
		{lockAt(300, 300, 300, lowPaddle, highPaddle), false},
		{lockAt(300, 300, 300, lowGate, highGate), false},
		{lockAt(300, 300, 300, lowGate, highPaddle), false},
		{lockAt(300, 300, 300, highGate, lowPaddle), false},
		{lockAt(300, 300, 300, highGate), true},
		{lockAt(300, 300, 300, lowGate, lowPaddle), true},
		{lockAt(0, 5, 3, lowGate, highGate), false},
		{lockAt(0, 0, 0, lowGate, highGate, lowPaddle), false},
	}
}

func TestIsSafeLock(t *testing.T) {
	for _, j := range statesToJudge() {
		if impl.IsSafeLock(j.state) != j.safe {
			t.Errorf("IsSafeLock(%v) is not %v", j.state, j.safe)
		}
	}
	for s := range manyStates() {
		if impl.IsSafeLock(s) != isSafeByRules(s) {
			t.Fatalf("IsSafeLock(%v) is %v", s, impl.IsSafeLock(s))
		}
	}
}

// unsafeStates returns states that are not valid or not safe: those of the table, and some with far numbers, whose differences wrap
// around.
func unsafeStates() []impl.LockState {
	list := []impl.LockState{}
	for _, j := range statesToJudge() {
		if !j.safe {
			list = append(list, j.state)
		}
	}
	for _, n := range farNumbers {
		for _, parts := range allParts() {
			list = append(list,
				lockAt(n, 100, 50, parts...), lockAt(50, n, 50, parts...), lockAt(0, 100, n, parts...),
				lockAt(n, n, n, parts...), lockAt(n, 100, n, parts...), lockAt(0, n, n, parts...),
			)
		}
	}
	for _, m := range farNumbers {
		for _, n := range farNumbers {
			list = append(list, lockAt(m, n, n, highGate), lockAt(m, n, m, lowGate), lockAt(m, 2000, n), lockAt(0, m, n), lockAt(m, n, 0))
		}
	}
	return list
}

// All functions fail for states that are not valid or not safe, whatever else they are given.
func TestLocksThatAreNotSafe(t *testing.T) {
	for _, s := range unsafeStates() {
		if impl.IsSafeLock(s) {
			t.Errorf("IsSafeLock(%v)", s)
		}
		for command := -1; command <= 10; command++ {
			expectNoStep(t, s, command)
		}
		for _, commands := range [][]int{nil, {}, {2}, {4}, {6}, {8}, {9}, {6, 8, 2, 4}, waits(60), waits(61)} {
			expectNoRun(t, s, commands)
		}
		for _, high := range []bool{false, true} {
			if n, ok := impl.MinutesTo(s, high); ok || n != 0 {
				t.Errorf("MinutesTo(%v, %v) = %d, %v", s, high, n, ok)
			}
			if l, ok := impl.PlanTo(s, high); ok || len(l) != 0 {
				t.Errorf("PlanTo(%v, %v) = %d, %v", s, high, l, ok)
			}
			if n, ok := impl.HeadAt(s, high); ok || n != 0 {
				t.Errorf("HeadAt(%v, %v) = %d, %v", s, high, n, ok)
			}
		}
	}
}

func expectNoStep(t *testing.T, s impl.LockState, command int) {
	t.Helper()
	if next, ok := impl.StepLock(s, command); ok || next != (impl.LockState{}) {
		t.Errorf("StepLock(%v, %d) = %v, %v", s, command, next, ok)
	}
}

func expectNoRun(t *testing.T, s impl.LockState, commands []int) {
	t.Helper()
	if next, n, ok := impl.RunLock(s, commands); ok || n != 0 || next != (impl.LockState{}) {
		t.Errorf("RunLock(%v, %d) = %v, %d, %v", s, commands, next, n, ok)
	}
	if n, ok := impl.WaterDrawn(s, commands); ok || n != 0 {
		t.Errorf("WaterDrawn(%v, %d) = %d, %v", s, commands, n, ok)
	}
}

// P5: from every safe state, every command leads to a safe state or fails; and it does what stepByRules does.
func TestStepsFromAllSafeStates(t *testing.T) {
	for s := range safeStates() {
		for command := -1; command <= 11; command++ {
			want, possible := stepByRules(s, command)
			next, ok := impl.StepLock(s, command)
			if ok && (!isSafeByRules(next) || !impl.IsSafeLock(next)) {
				t.Fatalf("StepLock(%v, %d) = %v, which is not safe", s, command, next)
			}
			if ok != possible || next != want {
				t.Fatalf("StepLock(%v, %d) = %v, %v", s, command, next, ok)
			}
		}
	}
}

// P5: no state that can be reached from NewLock, in whatever number of steps, is unsafe.
func TestStatesThatAreReached(t *testing.T) {
	for _, pair := range somePairs() {
		first, ok := impl.NewLock(pair[0], pair[1])
		if !ok {
			t.Fatal("no lock", pair)
		}
		reached := map[impl.LockState]bool{first: true}
		for work := []impl.LockState{first}; len(work) > 0; work = work[1:] {
			if !isSafeByRules(work[0]) {
				t.Fatalf("%v is reached", work[0])
			}
			for command := 1; command <= 9; command++ {
				if next, ok := impl.StepLock(work[0], command); ok && !reached[next] {
					reached[next] = true
					work = append(work, next)
				}
			}
		}
		// Each gate can be opened alone, with its paddle, and at the other end of the levels only if they are near enough.
		for _, parts := range [][]int{{lowGate}, {lowGate, lowPaddle}} {
			if !reached[lockAt(pair[0], pair[1], pair[0], parts...)] || reached[lockAt(pair[0], pair[1], pair[1], parts...)] != (pair[1]-pair[0] <= 5) {
				t.Errorf("%d with %d", pair, parts)
			}
		}
		for _, parts := range [][]int{{highGate}, {highGate, highPaddle}} {
			if !reached[lockAt(pair[0], pair[1], pair[1], parts...)] || reached[lockAt(pair[0], pair[1], pair[0], parts...)] != (pair[1]-pair[0] <= 5) {
				t.Errorf("%d with %d", pair, parts)
			}
		}
	}
}

// step is a command, and the state that it leads to: the zero state where StepLock is to fail.
type step struct {
	from    impl.LockState
	command int
	want    impl.LockState
}

func expectSteps(t *testing.T, steps []step) {
	t.Helper()
	for _, c := range steps {
		if s, ok := impl.StepLock(c.from, c.command); ok != (c.want != impl.LockState{}) || s != c.want {
			t.Errorf("StepLock(%v, %d) = %v, %v", c.from, c.command, s, ok)
		}
	}
}

// Gates at MaxHead and one more.
func TestStepsAtMaxHead(t *testing.T) {
	expectSteps(t, []step{
		{lockAt(300, 430, 305), impl.OpenLowGate, lockAt(300, 430, 305, lowGate)},
		{lockAt(300, 430, 306), impl.OpenLowGate, impl.LockState{}},
		{lockAt(300, 430, 425), impl.OpenHighGate, lockAt(300, 430, 425, highGate)},
		{lockAt(300, 430, 424), impl.OpenHighGate, impl.LockState{}},
		{lockAt(0, 5, 0), impl.OpenHighGate, lockAt(0, 5, 0, highGate)},
		{lockAt(0, 6, 0), impl.OpenHighGate, impl.LockState{}},
		{lockAt(0, 5, 5), impl.OpenLowGate, lockAt(0, 5, 5, lowGate)},
		{lockAt(0, 6, 6), impl.OpenLowGate, impl.LockState{}},
		{lockAt(0, 2000, 2000), impl.OpenHighGate, lockAt(0, 2000, 2000, highGate)},
		{lockAt(2000, 2000, 2000), impl.OpenLowGate, lockAt(2000, 2000, 2000, lowGate)},
	})
}

// What is open already is not opened, and what is closed already is not closed.
func TestStepsOfWhatIsSoAlready(t *testing.T) {
	expectSteps(t, []step{
		{lockAt(300, 430, 300, lowGate), impl.OpenLowGate, impl.LockState{}},
		{lockAt(300, 430, 300), impl.CloseLowGate, impl.LockState{}},
		{lockAt(300, 430, 430, highGate), impl.OpenHighGate, impl.LockState{}},
		{lockAt(300, 430, 430), impl.CloseHighGate, impl.LockState{}},
		{lockAt(300, 430, 370, lowPaddle), impl.OpenLowPaddle, impl.LockState{}},
		{lockAt(300, 430, 370), impl.CloseLowPaddle, impl.LockState{}},
		{lockAt(300, 430, 370, highPaddle), impl.OpenHighPaddle, impl.LockState{}},
		{lockAt(300, 430, 370), impl.CloseHighPaddle, impl.LockState{}},
		{lockAt(300, 430, 300, lowGate), impl.CloseLowGate, lockAt(300, 430, 300)},
		{lockAt(300, 430, 430, highGate), impl.CloseHighGate, lockAt(300, 430, 430)},
		{lockAt(300, 430, 370, lowPaddle), impl.CloseLowPaddle, lockAt(300, 430, 370)},
		{lockAt(300, 430, 370, highPaddle), impl.CloseHighPaddle, lockAt(300, 430, 370)},
	})
}

// Both gates, both paddles, and a paddle of one side with the gate of the other.
func TestStepsAgainstTheInterlock(t *testing.T) {
	expectSteps(t, []step{
		{lockAt(300, 300, 300, lowGate), impl.OpenHighGate, impl.LockState{}},
		{lockAt(300, 305, 303, highGate), impl.OpenLowGate, impl.LockState{}},
		{lockAt(300, 430, 370, lowPaddle), impl.OpenHighPaddle, impl.LockState{}},
		{lockAt(300, 300, 300, highPaddle), impl.OpenLowPaddle, impl.LockState{}},
		{lockAt(300, 430, 300, lowGate), impl.OpenHighPaddle, impl.LockState{}},
		{lockAt(300, 430, 430, highGate), impl.OpenLowPaddle, impl.LockState{}},
		{lockAt(300, 305, 303, highPaddle), impl.OpenLowGate, impl.LockState{}},
		{lockAt(300, 300, 300, lowPaddle), impl.OpenHighGate, impl.LockState{}},
		{lockAt(300, 430, 300, lowGate), impl.OpenLowPaddle, lockAt(300, 430, 300, lowGate, lowPaddle)},
		{lockAt(300, 430, 430, highPaddle), impl.OpenHighGate, lockAt(300, 430, 430, highGate, highPaddle)},
		{lockAt(300, 430, 303, lowGate, lowPaddle), impl.CloseLowGate, lockAt(300, 430, 303, lowPaddle)},
	})
}

// Minutes: with no paddle open, with centimeters enough, with just as many, and with fewer.
func TestMinutesThatPass(t *testing.T) {
	expectSteps(t, []step{
		{lockAt(300, 430, 370), impl.WaitMinute, lockAt(300, 430, 370)},
		{lockAt(300, 430, 305, lowGate), impl.WaitMinute, lockAt(300, 430, 305, lowGate)},
		{lockAt(300, 430, 425, highGate), impl.WaitMinute, lockAt(300, 430, 425, highGate)},
		{lockAt(300, 430, 370, lowPaddle), impl.WaitMinute, lockAt(300, 430, 320, lowPaddle)},
		{lockAt(300, 430, 350, lowPaddle), impl.WaitMinute, lockAt(300, 430, 300, lowPaddle)},
		{lockAt(300, 430, 349, lowPaddle), impl.WaitMinute, lockAt(300, 430, 300, lowPaddle)},
		{lockAt(300, 430, 301, lowPaddle), impl.WaitMinute, lockAt(300, 430, 300, lowPaddle)},
		{lockAt(300, 430, 300, lowPaddle), impl.WaitMinute, lockAt(300, 430, 300, lowPaddle)},
		{lockAt(300, 430, 370, highPaddle), impl.WaitMinute, lockAt(300, 430, 420, highPaddle)},
		{lockAt(300, 430, 380, highPaddle), impl.WaitMinute, lockAt(300, 430, 430, highPaddle)},
		{lockAt(300, 430, 381, highPaddle), impl.WaitMinute, lockAt(300, 430, 430, highPaddle)},
		{lockAt(300, 430, 429, highPaddle), impl.WaitMinute, lockAt(300, 430, 430, highPaddle)},
		{lockAt(300, 430, 430, highPaddle), impl.WaitMinute, lockAt(300, 430, 430, highPaddle)},
		{lockAt(300, 430, 305, lowGate, lowPaddle), impl.WaitMinute, lockAt(300, 430, 300, lowGate, lowPaddle)},
		{lockAt(300, 430, 425, highGate, highPaddle), impl.WaitMinute, lockAt(300, 430, 430, highGate, highPaddle)},
		{lockAt(0, 2000, 30, lowPaddle), impl.WaitMinute, lockAt(0, 2000, 0, lowPaddle)},
		{lockAt(0, 2000, 1970, highPaddle), impl.WaitMinute, lockAt(0, 2000, 2000, highPaddle)},
		{lockAt(300, 300, 300, highPaddle), impl.WaitMinute, lockAt(300, 300, 300, highPaddle)},
	})
}

func TestNumbersThatAreNoCommands(t *testing.T) {
	for _, s := range []impl.LockState{lockAt(0, 130, 0), lockAt(0, 130, 0, lowGate, lowPaddle), lockAt(0, 130, 130, highGate, highPaddle)} {
		for command := -300; command <= 300; command++ {
			if command < 1 || command > 9 {
				expectNoStep(t, s, command)
			}
		}
		for _, n := range farNumbers {
			expectNoStep(t, s, n)
			for command := 1; command <= 9; command++ {
				// These are commands if only some of their bits are looked at.
				expectNoStep(t, s, 1<<32+command)
				expectNoStep(t, s, math.MinInt+command)
				expectNoStep(t, s, 1<<8+command)
			}
			expectRun(t, s, []int{9, n, 9})
		}
	}
}

// expectRun expects RunLock and WaterDrawn to do what runByRules does.
func expectRun(t *testing.T, s impl.LockState, commands []int) {
	t.Helper()
	want, made, rose, fell := runByRules(s, commands)
	next, n, ok := impl.RunLock(s, commands)
	if !ok || n != made || next != want {
		t.Fatalf("RunLock(%v, %d) = %v, %d, %v", s, commands, next, n, ok)
	}
	if !isSafeByRules(next) {
		t.Fatalf("RunLock(%v, %d) = %v, which is not safe", s, commands, next)
	}
	drawn, ok := impl.WaterDrawn(s, commands)
	if !ok || drawn != rose || drawn-fell != next.Level-s.Level {
		t.Fatalf("WaterDrawn(%v, %d) = %d, %v", s, commands, drawn, ok)
	}
}

// statesToRun returns safe states from which commands are made.
func statesToRun() []impl.LockState {
	return []impl.LockState{
		lockAt(0, 0, 0), lockAt(2000, 2000, 2000), lockAt(0, 5, 3, lowGate), lockAt(0, 6, 0), lockAt(0, 2000, 1000), lockAt(300, 430, 300, lowGate, lowPaddle),
		lockAt(300, 430, 370, lowPaddle), lockAt(300, 430, 370, highPaddle), lockAt(300, 430, 425, highGate), lockAt(0, 2000, 2000, highGate, highPaddle),
	}
}

// Every list of up to four numbers from 0 to 10, and longer ones.
func TestRunLock(t *testing.T) {
	for _, s := range statesToRun() {
		for n := range 5 {
			lists := 1
			for range n {
				lists *= 11
			}
			for number := range lists {
				commands := []int{}
				for range n {
					commands = append(commands, number%11)
					number /= 11
				}
				expectRun(t, s, commands)
			}
		}
		for _, commands := range commandLists(s) {
			expectRun(t, s, commands)
		}
	}
}

// Runs as the document has them: a list stops at its first command that fails, also if further ones could be made.
func TestRunsThatStop(t *testing.T) {
	s := lockAt(0, 130, 0)
	for _, c := range []struct {
		commands []int
		want     impl.LockState
		made     int
		drawn    int
	}{
		{nil, s, 0, 0},
		{[]int{7, 9, 9, 9, 3}, lockAt(0, 130, 130, highGate, highPaddle), 5, 130},
		{[]int{9, 7, 9, 3, 9}, lockAt(0, 130, 50, highPaddle), 3, 50},
		{[]int{2}, s, 0, 0},
		{[]int{2, 7, 9}, s, 0, 0},
		{[]int{7, 0, 9}, lockAt(0, 130, 0, highPaddle), 1, 0},
		{[]int{7, 9, 10, 9}, lockAt(0, 130, 50, highPaddle), 2, 50},
		{[]int{7, 9, -1, 9}, lockAt(0, 130, 50, highPaddle), 2, 50},
		{[]int{7, 9, 7, 9}, lockAt(0, 130, 50, highPaddle), 2, 50},
		{[]int{7, 9, 5, 8, 9}, lockAt(0, 130, 50, highPaddle), 2, 50},
		{[]int{1, 3, 2}, lockAt(0, 130, 0, lowGate), 1, 0},
		{[]int{1, 7, 2}, lockAt(0, 130, 0, lowGate), 1, 0},
		{[]int{1, 5, 9, 2, 6, 9}, s, 6, 0},
	} {
		next, n, ok := impl.RunLock(s, c.commands)
		if !ok || n != c.made || next != c.want {
			t.Errorf("RunLock with %d = %v, %d, %v", c.commands, next, n, ok)
		}
		if drawn, ok := impl.WaterDrawn(s, c.commands); !ok || drawn != c.drawn {
			t.Errorf("WaterDrawn with %d = %d, %v", c.commands, drawn, ok)
		}
	}
}

// 60 commands and more, whether they can be made or not.
func TestLongLists(t *testing.T) {
	for _, s := range statesToRun() {
		for n := 55; n <= 60; n++ {
			expectRun(t, s, waits(n))
			if next, made, ok := impl.RunLock(s, waits(n)); !ok || made != n {
				t.Errorf("RunLock(%v) with %d minutes = %v, %d, %v", s, n, next, made, ok)
			}
			expectRun(t, s, slices.Repeat([]int{0}, n))
		}
		for _, n := range []int{61, 62, 100, 316, 65536, 65596} {
			expectNoRun(t, s, waits(n))
			expectNoRun(t, s, slices.Repeat([]int{0}, n))
			expectNoRun(t, s, append([]int{11}, waits(n-1)...))
		}
		for _, commands := range commandLists(s) {
			if len(commands) == 60 {
				expectNoRun(t, s, append(slices.Clone(commands), waitMinute))
			}
		}
	}
	// 59 minutes behind a paddle that is opened fill the deepest lock, whose Level rises no further.
	full := append([]int{impl.OpenHighPaddle}, waits(59)...)
	if next, made, ok := impl.RunLock(lockAt(0, 2000, 0), full); !ok || made != 60 || next != lockAt(0, 2000, 2000, highPaddle) {
		t.Error("not full", next, made, ok)
	}
	if drawn, ok := impl.WaterDrawn(lockAt(0, 2000, 0), full); !ok || drawn != 2000 {
		t.Error("drawn", drawn, ok)
	}
}

// The water that is drawn is that of all rises, whatever falls between them.
func TestWaterDrawn(t *testing.T) {
	for _, c := range []struct {
		from     impl.LockState
		commands []int
		want     int
	}{
		{lockAt(0, 130, 0), nil, 0},
		{lockAt(0, 130, 0), waits(3), 0},
		{lockAt(0, 130, 130, lowPaddle), waits(3), 0},
		{lockAt(0, 130, 0), []int{7, 9}, 50},
		{lockAt(0, 130, 0), []int{7, 9, 8, 9, 7, 9, 8, 9, 7, 9}, 130},
		{lockAt(0, 130, 0), []int{7, 9, 9, 8, 5, 9, 6, 7, 9, 9}, 100 + 80},
		{lockAt(0, 130, 0), []int{7, 9, 9, 9, 8, 5, 9, 9, 9, 6, 7, 9, 9, 9}, 130 + 130},
		{lockAt(0, 130, 0), []int{7, 9, 9, 9, 8, 5, 9, 9, 9}, 130},
		{lockAt(0, 130, 130, highGate), []int{4, 5, 9, 6, 7, 9, 3}, 50},
		{lockAt(0, 130, 127, highGate), []int{7, 9, 9}, 3},
		{lockAt(0, 130, 100, lowPaddle), []int{9, 6, 7, 9, 9}, 80},
		{lockAt(0, 130, 0), []int{7, 9, 6, 9, 9}, 50},
		{lockAt(700, 700, 700), []int{7, 9, 8, 5, 9, 6, 7, 9}, 0},
	} {
		if n, ok := impl.WaterDrawn(c.from, c.commands); !ok || n != c.want {
			t.Errorf("WaterDrawn(%v, %d) = %d, %v", c.from, c.commands, n, ok)
		}
	}
}

// Heads at and about those at which a minute more is needed.
func TestMinutesToAtItsLimits(t *testing.T) {
	for head, want := range map[int]int{
		0: 0, 1: 0, 5: 0, 6: 1, 7: 1, 50: 1, 54: 1, 55: 1, 56: 2, 57: 2, 105: 2, 106: 3, 130: 3, 155: 3, 156: 4, 1955: 39, 1956: 40, 2000: 40,
	} {
		if n, ok := impl.MinutesTo(lockAt(0, 2000, head), false); !ok || n != want {
			t.Errorf("MinutesTo the lower side from %d = %d, %v", head, n, ok)
		}
		if n, ok := impl.MinutesTo(lockAt(0, 2000, 2000-head), true); !ok || n != want {
			t.Errorf("MinutesTo the upper side from %d = %d, %v", head, n, ok)
		}
		if n, ok := impl.MinutesTo(lockAt(2000-head, 2000, 2000-head), true); !ok || n != want {
			t.Errorf("MinutesTo the upper side over %d = %d, %v", head, n, ok)
		}
	}
}

// minutesByRules opens the paddle of a side of a lock in which all is closed and lets minutes pass until its gate can be opened.
func minutesByRules(s impl.LockState, high bool) int {
	gate, paddle := lowGate, lowPaddle
	if high {
		gate, paddle = highGate, highPaddle
	}
	now := lockAt(s.Lower, s.Upper, s.Level, paddle)
	for minutes := 0; ; minutes++ {
		if _, ok := stepByRules(now, 2*gate+1); ok {
			return minutes
		}
		now, _ = stepByRules(now, waitMinute)
	}
}

// For all Levels and both sides, whatever is open: neither a gate nor a paddle makes a difference.
func TestMinutesTo(t *testing.T) {
	for s := range safeStates() {
		for _, high := range []bool{false, true} {
			if n, ok := impl.MinutesTo(s, high); !ok || n != minutesByRules(s, high) {
				t.Fatalf("MinutesTo(%v, %v) = %d, %v", s, high, n, ok)
			}
		}
	}
}

// Plans as the document has them.
func TestPlanTo(t *testing.T) {
	for _, c := range []struct {
		from impl.LockState
		high bool
		want []int
	}{
		{lockAt(0, 130, 0), true, []int{7, 9, 9, 9, 3}},
		{lockAt(0, 130, 0), false, []int{1}},
		{lockAt(0, 130, 130), false, []int{5, 9, 9, 9, 1}},
		{lockAt(0, 130, 130), true, []int{3}},
		// The gate is open, whatever else is.
		{lockAt(0, 130, 5, lowGate), false, nil},
		{lockAt(0, 130, 5, lowGate, lowPaddle), false, nil},
		{lockAt(0, 130, 125, highGate), true, nil},
		{lockAt(0, 130, 125, highGate, highPaddle), true, nil},
		{lockAt(0, 0, 0, highGate), true, nil},
		// What is open at the other side is closed.
		{lockAt(0, 130, 0, lowGate), true, []int{2, 7, 9, 9, 9, 3}},
		{lockAt(0, 130, 0, lowGate, lowPaddle), true, []int{2, 6, 7, 9, 9, 9, 3}},
		{lockAt(0, 130, 70, lowPaddle), true, []int{6, 7, 9, 9, 3}},
		{lockAt(0, 130, 130, highGate), false, []int{4, 5, 9, 9, 9, 1}},
		{lockAt(0, 130, 130, highGate, highPaddle), false, []int{4, 8, 5, 9, 9, 9, 1}},
		{lockAt(0, 130, 70, highPaddle), false, []int{8, 5, 9, 9, 1}},
		// The paddle of this side is open already.
		{lockAt(0, 130, 70, highPaddle), true, []int{9, 9, 3}},
		{lockAt(0, 130, 124, highPaddle), true, []int{9, 3}},
		{lockAt(0, 130, 125, highPaddle), true, []int{3}},
		{lockAt(0, 130, 70, lowPaddle), false, []int{9, 9, 1}},
		{lockAt(0, 130, 6, lowPaddle), false, []int{9, 1}},
		{lockAt(0, 130, 5, lowPaddle), false, []int{1}},
		// No minute is needed at MaxHead, one at one more.
		{lockAt(0, 130, 5), false, []int{1}},
		{lockAt(0, 130, 6), false, []int{5, 9, 1}},
		{lockAt(0, 130, 55), false, []int{5, 9, 1}},
		{lockAt(0, 130, 56), false, []int{5, 9, 9, 1}},
		{lockAt(0, 130, 125), true, []int{3}},
		{lockAt(0, 130, 124), true, []int{7, 9, 3}},
		{lockAt(0, 130, 75), true, []int{7, 9, 3}},
		{lockAt(0, 130, 74), true, []int{7, 9, 9, 3}},
		{lockAt(0, 5, 0, lowGate), true, []int{2, 3}},
		{lockAt(0, 5, 0, lowGate, lowPaddle), true, []int{2, 6, 3}},
		{lockAt(0, 6, 0, lowGate), true, []int{2, 7, 9, 3}},
		{lockAt(0, 5, 5, highGate, highPaddle), false, []int{4, 8, 1}},
		{lockAt(0, 6, 6, highGate, highPaddle), false, []int{4, 8, 5, 9, 1}},
		{lockAt(700, 700, 700, highGate), false, []int{4, 1}},
		{lockAt(700, 700, 700, highPaddle), false, []int{8, 1}},
		// The longest ones.
		{lockAt(0, 2000, 0, lowGate, lowPaddle), true, slices.Concat([]int{2, 6, 7}, waits(40), []int{3})},
		{lockAt(0, 2000, 2000, highGate, highPaddle), false, slices.Concat([]int{4, 8, 5}, waits(40), []int{1})},
	} {
		if l, ok := impl.PlanTo(c.from, c.high); !ok || !slices.Equal(l, c.want) {
			t.Errorf("PlanTo(%v, %v) = %d, %v", c.from, c.high, l, ok)
		}
	}
}

// From all safe states, all commands of a plan can be made, and lead to the open gate and to no further plan.
func TestPlansFromAllSafeStates(t *testing.T) {
	for s := range safeStates() {
		for _, high := range []bool{false, true} {
			plan, ok := impl.PlanTo(s, high)
			if !ok || !slices.Equal(plan, planByRules(s, high)) {
				t.Fatalf("PlanTo(%v, %v) = %d, %v", s, high, plan, ok)
			}
			next, n, ok := impl.RunLock(s, plan)
			if !ok || n != len(plan) || !isSafeByRules(next) || next.LowGate == high || next.HighGate != high {
				t.Fatalf("RunLock(%v, %d) = %v, %d, %v", s, plan, next, n, ok)
			}
			if more, ok := impl.PlanTo(next, high); !ok || len(more) != 0 {
				t.Fatalf("PlanTo(%v, %v) = %d, %v", next, high, more, ok)
			}
			minutes := len(plan) - len(slices.DeleteFunc(slices.Clone(plan), func(command int) bool { return command == waitMinute }))
			if m, ok := impl.MinutesTo(s, high); !ok || minutes != 0 && minutes != m {
				t.Fatalf("PlanTo(%v, %v) = %d lets %d minutes pass", s, high, plan, minutes)
			}
		}
	}
}

func TestHeadAt(t *testing.T) {
	for _, c := range []struct {
		from impl.LockState
		low  int
		high int
	}{
		{lockAt(0, 0, 0), 0, 0}, {lockAt(0, 2000, 0), 0, 2000}, {lockAt(0, 2000, 2000), 2000, 0}, {lockAt(300, 430, 301), 1, 129},
		{lockAt(300, 430, 305, lowGate), 5, 125}, {lockAt(300, 430, 429, highGate, highPaddle), 129, 1}, {lockAt(300, 430, 370, lowPaddle), 70, 60},
	} {
		if n, ok := impl.HeadAt(c.from, false); !ok || n != c.low {
			t.Errorf("HeadAt(%v, false) = %d, %v", c.from, n, ok)
		}
		if n, ok := impl.HeadAt(c.from, true); !ok || n != c.high {
			t.Errorf("HeadAt(%v, true) = %d, %v", c.from, n, ok)
		}
	}
	for s := range safeStates() {
		low, ok := impl.HeadAt(s, false)
		high, fine := impl.HeadAt(s, true)
		if !ok || !fine || low+s.Lower != s.Level || s.Level+high != s.Upper {
			t.Fatalf("HeadAt(%v) = %d, %v and %d, %v", s, low, ok, high, fine)
		}
	}
}

// P29: the commands are left as they are, also beyond their length, where what stands plays no part.
func TestLockFunctionsLeaveTheirArguments(t *testing.T) {
	for _, s := range append(statesToRun(), unsafeStates()[:5]...) {
		lists := append(commandLists(s), []int{7, 9, 0}, []int{-1}, farNumbers, waits(61))
		for _, commands := range lists {
			given := append(slices.Clone(commands), 9, 8, 7, 6, 5, 4, 3, 2, 1)[:len(commands)]
			before := slices.Clone(given[:cap(given)])
			next, n, ok := impl.RunLock(s, given)
			if again, m, fine := impl.RunLock(s, commands); again != next || m != n || ok != fine {
				t.Errorf("RunLock(%v, %d) = %v, %d and %v, %d", s, commands, again, m, next, n)
			}
			drawn, ok := impl.WaterDrawn(s, given)
			if again, fine := impl.WaterDrawn(s, commands); again != drawn || ok != fine {
				t.Errorf("WaterDrawn(%v, %d) = %d and %d", s, commands, again, drawn)
			}
			if !slices.Equal(given[:cap(given)], before) {
				t.Fatalf("%d was changed to %d", before, given[:cap(given)])
			}
		}
	}
}

// A plan shares no memory with a later one.
func TestPlansAreNew(t *testing.T) {
	for _, s := range []impl.LockState{lockAt(0, 130, 0), lockAt(0, 130, 130, highGate, highPaddle), lockAt(0, 2000, 0, lowGate, lowPaddle), lockAt(0, 130, 70, lowPaddle)} {
		for _, high := range []bool{false, true} {
			expectNewInts(t, len(planByRules(s, high)), func() ([]int, bool) { return impl.PlanTo(s, high) })
		}
	}
}
