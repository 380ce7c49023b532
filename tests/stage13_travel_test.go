package tests

import (
	"iter"
	"slices"
	"testing"

	"loop.example/g00924/impl"
)

func span(from int, to int) impl.Interval { return impl.Interval{From: from, To: to} }

// legsOf returns Legs of their Least and Most.
func legsOf(pairs ...[2]int) []impl.Leg {
	legs := []impl.Leg{}
	for _, pair := range pairs {
		legs = append(legs, impl.Leg{Least: pair[0], Most: pair[1]})
	}
	return legs
}

// sameLegs returns a number of equal Legs.
func sameLegs(n int, least int, most int) []impl.Leg {
	return slices.Repeat(legsOf([2]int{least, most}), n)
}

// spansIn returns all Intervals within the minutes first..last.
func spansIn(first int, last int) []impl.Interval {
	list := []impl.Interval{}
	for from := first; from <= last; from++ {
		for to := from; to <= last; to++ {
			list = append(list, span(from, to))
		}
	}
	return list
}

// someSpans returns Intervals at both ends of the minutes and in their middle.
func someSpans() []impl.Interval {
	return slices.Concat(spansIn(0, 4), spansIn(9995, 9999), spansIn(4999, 5001),
		[]impl.Interval{span(0, 9999), span(1, 9999), span(0, 9998), span(1, 9998)})
}

// brokenSpans returns Intervals that are not valid.
func brokenSpans() []impl.Interval {
	list := []impl.Interval{
		span(1, 0), span(11, 10), span(20, 10), span(9999, 0), span(9999, 9998), span(-1, 0), span(-1, -1), span(-2, -1), span(-1, 9999),
		span(0, -1), span(10, -10), span(-20, -10), span(-10, -20), span(0, 10000), span(9999, 10000), span(10000, 10000),
		span(10000, 9999), span(10000, 10001), span(-1, 10000),
	}
	for _, n := range farVolumes() {
		list = append(list, span(n, n), span(n, 10), span(10, n), span(0, n), span(n, 9999))
	}
	return list
}

// brokenLegs returns Legs that are not valid.
func brokenLegs() []impl.Leg {
	legs := legsOf([2]int{1, 0}, [2]int{11, 10}, [2]int{20, 10}, [2]int{1000, 999}, [2]int{1000, 0}, [2]int{-1, 0}, [2]int{-1, -1}, [2]int{-2, -1},
		[2]int{-1, 1000}, [2]int{0, -1}, [2]int{10, -10}, [2]int{-20, -10}, [2]int{-10, -20}, [2]int{0, 1001}, [2]int{1000, 1001},
		[2]int{1001, 1001}, [2]int{1001, 1000}, [2]int{-1, 1001})
	for _, n := range farVolumes() {
		legs = append(legs, legsOf([2]int{n, n}, [2]int{n, 10}, [2]int{10, n}, [2]int{0, n}, [2]int{n, 1000})...)
	}
	return legs
}

// someVoyages returns voyages without Legs, with one, and with more up to MaxLegs, at and between the limits.
func someVoyages() [][]impl.Leg {
	return [][]impl.Leg{
		nil, {}, legsOf([2]int{0, 0}), legsOf([2]int{0, 1000}), legsOf([2]int{1000, 1000}), legsOf([2]int{5, 8}, [2]int{10, 10}),
		legsOf([2]int{10, 10}, [2]int{5, 8}), legsOf([2]int{0, 3}, [2]int{1, 1}, [2]int{0, 0}, [2]int{2, 7}), sameLegs(7, 1, 2),
		sameLegs(8, 0, 0), sameLegs(8, 0, 1000), sameLegs(8, 1000, 1000), sameLegs(8, 3, 4),
	}
}

// brokenVoyages returns lists with too many Legs, and with one that is not valid at each place.
func brokenVoyages() [][]impl.Leg {
	voyages := [][]impl.Leg{sameLegs(9, 0, 0), sameLegs(9, 5, 8), sameLegs(9, 1000, 1000), sameLegs(10, 0, 0), sameLegs(1000, 0, 1)}
	for _, legs := range someVoyages() {
		for i := range legs {
			for _, l := range brokenLegs() {
				broken := slices.Clone(legs)
				broken[i] = l
				voyages = append(voyages, broken)
			}
		}
	}
	return voyages
}

// noMinuteAtAll returns numbers that are not minutes.
func noMinuteAtAll() []int { return append([]int{-9999, -2, -1, 10000, 10001, 20000}, farVolumes()...) }

// smallVoyages returns all voyages of up to three Legs of up to two minutes.
func smallVoyages() [][]impl.Leg {
	voyages := [][]impl.Leg{}
	for n := range 4 {
		for places := range listsOver(countingUp(6), n) {
			legs := []impl.Leg{}
			for _, place := range places {
				l := spansIn(0, 2)[place]
				legs = append(legs, impl.Leg{Least: l.From, Most: l.To})
			}
			voyages = append(voyages, legs)
		}
	}
	return voyages
}

// randomSpan returns a short Interval somewhere, some of them at the ends of the minutes.
func randomSpan(next func(below int) int) impl.Interval {
	from, length := next(9990), next(6)
	switch next(8) {
	case 0:
		from = 0
	case 1:
		from = 9999 - length
	}
	return span(from, from+length)
}

// randomLegs returns up to MaxLegs Legs whose durations are near each other.
func randomLegs(next func(below int) int) []impl.Leg {
	legs := []impl.Leg{}
	for range next(9) {
		most := next(3)
		if next(2) == 0 {
			most = 3 + next(998)
		}
		legs = append(legs, impl.Leg{Least: max(0, most-next(4)), Most: most})
	}
	return legs
}

// travel is the beginning, the Legs and the end of a voyage that may be narrowed.
type travel struct {
	start impl.Interval
	legs  []impl.Leg
	end   impl.Interval
}

// manyTravels yields all small travels at both ends of the minutes, and random ones that end at or near where they may.
func manyTravels() iter.Seq[travel] {
	return func(yield func(travel) bool) {
		for _, first := range []int{0, 9994} {
			for _, legs := range smallVoyages() {
				for _, start := range spansIn(first, first+3) {
					for _, end := range []impl.Interval{span(first, first), span(first+1, first+2), span(first+2, first+5), span(first+5, first+5)} {
						if !yield(travel{start, legs, end}) {
							return
						}
					}
				}
			}
		}
		next := sequence()
		for range 5000 {
			tr := travel{start: randomSpan(next), legs: randomLegs(next)}
			from := tr.start.From - next(7)
			for _, l := range tr.legs {
				from += l.Least + next(l.Most-l.Least+1)
			}
			from = max(0, min(from, 9999))
			tr.end = span(from, min(from+next(12), 9999))
			if !yield(tr) {
				return
			}
		}
	}
}

// minutesIn returns all minutes of an Interval.
func minutesIn(i impl.Interval) []int {
	list := []int{}
	for m := i.From; m <= i.To; m++ {
		list = append(list, m)
	}
	return list
}

// asSet returns different minutes in ascending order.
func asSet(minutes []int) []int {
	slices.Sort(minutes)
	return slices.Compact(minutes)
}

// moved returns all minutes from which one of the minutes is a duration of a Leg away, later if way is 1 and earlier if it is -1.
func moved(minutes []int, l impl.Leg, way int) []int {
	list := []int{}
	for _, m := range minutes {
		for duration := l.Least; duration <= l.Most; duration++ {
			list = append(list, m+way*duration)
		}
	}
	return asSet(list)
}

// endsByMinutes returns all minutes at which a voyage may end that begins at one of the minutes, valid or not.
func endsByMinutes(minutes []int, legs []impl.Leg) []int {
	for _, l := range legs {
		minutes = moved(minutes, l, 1)
	}
	return minutes
}

// without returns the minutes for which a condition does not hold.
func without(minutes []int, holds func(m int) bool) []int {
	return slices.DeleteFunc(slices.Clone(minutes), holds)
}

// isLate reports whether a minute is later than all valid ones.
func isLate(m int) bool { return m > 9999 }

// expectExactly expects an Interval of exactly these minutes, and failure if there are none or one is not valid.
func expectExactly(t *testing.T, i impl.Interval, ok bool, want []int, call string, with ...any) {
	t.Helper()
	if len(want) == 0 || want[0] < 0 || slices.ContainsFunc(want, isLate) {
		if ok || i != (impl.Interval{}) {
			t.Fatalf("%s%v = %v, %v", call, with, i, ok)
		}
		return
	}
	if !ok || !slices.Equal(minutesIn(i), want) {
		t.Fatalf("%s%v = %v, %v instead of %d", call, with, i, ok, want)
	}
}

// expectSpan expects an Interval and true.
func expectSpan(t *testing.T, i impl.Interval, ok bool, want impl.Interval) {
	t.Helper()
	if !ok || i != want {
		t.Errorf("%v, %v instead of %v", i, ok, want)
	}
}

// expectNoSpan expects the zero Interval and false.
func expectNoSpan(t *testing.T, i impl.Interval, ok bool) {
	t.Helper()
	if ok || i != (impl.Interval{}) {
		t.Errorf("%v, %v", i, ok)
	}
}

// expectAlong expects the Intervals of the ends of all Legs, or failure if want is nil.
func expectAlong(t *testing.T, start impl.Interval, legs []impl.Leg, want []impl.Interval) {
	t.Helper()
	if ends, ok := impl.AlongVoyage(start, legs); ok != (want != nil) || !slices.Equal(ends, want) {
		t.Fatalf("AlongVoyage(%v, %v) = %v, %v instead of %v", start, legs, ends, ok, want)
	}
}

// expectLatest expects the last minute to begin, or failure if want is negative.
func expectLatest(t *testing.T, legs []impl.Leg, deadline int, want int) {
	t.Helper()
	if m, ok := impl.LatestStart(legs, deadline); ok != (want >= 0) || m != max(want, 0) {
		t.Fatalf("LatestStart(%v, %d) = %d, %v instead of %d", legs, deadline, m, ok, want)
	}
}

// expectInTime expects how surely an Interval is in time, or failure if want is negative.
func expectInTime(t *testing.T, i impl.Interval, deadline int, want int) {
	t.Helper()
	if n, ok := impl.InTime(i, deadline); ok != (want >= 0) || n != max(want, 0) {
		t.Fatalf("InTime(%v, %d) = %d, %v instead of %d", i, deadline, n, ok, want)
	}
}

func expectNarrowed(t *testing.T, tr travel, begins impl.Interval, ends impl.Interval) {
	t.Helper()
	if a, b, ok := impl.NarrowVoyage(tr.start, tr.legs, tr.end); !ok || a != begins || b != ends {
		t.Fatalf("NarrowVoyage(%v) = %v, %v, %v instead of %v, %v", tr, a, b, ok, begins, ends)
	}
}

func expectNotNarrowed(t *testing.T, tr travel) {
	t.Helper()
	if a, b, ok := impl.NarrowVoyage(tr.start, tr.legs, tr.end); ok || a != (impl.Interval{}) || b != (impl.Interval{}) {
		t.Fatalf("NarrowVoyage(%v) = %v, %v, %v", tr, a, b, ok)
	}
}

func TestLimitsOfTravel(t *testing.T) {
	if impl.MaxLegs != 8 || impl.MaxLeg != 1000 || impl.MaxMinute != 9999 {
		t.Error("limits", impl.MaxLegs, impl.MaxLeg, impl.MaxMinute)
	}
}

// Intervals of one minute, at both ends of all minutes and in between, and all pairs of numbers at and around the limits.
func TestIsInterval(t *testing.T) {
	for _, i := range []impl.Interval{{}, span(0, 0), span(9999, 9999), span(5000, 5000), span(0, 9999), span(0, 1), span(9998, 9999), span(10, 20)} {
		if !impl.IsInterval(i) {
			t.Errorf("%v is none", i)
		}
	}
	for _, i := range brokenSpans() {
		if impl.IsInterval(i) {
			t.Errorf("%v is one", i)
		}
	}
	valid := 0
	for pair := range listsOver([]int{-9999, -2, -1, 0, 1, 2, 4999, 5000, 9998, 9999, 10000, 10001}, 2) {
		want := pair[0] >= 0 && pair[1] >= pair[0] && 9999 >= pair[1]
		if impl.IsInterval(span(pair[0], pair[1])) != want {
			t.Errorf("%d: %v", pair, !want)
		}
		if want {
			valid++
		}
	}
	// Two numbers out of seven that are valid, in ascending order or equal.
	if valid != 28 {
		t.Error("valid:", valid)
	}
}

// Legs at and around their limits, alone and at each place of a voyage.
func TestLegsThatAreValid(t *testing.T) {
	valid := 0
	for pair := range listsOver([]int{-1000, -2, -1, 0, 1, 2, 500, 999, 1000, 1001, 1002}, 2) {
		l := impl.Leg{Least: pair[0], Most: pair[1]}
		want := l.Least >= 0 && l.Most >= l.Least && 1000 >= l.Most
		if _, ok := impl.AfterLeg(span(0, 0), l); ok != want {
			t.Errorf("after %v: %v", l, ok)
		}
		if _, ok := impl.BeforeLeg(span(9999, 9999), l); ok != want {
			t.Errorf("before %v: %v", l, ok)
		}
		for n := 1; n <= 8; n++ {
			for i := range n {
				legs := sameLegs(n, 1, 2)
				legs[i] = l
				if _, ok := impl.AlongVoyage(span(0, 0), legs); ok != want {
					t.Errorf("along %v: %v", legs, ok)
				}
				if _, ok := impl.LatestStart(legs, 9999); ok != want {
					t.Errorf("latest of %v: %v", legs, ok)
				}
				if _, _, ok := impl.NarrowVoyage(span(0, 9999), legs, span(0, 9999)); ok != want {
					t.Errorf("narrowed %v: %v", legs, ok)
				}
			}
		}
		if want {
			valid++
		}
	}
	if valid != 21 {
		t.Error("valid:", valid)
	}
}

// legCase is an Interval before or after a Leg; there is none if want is not valid.
type legCase struct {
	name string
	i    impl.Interval
	l    impl.Leg
	want impl.Interval
}

// none is no Interval, for cases that fail.
var none = span(-1, -1)

func expectLegCases(t *testing.T, cases []legCase, call func(impl.Interval, impl.Leg) (impl.Interval, bool)) {
	for _, c := range cases {
		t.Run(c.name, func(t *testing.T) {
			i, ok := call(c.i, c.l)
			if c.want == none {
				expectNoSpan(t, i, ok)
				return
			}
			expectSpan(t, i, ok, c.want)
		})
	}
}

func TestAfterLeg(t *testing.T) {
	expectLegCases(t, []legCase{
		{"both not exact", span(10, 20), impl.Leg{Least: 5, Most: 8}, span(15, 28)},
		{"an exact Leg", span(10, 20), impl.Leg{Least: 5, Most: 5}, span(15, 25)},
		{"one minute", span(10, 10), impl.Leg{Least: 5, Most: 8}, span(15, 18)},
		{"one minute and an exact Leg", span(10, 10), impl.Leg{Least: 5, Most: 5}, span(15, 15)},
		{"a Leg of no minutes", span(10, 20), impl.Leg{}, span(10, 20)},
		{"a Leg of perhaps no minutes", span(10, 20), impl.Leg{Most: 8}, span(10, 28)},
		{"the first minute", span(0, 0), impl.Leg{Least: 1, Most: 2}, span(1, 2)},
		{"the first minute and no minutes", span(0, 0), impl.Leg{}, span(0, 0)},
		{"the last minute and no minutes", span(9999, 9999), impl.Leg{}, span(9999, 9999)},
		{"the last minute and perhaps one more", span(9999, 9999), impl.Leg{Most: 1}, none},
		{"the last minute and one more", span(9999, 9999), impl.Leg{Least: 1, Most: 1}, none},
		{"all minutes and no more", span(0, 9999), impl.Leg{}, span(0, 9999)},
		{"all minutes and perhaps one more", span(0, 9999), impl.Leg{Most: 1}, none},
		{"just valid", span(10, 9991), impl.Leg{Least: 5, Most: 8}, span(15, 9999)},
		{"one minute too late", span(10, 9992), impl.Leg{Least: 5, Most: 8}, none},
		{"just valid after the longest Leg", span(8999, 8999), impl.Leg{Least: 1000, Most: 1000}, span(9999, 9999)},
		{"one minute too late after the longest Leg", span(9000, 9000), impl.Leg{Least: 1000, Most: 1000}, none},
		{"just valid after perhaps the longest Leg", span(0, 8999), impl.Leg{Most: 1000}, span(0, 9999)},
		{"one minute too late after perhaps the longest Leg", span(0, 9000), impl.Leg{Most: 1000}, none},
		{"wholly too late", span(9999, 9999), impl.Leg{Least: 1000, Most: 1000}, none},
	}, impl.AfterLeg)
}

func TestBeforeLeg(t *testing.T) {
	expectLegCases(t, []legCase{
		{"both not exact", span(10, 20), impl.Leg{Least: 5, Most: 8}, span(2, 15)},
		{"an exact Leg", span(10, 20), impl.Leg{Least: 5, Most: 5}, span(5, 15)},
		{"one minute", span(10, 10), impl.Leg{Least: 5, Most: 8}, span(2, 5)},
		{"one minute and an exact Leg", span(10, 10), impl.Leg{Least: 5, Most: 5}, span(5, 5)},
		{"a Leg of no minutes", span(10, 20), impl.Leg{}, span(10, 20)},
		{"the last minute and no minutes", span(9999, 9999), impl.Leg{}, span(9999, 9999)},
		{"all minutes", span(0, 9999), impl.Leg{}, span(0, 9999)},
		{"all minutes and one less", span(0, 9999), impl.Leg{Least: 1, Most: 1}, span(0, 9998)},
		{"all minutes and the longest Leg", span(0, 9999), impl.Leg{Least: 1000, Most: 1000}, span(0, 8999)},
		{"cut off", span(10, 20), impl.Leg{Least: 5, Most: 12}, span(0, 15)},
		{"cut off by one minute", span(10, 20), impl.Leg{Least: 5, Most: 11}, span(0, 15)},
		{"exactly from 0", span(10, 20), impl.Leg{Least: 5, Most: 10}, span(0, 15)},
		{"from 1", span(10, 20), impl.Leg{Least: 5, Most: 9}, span(1, 15)},
		{"only 0, cut off", span(1, 5), impl.Leg{Least: 5, Most: 12}, span(0, 0)},
		{"only 0, exactly", span(5, 5), impl.Leg{Least: 5, Most: 5}, span(0, 0)},
		{"empty by one minute", span(1, 4), impl.Leg{Least: 5, Most: 12}, none},
		{"one minute, empty by one minute", span(4, 4), impl.Leg{Least: 5, Most: 5}, none},
		{"empty by far", span(1, 3), impl.Leg{Least: 1000, Most: 1000}, none},
		{"the first minute and no minutes", span(0, 0), impl.Leg{}, span(0, 0)},
		{"the first minute and perhaps none", span(0, 0), impl.Leg{Most: 1000}, span(0, 0)},
		{"the first minute and one less", span(0, 0), impl.Leg{Least: 1, Most: 1}, none},
		{"the last minute and the longest Leg", span(9999, 9999), impl.Leg{Least: 1000, Most: 1000}, span(8999, 8999)},
	}, impl.BeforeLeg)
}

// expectLegByMinutes expects both ways of a Leg to give exactly the minutes that are a duration away.
func expectLegByMinutes(t *testing.T, i impl.Interval, l impl.Leg) (after bool, before bool) {
	t.Helper()
	minutes := minutesIn(i)
	end, after := impl.AfterLeg(i, l)
	expectExactly(t, end, after, moved(minutes, l, 1), "AfterLeg", i, l)
	begin, before := impl.BeforeLeg(i, l)
	expectExactly(t, begin, before, without(moved(minutes, l, -1), func(m int) bool { return m < 0 }), "BeforeLeg", i, l)
	return after, before
}

// P13: a minute is in the Interval after a Leg exactly if it is a minute of the beginning plus a duration of the Leg.
func TestMinutesAfterLeg(t *testing.T) {
	seen := map[[2]bool]int{}
	for _, i := range append(someSpans(), span(7, 1200), span(8500, 9500), span(998, 1001)) {
		for _, l := range spansIn(0, 5) {
			after, before := expectLegByMinutes(t, i, impl.Leg{Least: l.From, Most: l.To})
			seen[[2]bool{after, before}]++
		}
		if i.To-i.From > 100 {
			continue
		}
		for _, l := range legsOf([2]int{0, 1000}, [2]int{1, 999}, [2]int{998, 998}, [2]int{998, 1000}, [2]int{999, 999}, [2]int{1000, 1000}) {
			expectLegByMinutes(t, i, l)
		}
	}
	next := sequence()
	for range 4000 {
		i := randomSpan(next)
		for _, l := range randomLegs(next) {
			after, before := expectLegByMinutes(t, i, l)
			seen[[2]bool{after, before}]++
		}
	}
	for _, kind := range [][2]bool{{true, true}, {true, false}, {false, true}} {
		if seen[kind] < 20 {
			t.Error("what there was:", seen)
		}
	}
}

// What may have begun before the end of a Leg has all minutes of its beginning, and what may end after that all of its end.
func TestLegsForthAndBack(t *testing.T) {
	next := sequence()
	for range 20000 {
		i := randomSpan(next)
		for _, l := range randomLegs(next) {
			end, ok := impl.AfterLeg(i, l)
			if !ok {
				continue
			}
			begin, ok := impl.BeforeLeg(end, l)
			if !ok || begin.From > i.From || begin.To < i.To {
				t.Fatalf("%v, %v: %v, then %v, %v", i, l, end, begin, ok)
			}
			if again, ok := impl.AfterLeg(begin, l); ok && (again.From > end.From || again.To < end.To) {
				t.Fatalf("%v, %v: %v, then %v", i, l, end, again)
			}
		}
	}
}

// pairCase is two Intervals, what they have in common, if that is valid, and what covers them.
type pairCase struct {
	name   string
	a      impl.Interval
	b      impl.Interval
	common impl.Interval
	cover  impl.Interval
}

func pairCases() []pairCase {
	return []pairCase{
		{"apart", span(0, 4), span(8, 9), none, span(0, 9)},
		{"touching", span(0, 4), span(5, 9), none, span(0, 9)},
		{"with one minute in common", span(0, 5), span(5, 9), span(5, 5), span(0, 9)},
		{"with two minutes in common", span(0, 6), span(5, 9), span(5, 6), span(0, 9)},
		{"in one another", span(0, 9), span(3, 7), span(3, 7), span(0, 9)},
		{"in one another from the beginning", span(0, 9), span(0, 7), span(0, 7), span(0, 9)},
		{"in one another to the end", span(0, 9), span(3, 9), span(3, 9), span(0, 9)},
		{"one minute in another one", span(0, 9), span(4, 4), span(4, 4), span(0, 9)},
		{"one minute at the beginning", span(2, 9), span(2, 2), span(2, 2), span(2, 9)},
		{"one minute at the end", span(2, 9), span(9, 9), span(9, 9), span(2, 9)},
		{"one minute before the beginning", span(2, 9), span(1, 1), none, span(1, 9)},
		{"one minute after the end", span(2, 9), span(10, 10), none, span(2, 10)},
		{"equal", span(3, 7), span(3, 7), span(3, 7), span(3, 7)},
		{"equal minutes", span(3, 3), span(3, 3), span(3, 3), span(3, 3)},
		{"different minutes", span(3, 3), span(4, 4), none, span(3, 4)},
		{"equal at 0", span(0, 0), span(0, 0), span(0, 0), span(0, 0)},
		{"equal at the last minute", span(9999, 9999), span(9999, 9999), span(9999, 9999), span(9999, 9999)},
		{"the first and the last minute", span(0, 0), span(9999, 9999), none, span(0, 9999)},
		{"all minutes", span(0, 9999), span(0, 9999), span(0, 9999), span(0, 9999)},
		{"all minutes and the first one", span(0, 9999), span(0, 0), span(0, 0), span(0, 9999)},
		{"all minutes and the last one", span(0, 9999), span(9999, 9999), span(9999, 9999), span(0, 9999)},
		{"both halves", span(0, 4999), span(5000, 9999), none, span(0, 9999)},
	}
}

// Pairs of Intervals in both orders.
func TestPairsOfIntervals(t *testing.T) {
	for _, c := range pairCases() {
		t.Run(c.name, func(t *testing.T) {
			for _, pair := range [][2]impl.Interval{{c.a, c.b}, {c.b, c.a}} {
				common, ok := impl.CommonInterval(pair[0], pair[1])
				if c.common == none {
					expectNoSpan(t, common, ok)
				} else {
					expectSpan(t, common, ok, c.common)
				}
				cover, ok := impl.CoverInterval(pair[0], pair[1])
				expectSpan(t, cover, ok, c.cover)
			}
		})
	}
}

// All pairs of small Intervals minute by minute: what lies in both, and the smallest one with all that lies in one.
func TestPairsByMinutes(t *testing.T) {
	for _, first := range []int{0, 5000, 9993} {
		for _, a := range spansIn(first, first+6) {
			for _, b := range spansIn(first, first+6) {
				inB := minutesIn(b)
				common, ok := impl.CommonInterval(a, b)
				both := without(minutesIn(a), func(m int) bool { return !slices.Contains(inB, m) })
				expectExactly(t, common, ok, both, "CommonInterval", a, b)
				cover, ok := impl.CoverInterval(a, b)
				either := asSet(append(minutesIn(a), inB...))
				expectExactly(t, cover, ok, minutesIn(span(either[0], either[len(either)-1])), "CoverInterval", a, b)
			}
		}
	}
}

// A minute before an Interval, at its beginning, within it, at its end and after it.
func TestNotBefore(t *testing.T) {
	for _, c := range []struct {
		name   string
		i      impl.Interval
		minute int
		want   impl.Interval
	}{
		{"before it", span(10, 20), 5, span(10, 20)},
		{"one minute before it", span(10, 20), 9, span(10, 20)},
		{"at its beginning", span(10, 20), 10, span(10, 20)},
		{"one minute within it", span(10, 20), 11, span(11, 20)},
		{"within it", span(10, 20), 15, span(15, 20)},
		{"one minute before its end", span(10, 20), 19, span(19, 20)},
		{"at its end", span(10, 20), 20, span(20, 20)},
		{"one minute after it", span(10, 20), 21, span(21, 21)},
		{"long after it", span(10, 20), 9999, span(9999, 9999)},
		{"at 0", span(10, 20), 0, span(10, 20)},
		{"one minute, before it", span(10, 10), 9, span(10, 10)},
		{"one minute, at it", span(10, 10), 10, span(10, 10)},
		{"one minute, after it", span(10, 10), 11, span(11, 11)},
		{"the first minute, at 0", span(0, 0), 0, span(0, 0)},
		{"the first minute, at the last one", span(0, 0), 9999, span(9999, 9999)},
		{"the last minute, at 0", span(9999, 9999), 0, span(9999, 9999)},
		{"the last minute, at it", span(9999, 9999), 9999, span(9999, 9999)},
		{"all minutes, at 0", span(0, 9999), 0, span(0, 9999)},
		{"all minutes, within them", span(0, 9999), 5000, span(5000, 9999)},
		{"all minutes, at the last one", span(0, 9999), 9999, span(9999, 9999)},
	} {
		t.Run(c.name, func(t *testing.T) {
			i, ok := impl.NotBefore(c.i, c.minute)
			expectSpan(t, i, ok, c.want)
		})
	}
	for _, first := range []int{0, 9993} {
		for _, i := range spansIn(first, first+6) {
			for minute := first; minute <= first+6; minute++ {
				later := []int{}
				for _, m := range minutesIn(i) {
					later = append(later, max(m, minute))
				}
				got, ok := impl.NotBefore(i, minute)
				expectExactly(t, got, ok, asSet(later), "NotBefore", i, minute)
			}
		}
	}
}

// Voyages without Legs, with one, with MaxLegs of them, and those whose last end is just valid and a minute too late.
func TestAlongVoyage(t *testing.T) {
	two := legsOf([2]int{5, 8}, [2]int{10, 10})
	thousands := []impl.Interval{}
	for n := 1; n <= 8; n++ {
		thousands = append(thousands, span(1000*n, 1999+1000*n))
	}
	for _, c := range []struct {
		name  string
		start impl.Interval
		legs  []impl.Leg
		want  []impl.Interval
	}{
		{"without Legs", span(10, 20), nil, []impl.Interval{}},
		{"without Legs at the last minute", span(9999, 9999), []impl.Leg{}, []impl.Interval{}},
		{"one Leg", span(10, 20), two[:1], []impl.Interval{span(15, 28)}},
		{"two Legs", span(0, 0), two, []impl.Interval{span(5, 8), span(15, 18)}},
		{"two Legs the other way", span(0, 0), legsOf([2]int{10, 10}, [2]int{5, 8}), []impl.Interval{span(10, 10), span(15, 18)}},
		{"two Legs, not begun at an exact minute", span(10, 20), two, []impl.Interval{span(15, 28), span(25, 38)}},
		{"the most Legs of no minutes", span(9999, 9999), sameLegs(8, 0, 0), slices.Repeat([]impl.Interval{span(9999, 9999)}, 8)},
		{"the most and longest Legs, just valid", span(0, 1999), sameLegs(8, 1000, 1000), thousands},
		{"the most and longest Legs, one minute too late", span(0, 2000), sameLegs(8, 1000, 1000), nil},
		{"the last end just valid", span(0, 9981), two, []impl.Interval{span(5, 9989), span(15, 9999)}},
		{"the last end one minute too late", span(0, 9982), two, nil},
		{"the first end one minute too late", span(0, 9992), two[:1], nil},
		{"too late before a Leg of no minutes", span(9999, 9999), legsOf([2]int{1, 1}, [2]int{0, 0}), nil},
		{"one Leg more than the most", span(0, 0), sameLegs(9, 0, 0), nil},
	} {
		t.Run(c.name, func(t *testing.T) { expectAlong(t, c.start, c.legs, c.want) })
	}
}

// Every end of many voyages minute by minute.
func TestAlongVoyageByMinutes(t *testing.T) {
	seen := map[bool]int{}
	for tr := range manyTravels() {
		ends, ok := impl.AlongVoyage(tr.start, tr.legs)
		seen[ok]++
		if last := endsByMinutes(minutesIn(tr.start), tr.legs); isLate(slices.Max(last)) {
			if ok || len(ends) != 0 {
				t.Fatalf("AlongVoyage(%v, %v) = %v, %v, up to %d", tr.start, tr.legs, ends, ok, last)
			}
			continue
		}
		if !ok || len(ends) != len(tr.legs) {
			t.Fatalf("AlongVoyage(%v, %v) = %v, %v", tr.start, tr.legs, ends, ok)
		}
		for k, end := range ends {
			expectExactly(t, end, ok, endsByMinutes(minutesIn(tr.start), tr.legs[:k+1]), "AlongVoyage", tr.start, tr.legs, k)
		}
	}
	if seen[true] < 1000 || seen[false] < 1000 {
		t.Error("what there was:", seen)
	}
}

// Deadlines at which a voyage can begin only at 0 and one minute less, and those at the ends of the minutes.
func TestLatestStart(t *testing.T) {
	two := legsOf([2]int{5, 8}, [2]int{10, 10})
	for _, c := range []struct {
		name     string
		legs     []impl.Leg
		deadline int
		want     int
	}{
		{"two Legs", two, 30, 12},
		{"only at 0", two, 18, 0},
		{"never, by one minute", two, 17, -1},
		{"perhaps, but not surely", two, 15, -1},
		{"never by far", two, 0, -1},
		{"up to the last minute", two, 9999, 9981},
		{"without Legs", nil, 30, 30},
		{"without Legs at 0", nil, 0, 0},
		{"without Legs at the last minute", nil, 9999, 9999},
		{"one Leg", two[:1], 30, 22},
		{"one Leg of no minutes", legsOf([2]int{0, 0}), 30, 30},
		{"one Leg of perhaps no minutes", legsOf([2]int{0, 30}), 30, 0},
		{"one Leg of perhaps no minutes, one minute less", legsOf([2]int{0, 30}), 29, -1},
		{"the most Legs of no minutes at 0", sameLegs(8, 0, 0), 0, 0},
		{"the most Legs of no minutes", sameLegs(8, 0, 0), 9999, 9999},
		{"the most and longest Legs", sameLegs(8, 1000, 1000), 9999, 1999},
		{"the most and longest Legs, only at 0", sameLegs(8, 0, 1000), 8000, 0},
		{"the most and longest Legs, never", sameLegs(8, 0, 1000), 7999, -1},
		{"one Leg more than the most", sameLegs(9, 0, 0), 9999, -1},
		{"a minute more than there are", two, 10000, -1},
		{"a minute more than there are, without Legs", nil, 10000, -1},
		{"a minute before all", two, -1, -1},
		{"a minute before all, without Legs", nil, -1, -1},
	} {
		t.Run(c.name, func(t *testing.T) { expectLatest(t, c.legs, c.deadline, c.want) })
	}
}

// latestByMinutes looks for the last minute with which all ends are in time, and returns -1 if there is none.
func latestByMinutes(legs []impl.Leg, deadline int) int {
	for m := min(deadline+3, 9999); m >= 0; m-- {
		if slices.Max(endsByMinutes([]int{m}, legs)) <= deadline {
			return m
		}
	}
	return -1
}

func TestLatestStartByMinutes(t *testing.T) {
	for _, legs := range smallVoyages() {
		for _, deadline := range []int{0, 1, 2, 3, 4, 5, 6, 7, 5000, 9998, 9999} {
			expectLatest(t, legs, deadline, latestByMinutes(legs, deadline))
		}
	}
	seen, next := map[bool]int{}, sequence()
	for range 4000 {
		legs := randomLegs(next)
		last := slices.Max(endsByMinutes([]int{0}, legs))
		for _, deadline := range []int{last - 1, last, last + next(20), next(10000)} {
			if deadline < 0 {
				continue
			}
			// By the definition: at the latest minute all ends are in time, and a minute later not all of them.
			m, ok := impl.LatestStart(legs, deadline)
			if ok != (last <= deadline) {
				t.Fatalf("LatestStart(%v, %d) = %d, %v, and from 0 up to %d", legs, deadline, m, ok, last)
			}
			if ok && slices.Max(endsByMinutes([]int{m}, legs)) != deadline {
				t.Fatalf("LatestStart(%v, %d) = %d", legs, deadline, m)
			}
			seen[ok]++
		}
	}
	if seen[true] < 1000 || seen[false] < 1000 {
		t.Error("what there was:", seen)
	}
}

// Intervals that end exactly at the deadline, begin exactly at it, and begin a minute later.
func TestInTime(t *testing.T) {
	for _, c := range []struct {
		name     string
		i        impl.Interval
		deadline int
		want     int
	}{
		{"long before", span(10, 20), 100, 2},
		{"ends a minute before it", span(10, 20), 21, 2},
		{"ends exactly at it", span(10, 20), 20, 2},
		{"ends a minute later", span(10, 20), 19, 1},
		{"around it", span(10, 20), 15, 1},
		{"begins a minute before it", span(10, 20), 11, 1},
		{"begins exactly at it", span(10, 20), 10, 1},
		{"begins a minute later", span(10, 20), 9, 0},
		{"long after", span(10, 20), 0, 0},
		{"one minute, before it", span(10, 10), 11, 2},
		{"one minute, exactly at it", span(10, 10), 10, 2},
		{"one minute, later", span(10, 10), 9, 0},
		{"at 0", span(0, 0), 0, 2},
		{"from 0, at 0", span(0, 1), 0, 1},
		{"a minute after 0", span(1, 1), 0, 0},
		{"at the last minute", span(9999, 9999), 9999, 2},
		{"at the last minute, one less", span(9999, 9999), 9998, 0},
		{"all minutes at 0", span(0, 9999), 0, 1},
		{"all minutes at the last one", span(0, 9999), 9999, 2},
		{"all minutes but the last one", span(0, 9999), 9998, 1},
		{"a minute more than there are", span(10, 20), 10000, -1},
		{"a minute before all", span(10, 20), -1, -1},
		{"a minute before all, at 0", span(0, 0), -1, -1},
	} {
		t.Run(c.name, func(t *testing.T) { expectInTime(t, c.i, c.deadline, c.want) })
	}
	for _, first := range []int{0, 9993} {
		for _, i := range spansIn(first, first+6) {
			for deadline := first; deadline <= first+6; deadline++ {
				want := 1
				switch len(without(minutesIn(i), func(m int) bool { return m > deadline })) {
				case 0:
					want = 0
				case len(minutesIn(i)):
					want = 2
				}
				expectInTime(t, i, deadline, want)
			}
		}
	}
}

// narrowCase is a travel with the Intervals to which it is narrowed; there are none if begins is not valid.
type narrowCase struct {
	name   string
	travel travel
	begins impl.Interval
	ends   impl.Interval
}

func narrowCases() []narrowCase {
	leg, two := legsOf([2]int{10, 20}), legsOf([2]int{5, 8}, [2]int{10, 10})
	all := span(0, 9999)
	return []narrowCase{
		{"a part of start, all of end", travel{span(0, 60), leg, span(50, 55)}, span(30, 45), span(50, 55)},
		{"all of start, a part of end", travel{span(40, 42), leg, span(0, 100)}, span(40, 42), span(50, 62)},
		{"all of both", travel{span(40, 42), leg, span(50, 62)}, span(40, 42), span(50, 62)},
		{"a part of both, later", travel{span(0, 40), leg, span(45, 70)}, span(25, 40), span(45, 60)},
		{"a part of both, earlier", travel{span(40, 60), leg, span(45, 65)}, span(40, 55), span(50, 65)},
		{"the last minute of start and the first one of end", travel{span(0, 10), leg, span(30, 40)}, span(10, 10), span(30, 30)},
		{"too late for start by one minute", travel{span(0, 10), leg, span(31, 40)}, none, none},
		{"the first minute of start and the last one of end", travel{span(20, 40), leg, span(0, 30)}, span(20, 20), span(30, 30)},
		{"too early for start by one minute", travel{span(20, 40), leg, span(0, 29)}, none, none},
		{"one minute of start, all of end", travel{span(0, 30), leg, span(10, 10)}, span(0, 0), span(10, 10)},
		{"all of start, one minute of end", travel{span(10, 10), leg, span(30, 60)}, span(10, 10), span(30, 30)},
		{"one minute each", travel{span(10, 10), leg, span(25, 25)}, span(10, 10), span(25, 25)},
		{"one minute each, too early by one", travel{span(10, 10), leg, span(19, 19)}, none, none},
		{"one minute each, too late by one", travel{span(10, 10), leg, span(31, 31)}, none, none},
		{"far too early", travel{span(500, 600), leg, span(0, 10)}, none, none},
		{"far too late", travel{span(0, 10), leg, span(500, 600)}, none, none},
		{"without Legs", travel{span(0, 10), nil, span(5, 20)}, span(5, 10), span(5, 10)},
		{"without Legs, one minute in common", travel{span(0, 10), nil, span(10, 20)}, span(10, 10), span(10, 10)},
		{"without Legs, touching", travel{span(0, 10), nil, span(11, 20)}, none, none},
		{"without Legs at all minutes", travel{all, nil, all}, all, all},
		{"two Legs", travel{span(0, 100), two, span(50, 60)}, span(32, 45), span(50, 60)},
		{"two Legs, both parts", travel{span(0, 35), two, span(50, 60)}, span(32, 35), span(50, 53)},
		{"two Legs, begun at 0", travel{span(0, 3), two, span(0, 15)}, span(0, 0), span(15, 15)},
		{"two Legs, too short", travel{span(0, 3), two, span(0, 14)}, none, none},
		{"it may also end after all minutes", travel{span(9970, 9999), leg, span(9985, 9999)}, span(9970, 9989), span(9985, 9999)},
		{"it must end after all minutes", travel{span(9990, 9999), leg, all}, none, none},
		{"it ends at the last minute", travel{span(9989, 9999), leg, all}, span(9989, 9989), span(9999, 9999)},
		{"begun at all minutes, ended in the middle", travel{all, leg, span(50, 55)}, span(30, 45), span(50, 55)},
		{"all minutes", travel{all, leg, all}, span(0, 9989), span(10, 9999)},
		{"it may have begun before all minutes", travel{span(0, 60), leg, span(5, 12)}, span(0, 2), span(10, 12)},
		{"the most Legs, perhaps of no minutes", travel{all, sameLegs(8, 0, 1000), span(9999, 9999)}, span(1999, 9999), span(9999, 9999)},
		{"the most and longest Legs", travel{all, sameLegs(8, 1000, 1000), all}, span(0, 1999), span(8000, 9999)},
		{"the most and longest Legs, only from 0", travel{all, sameLegs(8, 1000, 1000), span(0, 8000)}, span(0, 0), span(8000, 8000)},
		{"the most and longest Legs, one minute less", travel{all, sameLegs(8, 1000, 1000), span(0, 7999)}, none, none},
		{"one Leg more than the most", travel{all, sameLegs(9, 0, 0), all}, none, none},
	}
}

func TestNarrowVoyage(t *testing.T) {
	for _, c := range narrowCases() {
		t.Run(c.name, func(t *testing.T) {
			if c.begins == none {
				expectNotNarrowed(t, c.travel)
				return
			}
			expectNarrowed(t, c.travel, c.begins, c.ends)
		})
	}
}

// narrowedByMinutes returns the minutes of start and those of end between which there is a voyage.
func narrowedByMinutes(tr travel) ([]int, []int) {
	begins, ends := []int{}, []int{}
	for _, m := range minutesIn(tr.start) {
		inEnd := without(endsByMinutes([]int{m}, tr.legs), func(e int) bool { return e < tr.end.From || e > tr.end.To })
		if len(inEnd) > 0 {
			begins, ends = append(begins, m), append(ends, inEnd...)
		}
	}
	return begins, asSet(ends)
}

// kindOfPart tells how much of an Interval is left.
func kindOfPart(whole impl.Interval, part impl.Interval) string {
	switch {
	case part == whole:
		return "all"
	case part.From == part.To:
		return "one"
	}
	return "some"
}

func TestNarrowVoyageByMinutes(t *testing.T) {
	seen := map[[2]string]int{}
	for tr := range manyTravels() {
		begins, ends := narrowedByMinutes(tr)
		if len(begins) == 0 {
			expectNotNarrowed(t, tr)
			seen[[2]string{}]++
			continue
		}
		a, b, ok := impl.NarrowVoyage(tr.start, tr.legs, tr.end)
		expectExactly(t, a, ok, begins, "NarrowVoyage", tr)
		expectExactly(t, b, ok, ends, "NarrowVoyage", tr)
		expectNarrowed(t, travel{a, tr.legs, b}, a, b)
		seen[[2]string{kindOfPart(tr.start, a), kindOfPart(tr.end, b)}]++
	}
	// Where one minute of several is left, the other Interval is one minute itself or all of it is left.
	for _, kind := range [][2]string{{"all", "all"}, {"all", "one"}, {"all", "some"}, {"one", "all"}, {"one", "one"}, {"some", "all"}, {"some", "some"}, {}} {
		if seen[kind] < 20 {
			t.Error("what there was:", seen)
		}
	}
}

// Every Interval, Leg and minute that is not valid, at each place where there may be one.
func TestInvalidTravel(t *testing.T) {
	fails := func(i impl.Interval, ok bool) {
		t.Helper()
		expectNoSpan(t, i, ok)
	}
	for _, broken := range brokenSpans() {
		fails(impl.AfterLeg(broken, impl.Leg{Most: 5}))
		fails(impl.BeforeLeg(broken, impl.Leg{Most: 5}))
		for _, i := range []impl.Interval{{}, span(10, 20), span(9999, 9999), span(0, 9999), broken} {
			fails(impl.CommonInterval(broken, i))
			fails(impl.CommonInterval(i, broken))
			fails(impl.CoverInterval(broken, i))
			fails(impl.CoverInterval(i, broken))
			for _, legs := range someVoyages() {
				expectNotNarrowed(t, travel{broken, legs, i})
				expectNotNarrowed(t, travel{i, legs, broken})
			}
		}
		for _, minute := range []int{0, 15, 9999, -1, 10000} {
			fails(impl.NotBefore(broken, minute))
			expectInTime(t, broken, minute, -1)
		}
		for _, legs := range someVoyages() {
			expectAlong(t, broken, legs, nil)
		}
	}
	for _, broken := range brokenLegs() {
		for _, i := range []impl.Interval{{}, span(10, 20), span(5000, 5000), span(9999, 9999), span(0, 9999)} {
			fails(impl.AfterLeg(i, broken))
			fails(impl.BeforeLeg(i, broken))
		}
	}
	for _, minute := range noMinuteAtAll() {
		for _, i := range []impl.Interval{{}, span(10, 20), span(9999, 9999), span(0, 9999)} {
			fails(impl.NotBefore(i, minute))
			expectInTime(t, i, minute, -1)
		}
		for _, legs := range someVoyages() {
			expectLatest(t, legs, minute, -1)
		}
	}
	for _, legs := range brokenVoyages() {
		for _, i := range []impl.Interval{{}, span(10, 20), span(9999, 9999), span(0, 9999)} {
			expectAlong(t, i, legs, nil)
			expectNotNarrowed(t, travel{i, legs, span(0, 9999)})
		}
		for _, deadline := range []int{0, 15, 9999, -1, 10000} {
			expectLatest(t, legs, deadline, -1)
		}
	}
}

// withMoreLegs returns the Legs with other ones behind their end.
func withMoreLegs(legs []impl.Leg) []impl.Leg {
	return append(slices.Clone(legs), legsOf([2]int{7, 9}, [2]int{-1, 0}, [2]int{0, 1001})...)[:len(legs)]
}

// travelAsNumbers calls all functions and returns everything that they return, a bool as 0 or 1.
func travelAsNumbers(a impl.Interval, legs []impl.Leg, b impl.Interval, minute int) []int {
	numbers := []int{}
	add := func(ok bool, more ...int) {
		numbers = append(append(numbers, map[bool]int{true: 1}[ok], len(more)), more...)
	}
	addSpan := func(i impl.Interval, ok bool) { add(ok, i.From, i.To) }
	add(impl.IsInterval(a))
	addSpan(impl.CommonInterval(a, b))
	addSpan(impl.CoverInterval(a, b))
	addSpan(impl.NotBefore(a, minute))
	for _, l := range legs {
		addSpan(impl.AfterLeg(a, l))
		addSpan(impl.BeforeLeg(a, l))
	}
	ends, ok := impl.AlongVoyage(a, legs)
	add(ok, len(ends))
	for _, end := range ends {
		addSpan(end, ok)
	}
	latest, ok := impl.LatestStart(legs, minute)
	add(ok, latest)
	inTime, ok := impl.InTime(a, minute)
	add(ok, inTime)
	begins, narrowed, ok := impl.NarrowVoyage(a, legs, b)
	addSpan(begins, ok)
	addSpan(narrowed, ok)
	return numbers
}

// P29: all functions return whatever their arguments, the same when called again, and leave their arguments as they are, also
// beyond their lengths, where what stands plays no part.
func TestTravelFunctionsLeaveTheirArguments(t *testing.T) {
	spans := slices.Concat([]impl.Interval{{}, span(10, 20), span(9999, 9999), span(0, 9999)}, brokenSpans())
	voyages := append(someVoyages(), brokenVoyages()...)
	for _, c := range narrowCases() {
		voyages = append(voyages, c.travel.legs)
	}
	next := sequence()
	minutes := append([]int{0, 15, 9999}, noMinuteAtAll()...)
	for _, legs := range voyages {
		given := withMoreLegs(legs)
		before := slices.Clone(given[:cap(given)])
		for _, a := range spans {
			b, minute := spans[next(len(spans))], minutes[next(len(minutes))]
			first, again := travelAsNumbers(a, given, b, minute), travelAsNumbers(a, legs, b, minute)
			if !slices.Equal(first, again) {
				t.Fatalf("%v, %v, %v, %d: %d and %d", a, legs, b, minute, first, again)
			}
		}
		if !slices.Equal(given[:cap(given)], before) {
			t.Fatalf("%v was changed to %v", before, given[:cap(given)])
		}
	}
}

// The Intervals of a voyage are new memory: what is written into them, also beyond their length, changes no later result.
func TestEndsOfVoyagesAreNew(t *testing.T) {
	for _, legs := range someVoyages() {
		given := withMoreLegs(legs)
		before := slices.Clone(given[:cap(given)])
		first, ok := impl.AlongVoyage(span(0, 1999), given)
		want := slices.Clone(first)
		if !ok || len(first) != len(legs) {
			t.Fatalf("%v: %v, %v", legs, first, ok)
		}
		for i := range first[:cap(first)] {
			first[:cap(first)][i] = span(-7, -8)
		}
		if !slices.Equal(given[:cap(given)], before) {
			t.Errorf("%v was changed to %v", before, given[:cap(given)])
		}
		again, _ := impl.AlongVoyage(span(0, 1999), given)
		for i := range given {
			given[i] = impl.Leg{Least: -1, Most: -2}
		}
		if !slices.Equal(again, want) {
			t.Errorf("%v instead of %v", again, want)
		}
	}
}
