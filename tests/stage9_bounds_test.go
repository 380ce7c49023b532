package tests

import (
	"slices"
	"testing"

	"loop.example/g00924/impl"
)

// aloneByMinutes lets each vessel pass alone, minute by minute, apart from the program.
func aloneByMinutes(list []impl.Arrival, high bool, minutes int) int {
	sum := 0
	for _, a := range list {
		sum += courseByMinutes([]impl.Arrival{a}, high, minutes, []int{0}).delay
	}
	return sum
}

// queueByMinutes counts in each minute the vessels that have arrived and not begun, apart from the program. Which one of them is
// taken plays no part in their number.
func queueByMinutes(list []impl.Arrival, minutes int) int {
	least, waits := 9, 0
	for _, a := range list {
		least = min(least, a.Weight)
	}
	// Minutes until the chamber is free.
	left := 0
	for now, begun := 0, 0; begun < len(list); now++ {
		waiting := -begun
		for _, a := range list {
			if a.Minute <= now {
				waiting++
			}
		}
		if left == 0 && waiting > 0 {
			begun, waiting, left = begun+1, waiting-1, minutes
		}
		waits += waiting
		if left > 0 {
			left--
		}
	}
	return least * waits
}

// lowerByMinutes returns the greater one of both bounds, apart from the program.
func lowerByMinutes(list []impl.Arrival, high bool, minutes int) int {
	return max(aloneByMinutes(list, high, minutes), queueByMinutes(list, minutes))
}

// neighborsSwapped returns the order with the elements k and k + 1 exchanged and whether it is one, apart from the program.
func neighborsSwapped(list []impl.Arrival, order []int, k int) ([]int, bool) {
	if k < 0 || k >= len(order)-1 {
		return nil, false
	}
	other := slices.Concat(order[:k], []int{order[k+1], order[k]}, order[k+2:])
	return other, isOrderByPairs(list, other)
}

// localSearch is the way to a local order: the order and its delay, the number of exchanges, and how often several of them had the
// same greatest gain.
type localSearch struct {
	order     []int
	delay     int
	exchanges int
	ties      int
}

// localByMinutes measures all orders that are an exchange away, minute by minute, until none has less delay, apart from the program.
func localByMinutes(list []impl.Arrival, high bool, minutes int) localSearch {
	s := localSearch{order: firstComeByCounting(list)}
	s.delay = courseByMinutes(list, high, minutes, s.order).delay
	for {
		next, least, ties := s.order, s.delay, 0
		for k := range s.order {
			other, ok := neighborsSwapped(list, s.order, k)
			if !ok {
				continue
			}
			delay := courseByMinutes(list, high, minutes, other).delay
			if delay < least {
				next, least, ties = other, delay, 0
			} else if delay == least && least < s.delay {
				ties = 1
			}
		}
		if least == s.delay {
			return s
		}
		s = localSearch{next, least, s.exchanges + 1, s.ties + ties}
	}
}

// expectBounds expects these bounds, and the greater one of them as the lower bound.
func expectBounds(t *testing.T, list []impl.Arrival, high bool, minutes int, alone int, queue int) {
	t.Helper()
	if n, ok := impl.AloneBound(list, high, minutes); !ok || n != alone {
		t.Fatalf("AloneBound(%v, %v, %d) = %d, %v instead of %d", list, high, minutes, n, ok, alone)
	}
	if n, ok := impl.QueueBound(list, minutes); !ok || n != queue {
		t.Fatalf("QueueBound(%v, %d) = %d, %v instead of %d", list, minutes, n, ok, queue)
	}
	if n, ok := impl.LowerBound(list, high, minutes); !ok || n != max(alone, queue) {
		t.Fatalf("LowerBound(%v, %v, %d) = %d, %v instead of %d", list, high, minutes, n, ok, max(alone, queue))
	}
}

// expectGap expects the delay of an order to be so much above the lower bound.
func expectGap(t *testing.T, list []impl.Arrival, high bool, minutes int, order []int, gap int) {
	t.Helper()
	if n, ok := impl.GapOf(list, high, minutes, order); !ok || n != gap {
		t.Fatalf("GapOf(%v, %v, %d, %d) = %d, %v instead of %d", list, high, minutes, order, n, ok, gap)
	}
	if proven, ok := impl.IsProven(list, high, minutes, order); !ok || proven != (gap == 0) {
		t.Fatalf("IsProven(%v, %v, %d, %d) = %v, %v, but the gap is %d", list, high, minutes, order, proven, ok, gap)
	}
}

func expectGain(t *testing.T, list []impl.Arrival, high bool, minutes int, order []int, k int, gain int) {
	t.Helper()
	if n, ok := impl.SwapGain(list, high, minutes, order, k); !ok || n != gain {
		t.Fatalf("SwapGain(%v, %v, %d, %d, %d) = %d, %v instead of %d", list, high, minutes, order, k, n, ok, gain)
	}
}

func expectNoGain(t *testing.T, list []impl.Arrival, high bool, minutes int, order []int, k int) {
	t.Helper()
	if n, ok := impl.SwapGain(list, high, minutes, order, k); ok || n != 0 {
		t.Fatalf("SwapGain(%v, %v, %d, %d, %d) = %d, %v", list, high, minutes, order, k, n, ok)
	}
}

func expectLocal(t *testing.T, list []impl.Arrival, high bool, minutes int, want []int, delay int) {
	t.Helper()
	if order, n, ok := impl.LocalOrder(list, high, minutes); !ok || n != delay || !slices.Equal(order, want) {
		t.Fatalf("LocalOrder(%v, %v, %d) = %d, %d, %v instead of %d, %d", list, high, minutes, order, n, ok, want, delay)
	}
}

// expectNoBounds expects the functions that take no order to fail for these arguments.
func expectNoBounds(t *testing.T, list []impl.Arrival, high bool, minutes int) {
	t.Helper()
	if n, ok := impl.AloneBound(list, high, minutes); ok || n != 0 {
		t.Errorf("AloneBound(%v, %v, %d) = %d, %v", list, high, minutes, n, ok)
	}
	if n, ok := impl.QueueBound(list, minutes); ok || n != 0 {
		t.Errorf("QueueBound(%v, %d) = %d, %v", list, minutes, n, ok)
	}
	if n, ok := impl.LowerBound(list, high, minutes); ok || n != 0 {
		t.Errorf("LowerBound(%v, %v, %d) = %d, %v", list, high, minutes, n, ok)
	}
	if order, n, ok := impl.LocalOrder(list, high, minutes); ok || n != 0 || len(order) != 0 {
		t.Errorf("LocalOrder(%v, %v, %d) = %d, %d, %v", list, high, minutes, order, n, ok)
	}
}

// expectNoGap expects the functions that take an order to fail for these arguments.
func expectNoGap(t *testing.T, list []impl.Arrival, high bool, minutes int, order []int) {
	t.Helper()
	if n, ok := impl.GapOf(list, high, minutes, order); ok || n != 0 {
		t.Errorf("GapOf(%v, %v, %d, %d) = %d, %v", list, high, minutes, order, n, ok)
	}
	if proven, ok := impl.IsProven(list, high, minutes, order); ok || proven {
		t.Errorf("IsProven(%v, %v, %d, %d) = %v, %v", list, high, minutes, order, proven, ok)
	}
	for k := -1; k <= min(len(order), 10); k++ {
		expectNoGain(t, list, high, minutes, order, k)
	}
}

// expectNoGapAtAll expects them to fail for a list and an order, whatever the other arguments.
func expectNoGapAtAll(t *testing.T, list []impl.Arrival, order []int) {
	t.Helper()
	for _, high := range []bool{false, true} {
		for _, minutes := range []int{0, 1, 10, 60, 61} {
			expectNoGap(t, list, high, minutes, order)
		}
	}
}

// Nobody has bounds of 0, and the empty order is proven; but it has no elements to exchange.
func TestBoundsOfNobody(t *testing.T) {
	for _, list := range [][]impl.Arrival{nil, {}} {
		for _, high := range []bool{false, true} {
			for _, minutes := range []int{1, 2, 30, 60} {
				expectBounds(t, list, high, minutes, 0, 0)
				expectLocal(t, list, high, minutes, nil, 0)
				for _, order := range [][]int{nil, {}} {
					expectGap(t, list, high, minutes, order, 0)
					for _, k := range append([]int{-2, -1, 0, 1}, farNumbers...) {
						expectNoGain(t, list, high, minutes, order, k)
					}
				}
				for _, order := range [][]int{{0}, {-1}, {1}, {0, 1}} {
					expectNoGap(t, list, high, minutes, order)
				}
			}
			for _, minutes := range noMinutes() {
				expectNoBounds(t, list, high, minutes)
				expectNoGap(t, list, high, minutes, nil)
			}
		}
	}
}

// A single vessel waits for nothing but the chamber, so its only order is proven.
func TestBoundsOfOneVessel(t *testing.T) {
	for _, minutes := range []int{1, 2, 10, 59, 60} {
		for _, minute := range []int{0, 1, minutes - 1, minutes, minutes + 1, 100, 9999} {
			for _, weight := range []int{1, 2, 9} {
				for _, direction := range []int{0, 1} {
					list := arrivalsOf([3]int{direction, minute, weight})
					ready, turned := direction == 0, direction == 1
					delay := weight * max(minutes-minute, 0)
					expectBounds(t, list, ready, minutes, 0, 0)
					expectLocal(t, list, ready, minutes, []int{0}, 0)
					expectBounds(t, list, turned, minutes, delay, 0)
					expectLocal(t, list, turned, minutes, []int{0}, delay)
					for _, high := range []bool{false, true} {
						expectGap(t, list, high, minutes, []int{0}, 0)
						for _, k := range append([]int{-2, -1, 0, 1, 2}, farNumbers...) {
							expectNoGain(t, list, high, minutes, []int{0}, k)
						}
						for _, order := range [][]int{nil, {1}, {-1}, {0, 0}, {0, 1}, farNumbers} {
							expectNoGap(t, list, high, minutes, order)
						}
					}
				}
			}
		}
	}
}

// Up to MaxWaiting vessels that arrive at once and go one way, and more than that.
func TestBoundsOfManyVessels(t *testing.T) {
	for n := range 10 {
		for _, up := range []bool{false, true} {
			list := []impl.Arrival{}
			for i := range n {
				list = append(list, impl.Arrival{Id: i + 1, Up: up, Weight: 2})
			}
			order := countingUp(n)
			for _, minutes := range []int{1, 10, 60} {
				if n > 6 {
					expectNoBounds(t, list, up, minutes)
					expectNoGap(t, list, up, minutes, order)
					continue
				}
				pairs := n * (n - 1) / 2
				// Two lockages for each one of the vessels before, the second one of them to turn the chamber.
				expectBounds(t, list, !up, minutes, 0, 2*minutes*pairs)
				expectGap(t, list, !up, minutes, order, 2*minutes*pairs)
				expectLocal(t, list, !up, minutes, order, 4*minutes*pairs)
				expectBounds(t, list, up, minutes, 2*minutes*n, 2*minutes*pairs)
				expectLocal(t, list, up, minutes, order, 4*minutes*pairs+2*minutes*n)
				for k := range n {
					expectNoGain(t, list, up, minutes, order, k)
				}
			}
		}
	}
}

// The bounds counted by hand, and none with minutes of lockages that are out of range.
func TestBoundsOfArrivals(t *testing.T) {
	three := arrivalsOf([3]int{1, 0, 1}, [3]int{0, 0, 3}, [3]int{1, 10, 1})
	ups := arrivalsOf([3]int{1, 0, 1}, [3]int{1, 0, 2}, [3]int{1, 30, 3})
	downs := arrivalsOf([3]int{0, 7, 1}, [3]int{0, 2, 2}, [3]int{0, 2, 9})
	same := arrivalsOf([3]int{1, 5, 1}, [3]int{1, 5, 4}, [3]int{0, 5, 2}, [3]int{0, 5, 3})
	for _, c := range []struct {
		name    string
		list    []impl.Arrival
		high    bool
		minutes int
		alone   int
		queue   int
	}{
		{"alone is greater", three, false, 10, 30, 20},
		{"queue is greater", three, true, 10, 10, 20},
		{"both are equal", arrivalsOf([3]int{0, 0, 2}, [3]int{1, 0, 2}), false, 10, 20, 20},
		{"all up from below", ups, false, 10, 0, 10},
		{"all up from above", ups, true, 10, 30, 10},
		{"all up, the longest lockages", ups, true, 60, 270, 150},
		{"all down from above", downs, true, 10, 0, 25},
		{"all down from below", downs, false, 10, 91, 25},
		{"all down, the longest lockages", downs, false, 60, 691, 175},
		{"all down, the shortest lockages", downs, false, 1, 0, 1},
		{"at the same minute from below", same, false, 6, 5, 36},
		{"at the same minute from above", same, true, 6, 5, 36},
		{"at the last minute", arrivalsOf([3]int{1, 9999, 9}, [3]int{1, 9999, 9}), true, 60, 0, 540},
		// The light vessel itself does not wait.
		{"a light one late", arrivalsOf([3]int{1, 0, 9}, [3]int{1, 0, 9}, [3]int{0, 9999, 2}), false, 10, 0, 20},
		{"a light one early", arrivalsOf([3]int{1, 0, 2}, [3]int{1, 1, 9}, [3]int{0, 2, 9}), false, 10, 72, 54},
		// Taken as they stand, the second one would wait for the first one.
		{"not as they stand", arrivalsOf([3]int{1, 20, 1}, [3]int{1, 0, 1}), false, 10, 0, 0},
		{"one after the other", arrivalsOf([3]int{1, 0, 9}, [3]int{0, 10, 9}, [3]int{1, 20, 9}), false, 10, 0, 0},
		{"a minute too long", arrivalsOf([3]int{1, 0, 9}, [3]int{0, 10, 9}, [3]int{1, 20, 9}), false, 11, 9, 27},
		{"the queue ends and begins again", arrivalsOf([3]int{1, 0, 1}, [3]int{1, 0, 1}, [3]int{1, 500, 1}, [3]int{1, 500, 1}), false, 10, 0, 20},
		{"a full list", fullArrivals(), true, 10, 5, 46},
	} {
		t.Run(c.name, func(t *testing.T) {
			expectBounds(t, c.list, c.high, c.minutes, c.alone, c.queue)
			if alone, queue := aloneByMinutes(c.list, c.high, c.minutes), queueByMinutes(c.list, c.minutes); alone != c.alone || queue != c.queue {
				t.Errorf("minute by minute they are %d and %d", alone, queue)
			}
			for _, minutes := range noMinutes() {
				expectNoBounds(t, c.list, c.high, minutes)
				expectNoGap(t, c.list, c.high, minutes, firstComeByCounting(c.list))
			}
		})
	}
}

// P9: the lower bound is at most the delay of every order of the same Arrivals.
func TestNoOrderIsBelowTheLowerBound(t *testing.T) {
	seen := map[string]int{}
	for list := range manyArrivals() {
		orders := ordersByPairs(list)
		for _, high := range []bool{false, true} {
			for _, minutes := range []int{1, 3, 12, 60} {
				alone, queue := aloneByMinutes(list, high, minutes), queueByMinutes(list, minutes)
				expectBounds(t, list, high, minutes, alone, queue)
				lower := max(alone, queue)
				_, best := bestByMinutes(list, high, minutes)
				for _, order := range orders {
					delay := courseByMinutes(list, high, minutes, order).delay
					if n, ok := impl.LowerBound(list, high, minutes); !ok || n > delay {
						t.Fatalf("LowerBound(%v, %v, %d) = %d, %v, but %d has the delay %d", list, high, minutes, n, ok, order, delay)
					}
					expectGap(t, list, high, minutes, order, delay-lower)
				}
				switch {
				case best > lower:
					seen["the best order is not proven"]++
				case alone > queue:
					seen["an order is proven by the alone bound"]++
				case queue > alone:
					seen["an order is proven by the queue bound"]++
				}
			}
		}
	}
	// Without each of them a part of the bounds would go untested here.
	if len(seen) != 3 {
		t.Error("what there was:", seen)
	}
}

// Minutes of lockages in their range and beyond it.
func TestMinutesOfBounds(t *testing.T) {
	for _, list := range someArrivals() {
		order := firstComeByCounting(list)
		for _, high := range []bool{false, true} {
			for minutes := 1; minutes <= 60; minutes++ {
				expectBounds(t, list, high, minutes, aloneByMinutes(list, high, minutes), queueByMinutes(list, minutes))
				gap := courseByMinutes(list, high, minutes, order).delay - lowerByMinutes(list, high, minutes)
				expectGap(t, list, high, minutes, order, gap)
				local := localByMinutes(list, high, minutes)
				expectLocal(t, list, high, minutes, local.order, local.delay)
			}
			for _, minutes := range noMinutes() {
				expectNoBounds(t, list, high, minutes)
				expectNoGap(t, list, high, minutes, order)
			}
		}
	}
}

// The gaps counted by hand.
func TestGapsOfOrders(t *testing.T) {
	three := arrivalsOf([3]int{1, 0, 1}, [3]int{0, 0, 3}, [3]int{1, 10, 1})
	byQueue := arrivalsOf([3]int{0, 5, 1}, [3]int{1, 5, 1})
	byAlone := arrivalsOf([3]int{0, 0, 1}, [3]int{1, 0, 4})
	downs := arrivalsOf([3]int{0, 0, 1}, [3]int{0, 0, 1})
	equal := arrivalsOf([3]int{0, 0, 2}, [3]int{1, 10, 2})
	for _, c := range []struct {
		name  string
		list  []impl.Arrival
		high  bool
		order []int
		gap   int
	}{
		{"the best one is not proven", three, false, []int{0, 1, 2}, 10},
		{"worse", three, false, []int{1, 0, 2}, 50},
		{"worst", three, false, []int{0, 2, 1}, 70},
		{"the best one from above is not proven", three, true, []int{1, 0, 2}, 10},
		{"worse from above", three, true, []int{0, 1, 2}, 70},
		{"proven by the queue", byQueue, false, []int{1, 0}, 0},
		{"not proven by the queue", byQueue, false, []int{0, 1}, 10},
		{"proven by the vessels alone", byAlone, true, []int{0, 1}, 0},
		{"not proven by the vessels alone", byAlone, true, []int{1, 0}, 20},
		{"the only one is not proven", downs, true, []int{0, 1}, 10},
		{"two best ones are not proven", equal, false, []int{0, 1}, 20},
		{"nor is the other one", equal, false, []int{1, 0}, 20},
		{"nobody waits", arrivalsOf([3]int{0, 60, 9}, [3]int{1, 0, 9}, [3]int{1, 120, 9}), false, []int{1, 0, 2}, 0},
	} {
		t.Run(c.name, func(t *testing.T) { expectGap(t, c.list, c.high, 10, c.order, c.gap) })
	}
}

// The gains counted by hand.
func TestGainsOfExchanges(t *testing.T) {
	three := arrivalsOf([3]int{1, 0, 1}, [3]int{0, 0, 3}, [3]int{1, 10, 1})
	equal := arrivalsOf([3]int{0, 0, 2}, [3]int{1, 10, 2})
	six := arrivalsOf([3]int{1, 0, 1}, [3]int{0, 0, 1}, [3]int{1, 0, 1}, [3]int{0, 0, 1}, [3]int{1, 0, 1}, [3]int{0, 0, 1})
	for _, c := range []struct {
		name  string
		list  []impl.Arrival
		high  bool
		order []int
		k     int
		gain  int
		ok    bool
	}{
		{"smaller", three, false, []int{1, 0, 2}, 0, 40, true},
		{"greater", three, false, []int{0, 1, 2}, 0, -40, true},
		{"smaller from above", three, true, []int{0, 1, 2}, 0, 60, true},
		{"greater from above", three, true, []int{1, 0, 2}, 0, -60, true},
		{"the last two, greater", three, false, []int{0, 1, 2}, 1, -60, true},
		{"the last two, smaller", three, false, []int{0, 2, 1}, 1, 60, true},
		{"one direction at the beginning", three, false, []int{0, 2, 1}, 0, 0, false},
		{"one direction at the end", three, false, []int{1, 0, 2}, 1, 0, false},
		{"before the first one", three, false, []int{0, 1, 2}, -1, 0, false},
		{"the last one alone", three, false, []int{0, 1, 2}, 2, 0, false},
		{"behind the last one", three, false, []int{0, 1, 2}, 3, 0, false},
		{"no change", equal, false, []int{0, 1}, 0, 0, true},
		{"no change back", equal, false, []int{1, 0}, 0, 0, true},
		{"the first two of six", six, false, []int{0, 1, 2, 3, 4, 5}, 0, -100, true},
		{"the last two of six", six, false, []int{0, 1, 2, 3, 4, 5}, 4, -20, true},
		{"the last one of six alone", six, false, []int{0, 1, 2, 3, 4, 5}, 5, 0, false},
		// The result would be an order, but what it is made from is none.
		{"not from an order", three, false, []int{2, 0, 1}, 0, 0, false},
	} {
		t.Run(c.name, func(t *testing.T) {
			if c.ok {
				expectGain(t, c.list, c.high, 10, c.order, c.k, c.gain)
			} else {
				expectNoGain(t, c.list, c.high, 10, c.order, c.k)
			}
		})
	}
}

// All exchanges in all orders of many Arrivals, minute by minute.
func TestGainsOfManyExchanges(t *testing.T) {
	seen := map[string]int{}
	for list := range manyArrivals() {
		for _, order := range ordersByPairs(list) {
			for _, high := range []bool{false, true} {
				for _, minutes := range []int{1, 7, 60} {
					delay := courseByMinutes(list, high, minutes, order).delay
					for k := -2; k <= len(order)+1; k++ {
						other, ok := neighborsSwapped(list, order, k)
						if !ok {
							expectNoGain(t, list, high, minutes, order, k)
							seen["none"]++
							continue
						}
						gain := delay - courseByMinutes(list, high, minutes, other).delay
						expectGain(t, list, high, minutes, order, k, gain)
						seen[[]string{"greater", "no change", "smaller"}[max(min(gain, 1), -1)+1]]++
					}
				}
			}
		}
	}
	if len(seen) != 4 {
		t.Error("what there was:", seen)
	}
}

// The local orders found by hand.
func TestLocalOrders(t *testing.T) {
	three := arrivalsOf([3]int{1, 0, 1}, [3]int{0, 0, 3}, [3]int{1, 10, 1})
	several := arrivalsOf([3]int{0, 0, 1}, [3]int{0, 0, 1}, [3]int{0, 0, 1}, [3]int{1, 0, 1}, [3]int{1, 0, 1})
	for _, c := range []struct {
		name  string
		list  []impl.Arrival
		high  bool
		want  []int
		delay int
	}{
		{"no exchange", three, false, []int{0, 1, 2}, 40},
		{"one exchange", three, true, []int{1, 0, 2}, 30},
		{"by Minutes", arrivalsOf([3]int{1, 30, 1}, [3]int{0, 15, 1}, [3]int{1, 0, 1}), false, []int{2, 1, 0}, 0},
		{"one direction whatever the Weights", arrivalsOf([3]int{1, 0, 1}, [3]int{1, 0, 9}), false, []int{0, 1}, 180},
		{"two exchanges", arrivalsOf([3]int{0, 0, 1}, [3]int{0, 0, 1}, [3]int{1, 0, 1}), false, []int{2, 0, 1}, 40},
		{"five exchanges", several, false, []int{3, 0, 4, 1, 2}, 110},
		// The exchanges of the first two and of the last two both gain 20; after either one, the other one loses 20.
		{"the first one of equal gains", arrivalsOf([3]int{0, 12, 1}, [3]int{1, 12, 1}, [3]int{1, 12, 1}, [3]int{0, 12, 1}), true, []int{1, 0, 2, 3}, 60},
		// The exchange of the first two gains 12 and leads to the delay 72, that of the last two gains 20.
		{"the greatest gain", arrivalsOf([3]int{0, 0, 1}, [3]int{1, 12, 1}, [3]int{1, 12, 1}, [3]int{0, 12, 1}), false, []int{0, 1, 3, 2}, 64},
		{"not an exchange that gains nothing", arrivalsOf([3]int{0, 0, 2}, [3]int{1, 10, 2}), false, []int{0, 1}, 40},
		{"nor one towards the smaller order", arrivalsOf([3]int{1, 10, 2}, [3]int{0, 0, 2}), false, []int{1, 0}, 40},
		// The best order, [2 0 3 1] with 70, is behind one with a greater delay.
		{"not the best one", arrivalsOf([3]int{0, 0, 1}, [3]int{0, 0, 1}, [3]int{1, 5, 1}, [3]int{1, 5, 1}), false, []int{0, 2, 1, 3}, 90},
	} {
		t.Run(c.name, func(t *testing.T) {
			expectLocal(t, c.list, c.high, 10, c.want, c.delay)
			if s := localByMinutes(c.list, c.high, 10); !slices.Equal(s.order, c.want) || s.delay != c.delay {
				t.Errorf("minute by minute it is %v", s)
			}
		})
	}
}

// The local orders of many Arrivals, minute by minute.
func TestLocalOrdersOfManyArrivals(t *testing.T) {
	several, ties, worse := 0, 0, 0
	for list := range manyArrivals() {
		for _, high := range []bool{false, true} {
			for _, minutes := range []int{1, 4, 10, 60} {
				s := localByMinutes(list, high, minutes)
				expectLocal(t, list, high, minutes, s.order, s.delay)
				for k := range s.order {
					if n, _ := impl.SwapGain(list, high, minutes, s.order, k); n > 0 {
						t.Fatalf("SwapGain(%v, %v, %d, %d, %d) = %d, but it is the local order", list, high, minutes, s.order, k, n)
					}
				}
				if s.exchanges > 1 {
					several++
				}
				ties += s.ties
				_, best := bestByMinutes(list, high, minutes)
				if s.delay < best {
					t.Fatalf("LocalOrder(%v, %v, %d) has the delay %d, but the best one has %d", list, high, minutes, s.delay, best)
				}
				if s.delay > best {
					worse++
				}
			}
		}
	}
	if several == 0 || ties == 0 || worse == 0 {
		t.Error("what there was:", several, ties, worse)
	}
}

// Full lists of every mixture of directions that come at once, in turn and far apart.
func TestBoundsOfFullLists(t *testing.T) {
	for directions := range listsOver([]int{0, 1}, 6) {
		for _, apart := range []int{0, 1, 8, 25} {
			triples := [][3]int{}
			for i, direction := range directions {
				triples = append(triples, [3]int{direction, apart * (i * 5 % 6), 9 - i*i%8})
			}
			list := arrivalsOf(triples...)
			for _, high := range []bool{false, true} {
				expectBounds(t, list, high, 10, aloneByMinutes(list, high, 10), queueByMinutes(list, 10))
				s := localByMinutes(list, high, 10)
				expectLocal(t, list, high, 10, s.order, s.delay)
				expectGap(t, list, high, 10, s.order, s.delay-lowerByMinutes(list, high, 10))
			}
		}
	}
}

func TestBoundsOfListsThatAreNoArrivals(t *testing.T) {
	for _, list := range brokenArrivals() {
		for _, high := range []bool{false, true} {
			for _, minutes := range []int{0, 1, 10, 60, 61} {
				expectNoBounds(t, list, high, minutes)
			}
		}
		expectNoGapAtAll(t, list, nil)
		expectNoGapAtAll(t, list, countingUp(len(list)))
		if len(list) <= 6 {
			expectNoGapAtAll(t, list, firstComeByCounting(list))
		}
	}
}

// Permutations in which a direction does not stand in its order, and lists that are no permutations.
func TestGapsOfOrdersThatAreNone(t *testing.T) {
	for _, list := range someArrivals() {
		n := len(list)
		for _, order := range ordersOf(n) {
			if !isOrderByPairs(list, order) {
				expectNoGapAtAll(t, list, order)
			}
		}
		right := firstComeByCounting(list)
		for k := range n {
			expectNoGapAtAll(t, list, right[:k])
			expectNoGapAtAll(t, list, right[k+1:])
			expectNoGapAtAll(t, list, append(slices.Clone(right), right[k]))
			for _, i := range append([]int{-1, right[(k+1)%n], n, n + 1}, farNumbers...) {
				other := slices.Clone(right)
				other[k] = i
				if n > 1 || i != right[k] {
					expectNoGapAtAll(t, list, other)
				}
				expectNoGapAtAll(t, list, slices.Insert(slices.Clone(right), k, i))
			}
		}
		expectNoGapAtAll(t, list, append(slices.Clone(right), n))
		expectNoGapAtAll(t, list, countingUp(1000))
		for _, k := range farNumbers {
			expectNoGain(t, list, true, 10, right, k)
			expectNoGain(t, list, false, 10, right, k)
		}
	}
}

// boundsAsNumbers calls all functions and returns everything that they return, a bool as 0 or 1.
func boundsAsNumbers(list []impl.Arrival, high bool, minutes int, order []int, k int) []int {
	numbers := []int{}
	add := func(n int, ok bool) {
		numbers = append(numbers, n)
		if ok {
			numbers = append(numbers, 1)
		} else {
			numbers = append(numbers, 0)
		}
	}
	add(impl.AloneBound(list, high, minutes))
	add(impl.QueueBound(list, minutes))
	add(impl.LowerBound(list, high, minutes))
	add(impl.GapOf(list, high, minutes, order))
	proven, ok := impl.IsProven(list, high, minutes, order)
	add(0, proven)
	add(0, ok)
	add(impl.SwapGain(list, high, minutes, order, k))
	local, delay, ok := impl.LocalOrder(list, high, minutes)
	add(delay, ok)
	return append(numbers, local...)
}

// P29: all functions return whatever their arguments, the same when called again, and leave their arguments as they are, also
// beyond their lengths, where what stands plays no part.
func TestBoundFunctionsLeaveTheirArguments(t *testing.T) {
	for _, list := range append(someArrivals(), brokenArrivals()...) {
		n := len(list)
		if n > 10 {
			continue
		}
		given := withMoreArrivals(list)
		before := slices.Clone(given[:cap(given)])
		right := countingUp(n)
		if n <= 6 && impl.AreArrivals(list) {
			right = firstComeByCounting(list)
		}
		for _, order := range [][]int{nil, right, countingUp(n), append(slices.Clone(right), n), make([]int, n), farNumbers} {
			longer := append(slices.Clone(order), n, 0, -1)[:len(order)]
			orderBefore := slices.Clone(longer[:cap(longer)])
			for _, minutes := range []int{-1, 0, 1, 10, 60, 61, farNumbers[0]} {
				for _, k := range append([]int{-1, 0, n - 2, n - 1, n}, farNumbers...) {
					for _, high := range []bool{false, true} {
						a := boundsAsNumbers(given, high, minutes, longer, k)
						b := boundsAsNumbers(list, high, minutes, order, k)
						if !slices.Equal(a, b) {
							t.Errorf("%v, %v, %d, %d, %d: %d and %d", list, high, minutes, order, k, a, b)
						}
					}
				}
			}
			if !slices.Equal(longer[:cap(longer)], orderBefore) {
				t.Fatalf("%d was changed to %d", orderBefore, longer[:cap(longer)])
			}
		}
		if !slices.Equal(given[:cap(given)], before) {
			t.Fatalf("%v was changed to %v", before, given[:cap(given)])
		}
	}
}

// A local order shares no memory with a later one, nor with the orders of chapter 8.
func TestLocalOrdersAreNew(t *testing.T) {
	for _, list := range someArrivals() {
		for _, high := range []bool{false, true} {
			first, _ := impl.FirstComeLockages(list)
			expectNewInts(t, len(list), func() ([]int, bool) {
				order, _, ok := impl.LocalOrder(list, high, 10)
				return order, ok
			})
			if !slices.Equal(first, firstComeByCounting(list)) {
				t.Errorf("the order of %v was changed to %d", list, first)
			}
		}
	}
}
