package level_test

import (
	"math"
	"testing"

	"transom/api"
	"transom/level"
	"transom/plane"
)

// levels answers every level, the lowest first, High among them.
func levels() []uint8 {
	return []uint8{api.Star, api.L0, api.L1, api.L2, api.L3, api.High}
}

// eachTwo calls try with every two levels.
func eachTwo(try func(a, b uint8)) {
	for _, a := range levels() {
		for _, b := range levels() {
			try(a, b)
		}
	}
}

// P3.1 May

func TestMayFromStarToL3(t *testing.T) {
	for _, l := range []uint8{api.Star, api.L0, api.L1, api.L2, api.L3} {
		if !level.May(l) {
			t.Errorf("May(%d): no", l)
		}
	}
}

func TestMayNotHigh(t *testing.T) {
	if level.May(api.High) {
		t.Error("May(High): yes")
	}
}

func TestMayNotAboveHigh(t *testing.T) {
	for _, l := range []uint8{6, 200, 255} {
		if level.May(l) {
			t.Errorf("May(%d): yes", l)
		}
	}
	for n := api.High + 1; n <= math.MaxUint8; n++ {
		if level.May(uint8(n)) {
			t.Errorf("May(%d): yes", n)
		}
	}
}

// P3.1 Flows, Max, Min

func TestFlowsFromTheLowerToTheHigher(t *testing.T) {
	eachTwo(func(a, b uint8) {
		if got := level.Flows(a, b); got != (a <= b) {
			t.Errorf("Flows(%d, %d): %v", a, b, got)
		}
	})
}

func TestFlowsIsThatOfPoints(t *testing.T) {
	eachTwo(func(a, b uint8) {
		want := plane.Flows(plane.Point(a), plane.Point(b))
		if got := level.Flows(a, b); got != want {
			t.Errorf("Flows(%d, %d): %v, of points %v", a, b, got, want)
		}
	})
}

func TestMaxIsTheHigher(t *testing.T) {
	eachTwo(func(a, b uint8) {
		if got := level.Max(a, b); got != max(a, b) {
			t.Errorf("Max(%d, %d): %d", a, b, got)
		}
	})
}

func TestMaxIsTheJoinOfPoints(t *testing.T) {
	eachTwo(func(a, b uint8) {
		want, e := plane.Of(plane.Join(plane.Point(a), plane.Point(b)))
		if got := level.Max(a, b); got != want || e != api.OK {
			t.Errorf("Max(%d, %d): %d, of points %d %d", a, b, got, want, e)
		}
	})
}

func TestMinIsTheLower(t *testing.T) {
	eachTwo(func(a, b uint8) {
		if got := level.Min(a, b); got != min(a, b) {
			t.Errorf("Min(%d, %d): %d", a, b, got)
		}
	})
}

func TestMinIsTheMeetOfPoints(t *testing.T) {
	eachTwo(func(a, b uint8) {
		want, e := plane.Of(plane.Meet(plane.Point(a), plane.Point(b)))
		if got := level.Min(a, b); got != want || e != api.OK {
			t.Errorf("Min(%d, %d): %d, of points %d %d", a, b, got, want, e)
		}
	})
}

// P3.1 Rise

func TestRiseOfStarIsHigh(t *testing.T) {
	if got := level.Rise(api.Star); got != api.High {
		t.Errorf("Rise(Star): %d", got)
	}
}

func TestRiseOfEveryOtherLevelIsIt(t *testing.T) {
	for _, l := range levels()[1:] {
		if got := level.Rise(l); got != l {
			t.Errorf("Rise(%d): %d", l, got)
		}
	}
}

// R1, R4

func TestWhateverNumberCallsEndAndTellTheSame(t *testing.T) {
	for a := 0; a <= math.MaxUint8; a++ {
		l := uint8(a)
		if level.May(l) != level.May(l) || level.Rise(l) != level.Rise(l) {
			t.Fatalf("%d: told two things", a)
		}
	}
}

func TestWhateverTwoNumbersCallsEndAndTellTheSame(t *testing.T) {
	for i := 0; i <= math.MaxUint8; i++ {
		for k := 0; k <= math.MaxUint8; k++ {
			a, b := uint8(i), uint8(k)
			if level.Flows(a, b) != level.Flows(a, b) || level.Max(a, b) != level.Max(a, b) || level.Min(a, b) != level.Min(a, b) {
				t.Fatalf("%d and %d: told two things", a, b)
			}
		}
	}
}
