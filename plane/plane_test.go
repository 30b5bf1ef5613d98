package plane_test

import (
	"math"
	"testing"

	"transom/api"
	"transom/plane"
)

// minusZero is a variable's value: a constant -0 is 0.
func minusZero() float64 { return math.Copysign(0, -1) }

// points answers the levels' points as the chapter says them, the lowest level's first.
func points() []complex128 {
	return []complex128{
		api.Star: -1 + 2i,
		api.L0:   1i,
		api.L1:   0,
		api.L2:   0.5,
		api.L3:   1,
		api.High: 2 - 1i,
	}
}

// writings answers z, and z with each part of 0 written as -0.
func writings(z complex128) []complex128 {
	out := []complex128{z}
	if real(z) == 0 {
		out = append(out, complex(minusZero(), imag(z)))
	}
	if imag(z) == 0 {
		out = append(out, complex(real(z), minusZero()))
	}
	if z == 0 {
		out = append(out, complex(minusZero(), minusZero()))
	}
	return out
}

// parts answers the parts of the levels' points, numbers beside them, and the odd ones among floats.
func parts() []float64 {
	out := []float64{
		math.NaN(), math.Inf(1), math.Inf(-1), minusZero(),
		math.MaxFloat64, -math.MaxFloat64, math.SmallestNonzeroFloat64, -math.SmallestNonzeroFloat64,
		-3, -2, -0.5, 0.25, 0.75, 1.5, 3, 4, 5, 6, 255, 256,
	}
	for _, p := range []float64{-1, 0, 0.5, 1, 2} {
		out = append(out, p, math.Nextafter(p, math.Inf(1)), math.Nextafter(p, math.Inf(-1)))
	}
	return out
}

// numbers answers every number made of two of parts.
func numbers() []complex128 {
	var out []complex128
	for _, re := range parts() {
		for _, im := range parts() {
			out = append(out, complex(re, im))
		}
	}
	return out
}

// levelOf tells by parts whose point z is, -1 if it is none's.
func levelOf(z complex128) int {
	for l, p := range points() {
		if real(z) == real(p) && imag(z) == imag(p) {
			return l
		}
	}
	return -1
}

// same tells whether a and b are one number, NaN being itself.
func same(a, b complex128) bool {
	return samePart(real(a), real(b)) && samePart(imag(a), imag(b))
}

func samePart(a, b float64) bool { return a == b || math.IsNaN(a) && math.IsNaN(b) }

// P2.1 Point

func TestPointOfEveryLevel(t *testing.T) {
	for l, want := range points() {
		if got := plane.Point(uint8(l)); got != want {
			t.Errorf("Point(%d): %v, want %v", l, got, want)
		}
	}
}

func TestPointsOfLevelsDiffer(t *testing.T) {
	for a := range uint8(api.High + 1) {
		for b := range a {
			if plane.Point(a) == plane.Point(b) {
				t.Errorf("%d and %d: %v", a, b, plane.Point(a))
			}
		}
	}
}

func TestPointAboveHighIsNought(t *testing.T) {
	for n := api.High + 1; n <= math.MaxUint8; n++ {
		if got := plane.Point(uint8(n)); got != 0 {
			t.Errorf("Point(%d): %v", n, got)
		}
	}
}

// P2.1 Of

func TestOfTellsWhosePointItIs(t *testing.T) {
	for l, p := range points() {
		for _, z := range writings(p) {
			if got, e := plane.Of(z); int(got) != l || e != api.OK {
				t.Errorf("Of(%v): %d %d, want %d", z, got, e, l)
			}
		}
	}
}

func TestOfUndoesPoint(t *testing.T) {
	for l := range uint8(api.High + 1) {
		if got, e := plane.Of(plane.Point(l)); got != l || e != api.OK {
			t.Errorf("Of(Point(%d)): %d %d", l, got, e)
		}
	}
}

func TestOfRefusesWhatIsNoLevelsPoint(t *testing.T) {
	nan, inf := math.NaN(), math.Inf(1)
	for _, z := range []complex128{
		1 + 1i, 2, -1, 2i, -1i, 0.5i, 0.5 + 1i, 2 + 1i, -1 + 1i, -1 - 1i, 1 - 1i, 1 + 2i, 0.5 - 1i, 0.5 + 2i, 2 + 2i, -1 - 2i, -2 + 1i,
		complex(nan, 0), complex(0, nan), complex(nan, nan), complex(1, nan), complex(nan, 1),
		complex(inf, 0), complex(-inf, 0), complex(0, inf), complex(0, -inf), complex(inf, -inf), complex(-inf, inf), complex(inf, nan),
		complex(math.Nextafter(0.5, 1), 0), complex(math.SmallestNonzeroFloat64, 0), complex(0, -math.SmallestNonzeroFloat64),
	} {
		if got, e := plane.Of(z); got != 0 || e != api.ErrArg {
			t.Errorf("Of(%v): %d %d, want 0 and ErrArg", z, got, e)
		}
	}
}

func TestOfRefusesWhatStandsBesideALevelsPoint(t *testing.T) {
	near := func(p float64) []float64 {
		return []float64{p, math.Nextafter(p, math.Inf(1)), math.Nextafter(p, math.Inf(-1)), p + 1e-9, p - 1e-9}
	}
	for l, p := range points() {
		for i, re := range near(real(p)) {
			for k, im := range near(imag(p)) {
				if i == 0 && k == 0 {
					continue
				}
				if got, e := plane.Of(complex(re, im)); got != 0 || e != api.ErrArg {
					t.Errorf("beside %d: Of(%v): %d %d", l, complex(re, im), got, e)
				}
			}
		}
	}
}

func TestOfOfWhateverNumber(t *testing.T) {
	for _, z := range numbers() {
		got, e := plane.Of(z)
		want := levelOf(z)
		if want < 0 && (got != 0 || e != api.ErrArg) || want >= 0 && (int(got) != want || e != api.OK) {
			t.Errorf("Of(%v): %d %d, want %d", z, got, e, want)
		}
	}
}

// P2.1 Flows, Join, Meet

func TestFlowsTellsTheExample(t *testing.T) {
	if !plane.Flows(1i, 1) {
		t.Error("Flows(i, 1): no")
	}
	if plane.Flows(1, 1i) {
		t.Error("Flows(1, i): yes")
	}
}

func TestPointsStandInOneLine(t *testing.T) {
	all := points()
	for i, p := range all {
		for k, q := range all {
			for _, a := range writings(p) {
				for _, b := range writings(q) {
					if got := plane.Flows(a, b); got != (i <= k) {
						t.Errorf("Flows(%v, %v): %v", a, b, got)
					}
					if got := plane.Join(a, b); got != all[max(i, k)] {
						t.Errorf("Join(%v, %v): %v, want %v", a, b, got, all[max(i, k)])
					}
					if got := plane.Meet(a, b); got != all[min(i, k)] {
						t.Errorf("Meet(%v, %v): %v, want %v", a, b, got, all[min(i, k)])
					}
				}
			}
		}
	}
}

// R1, R4

func TestWhateverNumbersCallsEndAndTellTheSame(t *testing.T) {
	all := append(numbers(), points()...)
	for _, a := range all {
		for _, b := range all {
			if plane.Flows(a, b) != plane.Flows(a, b) {
				t.Fatalf("Flows(%v, %v) told two things", a, b)
			}
			if !same(plane.Join(a, b), plane.Join(a, b)) {
				t.Fatalf("Join(%v, %v) told two things", a, b)
			}
			if !same(plane.Meet(a, b), plane.Meet(a, b)) {
				t.Fatalf("Meet(%v, %v) told two things", a, b)
			}
		}
	}
}
