package label_test

import (
	"math"
	"slices"
	"testing"

	"transom/api"
	"transom/label"
	"transom/level"
)

// allCats is how many categories there are.
const allCats = 1 << 16

// pairs answers pairs of a category and a level each.
func pairs(l ...int) []api.Pair {
	var out []api.Pair
	for i := 0; i < len(l); i += 2 {
		out = append(out, api.Pair{Cat: uint16(l[i]), Level: uint8(l[i+1])})
	}
	return out
}

// made answers the label of def and of pairs of a category and a level each, as they are.
func made(def uint8, l ...int) api.Label { return api.Label{Default: def, Pairs: pairs(l...)} }

// count answers n pairs of one level, of the categories from first on, each step above the one ahead.
func count(first, step, n int, lev uint8) []api.Pair {
	var out []api.Pair
	for i := range n {
		out = append(out, api.Pair{Cat: uint16(first + i*step), Level: lev})
	}
	return out
}

// levels answers every level, the lowest first, High among them.
func levels() []uint8 {
	return []uint8{api.Star, api.L0, api.L1, api.L2, api.L3, api.High}
}

// told answers the level that l says of each category, pair by pair.
func told(l api.Label) []uint8 {
	out := slices.Repeat([]uint8{l.Default}, allCats)
	for _, p := range l.Pairs {
		out[p.Cat] = p.Level
	}
	return out
}

// labelOf answers the label of def that says these levels, one of each category.
func labelOf(def uint8, says []uint8) api.Label {
	out := api.Label{Default: def}
	for c, lev := range says {
		if lev != def {
			out.Pairs = append(out.Pairs, api.Pair{Cat: uint16(c), Level: lev})
		}
	}
	return out
}

// isOne tells whether two labels are one, pair by pair, without the package's own Same.
func isOne(a, b api.Label) bool {
	if a.Default != b.Default || len(a.Pairs) != len(b.Pairs) {
		return false
	}
	for i := range a.Pairs {
		if a.Pairs[i] != b.Pairs[i] {
			return false
		}
	}
	return true
}

// want asks that a call told this label.
func want(t *testing.T, says string, got, want api.Label) {
	t.Helper()
	if !isOne(got, want) {
		t.Errorf("%s: %d with %d pairs %v, want %d with %d pairs %v", says, got.Default, len(got.Pairs), got.Pairs[:min(len(got.Pairs), 20)], want.Default, len(want.Pairs), want.Pairs[:min(len(want.Pairs), 20)])
	}
}

// smallLabels answers every label with pairs of no categories but 3 and 65535.
func smallLabels() []api.Label {
	var out []api.Label
	for _, def := range levels() {
		for _, x := range levels() {
			for _, y := range levels() {
				l := api.Label{Default: def}
				if x != def {
					l.Pairs = append(l.Pairs, api.Pair{Cat: 3, Level: x})
				}
				if y != def {
					l.Pairs = append(l.Pairs, api.Pair{Cat: 65535, Level: y})
				}
				out = append(out, l)
			}
		}
	}
	return out
}

// mixed answers a label of def with n pairs, of levels that go round.
func mixed(def uint8, first, step, n int) api.Label {
	out := api.Label{Default: def, Pairs: count(first, step, n, 0)}
	for i := range out.Pairs {
		out.Pairs[i].Level = uint8(int(def)+1+(i+n)%5) % 6
	}
	return out
}

// greatLabels answers labels of none to all categories, which share none, some and all of them.
func greatLabels() []api.Label {
	out := []api.Label{
		made(api.L1), made(api.Star), made(api.High),
		made(api.L1, 0, api.L3), made(api.L1, 65535, api.Star), made(api.L2, 0, api.High, 65535, api.L0),
		made(api.L1, 1, api.L0, 3, api.L3, 5, api.Star, 65535, api.L2), made(api.L1, 0, api.L3, 3, api.L0, 4, api.Star, 5, api.L2),
		made(api.L3, 1, api.L0, 3, api.L1, 5, api.Star, 65535, api.L2), made(api.L0, 2, api.L3, 4, api.High, 6, api.Star),
	}
	for i, def := range levels() {
		out = append(out, mixed(def, i, 1, api.MaxPairs), mixed(def, 2*i, 3, api.MaxPairs+1), mixed(def, i%2, 2, 300))
	}
	return append(out, mixed(api.L1, 0, 1, allCats), mixed(api.L3, 0, 1, allCats), mixed(api.L1, 0, 1, allCats-1), mixed(api.L2, 1, 1, allCats-1))
}

// badPairs answers lists of pairs that fall, or that have a category twice.
func badPairs() [][]api.Pair {
	down := mixed(api.L1, 0, 1, allCats).Pairs
	slices.Reverse(down)
	return [][]api.Pair{
		pairs(3, api.L0, 3, api.L0), pairs(3, api.L0, 3, api.L3), pairs(4, api.L0, 3, api.L0), pairs(0, api.Star, 0, api.L3),
		pairs(65535, api.L0, 0, api.L0), pairs(65535, api.L3, 65535, api.Star), pairs(1, api.L0, 3, api.L0, 2, api.L0),
		pairs(7, api.L0, 2, api.L3, 7, api.Star, 0, api.L2, 2, api.L0), slices.Repeat(pairs(9, api.L3), 100),
		slices.Repeat(pairs(8, api.L3, 1, api.Star, 9, api.L0), 70), append(count(0, 1, 15, api.L3), count(14, 1, 1, api.L3)...), down,
	}
}

// badLabels answers labels that none of the promises but R1 to R4 speak of.
func badLabels() []api.Label {
	out := []api.Label{
		made(6), made(255), made(200, 3, api.L0), made(api.L1, 3, 6), made(api.L1, 3, 255, 9, 6), made(255, 3, 254, 9, api.Star),
		made(api.L1, 3, api.L1), made(api.Star, 3, api.Star), made(api.High, 0, api.High, 65535, api.Star), made(255, 4, 255),
	}
	for _, l := range badPairs() {
		out = append(out, api.Label{Default: api.L1, Pairs: l}, api.Label{Default: api.Star, Pairs: l}, api.Label{Default: 77, Pairs: l})
	}
	return out
}

// P5.1 May

func TestMayOfLabels(t *testing.T) {
	for _, l := range []api.Label{
		made(api.L1), {Default: api.L1, Pairs: []api.Pair{}}, made(api.L1, 3, api.Star), made(api.L1, 0, api.L3), made(api.L1, 65535, api.L0),
		made(api.L1, 3, api.Star, 4, api.L0, 9, api.L2, 10, api.L3), made(api.L3, 0, api.L1, 65535, api.L1), made(api.L0, 255, api.Star, 256, api.Star),
	} {
		if !label.May(l) {
			t.Errorf("May(%v): no", l)
		}
	}
}

func TestMayOfEachDefault(t *testing.T) {
	for n := range math.MaxUint8 + 1 {
		def := uint8(n)
		may := def == api.L0 || def == api.L1 || def == api.L2 || def == api.L3
		if got := label.May(made(def)); got != may {
			t.Errorf("May of Default %d alone: %v", def, got)
		}
		other := api.L0
		if def == api.L0 {
			other = api.L3
		}
		if got := label.May(made(def, 3, other)); got != may {
			t.Errorf("May of Default %d and a pair of %d: %v", def, other, got)
		}
	}
}

func TestMayOfEachLevelOfAPair(t *testing.T) {
	for _, def := range []uint8{api.L0, api.L1, api.L2, api.L3} {
		other := int(def)%4 + 1
		for n := range math.MaxUint8 + 1 {
			may := n <= api.L3 && n != int(def)
			for i, l := range []api.Label{made(def, 3, n), made(def, 3, n, 4, other), made(def, 3, other, 4, n), made(def, 2, other, 3, n, 4, api.Star)} {
				if got := label.May(l); got != may {
					t.Errorf("May of Default %d and a pair of %d, in label %d: %v", def, n, i, got)
				}
			}
		}
	}
}

func TestMayOfAtMostMaxPairs(t *testing.T) {
	for n := range 3 * api.MaxPairs {
		for _, l := range [][]api.Pair{count(0, 1, n, api.L3), count(65536-n, 1, n, api.Star), count(5, 999, n, api.L0)} {
			if got := label.May(api.Label{Default: api.L1, Pairs: l}); got != (n <= api.MaxPairs) {
				t.Errorf("May of %d pairs: %v", n, got)
			}
		}
	}
	for _, n := range []int{255, 256, 256 + 5, allCats} {
		if label.May(api.Label{Default: api.L1, Pairs: count(0, 1, n, api.L3)}) {
			t.Errorf("May of %d pairs: yes", n)
		}
	}
}

func TestMayLooksAtEveryTwoNeighbours(t *testing.T) {
	for n := 2; n <= api.MaxPairs; n++ {
		for at := 1; at < n; at++ {
			twice, falls, like := count(10, 10, n, api.L3), count(10, 10, n, api.L3), count(10, 10, n, api.L3)
			twice[at].Cat = twice[at-1].Cat
			falls[at-1], falls[at] = falls[at], falls[at-1]
			like[at].Level = api.L1
			for _, l := range [][]api.Pair{twice, falls, like} {
				if label.May(api.Label{Default: api.L1, Pairs: l}) {
					t.Errorf("May with pairs %v: yes", l)
				}
			}
		}
	}
	for _, l := range badPairs() {
		if label.May(api.Label{Default: api.L1, Pairs: l}) {
			t.Errorf("May of %d pairs that begin %v: yes", len(l), l[:2])
		}
	}
}

// P5.1 Make

func TestMakeTellsTheExample(t *testing.T) {
	l := label.Make(api.L1, pairs(3, api.L3))
	for c := range allCats {
		lev := uint8(api.L1)
		if c == 3 {
			lev = api.L3
		}
		if got := label.At(l, uint16(c)); got != lev {
			t.Fatalf("At %d: %d", c, got)
		}
	}
}

func TestMakeOfFewPairs(t *testing.T) {
	for _, x := range []struct {
		says string
		l    []api.Pair
		want api.Label
	}{
		{"none", nil, made(api.L1)},
		{"an empty list", []api.Pair{}, made(api.L1)},
		{"one", pairs(3, api.L3), made(api.L1, 3, api.L3)},
		{"one of def", pairs(3, api.L1), made(api.L1)},
		{"in order", pairs(0, api.L3, 7, api.Star, 65535, api.High), made(api.L1, 0, api.L3, 7, api.Star, 65535, api.High)},
		{"the other way round", pairs(65535, api.High, 7, api.Star, 0, api.L3), made(api.L1, 0, api.L3, 7, api.Star, 65535, api.High)},
		{"one of def among others", pairs(9, api.L3, 5, api.L1, 2, api.L0), made(api.L1, 2, api.L0, 9, api.L3)},
		{"one twice", pairs(9, api.L3, 9, api.L0), made(api.L1, 9, api.L0)},
		{"one twice, others between", pairs(9, api.L3, 2, api.L2, 9, api.Star, 4, api.L0), made(api.L1, 2, api.L2, 4, api.L0, 9, api.Star)},
		{"one twice, of def at last", pairs(9, api.L3, 2, api.L2, 9, api.L1), made(api.L1, 2, api.L2)},
		{"one twice, of def at first", pairs(9, api.L1, 2, api.L2, 9, api.L3), made(api.L1, 2, api.L2, 9, api.L3)},
		{"one thrice, of def between", pairs(9, api.L0, 9, api.L1, 9, api.L3), made(api.L1, 9, api.L3)},
		{"one thrice, of def at last", pairs(9, api.L0, 9, api.L3, 9, api.L1), made(api.L1)},
		{"two at the ends, twice", pairs(65535, api.L0, 0, api.L0, 65535, api.L3, 0, api.L2), made(api.L1, 0, api.L2, 65535, api.L3)},
	} {
		want(t, x.says, label.Make(api.L1, x.l), x.want)
	}
	for _, def := range levels() {
		want(t, "none", label.Make(def, nil), made(def))
		want(t, "all of def", label.Make(def, count(0, 5, 100, def)), made(def))
	}
}

func TestMakeOfEveryFourPairs(t *testing.T) {
	kinds := pairs(0, api.L1, 0, api.L3, 5, api.Star, 5, api.L1, 65535, api.L0, 65535, api.High)
	for n := range 6 * 6 * 6 * 6 {
		var l []api.Pair
		for rest := n; len(l) < 4; rest /= 6 {
			l = append(l, kinds[rest%6])
		}
		want(t, "four pairs", label.Make(api.L1, l), labelOf(api.L1, told(api.Label{Default: api.L1, Pairs: l})))
	}
}

func TestMakeOfManyPairs(t *testing.T) {
	seed := uint32(7)
	for _, size := range []int{12, 13, 16, 17, 60, 1000, 3 * allCats} {
		l := make([]api.Pair, size)
		for i := range l {
			seed = seed*1664525 + 1013904223
			// Few categories among few pairs, so that many stand twice.
			l[i] = api.Pair{Cat: uint16(int(seed>>8) % size), Level: uint8(seed>>24) % 6}
		}
		for _, def := range levels() {
			want(t, "many pairs", label.Make(def, l), labelOf(def, told(api.Label{Default: def, Pairs: l})))
		}
	}
	for _, l := range slices.Concat(badPairs(), [][]api.Pair{count(0, 1, allCats, api.L3)}) {
		want(t, "many pairs", label.Make(api.L1, l), labelOf(api.L1, told(api.Label{Default: api.L1, Pairs: l})))
	}
}

// P5.1 At

func TestAtOfEveryCategory(t *testing.T) {
	for i, l := range greatLabels() {
		for c, lev := range told(l) {
			if got := label.At(l, uint16(c)); got != lev {
				t.Fatalf("label %d: At(%d): %d, want %d", i, c, got, lev)
			}
		}
	}
}

func TestAtOfEverySmallLabel(t *testing.T) {
	for _, l := range smallLabels() {
		says := told(l)
		for _, c := range []uint16{0, 1, 2, 3, 4, 5, 32767, 32768, 65534, 65535} {
			if got := label.At(l, c); got != says[c] {
				t.Errorf("At(%v, %d): %d, want %d", l, c, got, says[c])
			}
		}
	}
}

// P5.1 Set

func TestSetOfFewPairs(t *testing.T) {
	l := made(api.L1, 3, api.L0, 9, api.Star)
	for _, x := range []struct {
		says string
		l    api.Label
		c    uint16
		lev  uint8
		want api.Label
	}{
		{"one that is there", l, 3, api.L3, made(api.L1, 3, api.L3, 9, api.Star)},
		{"the last one", l, 9, api.High, made(api.L1, 3, api.L0, 9, api.High)},
		{"as it is", l, 9, api.Star, l},
		{"to Default", l, 3, api.L1, made(api.L1, 9, api.Star)},
		{"the last one to Default", l, 9, api.L1, made(api.L1, 3, api.L0)},
		{"the only one to Default", made(api.L1, 9, api.L3), 9, api.L1, made(api.L1)},
		{"one that is not there", l, 4, api.L2, made(api.L1, 3, api.L0, 4, api.L2, 9, api.Star)},
		{"one ahead of all", l, 0, api.Star, made(api.L1, 0, api.Star, 3, api.L0, 9, api.Star)},
		{"one behind all", l, 65535, api.L0, made(api.L1, 3, api.L0, 9, api.Star, 65535, api.L0)},
		{"one that is not there, to Default", l, 4, api.L1, l},
		{"of no pairs", made(api.L2), 7, api.L1, made(api.L2, 7, api.L1)},
		{"of no pairs, to Default", made(api.L2), 7, api.L2, made(api.L2)},
	} {
		want(t, x.says, label.Set(x.l, x.c, x.lev), x.want)
	}
}

func TestSetOfMaxPairsGoesBeyond(t *testing.T) {
	l := api.Label{Default: api.L1, Pairs: count(2, 2, api.MaxPairs, api.L3)}
	got := label.Set(l, 9, api.Star)
	if len(got.Pairs) != api.MaxPairs+1 || label.At(got, 9) != api.Star || label.May(got) {
		t.Errorf("Set: %v", got)
	}
}

func TestSetOfEverySmallLabel(t *testing.T) {
	cats := []uint16{0, 2, 3, 4, 32768, 65534, 65535}
	for _, l := range smallLabels() {
		says := told(l)
		for _, c := range cats {
			for _, lev := range levels() {
				all := api.Label{Default: l.Default}
				for _, other := range cats {
					p := api.Pair{Cat: other, Level: says[other]}
					if other == c {
						p.Level = lev
					}
					if p.Level != l.Default {
						all.Pairs = append(all.Pairs, p)
					}
				}
				want(t, "Set", label.Set(l, c, lev), all)
			}
		}
	}
}

func TestSetOfGreatLabels(t *testing.T) {
	for _, l := range greatLabels() {
		for _, c := range []uint16{0, 1, 2, 16, 17, 299, 600, 32768, 65534, 65535} {
			for _, lev := range levels() {
				says := told(l)
				says[c] = lev
				want(t, "Set", label.Set(l, c, lev), labelOf(l.Default, says))
			}
		}
	}
}

// P5.1 Same

func TestSameOfLabelsThatDiffer(t *testing.T) {
	l := made(api.L1, 3, api.L0, 9, api.Star)
	for _, m := range []api.Label{
		made(api.L2, 3, api.L0, 9, api.Star), made(api.L1, 4, api.L0, 9, api.Star), made(api.L1, 3, api.L0, 8, api.Star),
		made(api.L1, 3, api.L2, 9, api.Star), made(api.L1, 3, api.L0, 9, api.L0), made(api.L1, 3, api.L0), made(api.L1, 9, api.Star), made(api.L1),
		made(api.L1, 3, api.L0, 9, api.Star, 10, api.L3), made(api.L1, 0, api.L3, 3, api.L0, 9, api.Star),
	} {
		if label.Same(l, m) || label.Same(m, l) {
			t.Errorf("Same(%v, %v): yes", l, m)
		}
	}
	if label.Same(made(api.L1), made(api.L2)) {
		t.Error("Same of unlike Defaults alone: yes")
	}
	if !label.Same(l, made(api.L1, 3, api.L0, 9, api.Star)) || !label.Same(made(api.L2), api.Label{Default: api.L2, Pairs: []api.Pair{}}) {
		t.Error("Same of like labels: no")
	}
}

func TestSameOfEveryTwoLabels(t *testing.T) {
	for _, all := range [][]api.Label{smallLabels(), greatLabels()} {
		for i, a := range all {
			for k, b := range all {
				if got := label.Same(a, b); got != isOne(a, b) {
					t.Errorf("Same of labels %d and %d: %v", i, k, got)
				}
			}
		}
	}
}

// P5.2 Flows, Join, Meet

func TestFlowsOfFewPairs(t *testing.T) {
	a, b := made(api.L1, 3, api.L0, 5, api.L3), made(api.L1, 3, api.L3, 7, api.Star)
	for i, x := range []struct {
		a, b api.Label
		want bool
	}{
		{a, a, true}, {a, b, false}, {b, a, false}, {b, made(api.L1, 3, api.L3), true}, {made(api.L1, 3, api.L0), made(api.L1, 3, api.L3), true},
		{made(api.L1), made(api.L2), true}, {made(api.L2), made(api.L1), false}, {made(api.L2), made(api.L1, 3, api.L3), false},
		{made(api.L1, 3, api.Star), made(api.L1), true}, {made(api.L1), made(api.L1, 3, api.Star), false},
		{made(api.L1), made(api.L1, 0, api.L0), false}, {made(api.L1), made(api.L1, 65535, api.L0), false},
		{made(api.L1, 0, api.L2), made(api.L1), false}, {made(api.L1, 65535, api.L2), made(api.L1), false},
		{made(api.L1, 65535, api.L3), made(api.L2, 65535, api.High), true}, {made(api.High), made(api.L1), false}, {made(api.Star), made(api.High), true},
		{made(api.L2, 1, api.L0), made(api.L1, 1, api.L0), false}, {made(api.L1, 1, api.L3), made(api.L2, 2, api.L3), false}, {made(api.L1, 1, api.L3), made(api.L3, 2, api.L1), true},
	} {
		if got := label.Flows(x.a, x.b); got != x.want {
			t.Errorf("%d: Flows(%v, %v): %v", i, x.a, x.b, got)
		}
	}
}

func TestJoinAndMeetOfFewPairs(t *testing.T) {
	a, b := made(api.L1, 3, api.L0, 5, api.L3), made(api.L1, 3, api.L3, 7, api.Star)
	two := made(api.L2, 3, api.L0, 9, api.L1)
	want(t, "Join", label.Join(a, b), made(api.L1, 3, api.L3, 5, api.L3))
	want(t, "Meet", label.Meet(a, b), made(api.L1, 3, api.L0, 7, api.Star))
	want(t, "Join of unlike Defaults", label.Join(a, two), made(api.L2, 3, api.L0, 5, api.L3, 9, api.L1))
	want(t, "Meet of unlike Defaults", label.Meet(a, two), made(api.L1, 3, api.L0, 5, api.L2))
	want(t, "Join with none", label.Join(a, made(api.L1)), made(api.L1, 5, api.L3))
	want(t, "Meet of none with some", label.Meet(made(api.L1), a), made(api.L1, 3, api.L0))
	want(t, "Join of none", label.Join(made(api.Star), made(api.L0)), made(api.L0))
	want(t, "Meet of none", label.Meet(made(api.High), made(api.L3)), made(api.L3))
}

// holdTwo asks what Flows, Join and Meet tell of a and b, level by level.
func holdTwo(t *testing.T, a, b api.Label) {
	t.Helper()
	inA, inB := told(a), told(b)
	flows, join, meet := true, make([]uint8, allCats), make([]uint8, allCats)
	for c := range allCats {
		flows = flows && inA[c] <= inB[c]
		join[c], meet[c] = max(inA[c], inB[c]), min(inA[c], inB[c])
	}
	if got := label.Flows(a, b); got != flows {
		t.Errorf("Flows of %d with %d pairs to %d with %d pairs: %v", a.Default, len(a.Pairs), b.Default, len(b.Pairs), got)
	}
	want(t, "Join", label.Join(a, b), labelOf(max(a.Default, b.Default), join))
	want(t, "Meet", label.Meet(a, b), labelOf(min(a.Default, b.Default), meet))
}

func TestFlowsJoinMeetOfEveryTwoGreatLabels(t *testing.T) {
	for _, a := range greatLabels() {
		for _, b := range greatLabels() {
			holdTwo(t, a, b)
		}
	}
}

func TestFlowsOfGreatLabelsThatDifferInOne(t *testing.T) {
	for _, b := range greatLabels() {
		says := told(b)
		for _, c := range []uint16{0, 20, 65535} {
			for _, lev := range levels() {
				a := slices.Clone(says)
				a[c] = lev
				holdTwo(t, labelOf(b.Default, a), b)
			}
		}
	}
}

func TestFlowsWherePairsNameEveryCategory(t *testing.T) {
	low, high := count(0, 1, allCats, api.L0), count(0, 1, allCats, api.L3)
	a, b := api.Label{Default: api.L2, Pairs: low}, api.Label{Default: api.L1, Pairs: high}
	if !label.Flows(a, b) || label.Flows(b, a) {
		t.Error("no category has the Defaults")
	}
	// The categories of the one end where those of the other begin.
	half := api.Label{Default: api.L2, Pairs: low[:allCats/2]}
	if !label.Flows(half, api.Label{Default: api.L1, Pairs: high[allCats/2:]}) {
		t.Error("no category has both Defaults")
	}
	for _, c := range []int{0, 1, 32768, 65535} {
		most := slices.Delete(slices.Clone(low), c, c+1)
		rest := slices.Delete(slices.Clone(high), c, c+1)
		if label.Flows(api.Label{Default: api.L2, Pairs: most}, api.Label{Default: api.L1, Pairs: rest}) {
			t.Errorf("%d has the Defaults", c)
		}
	}
}

// eachTwoSmall calls try with every two small labels, and their levels at 3, at 65535 and at all others.
func eachTwoSmall(try func(a, b api.Label, inA, inB [3]uint8)) {
	all := smallLabels()
	says := make([][3]uint8, len(all))
	for i, l := range all {
		m := told(l)
		says[i] = [3]uint8{m[3], m[65535], l.Default}
	}
	for i, a := range all {
		for k, b := range all {
			try(a, b, says[i], says[k])
		}
	}
}

// smallOf answers the label of these levels at 3, at 65535 and at all others.
func smallOf(says [3]uint8) api.Label {
	l := api.Label{Default: says[2]}
	for i, c := range []uint16{3, 65535} {
		if says[i] != l.Default {
			l.Pairs = append(l.Pairs, api.Pair{Cat: c, Level: says[i]})
		}
	}
	return l
}

func TestFlowsJoinMeetOfEveryTwoSmallLabels(t *testing.T) {
	eachTwoSmall(func(a, b api.Label, inA, inB [3]uint8) {
		flows := true
		var join, meet [3]uint8
		for i := range inA {
			flows = flows && level.Flows(inA[i], inB[i])
			join[i], meet[i] = level.Max(inA[i], inB[i]), level.Min(inA[i], inB[i])
		}
		if got := label.Flows(a, b); got != flows {
			t.Errorf("Flows(%v, %v): %v", a, b, got)
		}
		want(t, "Join", label.Join(a, b), smallOf(join))
		want(t, "Meet", label.Meet(a, b), smallOf(meet))
	})
}

func TestLabelsMakeALattice(t *testing.T) {
	eachTwoSmall(func(a, b api.Label, _, _ [3]uint8) {
		join, meet := label.Join(a, b), label.Meet(a, b)
		if !isOne(join, label.Join(b, a)) || !isOne(meet, label.Meet(b, a)) {
			t.Errorf("%v and %v: the other way round is another", a, b)
		}
		if !isOne(label.Join(a, meet), a) || !isOne(label.Meet(a, join), a) {
			t.Errorf("%v and %v: Join and Meet do not take each other up", a, b)
		}
		if !label.Flows(a, join) || !label.Flows(b, join) || !label.Flows(meet, a) || !label.Flows(meet, b) {
			t.Errorf("%v and %v: do not lie between Meet and Join", a, b)
		}
		if flows := label.Flows(a, b); flows != isOne(join, b) || flows != isOne(meet, a) {
			t.Errorf("%v and %v: Flows, Join and Meet tell different orders", a, b)
		}
	})
}

// P5.2 Rise

func TestRiseOfFewPairs(t *testing.T) {
	for _, x := range []struct{ l, want api.Label }{
		{made(api.L1), made(api.L1)},
		{made(api.L1, 3, api.L0, 5, api.L3), made(api.L1, 3, api.L0, 5, api.L3)},
		{made(api.L1, 3, api.Star, 5, api.L0, 9, api.Star), made(api.L1, 3, api.High, 5, api.L0, 9, api.High)},
		{made(api.L1, 0, api.Star, 65535, api.Star), made(api.L1, 0, api.High, 65535, api.High)},
		{made(api.L1, 3, api.Star, 5, api.High), made(api.L1, 3, api.High, 5, api.High)},
		{made(api.Star), made(api.High)},
		{made(api.Star, 3, api.L1, 5, api.High, 9, api.L3), made(api.High, 3, api.L1, 9, api.L3)},
		{made(api.High, 3, api.L1, 5, api.Star, 9, api.L3), made(api.High, 3, api.L1, 9, api.L3)},
		{made(api.High, 5, api.Star), made(api.High)},
	} {
		want(t, "Rise", label.Rise(x.l), x.want)
	}
}

func TestRiseOfEveryLabel(t *testing.T) {
	for _, l := range append(smallLabels(), greatLabels()...) {
		says := told(l)
		for c := range says {
			if says[c] == api.Star {
				says[c] = api.High
			}
		}
		want(t, "Rise", label.Rise(l), labelOf(level.Rise(l.Default), says))
	}
}

// P5.2 Stars

func TestStarsOfFewPairs(t *testing.T) {
	for _, x := range []struct {
		l    api.Label
		want []uint16
	}{
		{made(api.L1), nil},
		{made(api.L1, 3, api.L0, 5, api.L3, 7, api.High), nil},
		{made(api.L1, 3, api.Star), []uint16{3}},
		{made(api.L1, 0, api.Star, 5, api.L0, 9, api.Star, 65535, api.Star), []uint16{0, 9, 65535}},
		{made(api.Star), nil},
		{made(api.Star, 3, api.L1, 5, api.High), nil},
	} {
		if got := label.Stars(x.l); !slices.Equal(got, x.want) {
			t.Errorf("Stars(%v): %v, want %v", x.l, got, x.want)
		}
	}
}

func TestStarsOfEveryLabel(t *testing.T) {
	for i, l := range append(smallLabels(), greatLabels()...) {
		var stars []uint16
		for c, lev := range told(l) {
			if lev == api.Star && l.Default != api.Star {
				stars = append(stars, uint16(c))
			}
		}
		if got := label.Stars(l); !slices.Equal(got, stars) {
			t.Errorf("label %d: Stars: %d categories, want %d", i, len(got), len(stars))
		}
	}
}

// R1, R4

// tell answers what every call tells of two labels.
func tell(a, b api.Label) (labels []api.Label, bits []bool, levs []uint8, stars []uint16) {
	labels = []api.Label{label.Make(a.Default, a.Pairs), label.Make(api.L3, a.Pairs), label.Join(a, b), label.Meet(a, b), label.Rise(a)}
	for _, c := range []uint16{0, 3, 4, 9, 65535} {
		levs = append(levs, label.At(a, c))
		for _, lev := range []uint8{api.Star, api.L1, api.L3, api.High, 255, a.Default} {
			labels = append(labels, label.Set(a, c, lev))
		}
	}
	return labels, []bool{label.May(a), label.Flows(a, b), label.Same(a, b)}, levs, label.Stars(a)
}

// memoryLabels answers labels for which it is looked at what memory is theirs: such as may be, and others.
func memoryLabels() []api.Label {
	out := []api.Label{
		{Default: api.L1, Pairs: []api.Pair{}}, made(api.L1, 3, api.L3), made(api.L1, 3, api.Star, 4, api.L0, 9, api.L2), made(api.L2, 0, api.L0, 65535, api.L0),
		made(api.Star, 3, api.High), made(api.High, 3, api.Star, 9, api.L1), mixed(api.L1, 0, 1, api.MaxPairs), mixed(api.L3, 3, 7, api.MaxPairs+1),
	}
	for _, l := range badLabels() {
		if len(l.Pairs) <= 20 {
			out = append(out, l)
		}
	}
	return out
}

func TestWhateverLabelsCallsEndAndTellTheSame(t *testing.T) {
	every := slices.Concat(badLabels(), memoryLabels(), []api.Label{{}, made(api.L1), mixed(api.L1, 0, 1, allCats), mixed(api.L2, 1, 2, 300)})
	for i, a := range every {
		for k, b := range every {
			// Great ones take their time: each with a few others will do.
			if len(a.Pairs)+len(b.Pairs) > 1000 && i%8 != k%8 {
				continue
			}
			labels1, bits1, levs1, stars1 := tell(a, b)
			labels2, bits2, levs2, stars2 := tell(a, b)
			if !slices.EqualFunc(labels1, labels2, isOne) || !slices.Equal(bits1, bits2) || !slices.Equal(levs1, levs2) || !slices.Equal(stars1, stars2) {
				t.Errorf("labels %d and %d: told two things", i, k)
			}
		}
	}
}

func TestWhateverPairsCallsEnd(t *testing.T) {
	seed := uint32(3)
	random := func(size int) api.Label {
		l := api.Label{Default: uint8(size % 9), Pairs: make([]api.Pair, size)}
		for i := range l.Pairs {
			seed = seed*1664525 + 1013904223
			l.Pairs[i] = api.Pair{Cat: uint16(seed>>16) % 40, Level: uint8(seed>>8) % 8}
		}
		return l
	}
	for n := range 3000 {
		a, b := random(n%23), random(n%19)
		tell(a, b)
		if l := label.Make(api.L1, a.Pairs); !isOne(l, label.Make(api.L1, l.Pairs)) {
			t.Fatalf("Make(%v): %v, made again another", a.Pairs, l)
		}
	}
}

// R3

// spare fills spare room, so that a write into it shows.
func spare() api.Pair { return api.Pair{Cat: 0xa5a5, Level: 0xa5} }

// roomy answers l with spare room behind its pairs, all of it filled.
func roomy(l api.Label) api.Label {
	whole := append(slices.Clone(l.Pairs), slices.Repeat([]api.Pair{spare()}, 5)...)
	return api.Label{Default: l.Default, Pairs: whole[:len(l.Pairs)]}
}

// whole answers a copy of l's pairs and of their spare room.
func whole(l api.Label) []api.Pair { return slices.Clone(l.Pairs[:cap(l.Pairs)]) }

// scribble overwrites l's pairs and their spare room.
func scribble(l api.Label) {
	all := l.Pairs[:cap(l.Pairs)]
	for i := range all {
		all[i].Cat, all[i].Level = ^all[i].Cat, ^all[i].Level
	}
}

// copies answers copies of labels, which share no memory with them.
func copies(l []api.Label) []api.Label {
	var out []api.Label
	for _, x := range l {
		out = append(out, api.Label{Default: x.Default, Pairs: slices.Clone(x.Pairs)})
	}
	return out
}

// eachTwoMemory calls try with every two of memoryLabels.
func eachTwoMemory(try func(x, y api.Label)) {
	for _, x := range memoryLabels() {
		for _, y := range memoryLabels() {
			try(x, y)
		}
	}
}

func TestWhatIsHandedInIsNotChanged(t *testing.T) {
	eachTwoMemory(func(x, y api.Label) {
		a, b := roomy(x), roomy(y)
		wasA, wasB := whole(a), whole(b)
		tell(a, b)
		if !slices.Equal(whole(a), wasA) || !slices.Equal(whole(b), wasB) {
			t.Errorf("%v and %v: changed", x, y)
		}
	})
}

func TestWhatIsToldIsNewMemory(t *testing.T) {
	eachTwoMemory(func(x, y api.Label) {
		a, b := roomy(x), roomy(y)
		wasA, wasB := whole(a), whole(b)
		labels, _, _, stars := tell(a, b)
		wantLabels, wantStars := copies(labels), slices.Clone(stars)
		for _, l := range labels {
			scribble(l)
		}
		for i := range stars {
			stars[i] = ^stars[i]
		}
		if !slices.Equal(whole(a), wasA) || !slices.Equal(whole(b), wasB) {
			t.Errorf("%v and %v: an answer is what was handed in", x, y)
		}
		labels, _, _, stars = tell(a, b)
		if !slices.EqualFunc(labels, wantLabels, isOne) || !slices.Equal(stars, wantStars) {
			t.Errorf("%v and %v: an answer is one that was told ahead", x, y)
		}
	})
}

func TestWhatIsHandedInIsNotKept(t *testing.T) {
	eachTwoMemory(func(x, y api.Label) {
		a, b := roomy(x), roomy(y)
		labels, _, _, stars := tell(a, b)
		scribble(a)
		scribble(b)
		wantLabels, _, _, wantStars := tell(x, y)
		if !slices.EqualFunc(labels, wantLabels, isOne) || !slices.Equal(stars, wantStars) {
			t.Errorf("%v and %v: an answer changed with what was handed in", x, y)
		}
	})
}

func TestNilAndEmptyAreOne(t *testing.T) {
	for _, def := range levels() {
		none, empty := api.Label{Default: def}, api.Label{Default: def, Pairs: []api.Pair{}}
		if !label.Same(none, empty) || !label.Same(empty, none) {
			t.Errorf("Same of Default %d alone: no", def)
		}
		for _, l := range memoryLabels() {
			for i, two := range [][2]api.Label{{none, l}, {l, none}} {
				other := [][2]api.Label{{empty, l}, {l, empty}}[i]
				labels1, bits1, levs1, stars1 := tell(two[0], two[1])
				labels2, bits2, levs2, stars2 := tell(other[0], other[1])
				if !slices.EqualFunc(labels1, labels2, isOne) || !slices.Equal(bits1, bits2) || !slices.Equal(levs1, levs2) || !slices.Equal(stars1, stars2) {
					t.Errorf("%v with Default %d alone: nil and empty differ", l, def)
				}
			}
		}
	}
}
