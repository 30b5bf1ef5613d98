package sets_test

import (
	"math/bits"
	"slices"
	"testing"

	"transom/api"
	"transom/sets"
)

// allCats is how many categories there are.
const allCats = 1 << 16

// Where a category stands.
const (
	inS = 1 << iota
	inI
	inO
	nowhere = 0
)

// l answers the list of these.
func l(c ...uint16) []uint16 { return c }

// made answers the label of these lists, as they are.
func made(s, i, o []uint16) api.Sets { return api.Sets{S: s, I: i, O: o} }

// count answers the set of n categories from first on, each step above the one ahead.
func count(first, step, n int) []uint16 {
	var out []uint16
	for i := range n {
		out = append(out, uint16(first+i*step))
	}
	return out
}

// alone answers the label whose lists at the places which are list, the others being empty.
func alone(which int, list []uint16) api.Sets {
	return placed(api.Sets{}, which, func([]uint16) []uint16 { return list })
}

// placed answers s with each list at the places which changed by change.
func placed(s api.Sets, which int, change func([]uint16) []uint16) api.Sets {
	if which&inS != 0 {
		s.S = change(s.S)
	}
	if which&inI != 0 {
		s.I = change(s.I)
	}
	if which&inO != 0 {
		s.O = change(s.O)
	}
	return s
}

// with answers s with c behind what stands at the places which.
func with(s api.Sets, which int, c uint16) api.Sets {
	return placed(s, which, func(l []uint16) []uint16 { return append(slices.Clone(l), c) })
}

// smallCats answers the categories of small labels, rising.
func smallCats() []uint16 { return []uint16{0, 3, 65535} }

// smallLabels answers every label whose categories are small ones, each of them at one of these places.
func smallLabels(places ...int) []api.Sets {
	out := []api.Sets{{}}
	for _, c := range smallCats() {
		var more []api.Sets
		for _, s := range out {
			for _, where := range places {
				more = append(more, with(s, where, c))
			}
		}
		out = more
	}
	return out
}

// dealt answers the label of n categories, each step above the one ahead, dealt to the places one by one.
func dealt(first, step, n int, places ...int) api.Sets {
	var out api.Sets
	for i, c := range count(first, step, n) {
		out = with(out, places[i%len(places)], c)
	}
	return out
}

// fullLabels answers labels of MaxPairs categories at these places, which share none, some and all of them.
func fullLabels(places ...int) []api.Sets {
	var out []api.Sets
	for turn := range places {
		turned := slices.Concat(places[turn:], places[:turn])
		for _, n := range []int{1, api.MaxPairs - 1, api.MaxPairs} {
			out = append(out, dealt(0, 1, n, turned...), dealt(8, 1, n, turned...), dealt(15, 4096, n, turned...), dealt(65520, 1, n, turned...))
		}
		out = append(out, alone(places[turn], count(0, 1, api.MaxPairs)), alone(places[turn], count(1, 2, api.MaxPairs)))
	}
	return out
}

// greatLabels answers labels of more than MaxPairs categories at these places, which could be but for how many there are.
func greatLabels(places ...int) []api.Sets {
	var out []api.Sets
	for turn := range places {
		turned := slices.Concat(places[turn:], places[:turn])
		out = append(out, dealt(0, 1, api.MaxPairs+1, turned...), dealt(9, 3, 300, turned...))
	}
	// One by one these would be long in the making.
	thirds := [3][]uint16{count(0, 3, 21846), count(1, 3, 21845), count(2, 3, 21845)}
	for i, where := range places {
		out = append(out, alone(where, count(0, 1, allCats)))
		great := alone(where, thirds[i])
		for k, other := range places {
			if k != i {
				great = placed(great, other, func([]uint16) []uint16 { return thirds[k] })
			}
		}
		out = append(out, great)
	}
	return out
}

// each calls try with every two of these labels.
func each(labels []api.Sets, try func(a, b api.Sets)) {
	for _, a := range labels {
		for _, b := range labels {
			try(a, b)
		}
	}
}

// equal tells whether two labels have the same lists.
func equal(a, b api.Sets) bool {
	return slices.Equal(a.S, b.S) && slices.Equal(a.I, b.I) && slices.Equal(a.O, b.O)
}

// marks answers for each category there is at which places it stands in s.
func marks(s api.Sets) []int {
	out := make([]int, allCats)
	for i, list := range [][]uint16{s.S, s.I, s.O} {
		for _, c := range list {
			out[c] |= 1 << i
		}
	}
	return out
}

// marked answers the label that has each category at the places of its mark.
func marked(m []int) api.Sets {
	var out api.Sets
	for c, where := range m {
		out.S = appendAt(out.S, c, where&inS != 0)
		out.I = appendAt(out.I, c, where&inI != 0)
		out.O = appendAt(out.O, c, where&inO != 0)
	}
	return out
}

// appendAt answers l, and c if it stands there.
func appendAt(l []uint16, c int, there bool) []uint16 {
	if !there {
		return l
	}
	return append(l, uint16(c))
}

// brief answers how many categories s has at each place, for what a test says of great labels.
func brief(s api.Sets) [3]int { return [3]int{len(s.S), len(s.I), len(s.O)} }

// P8.1 May

func TestMayOfNothing(t *testing.T) {
	empty := []uint16{}
	for _, s := range []api.Sets{{}, made(empty, empty, empty), made(nil, empty, nil), made(empty, nil, empty)} {
		if !sets.May(s) {
			t.Errorf("May(%#v): no", s)
		}
	}
}

func TestMayOfSetsInOneAlone(t *testing.T) {
	for _, where := range []int{inS, inI, inO} {
		for _, list := range [][]uint16{l(0), l(7), l(65535), l(0, 65535), l(255, 256), l(65534, 65535), l(1, 3, 1000, 32768), count(5, 999, api.MaxCats)} {
			if s := alone(where, list); !sets.May(s) {
				t.Errorf("May(%v): no", s)
			}
		}
	}
}

func TestMayOfSetsInSeveral(t *testing.T) {
	for _, s := range []api.Sets{
		made(l(1, 3), l(2), l(0)), made(l(0), l(65535), nil), made(l(65535), nil, l(0)), made(nil, l(9), l(8)),
		made(l(3), l(2), l(1)), made(l(1, 5), l(2, 6), l(3, 7)), made(l(255), l(256), l(511, 512)),
	} {
		if !sets.May(s) {
			t.Errorf("May(%v): no", s)
		}
	}
}

func TestMayOfEachPlaceOfFewCategories(t *testing.T) {
	every := []int{nowhere, inS, inI, inO, inS | inI, inS | inO, inI | inO, inS | inI | inO}
	for _, s := range smallLabels(every...) {
		want := !slices.ContainsFunc(marks(s), func(where int) bool { return bits.OnesCount(uint(where)) > 1 })
		if got := sets.May(s); got != want {
			t.Errorf("May(%v): %v", s, got)
		}
	}
}

func TestMayNotOfListsThatFallOrHaveOneTwice(t *testing.T) {
	for _, where := range []int{inS, inI, inO} {
		for n := 2; n <= 14; n++ {
			for at := 1; at < n; at++ {
				twice, falls := count(10, 10, n), count(10, 10, n)
				twice[at] = twice[at-1]
				falls[at-1], falls[at] = falls[at], falls[at-1]
				for _, list := range [][]uint16{twice, falls} {
					// The other two are sets that may be, or empty.
					beside := placed(made(l(1), l(3), l(5)), where, func([]uint16) []uint16 { return list })
					if sets.May(beside) || sets.May(alone(where, list)) {
						t.Errorf("May of %v at %d: yes", list, where)
					}
				}
			}
		}
		for _, list := range [][]uint16{l(0, 0), l(65535, 65535), l(65535, 0), l(256, 255), slices.Repeat(l(4), 16), slices.Repeat(l(4), 300)} {
			if sets.May(alone(where, list)) {
				t.Errorf("May of %v at %d: yes", list, where)
			}
		}
	}
}

func TestMayNotOfACategoryInTwoOfThem(t *testing.T) {
	for _, where := range []int{inS | inI, inS | inO, inI | inO, inS | inI | inO} {
		for _, c := range []uint16{0, 1, 7, 255, 256, 65535} {
			if s := alone(where, l(c)); sets.May(s) {
				t.Errorf("May(%v): yes", s)
			}
		}
	}
	for at := range 5 {
		for other := range 5 {
			// They share 1000 alone, which may stand anywhere in either.
			x, y := count(1000-10*at, 10, 5), count(1000-7*other, 7, 5)
			for _, s := range []api.Sets{made(x, y, nil), made(x, nil, y), made(nil, x, y), made(x, y, l(1)), made(x, l(1), y), made(l(1), x, y)} {
				if sets.May(s) {
					t.Errorf("May(%v): yes", s)
				}
			}
		}
	}
}

func TestMayOfAtMostMaxPairsHoweverSpread(t *testing.T) {
	for s := range api.MaxPairs + 3 {
		for i := range api.MaxPairs + 3 {
			for o := range api.MaxPairs + 3 {
				want := s+i+o <= api.MaxPairs
				blocks := made(count(0, 1, s), count(100, 1, i), count(65536-o, 1, o))
				woven := made(count(0, 3, s), count(1, 3, i), count(2, 3, o))
				if got := sets.May(blocks); got != want {
					t.Errorf("May of %v: %v", blocks, got)
				}
				if got := sets.May(woven); got != want {
					t.Errorf("May of %v: %v", woven, got)
				}
			}
		}
	}
}

func TestMayNotOfOneSetOfMoreThanMaxCats(t *testing.T) {
	for _, where := range []int{inS, inI, inO} {
		for _, n := range []int{api.MaxCats + 1, api.MaxCats + 2, 255, 256, 256 + 5, allCats} {
			if sets.May(alone(where, count(0, 1, n))) {
				t.Errorf("May of %d categories at %d: yes", n, where)
			}
		}
	}
}

// P8.1 Same

func TestSameOfEveryTwoSmallLabels(t *testing.T) {
	labels, again := smallLabels(nowhere, inS, inI, inO), smallLabels(nowhere, inS, inI, inO)
	for i, a := range labels {
		for k, b := range again {
			if got := sets.Same(a, b); got != (i == k) {
				t.Errorf("Same(%v, %v): %v", a, b, got)
			}
		}
	}
}

func TestSameOfLabelsThatDifferInOneAlone(t *testing.T) {
	rest, list := made(l(1), l(3), l(5)), l(20, 40, 60)
	for _, where := range []int{inS, inI, inO} {
		beside := func(list []uint16) api.Sets {
			return placed(rest, where, func([]uint16) []uint16 { return list })
		}
		if a, b := beside(list), beside(slices.Clone(list)); !sets.Same(a, b) {
			t.Errorf("Same(%v, %v): no", a, b)
		}
		for _, other := range [][]uint16{
			nil, {20}, {40}, {60}, {20, 40}, {20, 60}, {40, 60}, {19, 40, 60}, {20, 41, 60}, {20, 40, 61},
			{0, 20, 40, 60}, {20, 30, 40, 60}, {20, 40, 50, 60}, {20, 40, 60, 65535}, {20 + 256, 40 + 256, 60 + 256},
		} {
			if a, b := beside(list), beside(other); sets.Same(a, b) || sets.Same(b, a) {
				t.Errorf("Same(%v, %v): yes", a, b)
			}
		}
	}
}

func TestSameOfTheSameCategoriesElsewhere(t *testing.T) {
	list, rest := l(1, 3), l(2)
	for _, x := range []int{inS, inI, inO} {
		for _, y := range []int{inS, inI, inO} {
			if got := sets.Same(alone(x, list), alone(y, list)); got != (x == y) {
				t.Errorf("Same of %v at %d and at %d: %v", list, x, y, got)
			}
		}
	}
	if sets.Same(made(list, rest, nil), made(rest, list, nil)) || sets.Same(made(nil, list, rest), made(nil, rest, list)) || sets.Same(made(list, nil, rest), made(rest, nil, list)) {
		t.Error("Same of labels whose sets are exchanged: yes")
	}
	// The same categories in the same order, cut elsewhere.
	if sets.Same(made(l(1, 2), l(3), nil), made(l(1), l(2, 3), nil)) || sets.Same(made(nil, l(1, 2), l(3)), made(nil, l(1), l(2, 3))) {
		t.Error("Same of labels that are cut elsewhere: yes")
	}
}

func TestSameOfFullAndGreatLabels(t *testing.T) {
	labels := slices.Concat(fullLabels(inS, inI, inO), greatLabels(inS, inI, inO))
	each(labels, func(a, b api.Sets) {
		if got := sets.Same(a, b); got != equal(a, b) {
			t.Errorf("Same of labels of %v and %v: %v", brief(a), brief(b), got)
		}
	})
}

// P8.1 Flows, Join

// openLabels answers labels with an empty O: all small ones, full ones, great ones.
func openLabels() []api.Sets {
	return slices.Concat(smallLabels(nowhere, inS, inI), fullLabels(inS, inI), []api.Sets{dealt(0, 1, api.MaxPairs+1, inS, inI), dealt(9, 3, 300, inI, inS)})
}

func TestFlowsOfFewCategories(t *testing.T) {
	for _, x := range []struct {
		a, b api.Sets
		want bool
	}{
		{api.Sets{}, api.Sets{}, true},
		// S alone: a's is in b's.
		{api.Sets{}, made(l(3), nil, nil), true},
		{made(l(3), nil, nil), api.Sets{}, false},
		{made(l(3), nil, nil), made(l(3), nil, nil), true},
		{made(l(3), nil, nil), made(l(4), nil, nil), false},
		{made(l(3), nil, nil), made(l(0, 3, 65535), nil, nil), true},
		{made(l(0, 3, 65535), nil, nil), made(l(0, 65535), nil, nil), false},
		// I alone: b's is in a's.
		{made(nil, l(4), nil), api.Sets{}, true},
		{api.Sets{}, made(nil, l(4), nil), false},
		{made(nil, l(4), nil), made(nil, l(4), nil), true},
		{made(nil, l(4), nil), made(nil, l(5), nil), false},
		{made(nil, l(0, 4, 65535), nil), made(nil, l(4), nil), true},
		{made(nil, l(0, 65535), nil), made(nil, l(0, 4, 65535), nil), false},
		// Both.
		{made(l(1), l(2, 4), nil), made(l(1, 3), l(4), nil), true},
		{made(l(1, 3), l(2, 4), nil), made(l(1), l(4), nil), false},
		{made(l(1), l(4), nil), made(l(1, 3), l(2, 4), nil), false},
		{made(l(1, 3), l(4), nil), made(l(1), l(2, 4), nil), false},
		// What is seen and what vouches are not held against each other.
		{made(l(3), nil, nil), made(nil, l(3), nil), false},
		{made(nil, l(3), nil), made(l(3), nil, nil), true},
	} {
		if got := sets.Flows(x.a, x.b); got != x.want {
			t.Errorf("Flows(%v, %v): %v", x.a, x.b, got)
		}
	}
}

func TestJoinOfFewCategories(t *testing.T) {
	for _, x := range []struct{ a, b, want api.Sets }{
		{api.Sets{}, api.Sets{}, api.Sets{}},
		{made(l(3), nil, nil), api.Sets{}, made(l(3), nil, nil)},
		{made(nil, l(4), nil), api.Sets{}, api.Sets{}},
		{made(l(1), nil, nil), made(l(0, 65535), nil, nil), made(l(0, 1, 65535), nil, nil)},
		{made(nil, l(0, 2, 65535), nil), made(nil, l(0, 3, 65535), nil), made(nil, l(0, 65535), nil)},
		{made(l(1), l(2, 4), nil), made(l(3), l(4, 5), nil), made(l(1, 3), l(4), nil)},
		{made(l(3), nil, nil), made(nil, l(3), nil), made(l(3), nil, nil)},
		{made(l(3), l(4), nil), made(l(4), l(3), nil), made(l(3, 4), nil, nil)},
		{made(l(1, 3), l(2, 4), nil), made(l(1, 3), l(2, 4), nil), made(l(1, 3), l(2, 4), nil)},
	} {
		if got := sets.Join(x.a, x.b); !equal(got, x.want) {
			t.Errorf("Join(%v, %v): %v", x.a, x.b, got)
		}
		if got := sets.Join(x.b, x.a); !equal(got, x.want) {
			t.Errorf("Join(%v, %v): %v", x.b, x.a, got)
		}
	}
}

// holdFlowsAndJoin asks that both calls tell what each category's places, one by one, say.
func holdFlowsAndJoin(t *testing.T, a, b api.Sets) {
	t.Helper()
	flows, join := true, make([]int, allCats)
	inA, inB := marks(a), marks(b)
	for c := range allCats {
		flows = flows && inA[c]&inS <= inB[c]&inS && inB[c]&inI <= inA[c]&inI
		join[c] = (inA[c]|inB[c])&inS | inA[c]&inB[c]&inI
	}
	if got := sets.Flows(a, b); got != flows {
		t.Errorf("Flows of labels of %v and %v: %v", brief(a), brief(b), got)
	}
	if got := sets.Join(a, b); !equal(got, marked(join)) {
		t.Errorf("Join of labels of %v and %v: %v", brief(a), brief(b), brief(got))
	}
}

func TestFlowsAndJoinOfEveryTwoSmallLabels(t *testing.T) {
	each(smallLabels(nowhere, inS, inI), func(a, b api.Sets) { holdFlowsAndJoin(t, a, b) })
}

func TestFlowsAndJoinOfEveryTwoFullLabels(t *testing.T) {
	each(fullLabels(inS, inI), func(a, b api.Sets) { holdFlowsAndJoin(t, a, b) })
}

func TestFlowsAndJoinOfEveryTwoGreatLabels(t *testing.T) {
	each(append(greatLabels(inS, inI), made(l(65535), l(0), nil)), func(a, b api.Sets) { holdFlowsAndJoin(t, a, b) })
}

func TestFlowsWhereOneCategoryOfManyDiffers(t *testing.T) {
	for _, a := range fullLabels(inS, inI) {
		for at, c := range a.S {
			b := made(slices.Delete(slices.Clone(a.S), at, at+1), a.I, nil)
			if sets.Flows(a, b) || !sets.Flows(b, a) {
				t.Errorf("%v: with and without %d in S: %v, %v", a, c, sets.Flows(a, b), sets.Flows(b, a))
			}
		}
		for at, c := range a.I {
			b := made(a.S, slices.Delete(slices.Clone(a.I), at, at+1), nil)
			if !sets.Flows(a, b) || sets.Flows(b, a) {
				t.Errorf("%v: with and without %d in I: %v, %v", a, c, sets.Flows(a, b), sets.Flows(b, a))
			}
		}
	}
}

func TestFlowsIsAnOrder(t *testing.T) {
	labels := openLabels()
	for _, a := range labels {
		if !sets.Flows(a, a) {
			t.Errorf("%v does not flow to itself", a)
		}
	}
	each(labels, func(a, b api.Sets) {
		if sets.Flows(a, b) && sets.Flows(b, a) && !sets.Same(a, b) {
			t.Errorf("%v and %v flow to each other", a, b)
		}
		if !sets.Flows(a, b) {
			return
		}
		for _, c := range labels {
			if sets.Flows(b, c) && !sets.Flows(a, c) {
				t.Errorf("%v flows to %v, that to %v, and the first not to the last", a, b, c)
			}
		}
	})
}

func TestAJoinIsTheLowestAboveBoth(t *testing.T) {
	labels := openLabels()
	each(labels, func(a, b api.Sets) {
		join := sets.Join(a, b)
		if !sets.Flows(a, join) || !sets.Flows(b, join) {
			t.Errorf("Join(%v, %v): %v is not above both", a, b, join)
		}
		if sets.Same(join, b) != sets.Flows(a, b) {
			t.Errorf("Join(%v, %v): %v, Flows %v", a, b, join, sets.Flows(a, b))
		}
		for _, c := range labels {
			if sets.Flows(a, c) && sets.Flows(b, c) && !sets.Flows(join, c) {
				t.Errorf("Join(%v, %v): %v is not below %v", a, b, join, c)
			}
		}
	})
}

func TestAJoinMayBeButForHowMany(t *testing.T) {
	each(slices.Concat(smallLabels(nowhere, inS, inI), fullLabels(inS, inI)), func(a, b api.Sets) {
		join := sets.Join(a, b)
		if few := len(join.S)+len(join.I) <= api.MaxPairs; sets.May(join) != few || len(join.O) != 0 {
			t.Errorf("Join(%v, %v): %v, May %v", a, b, join, sets.May(join))
		}
	})
}

// P8.1 Add

func TestAddTellsTheExample(t *testing.T) {
	if got := sets.Add(made(l(3), nil, nil), 3); !equal(got, made(nil, nil, l(3))) {
		t.Errorf("Add({S: {3}}, 3): %v", got)
	}
}

func TestAddOfFewCategories(t *testing.T) {
	a, ends := made(l(3, 5), l(4, 8), l(2, 9)), made(l(0), l(65535), l(7))
	for _, x := range []struct {
		s    api.Sets
		c    uint16
		want api.Sets
	}{
		{api.Sets{}, 0, made(nil, nil, l(0))},
		{api.Sets{}, 65535, made(nil, nil, l(65535))},
		{made(nil, l(3), nil), 3, made(nil, nil, l(3))},
		{made(nil, nil, l(3)), 3, made(nil, nil, l(3))},
		{a, 3, made(l(5), l(4, 8), l(2, 3, 9))},
		{a, 5, made(l(3), l(4, 8), l(2, 5, 9))},
		{a, 4, made(l(3, 5), l(8), l(2, 4, 9))},
		{a, 8, made(l(3, 5), l(4), l(2, 8, 9))},
		{a, 2, a},
		{a, 9, a},
		{a, 7, made(l(3, 5), l(4, 8), l(2, 7, 9))},
		{a, 0, made(l(3, 5), l(4, 8), l(0, 2, 9))},
		{a, 65535, made(l(3, 5), l(4, 8), l(2, 9, 65535))},
		{ends, 0, made(nil, l(65535), l(0, 7))},
		{ends, 65535, made(l(0), nil, l(7, 65535))},
		{made(l(65535), l(0), nil), 65535, made(nil, l(0), l(65535))},
		{made(l(65535), l(0), nil), 0, made(l(65535), nil, l(0))},
		{made(l(3), nil, l(0, 65535)), 0, made(l(3), nil, l(0, 65535))},
		{made(nil, l(3), l(0, 65535)), 65535, made(nil, l(3), l(0, 65535))},
	} {
		if got := sets.Add(x.s, x.c); !equal(got, x.want) {
			t.Errorf("Add(%v, %d): %v", x.s, x.c, got)
		}
	}
}

// holdAdd asks that c is in O alone, all else as it was, and that adding it again changes nothing.
func holdAdd(t *testing.T, s api.Sets, c uint16) {
	t.Helper()
	m := marks(s)
	m[c] = inO
	got := sets.Add(s, c)
	if !equal(got, marked(m)) {
		t.Errorf("Add to a label of %v, %d: one of %v", brief(s), c, brief(got))
	}
	if again := sets.Add(got, c); !equal(again, got) {
		t.Errorf("Add to a label of %v, %d twice: one of %v, then of %v", brief(s), c, brief(got), brief(again))
	}
	if few := len(got.S)+len(got.I)+len(got.O) <= api.MaxPairs; sets.May(got) != few {
		t.Errorf("Add to a label of %v, %d: May of what is told: %v", brief(s), c, !few)
	}
}

func TestAddOfEverySmallLabel(t *testing.T) {
	for _, s := range smallLabels(nowhere, inS, inI, inO) {
		for _, c := range append(smallCats(), 1, 1000, 65534) {
			holdAdd(t, s, c)
		}
	}
}

func TestAddOfFullLabels(t *testing.T) {
	for _, s := range fullLabels(inS, inI, inO) {
		for _, c := range slices.Concat(l(0, 30000, 65535), s.S, s.I, s.O) {
			holdAdd(t, s, c)
		}
	}
}

func TestAddOfGreatLabels(t *testing.T) {
	for _, s := range greatLabels(inS, inI, inO) {
		for _, c := range l(0, 1, 2, 9, 12, 15, 300, 32768, 65533, 65534, 65535) {
			holdAdd(t, s, c)
		}
	}
}

func TestAddInAnyOrderIsTheSame(t *testing.T) {
	for _, s := range smallLabels(nowhere, inS, inI, inO) {
		for _, c := range append(smallCats(), 7) {
			for _, d := range append(smallCats(), 7) {
				if x, y := sets.Add(sets.Add(s, c), d), sets.Add(sets.Add(s, d), c); !sets.Same(x, y) {
					t.Errorf("Add to %v of %d, %d: %v, and %v the other way", s, c, d, x, y)
				}
			}
		}
	}
}

// R1, R4

// answers is what every call tells of two labels and a category.
type answers struct {
	may, same, flows bool
	join, add        api.Sets
}

// tell answers what every call tells of two labels and a category.
func tell(a, b api.Sets, c uint16) answers {
	return answers{sets.May(a), sets.Same(a, b), sets.Flows(a, b), sets.Join(a, b), sets.Add(a, c)}
}

// alike tells whether x and y are the same answers.
func alike(x, y answers) bool {
	return x.may == y.may && x.same == y.same && x.flows == y.flows && equal(x.join, y.join) && equal(x.add, y.add)
}

// badLabels answers labels that may not be, also such as have an O.
func badLabels() []api.Sets {
	falls := count(0, 1, 300)
	slices.Reverse(falls)
	out := []api.Sets{made(l(1), l(1), l(1)), made(l(3, 1), l(2, 2), l(65535, 0)), dealt(0, 1, api.MaxPairs+1, inS, inI, inO)}
	for _, where := range []int{inS, inI, inO, inS | inI, inS | inO, inI | inO, inS | inI | inO} {
		for _, list := range [][]uint16{l(3, 3), l(4, 3), l(65535, 0), l(7, 2, 7, 0, 2), slices.Repeat(l(9), 40), count(0, 1, api.MaxCats+1), falls} {
			out = append(out, alone(where, list), placed(made(l(1, 3), l(2), l(9)), where, func([]uint16) []uint16 { return list }))
		}
	}
	return out
}

func TestWhateverLabelsCallsEndAndTellTheSame(t *testing.T) {
	labels := slices.Concat(badLabels(), smallLabels(nowhere, inS, inO), fullLabels(inS, inI, inO)[:6], greatLabels(inS, inI, inO))
	each(labels, func(a, b api.Sets) {
		if !alike(tell(a, b, 3), tell(a, b, 3)) {
			t.Errorf("labels of %v and %v: told two things", brief(a), brief(b))
		}
	})
}

func TestMayNotOfBadLabels(t *testing.T) {
	for _, s := range badLabels() {
		if sets.May(s) {
			t.Errorf("May(%v): yes", s)
		}
	}
}

func TestWhateverListsCallsEnd(t *testing.T) {
	seed := uint32(7)
	random := func(size int) []uint16 {
		out := make([]uint16, size)
		for i := range out {
			seed = seed*1664525 + 1013904223
			out[i] = uint16(seed>>16) % 40
		}
		return out
	}
	for n := range 3000 {
		a, b := made(random(n%7), random(n%5), random(n%3)), made(random(n%11), random(n%4), random(n%19))
		if !alike(tell(a, b, uint16(n%41)), tell(a, b, uint16(n%41))) {
			t.Fatalf("%v and %v: told two things", a, b)
		}
	}
}

// R3

// lists answers the lists of a label.
func lists(s api.Sets) [][]uint16 { return [][]uint16{s.S, s.I, s.O} }

// roomy answers s with spare room behind its lists, all of it filled.
func roomy(s api.Sets) api.Sets {
	return placed(s, inS|inI|inO, func(list []uint16) []uint16 {
		return append(slices.Clone(list), slices.Repeat(l(0xa5a5), 5)...)[:len(list)]
	})
}

// whole answers a copy of s's lists and of their spare room.
func whole(s api.Sets) api.Sets {
	return placed(s, inS|inI|inO, func(list []uint16) []uint16 { return slices.Clone(list[:cap(list)]) })
}

// scribble overwrites a list and its spare room.
func scribble(list []uint16) {
	list = list[:cap(list)]
	for i := range list {
		list[i] = ^list[i]
	}
}

// scribbleAll overwrites s's lists and their spare room.
func scribbleAll(s api.Sets) {
	for _, list := range lists(s) {
		scribble(list)
	}
}

// memoryLabels answers labels for which it is looked at what memory is theirs: such as may be, and others.
func memoryLabels() []api.Sets {
	return slices.Concat(smallLabels(nowhere, inS, inI, inO), fullLabels(inS, inI, inO)[:12], badLabels()[:30])
}

// eachOfMemory calls try with every two of memoryLabels, and with a category that is in some of them.
func eachOfMemory(try func(a, b api.Sets, c uint16)) {
	each(memoryLabels(), func(a, b api.Sets) {
		for _, c := range l(3, 7) {
			try(a, b, c)
		}
	})
}

func TestWhatIsHandedInIsNotChanged(t *testing.T) {
	eachOfMemory(func(x, y api.Sets, c uint16) {
		a, b := roomy(x), roomy(y)
		wasA, wasB := whole(a), whole(b)
		tell(a, b, c)
		if !equal(whole(a), wasA) || !equal(whole(b), wasB) {
			t.Errorf("%v, %v, %d: changed", x, y, c)
		}
	})
}

func TestWhatIsToldIsNewMemory(t *testing.T) {
	eachOfMemory(func(x, y api.Sets, c uint16) {
		a, b := roomy(x), roomy(y)
		wasA, wasB := whole(a), whole(b)
		told := tell(a, b, c)
		scribbleAll(told.join)
		scribbleAll(told.add)
		if !equal(whole(a), wasA) || !equal(whole(b), wasB) {
			t.Errorf("%v, %v, %d: an answer is what was handed in", x, y, c)
		}
	})
}

func TestListsOfOneAnswerShareNoMemory(t *testing.T) {
	eachOfMemory(func(a, b api.Sets, c uint16) {
		told := tell(a, b, c)
		for _, s := range []api.Sets{told.join, told.add} {
			was := whole(s)
			for i, list := range lists(s) {
				scribble(list)
				for k, other := range lists(s) {
					if k != i && !slices.Equal(other[:cap(other)], lists(was)[k]) {
						t.Errorf("%v, %v, %d: lists %d and %d share memory", a, b, c, i, k)
					}
				}
				scribble(list)
			}
		}
	})
}

func TestWhatIsHandedInIsNotKept(t *testing.T) {
	eachOfMemory(func(x, y api.Sets, c uint16) {
		a, b := roomy(x), roomy(y)
		told := tell(a, b, c)
		scribbleAll(a)
		scribbleAll(b)
		if !alike(told, tell(x, y, c)) {
			t.Errorf("%v, %v, %d: an answer changed with what was handed in", x, y, c)
		}
	})
}

func TestOneLabelHandedInTwice(t *testing.T) {
	for _, s := range memoryLabels() {
		a := roomy(s)
		was := whole(a)
		if !sets.Same(a, a) || !alike(tell(a, a, 3), tell(s, roomy(s), 3)) || !equal(whole(a), was) {
			t.Errorf("%v, twice", s)
		}
	}
}

func TestNilAndEmptyAreOne(t *testing.T) {
	for _, where := range []int{inS, inI, inO, inS | inI, inS | inO, inI | inO, inS | inI | inO} {
		for _, s := range memoryLabels() {
			none := placed(s, where, func([]uint16) []uint16 { return nil })
			empty := placed(s, where, func([]uint16) []uint16 { return []uint16{} })
			if !sets.Same(none, empty) || !sets.Same(empty, none) {
				t.Errorf("Same(%#v, %#v): no", none, empty)
			}
			for _, other := range []api.Sets{{}, s, made(l(3), l(0), nil)} {
				if !alike(tell(none, other, 3), tell(empty, other, 3)) || !alike(tell(other, none, 3), tell(other, empty, 3)) {
					t.Errorf("%v with %v: nil and empty differ", none, other)
				}
			}
		}
	}
}
