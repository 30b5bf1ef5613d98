package trans_test

import (
	"slices"
	"testing"

	"transom/api"
	"transom/label"
	"transom/may1"
	"transom/may2"
	"transom/sets"
	"transom/trans"
)

// allCats is how many categories there are.
const allCats = 1 << 16

// l answers the list of these.
func l(c ...uint16) []uint16 { return c }

// made answers the label of these lists, as they are.
func made(s, i, o []uint16) api.Sets { return api.Sets{S: s, I: i, O: o} }

// pair answers a category and its level.
func pair(c uint16, lev uint8) api.Pair { return api.Pair{Cat: c, Level: lev} }

// levels answers the label of this Default and these pairs, as they are.
func levels(def uint8, pairs ...api.Pair) api.Label { return api.Label{Default: def, Pairs: pairs} }

// count answers the set of n categories from first on, each step above the one ahead.
func count(first, step, n int) []uint16 {
	var out []uint16
	for i := range n {
		out = append(out, uint16(first+i*step))
	}
	return out
}

// edgeCats answers the categories at either end, and on either side of what one byte says.
func edgeCats() []uint16 { return []uint16{0, 3, 255, 256, 32768, 65535} }

// both is a label of levels, and the sets that say the same.
type both struct {
	label api.Label
	sets  api.Sets
}

// dealt answers what P11.1 says of categories that rise, each at the level beside it; L1 is at none of the places.
func dealt(cats []uint16, levs []uint8) both {
	out := both{label: levels(api.L1)}
	for i, c := range cats {
		switch levs[i] {
		case api.L1:
			continue
		case api.L3:
			out.sets.S = append(out.sets.S, c)
		case api.L0:
			out.sets.I = append(out.sets.I, c)
		case api.Star:
			out.sets.O = append(out.sets.O, c)
		}
		out.label.Pairs = append(out.label.Pairs, pair(c, levs[i]))
	}
	return out
}

// smallCases answers every label of three categories, the first and the last one among them, each at one of these levels.
func smallCases(levs ...uint8) []both {
	var out []both
	for _, x := range levs {
		for _, y := range levs {
			for _, z := range levs {
				out = append(out, dealt(l(0, 3, 65535), []uint8{x, y, z}))
			}
		}
	}
	return out
}

// spreads answers s times L3, i times L0 and o times Star: in blocks, the other way round, and woven into one another.
func spreads(s, i, o int) [][]uint8 {
	blocks := slices.Concat(slices.Repeat([]uint8{api.L3}, s), slices.Repeat([]uint8{api.L0}, i), slices.Repeat([]uint8{api.Star}, o))
	falls := slices.Clone(blocks)
	slices.Reverse(falls)
	var woven []uint8
	for len(woven) < len(blocks) {
		for _, x := range []struct {
			left *int
			lev  uint8
		}{{&o, api.Star}, {&s, api.L3}, {&i, api.L0}} {
			if *x.left > 0 {
				woven = append(woven, x.lev)
				*x.left--
			}
		}
	}
	return [][]uint8{blocks, falls, woven}
}

// spreadCases answers labels of n categories, however they are spread, at either end of all categories and from end to end.
func spreadCases(n int) []both {
	var out []both
	for s := range n + 1 {
		for i := range n + 1 - s {
			for _, levs := range spreads(s, i, n-s-i) {
				out = append(out, dealt(count(0, 1, n), levs), dealt(count(allCats-n, 1, n), levs), dealt(count(0, (allCats-1)/max(n-1, 1), n), levs))
			}
		}
	}
	return out
}

// cases answers labels and the sets that say the same: of no category, of few, and of MaxPairs.
func cases() []both {
	return slices.Concat(smallCases(api.Star, api.L0, api.L1, api.L3), spreadCases(1), spreadCases(4), spreadCases(api.MaxPairs-1), spreadCases(api.MaxPairs))
}

// sameSets tells whether two labels have the same lists, without the package sets.
func sameSets(a, b api.Sets) bool {
	return slices.Equal(a.S, b.S) && slices.Equal(a.I, b.I) && slices.Equal(a.O, b.O)
}

// sameLabels tells whether two labels have the same Default and pairs, without the package label.
func sameLabels(a, b api.Label) bool {
	return a.Default == b.Default && slices.Equal(a.Pairs, b.Pairs)
}

// isEmpty tells whether none of the three has a category.
func isEmpty(s api.Sets) bool { return len(s.S)+len(s.I)+len(s.O) == 0 }

// holdSplit asks that Split of a answers want.
func holdSplit(t *testing.T, a api.Label, want api.Sets) {
	t.Helper()
	if got, e := trans.Split(a); !sameSets(got, want) || e != api.OK {
		t.Errorf("Split(%v): %v, %d, want %v", a, got, e, want)
	}
}

// holdNone asks that Split of a answers ErrSplit, and beside it nothing.
func holdNone(t *testing.T, a api.Label) {
	t.Helper()
	if got, e := trans.Split(a); !isEmpty(got) || e != api.ErrSplit {
		t.Errorf("Split(%v): %v, %d", a, got, e)
	}
}

// holdBack asks that Back of s answers want.
func holdBack(t *testing.T, s api.Sets, want api.Label) {
	t.Helper()
	if got := trans.Back(s); !sameLabels(got, want) {
		t.Errorf("Back(%v): %v, want %v", s, got, want)
	}
}

func TestTheLabelsOfTheseTests(t *testing.T) {
	for _, x := range cases() {
		if !label.May(x.label) || !sets.May(x.sets) {
			t.Errorf("%v and %v: may not be", x.label, x.sets)
		}
		if n := len(x.sets.S) + len(x.sets.I) + len(x.sets.O); n != len(x.label.Pairs) {
			t.Errorf("%v and %v: not of as many", x.label, x.sets)
		}
	}
	for _, x := range spreadCases(api.MaxPairs) {
		if len(x.label.Pairs) != api.MaxPairs {
			t.Errorf("%v: not of MaxPairs", x.label)
		}
	}
}

// P11.1 Split

func TestSplitOfTheExample(t *testing.T) {
	holdSplit(t, levels(api.L1, pair(3, api.L3)), made(l(3), nil, nil))
}

func TestSplitOfNothing(t *testing.T) {
	holdSplit(t, levels(api.L1), api.Sets{})
}

func TestSplitOfOneCategory(t *testing.T) {
	for _, c := range edgeCats() {
		holdSplit(t, levels(api.L1, pair(c, api.L3)), made(l(c), nil, nil))
		holdSplit(t, levels(api.L1, pair(c, api.L0)), made(nil, l(c), nil))
		holdSplit(t, levels(api.L1, pair(c, api.Star)), made(nil, nil, l(c)))
	}
}

func TestSplitOfSeveralCategories(t *testing.T) {
	for _, x := range []both{
		{levels(api.L1, pair(0, api.L3), pair(3, api.L3), pair(65535, api.L3)), made(l(0, 3, 65535), nil, nil)},
		{levels(api.L1, pair(0, api.L0), pair(3, api.L0), pair(65535, api.L0)), made(nil, l(0, 3, 65535), nil)},
		{levels(api.L1, pair(0, api.Star), pair(3, api.Star), pair(65535, api.Star)), made(nil, nil, l(0, 3, 65535))},
		{levels(api.L1, pair(1, api.L3), pair(2, api.L0)), made(l(1), l(2), nil)},
		{levels(api.L1, pair(1, api.L0), pair(2, api.L3)), made(l(2), l(1), nil)},
		{levels(api.L1, pair(1, api.L3), pair(2, api.Star)), made(l(1), nil, l(2))},
		{levels(api.L1, pair(1, api.Star), pair(2, api.L0)), made(nil, l(2), l(1))},
		{levels(api.L1, pair(0, api.Star), pair(1, api.L0), pair(2, api.L3), pair(255, api.L3), pair(256, api.Star), pair(300, api.L0), pair(65535, api.L3)), made(l(2, 255, 65535), l(1, 300), l(0, 256))},
	} {
		holdSplit(t, x.label, x.sets)
		holdBack(t, x.sets, x.label)
	}
}

func TestSplitOfEveryCase(t *testing.T) {
	for _, x := range cases() {
		holdSplit(t, x.label, x.sets)
	}
}

func TestSplitAnswersSetsThatMayBe(t *testing.T) {
	for _, x := range cases() {
		if s, _ := trans.Split(x.label); !sets.May(s) {
			t.Errorf("Split(%v): %v, which may not be", x.label, s)
		}
	}
}

func TestSplitOfAnotherDefaultIsErrSplit(t *testing.T) {
	for _, def := range []uint8{api.Star, api.L0, api.L2, api.L3} {
		holdNone(t, levels(def))
		for _, c := range edgeCats() {
			for _, lev := range []uint8{api.Star, api.L0, api.L1, api.L2, api.L3} {
				if lev != def {
					holdNone(t, levels(def, pair(c, lev)))
				}
			}
		}
		for _, x := range cases() {
			other := label.Make(def, x.label.Pairs)
			holdNone(t, other)
		}
	}
}

func TestSplitWherePairsAreOfL1ButDefaultIsNotIsErrSplit(t *testing.T) {
	// Pairs bring some categories to L1: those of none are still at Default.
	for _, def := range []uint8{api.L0, api.L2, api.L3} {
		var pairs []api.Pair
		for _, c := range count(0, 4369, api.MaxPairs) {
			pairs = append(pairs, pair(c, api.L1))
		}
		holdNone(t, levels(def, pairs...))
	}
}

func TestSplitOfAPairOfL2IsErrSplit(t *testing.T) {
	for _, c := range edgeCats() {
		holdNone(t, levels(api.L1, pair(c, api.L2)))
	}
	holdNone(t, levels(api.L1, pair(3, api.L3), pair(5, api.L2)))
	holdNone(t, levels(api.L1, pair(3, api.L2), pair(5, api.L3)))
	holdNone(t, levels(api.L1, pair(3, api.L2), pair(5, api.L2)))
	holdNone(t, levels(api.L1, pair(0, api.Star), pair(1, api.L0), pair(2, api.L3), pair(65535, api.L2)))
}

func TestSplitOfAPairOfL2AmongOthersIsErrSplit(t *testing.T) {
	for _, x := range cases() {
		for i := range x.label.Pairs {
			// Whatever stands ahead of it and behind it.
			pairs := slices.Clone(x.label.Pairs)
			pairs[i].Level = api.L2
			if a := levels(api.L1, pairs...); !label.May(a) {
				t.Fatalf("%v may not be", a)
			}
			holdNone(t, levels(api.L1, pairs...))
		}
	}
}

func TestSplitTellsErrSplitJustWhereNoSetsSayIt(t *testing.T) {
	for _, x := range smallCases(api.Star, api.L0, api.L1, api.L2, api.L3) {
		has := slices.ContainsFunc(x.label.Pairs, func(p api.Pair) bool { return p.Level == api.L2 })
		if _, e := trans.Split(x.label); (e == api.ErrSplit) != has || (e == api.OK) == has {
			t.Errorf("Split(%v): %d", x.label, e)
		}
		// What a call may name is what sets say.
		if _, e := trans.Split(x.label); (e == api.OK) != may1.Names(x.label) {
			t.Errorf("Split(%v): %d, Names %v", x.label, e, may1.Names(x.label))
		}
	}
}

// P11.1 Back

func TestBackOfNothing(t *testing.T) {
	holdBack(t, api.Sets{}, levels(api.L1))
}

func TestBackOfOneCategory(t *testing.T) {
	for _, c := range edgeCats() {
		holdBack(t, made(l(c), nil, nil), levels(api.L1, pair(c, api.L3)))
		holdBack(t, made(nil, l(c), nil), levels(api.L1, pair(c, api.L0)))
		holdBack(t, made(nil, nil, l(c)), levels(api.L1, pair(c, api.Star)))
	}
}

func TestBackOfSetsThatLieAmongEachOther(t *testing.T) {
	holdBack(t, made(l(1, 5), l(0, 3), l(2, 4)), levels(api.L1, pair(0, api.L0), pair(1, api.L3), pair(2, api.Star), pair(3, api.L0), pair(4, api.Star), pair(5, api.L3)))
	holdBack(t, made(l(65535), l(256), l(0)), levels(api.L1, pair(0, api.Star), pair(256, api.L0), pair(65535, api.L3)))
	holdBack(t, made(l(0), l(255), l(65535)), levels(api.L1, pair(0, api.L3), pair(255, api.L0), pair(65535, api.Star)))
	holdBack(t, made(l(0, 65535), l(1, 65534), l(2, 65533)), levels(api.L1, pair(0, api.L3), pair(1, api.L0), pair(2, api.Star), pair(65533, api.Star), pair(65534, api.L0), pair(65535, api.L3)))
}

func TestBackOfEveryCase(t *testing.T) {
	for _, x := range cases() {
		holdBack(t, x.sets, x.label)
	}
}

func TestBackAnswersALabelThatMayBe(t *testing.T) {
	for _, x := range cases() {
		if b := trans.Back(x.sets); !label.May(b) || !may1.Names(b) {
			t.Errorf("Back(%v): %v, which may not be or not be named", x.sets, b)
		}
	}
}

// wantAt says which level P11.1 gives c in Back of s.
func wantAt(s api.Sets, c uint16) uint8 {
	switch {
	case slices.Contains(s.S, c):
		return api.L3
	case slices.Contains(s.I, c):
		return api.L0
	case slices.Contains(s.O, c):
		return api.Star
	}
	return api.L1
}

func TestBackSaysTheLevelOfEachCategory(t *testing.T) {
	for _, x := range cases() {
		b := trans.Back(x.sets)
		asked := slices.Concat(edgeCats(), l(1, 2, 4, 7, 16, 65519, 65534), x.sets.S, x.sets.I, x.sets.O)
		for _, c := range asked {
			// Those beside it too, which may be in none.
			for _, near := range l(c-1, c, c+1) {
				if got, want := label.At(b, near), wantAt(x.sets, near); got != want {
					t.Errorf("Back(%v): %d at %d, want %d", x.sets, got, near, want)
				}
			}
		}
	}
}

func TestBackSaysTheLevelOfEveryCategoryThereIs(t *testing.T) {
	for _, s := range []api.Sets{{}, made(l(0), l(3), l(65535)), made(l(7, 300), l(1, 301), l(299, 60000)), made(count(0, 4369, api.MaxCats), nil, nil)} {
		b := trans.Back(s)
		for c := range allCats {
			if got, want := label.At(b, uint16(c)), wantAt(s, uint16(c)); got != want {
				t.Errorf("Back(%v): %d at %d, want %d", s, got, c, want)
			}
		}
	}
}

// What follows

func TestBackOfSplitIsTheLabel(t *testing.T) {
	for _, x := range cases() {
		if s, e := trans.Split(x.label); e != api.OK || !label.Same(trans.Back(s), x.label) {
			t.Errorf("%v: split %v, %d, and back %v", x.label, s, e, trans.Back(s))
		}
	}
}

func TestSplitOfBackIsTheSets(t *testing.T) {
	for _, x := range cases() {
		if s, e := trans.Split(trans.Back(x.sets)); e != api.OK || !sets.Same(s, x.sets) {
			t.Errorf("%v: back and split %v, %d", x.sets, s, e)
		}
	}
}

func TestLabelsThatDifferAreSplitIntoSetsThatDiffer(t *testing.T) {
	small := smallCases(api.Star, api.L0, api.L1, api.L3)
	for i, x := range small {
		for k, y := range small {
			a, _ := trans.Split(x.label)
			b, _ := trans.Split(y.label)
			if sets.Same(a, b) != (i == k) || label.Same(trans.Back(x.sets), trans.Back(y.sets)) != (i == k) {
				t.Errorf("%v and %v: one", x.label, y.label)
			}
		}
	}
}

// holdMay asks that by levels and by what Split makes of them thread and named may the same.
func holdMay(t *testing.T, thread, named api.Label) {
	t.Helper()
	a, _ := trans.Split(thread)
	b, _ := trans.Split(named)
	if one, two := may1.Rises(thread, named), may2.Rises(a, b); one != two {
		t.Errorf("Rises(%v, %v): %d by levels, %d by sets", thread, named, one, two)
	}
	if one, two := may1.Makes(thread, named), may2.Makes(a, b); one != two {
		t.Errorf("Makes(%v, %v): %d by levels, %d by sets", thread, named, one, two)
	}
	if len(b.O) > 0 {
		return // no object's: an object's O is empty
	}
	if one, two := may1.Sees(thread, named), may2.Sees(a, b); one != two {
		t.Errorf("Sees(%v, %v): %v by levels, %v by sets", thread, named, one, two)
	}
	if one, two := may1.Turns(thread, named), may2.Turns(a, b); one != two {
		t.Errorf("Turns(%v, %v): %v by levels, %v by sets", thread, named, one, two)
	}
}

// eachTwo calls try with every two of these labels.
func eachTwo(labels []both, try func(a, b api.Label)) {
	for _, x := range labels {
		for _, y := range labels {
			try(x.label, y.label)
		}
	}
}

func TestWhoMayByLevelsMayBySetsOfEveryTwoSmallLabels(t *testing.T) {
	eachTwo(smallCases(api.Star, api.L0, api.L1, api.L3), func(a, b api.Label) { holdMay(t, a, b) })
}

func TestWhoMayByLevelsMayBySetsOfFullLabels(t *testing.T) {
	var full []both
	for i, x := range spreadCases(api.MaxPairs) {
		// Not all of them: every two would be long in the asking.
		if i%5 == 0 {
			full = append(full, x)
		}
	}
	eachTwo(full, func(a, b api.Label) { holdMay(t, a, b) })
}

func TestWhoMayByLevelsMayBySetsWhereOneCategoryMoves(t *testing.T) {
	for _, x := range spreadCases(api.MaxPairs) {
		for _, p := range x.label.Pairs {
			for _, lev := range []uint8{api.Star, api.L0, api.L1, api.L3} {
				moved := label.Set(x.label, p.Cat, lev)
				holdMay(t, x.label, moved)
				holdMay(t, moved, x.label)
			}
		}
	}
}

// R1, R2, R4

// badLabels answers labels that may not be.
func badLabels() []api.Label {
	var out []api.Label
	for _, lev := range []uint8{api.L1, api.High, api.High + 1, 128, 255} {
		out = append(out, levels(api.L1, pair(3, lev)), levels(api.L1, pair(0, api.L3), pair(3, lev), pair(9, api.Star)), levels(lev, pair(3, lev)))
	}
	for _, def := range []uint8{api.Star, api.High, api.High + 1, 128, 255} {
		out = append(out, levels(def), levels(def, pair(3, api.L3)))
	}
	for _, lev := range []uint8{api.Star, api.L0, api.L2, api.L3, api.High, 255} {
		for _, def := range []uint8{api.Star, api.L1, api.L2, 255} {
			out = append(out,
				levels(def, pair(5, lev), pair(5, lev)),
				levels(def, pair(5, lev), pair(5, api.Star), pair(5, api.L0), pair(5, api.L3)),
				levels(def, pair(65535, api.L3), pair(5, lev), pair(0, api.L0)),
				levels(def, slices.Repeat([]api.Pair{pair(4, lev)}, 300)...))
		}
	}
	return out
}

// greatLabels answers labels of every category there is, rising, falling and more than once.
func greatLabels() []api.Label {
	var up []api.Pair
	for c := range allCats {
		up = append(up, pair(uint16(c), []uint8{api.L3, api.L0, api.Star}[c%3]))
	}
	down := slices.Clone(up)
	slices.Reverse(down)
	last := slices.Clone(up)
	last[allCats-1].Level = api.L2
	return []api.Label{levels(api.L1, up...), levels(api.L1, down...), levels(api.L1, slices.Concat(up, down, up)...), levels(api.L1, last...), levels(api.L3, up...)}
}

// badSets answers sets that may not be.
func badSets() []api.Sets {
	var out []api.Sets
	for _, list := range [][]uint16{l(5, 5), l(6, 5), l(0, 65535, 0), l(65535, 0), slices.Repeat(l(4), 300), count(0, 1, api.MaxCats+1), count(9, 7, 300)} {
		out = append(out, made(list, nil, nil), made(nil, list, nil), made(nil, nil, list), made(l(1), list, l(9)), made(list, list, list))
	}
	return append(out, made(l(3), l(3), nil), made(l(3), nil, l(3)), made(nil, l(3), l(3)), made(l(3), l(3), l(3)), made(count(0, 1, 9), count(20, 1, 9), count(40, 1, 9)))
}

// greatSets answers sets of every category there is, rising, falling and more than once.
func greatSets() []api.Sets {
	up := count(0, 1, allCats)
	down := slices.Clone(up)
	slices.Reverse(down)
	round := count(0, 1, 2*allCats)
	return []api.Sets{made(up, nil, nil), made(nil, up, nil), made(nil, nil, up), made(up, up, up), made(down, up, down), made(round, down, round), made(count(0, 3, 21846), count(1, 3, 21845), count(2, 3, 21845))}
}

// holdSameSplit asks that Split of a ends, tells the same when it is asked again, and nothing beside an error.
func holdSameSplit(t *testing.T, a api.Label) {
	t.Helper()
	first, e := trans.Split(a)
	second, again := trans.Split(a)
	if e != again || !sameSets(first, second) {
		t.Errorf("Split of Default %d and %d pairs: told %d, then %d", a.Default, len(a.Pairs), e, again)
	}
	if e != api.OK && (e != api.ErrSplit || !isEmpty(first)) {
		t.Errorf("Split of Default %d and %d pairs: %d, and sets beside it", a.Default, len(a.Pairs), e)
	}
}

// holdSameBack asks that Back of s ends, and tells the same when it is asked again.
func holdSameBack(t *testing.T, s api.Sets) {
	t.Helper()
	if first, second := trans.Back(s), trans.Back(s); !sameLabels(first, second) {
		t.Errorf("Back of %d, %d, %d categories: told two labels", len(s.S), len(s.I), len(s.O))
	}
}

func TestWhateverLabelsAndSetsCallsEndAndTellTheSame(t *testing.T) {
	for _, a := range slices.Concat(badLabels(), greatLabels()) {
		if label.May(a) {
			t.Errorf("Default %d and %d pairs: may be", a.Default, len(a.Pairs))
		}
		holdSameSplit(t, a)
	}
	for _, s := range slices.Concat(badSets(), greatSets()) {
		if sets.May(s) {
			t.Errorf("sets of %d, %d, %d categories: may be", len(s.S), len(s.I), len(s.O))
		}
		holdSameBack(t, s)
	}
}

func TestWhateverListsCallsEndAndTellTheSame(t *testing.T) {
	seed := uint32(11)
	next := func() uint32 {
		seed = seed*1664525 + 1013904223
		return seed >> 16
	}
	random := func(size int) []uint16 {
		list := make([]uint16, size)
		for i := range list {
			list[i] = uint16(next() % 40)
		}
		return list
	}
	for n := range 5000 {
		a := levels([]uint8{api.L1, api.L1, api.L1, uint8(next())}[n%4])
		for _, c := range random(n % 23) {
			a.Pairs = append(a.Pairs, pair(c, uint8(next()%8)))
		}
		holdSameSplit(t, a)
		holdSameBack(t, made(random(n%23), random(n%7), random(n%19)))
	}
}

// Numbers above High have the point of L1, but are not it.
func TestSplitOfADefaultThatIsNoLevelIsErrSplit(t *testing.T) {
	for def := range 256 {
		if def != api.L1 {
			holdNone(t, levels(uint8(def)))
			holdNone(t, levels(uint8(def), pair(3, api.L3)))
		}
	}
}

// No label may have such a pair; the words of P11.1 name none of the three for it, and no error.
func TestSplitPutsAPairOfAnotherLevelIntoNone(t *testing.T) {
	for _, lev := range []uint8{api.L1, api.High, api.High + 1, 128, 255} {
		holdSplit(t, levels(api.L1, pair(3, lev)), api.Sets{})
		holdSplit(t, levels(api.L1, pair(0, api.L3), pair(3, lev), pair(5, api.L0), pair(9, api.Star)), made(l(0), l(5), l(9)))
	}
}

// Nor may sets share a category; what is owned goes ahead of what vouches, and that ahead of what was seen.
func TestBackOfASharedCategoryTakesOneLevel(t *testing.T) {
	holdBack(t, made(l(3), l(3), nil), levels(api.L1, pair(3, api.L0)))
	holdBack(t, made(l(3), nil, l(3)), levels(api.L1, pair(3, api.Star)))
	holdBack(t, made(nil, l(3), l(3)), levels(api.L1, pair(3, api.Star)))
	holdBack(t, made(l(1, 3), l(3, 5), l(3, 7)), levels(api.L1, pair(1, api.L3), pair(3, api.Star), pair(5, api.L0), pair(7, api.Star)))
}

// More categories than may be: the words of P11.1 say as much of them.
func TestSplitAndBackOfEveryCategoryThereIs(t *testing.T) {
	great := greatLabels()[0]
	s, e := trans.Split(great)
	if e != api.OK || !sameSets(s, made(count(0, 3, 21846), count(1, 3, 21845), count(2, 3, 21845))) {
		t.Errorf("Split of every category: %d, %d, %d categories, error %d", len(s.S), len(s.I), len(s.O), e)
	}
	if !sameLabels(trans.Back(s), great) {
		t.Error("Back of every category: another label")
	}
}

// R3

// roomy answers list with spare room behind it, all of it filled, so that a write into it shows.
func roomy(list []uint16) []uint16 {
	whole := append(slices.Clone(list), 0, 0xa5a5, 3, 65535, 7)
	return whole[:len(list)]
}

// roomySets answers s with spare room behind each of its three.
func roomySets(s api.Sets) api.Sets { return made(roomy(s.S), roomy(s.I), roomy(s.O)) }

// roomyLabel answers a with spare room behind its pairs.
func roomyLabel(a api.Label) api.Label {
	whole := append(slices.Clone(a.Pairs), pair(0, api.L3), pair(0xa5a5, api.Star), pair(3, api.L2), pair(65535, 255))
	return levels(a.Default, whole[:len(a.Pairs)]...)
}

// wholeSets answers a copy of the three lists of s and of their spare room, one behind the other.
func wholeSets(s api.Sets) []uint16 {
	return slices.Concat(s.S[:cap(s.S)], s.I[:cap(s.I)], s.O[:cap(s.O)])
}

// wholePairs answers a copy of a's pairs and of their spare room.
func wholePairs(a api.Label) []api.Pair { return slices.Clone(a.Pairs[:cap(a.Pairs)]) }

// scribble overwrites a list and its spare room.
func scribble(list []uint16) {
	list = list[:cap(list)]
	for i := range list {
		list[i] = ^list[i]
	}
}

// scribbleSets overwrites the three lists of s and their spare room.
func scribbleSets(s api.Sets) {
	scribble(s.S)
	scribble(s.I)
	scribble(s.O)
}

// scribblePairs overwrites a's pairs and their spare room.
func scribblePairs(a api.Label) {
	pairs := a.Pairs[:cap(a.Pairs)]
	for i, p := range pairs {
		pairs[i] = pair(^p.Cat, ^p.Level)
	}
}

// copySets answers s in memory of its own.
func copySets(s api.Sets) api.Sets {
	return made(slices.Clone(s.S), slices.Clone(s.I), slices.Clone(s.O))
}

// memoryLabels answers labels for which it is looked at what memory is theirs: such as may be, and others.
func memoryLabels() []api.Label {
	out := badLabels()
	for _, x := range cases() {
		out = append(out, x.label)
	}
	return out
}

// memorySets answers sets for which it is looked at what memory is theirs: such as may be, and others.
func memorySets() []api.Sets {
	out := badSets()
	for _, x := range cases() {
		out = append(out, x.sets)
	}
	return out
}

func TestSplitNeitherChangesNorKeepsWhatIsHandedIn(t *testing.T) {
	for _, x := range memoryLabels() {
		a := roomyLabel(x)
		was := wholePairs(a)
		got, e := trans.Split(a)
		if !slices.Equal(wholePairs(a), was) {
			t.Errorf("Split(%v): changed it", x)
		}
		want := copySets(got)
		scribblePairs(a)
		trans.Split(a)
		if !sameSets(got, want) {
			t.Errorf("Split(%v): what was told changed with what was handed in", x)
		}
		if again, why := trans.Split(x); !sameSets(again, want) || why != e {
			t.Errorf("Split(%v): %v, %d, and then %v, %d", x, want, e, again, why)
		}
	}
}

func TestBackNeitherChangesNorKeepsWhatIsHandedIn(t *testing.T) {
	for _, x := range memorySets() {
		s := roomySets(x)
		was := wholeSets(s)
		got := trans.Back(s)
		if !slices.Equal(wholeSets(s), was) {
			t.Errorf("Back(%v): changed it", x)
		}
		want := levels(got.Default, slices.Clone(got.Pairs)...)
		scribbleSets(s)
		trans.Back(s)
		if !sameLabels(got, want) {
			t.Errorf("Back(%v): what was told changed with what was handed in", x)
		}
		if again := trans.Back(x); !sameLabels(again, want) {
			t.Errorf("Back(%v): %v, and then %v", x, want, again)
		}
	}
}

func TestWhatIsToldIsNewMemory(t *testing.T) {
	for _, x := range memoryLabels() {
		a := roomyLabel(x)
		was := wholePairs(a)
		first, _ := trans.Split(a)
		second, _ := trans.Split(a)
		want := copySets(second)
		scribbleSets(first)
		if !slices.Equal(wholePairs(a), was) || !sameSets(second, want) {
			t.Errorf("Split(%v): what was told is not its own", x)
		}
	}
	for _, x := range memorySets() {
		s := roomySets(x)
		was := wholeSets(s)
		first, second := trans.Back(s), trans.Back(s)
		want := levels(second.Default, slices.Clone(second.Pairs)...)
		scribblePairs(first)
		if !slices.Equal(wholeSets(s), was) || !sameLabels(second, want) {
			t.Errorf("Back(%v): what was told is not its own", x)
		}
	}
}

func TestTheThreeListsOfSplitShareNoMemory(t *testing.T) {
	for _, x := range memoryLabels() {
		got, _ := trans.Split(x)
		want := copySets(got)
		scribble(got.S)
		if !slices.Equal(got.I, want.I) || !slices.Equal(got.O, want.O) {
			t.Errorf("Split(%v): S shares with I or O", x)
		}
		scribble(got.I)
		if !slices.Equal(got.O, want.O) {
			t.Errorf("Split(%v): I shares with O", x)
		}
		scribble(got.S)
		scribble(got.I)
		scribble(got.O)
		if !slices.Equal(got.S, want.S) || !slices.Equal(got.I, want.I) {
			t.Errorf("Split(%v): O shares with S or I", x)
		}
	}
}

func TestOneListHandedInThriceIsAsThree(t *testing.T) {
	list := roomy(l(3, 7, 300))
	was := slices.Clone(list[:cap(list)])
	got, want := trans.Back(made(list, list, list)), trans.Back(made(l(3, 7, 300), l(3, 7, 300), l(3, 7, 300)))
	if !sameLabels(got, want) || !slices.Equal(list[:cap(list)], was) {
		t.Errorf("one list thrice: %v, want %v", got, want)
	}
}

func TestNilAndEmptyAreOne(t *testing.T) {
	for _, def := range []uint8{api.Star, api.L0, api.L1, api.L2, api.L3} {
		bare, e := trans.Split(api.Label{Default: def})
		filled, why := trans.Split(api.Label{Default: def, Pairs: []api.Pair{}})
		if !sameSets(bare, filled) || e != why {
			t.Errorf("Split of Default %d: %v, %d of nil, %v, %d of an empty list", def, bare, e, filled, why)
		}
	}
	for _, x := range memorySets() {
		filled := made(append([]uint16{}, x.S...), append([]uint16{}, x.I...), append([]uint16{}, x.O...))
		bare := made(append([]uint16(nil), x.S...), append([]uint16(nil), x.I...), append([]uint16(nil), x.O...))
		if !sameLabels(trans.Back(filled), trans.Back(bare)) {
			t.Errorf("Back(%v): nil and empty differ", x)
		}
	}
}
