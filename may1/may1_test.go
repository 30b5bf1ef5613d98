package may1_test

import (
	"math"
	"slices"
	"testing"

	"transom/api"
	"transom/label"
	"transom/level"
	"transom/may1"
)

// allCats is how many categories there are.
const allCats = 1 << 16

// made answers the label of def and of pairs of a category and a level each, as they are.
func made(def uint8, l ...int) api.Label {
	out := api.Label{Default: def}
	for i := 0; i < len(l); i += 2 {
		out.Pairs = append(out.Pairs, api.Pair{Cat: uint16(l[i]), Level: uint8(l[i+1])})
	}
	return out
}

// defaults answers every Default that may be.
func defaults() []uint8 { return []uint8{api.L0, api.L1, api.L2, api.L3} }

// levels answers every level that a pair may have.
func levels() []uint8 { return []uint8{api.Star, api.L0, api.L1, api.L2, api.L3} }

// filled answers a label of def with n pairs, each category step above the one ahead, of levels that go round and are not def.
func filled(def uint8, first, step, n, turn int) api.Label {
	out := api.Label{Default: def}
	for i := range n {
		lev := uint8(int(def)+1+(i+turn)%4) % 5
		out.Pairs = append(out.Pairs, api.Pair{Cat: uint16(first + i*step), Level: lev})
	}
	return out
}

// even answers a label of def with MaxPairs pairs of one level, each category step above the one ahead.
func even(def, lev uint8, first, step int) api.Label {
	out := api.Label{Default: def}
	for i := range api.MaxPairs {
		out.Pairs = append(out.Pairs, api.Pair{Cat: uint16(first + i*step), Level: lev})
	}
	return out
}

// smallOf answers the label that has level x at 3, y at 65535, and def at all others.
func smallOf(def, x, y uint8) api.Label {
	l := api.Label{Default: def}
	if x != def {
		l.Pairs = append(l.Pairs, api.Pair{Cat: 3, Level: x})
	}
	if y != def {
		l.Pairs = append(l.Pairs, api.Pair{Cat: 65535, Level: y})
	}
	return l
}

// smallLabels answers every label that may be with pairs of no categories but 3 and 65535.
func smallLabels() []api.Label {
	var out []api.Label
	for _, def := range defaults() {
		for _, x := range levels() {
			for _, y := range levels() {
				out = append(out, smallOf(def, x, y))
			}
		}
	}
	return out
}

// fullLabels answers labels of up to MaxPairs pairs, which share none, some and all of their categories.
func fullLabels() []api.Label {
	out := []api.Label{made(api.L1), made(api.L1, 0, api.Star), made(api.L1, 65535, api.L3)}
	for i, def := range defaults() {
		for _, lev := range levels() {
			if lev != def {
				out = append(out, even(def, lev, 0, 1), even(def, lev, 15, 4096), even(def, lev, 65520, 1))
			}
		}
		out = append(out, filled(def, 0, 1, api.MaxPairs, i), filled(def, 8, 1, api.MaxPairs, i), filled(def, 1, 2, api.MaxPairs-1, i), filled(def, 65521, 1, 15, i))
	}
	return out
}

// pairsEach calls try with every two of l.
func pairsEach(l []api.Label, try func(a, b api.Label)) {
	for _, a := range l {
		for _, b := range l {
			try(a, b)
		}
	}
}

// at answers the level of c in l, pair by pair.
func at(l api.Label, c uint16) uint8 {
	for _, p := range l.Pairs {
		if p.Cat == c {
			return p.Level
		}
	}
	return l.Default
}

// catsOf answers the categories that either label names, and one that none of these tests' labels does.
func catsOf(a, b api.Label) []uint16 {
	out := []uint16{40000}
	for _, p := range slices.Concat(a.Pairs, b.Pairs) {
		out = append(out, p.Cat)
	}
	return out
}

// flowsAll tells whether at every category the level of a, which turned changes first, is at most that of b.
func flowsAll(a, b api.Label, turned func(a, b uint8) (uint8, uint8)) bool {
	for _, c := range catsOf(a, b) {
		if x, y := turned(at(a, c), at(b, c)); x > y {
			return false
		}
	}
	return true
}

// wantSees tells, category by category, whether o flows to what t is where a star stands above all.
func wantSees(t, o api.Label) bool {
	return flowsAll(o, t, func(inO, inT uint8) (uint8, uint8) {
		if inT == api.Star {
			return inO, api.High
		}
		return inO, inT
	})
}

// wantTurns tells, category by category, whether t flows to o.
func wantTurns(t, o api.Label) bool {
	return flowsAll(t, o, func(inT, inO uint8) (uint8, uint8) { return inT, inO })
}

// wantNames tells whether l has Default L1, and no pair of L2.
func wantNames(l api.Label) bool {
	for _, p := range l.Pairs {
		if p.Level == api.L2 {
			return false
		}
	}
	return l.Default == api.L1
}

// wantErr answers the first error of these labels; own says whether a star may stand where t has one.
func wantErr(t, l api.Label, own bool) api.Errno {
	if !wantNames(l) {
		return api.ErrLevel
	}
	for _, p := range l.Pairs {
		if p.Level == api.Star && !(own && at(t, p.Cat) == api.Star) {
			return api.ErrStar
		}
	}
	if !wantTurns(t, l) {
		return api.ErrLabel
	}
	return api.OK
}

// P7.1 Names

func TestNamesOfEachDefault(t *testing.T) {
	for _, def := range defaults() {
		for _, l := range []api.Label{made(def), {Default: def, Pairs: []api.Pair{}}} {
			if got := may1.Names(l); got != (def == api.L1) {
				t.Errorf("Names(%v): %v", l, got)
			}
		}
	}
}

func TestNamesOfPairsOfEachOtherLevel(t *testing.T) {
	for _, lev := range []uint8{api.Star, api.L0, api.L3} {
		for _, c := range []int{0, 1, 3, 255, 256, 1000, 1001, 65535} {
			if l := made(api.L1, c, int(lev)); !may1.Names(l) {
				t.Errorf("Names(%v): no", l)
			}
		}
		if l := even(api.L1, lev, 15, 4096); !may1.Names(l) {
			t.Errorf("Names(%v): no", l)
		}
	}
	if l := made(api.L1, 3, api.Star, 4, api.L0, 5, api.L3); !may1.Names(l) {
		t.Errorf("Names(%v): no", l)
	}
}

func TestNamesOfAPairOfL2AtEveryPlace(t *testing.T) {
	for _, lev := range []uint8{api.Star, api.L0, api.L3} {
		for n := 1; n <= api.MaxPairs; n++ {
			for place := range n {
				l := even(api.L1, lev, 7, 11)
				l.Pairs = l.Pairs[:n]
				if !may1.Names(l) {
					t.Errorf("Names(%v): no", l)
				}
				l.Pairs[place].Level = api.L2
				if may1.Names(l) {
					t.Errorf("Names(%v): yes", l)
				}
			}
		}
	}
}

func TestNamesOfAnotherDefaultWhateverThePairs(t *testing.T) {
	for _, def := range []uint8{api.L0, api.L2, api.L3} {
		for _, lev := range levels() {
			if lev == def {
				continue
			}
			for _, l := range []api.Label{made(def, 3, int(lev)), even(def, lev, 0, 1)} {
				if may1.Names(l) {
					t.Errorf("Names(%v): yes", l)
				}
			}
		}
	}
}

func TestNamesOfEveryLabel(t *testing.T) {
	for _, l := range append(smallLabels(), fullLabels()...) {
		if got := may1.Names(l); got != wantNames(l) {
			t.Errorf("Names(%v): %v", l, got)
		}
	}
}

// P7.1 Sees, Turns

func TestSeesAndTurnsOfFewPairs(t *testing.T) {
	for _, x := range []struct {
		t, o        api.Label
		sees, turns bool
	}{
		{made(api.L1), made(api.L1), true, true},
		{made(api.L1), made(api.L1, 3, api.L3), false, true},
		{made(api.L1), made(api.L1, 3, api.L2), false, true},
		{made(api.L1), made(api.L1, 3, api.L0), true, false},
		{made(api.L1), made(api.L1, 3, api.Star), true, false},
		{made(api.L1, 3, api.L3), made(api.L1), true, false},
		{made(api.L1, 3, api.L3), made(api.L1, 3, api.L3), true, true},
		{made(api.L1, 3, api.L3), made(api.L1, 4, api.L3), false, false},
		{made(api.L1, 3, api.L2), made(api.L1, 3, api.L3), false, true},
		{made(api.L1, 3, api.L0), made(api.L1), false, true},
		{made(api.L1, 3, api.L0), made(api.L1, 3, api.L0), true, true},
		{made(api.L1, 3, api.Star), made(api.L1), true, true},
		{made(api.L1, 3, api.Star), made(api.L1, 3, api.Star), true, true},
		{made(api.L1, 3, api.Star, 5, api.L3), made(api.L1, 3, api.L3, 7, api.L3), false, false},
		{made(api.L2), made(api.L1), true, false},
		{made(api.L0), made(api.L1), false, true},
		{made(api.L3), made(api.L2, 65535, api.Star), true, false},
		{made(api.L2, 0, api.Star), made(api.L3, 0, api.L0), false, true},
	} {
		if sees, turns := may1.Sees(x.t, x.o), may1.Turns(x.t, x.o); sees != x.sees || turns != x.turns {
			t.Errorf("%v, %v: Sees %v, Turns %v", x.t, x.o, sees, turns)
		}
	}
}

// holdSeesAndTurns asks that both calls tell what the levels at each category, and the labels, say.
func holdSeesAndTurns(t *testing.T, a, b api.Label) {
	t.Helper()
	if got := may1.Sees(a, b); got != wantSees(a, b) || got != label.Flows(b, label.Rise(a)) {
		t.Errorf("Sees(%v, %v): %v", a, b, got)
	}
	if got := may1.Turns(a, b); got != wantTurns(a, b) || got != label.Flows(a, b) {
		t.Errorf("Turns(%v, %v): %v", a, b, got)
	}
}

func TestSeesAndTurnsOfEveryTwoSmallLabels(t *testing.T) {
	pairsEach(smallLabels(), func(a, b api.Label) { holdSeesAndTurns(t, a, b) })
}

func TestSeesAndTurnsOfEveryTwoFullLabels(t *testing.T) {
	pairsEach(fullLabels(), func(a, b api.Label) { holdSeesAndTurns(t, a, b) })
}

func TestSeesAndTurnsWhereOneCategoryOfManyDiffers(t *testing.T) {
	for _, l := range fullLabels() {
		for _, p := range append(slices.Clone(l.Pairs), api.Pair{Cat: 30000}) {
			for _, lev := range levels() {
				other := label.Set(l, p.Cat, lev)
				holdSeesAndTurns(t, l, other)
				holdSeesAndTurns(t, other, l)
			}
		}
	}
}

func TestSeesAndTurnsByEachLevelOfOneCategory(t *testing.T) {
	for _, c := range []uint16{0, 3, 65535} {
		for _, x := range levels() {
			for _, y := range levels() {
				a, b := label.Set(made(api.L1), c, x), label.Set(made(api.L1), c, y)
				if got := may1.Sees(a, b); got != level.Flows(y, level.Rise(x)) {
					t.Errorf("Sees of %d, %d at %d: %v", x, y, c, got)
				}
				if got := may1.Turns(a, b); got != level.Flows(x, y) {
					t.Errorf("Turns of %d, %d at %d: %v", x, y, c, got)
				}
			}
		}
	}
}

func TestAStarSeesAndTurnsAllOfItsCategory(t *testing.T) {
	for _, def := range defaults() {
		for _, rest := range levels() {
			thread, object := smallOf(def, api.Star, rest), smallOf(def, def, rest)
			// At 65535 both have rest: only what stands at 3 could hinder.
			for _, lev := range levels() {
				o := label.Set(object, 3, lev)
				if !may1.Sees(thread, o) || !may1.Turns(thread, o) {
					t.Errorf("%v, %v: Sees %v, Turns %v", thread, o, may1.Sees(thread, o), may1.Turns(thread, o))
				}
			}
		}
	}
}

func TestAStarIsOfItsOwnCategoryAlone(t *testing.T) {
	thread := made(api.L1, 3, api.Star)
	if o := made(api.L1, 4, api.L3); may1.Sees(thread, o) {
		t.Errorf("Sees(%v, %v): yes", thread, o)
	}
	if o := made(api.L1, 4, api.L0); may1.Turns(thread, o) {
		t.Errorf("Turns(%v, %v): yes", thread, o)
	}
}

// P7.2 Rises, Makes

func TestRisesAndMakesOfFewPairs(t *testing.T) {
	for _, x := range []struct {
		t, l         api.Label
		rises, makes api.Errno
	}{
		{made(api.L1), made(api.L1), api.OK, api.OK},
		{made(api.L1), made(api.L1, 3, api.L3), api.OK, api.OK},
		{made(api.L0), made(api.L1), api.OK, api.OK},
		{made(api.L1, 3, api.L0), made(api.L1, 3, api.L0), api.OK, api.OK},
		{made(api.L1, 3, api.L2), made(api.L1, 3, api.L3), api.OK, api.OK},
		{made(api.L1, 3, api.Star), made(api.L1), api.OK, api.OK},
		{made(api.L1, 3, api.Star), made(api.L1, 3, api.L0), api.OK, api.OK},
		{made(api.L1, 3, api.Star), made(api.L1, 3, api.L3), api.OK, api.OK},
		// ErrLevel alone.
		{made(api.L1), made(api.L2), api.ErrLevel, api.ErrLevel},
		{made(api.L1), made(api.L3), api.ErrLevel, api.ErrLevel},
		{made(api.L0), made(api.L0), api.ErrLevel, api.ErrLevel},
		{made(api.L1), made(api.L1, 3, api.L2), api.ErrLevel, api.ErrLevel},
		{made(api.L1, 3, api.L2), made(api.L1, 3, api.L2), api.ErrLevel, api.ErrLevel},
		// ErrStar alone, of Makes: a star that t has. (Of Rises it is never alone: to a star flows a star alone.)
		{made(api.L1, 3, api.Star), made(api.L1, 3, api.Star), api.OK, api.ErrStar},
		{made(api.L1, 0, api.Star, 65535, api.Star), made(api.L1, 65535, api.Star), api.OK, api.ErrStar},
		// ErrLabel alone.
		{made(api.L1), made(api.L1, 3, api.L0), api.ErrLabel, api.ErrLabel},
		{made(api.L1, 3, api.L3), made(api.L1), api.ErrLabel, api.ErrLabel},
		{made(api.L1, 3, api.L2), made(api.L1), api.ErrLabel, api.ErrLabel},
		{made(api.L2), made(api.L1), api.ErrLabel, api.ErrLabel},
		{made(api.L3, 3, api.Star), made(api.L1, 3, api.L3), api.ErrLabel, api.ErrLabel},
		// A star where t has none: t does not flow to l either.
		{made(api.L1), made(api.L1, 3, api.Star), api.ErrStar, api.ErrStar},
		{made(api.L1, 3, api.L0), made(api.L1, 3, api.Star), api.ErrStar, api.ErrStar},
		{made(api.L1, 3, api.L3), made(api.L1, 5, api.Star), api.ErrStar, api.ErrStar},
		{made(api.L1, 3, api.Star), made(api.L1, 4, api.Star), api.ErrStar, api.ErrStar},
		{made(api.L1, 3, api.Star), made(api.L1, 3, api.Star, 4, api.Star), api.ErrStar, api.ErrStar},
		// A star that t has, and t does not flow to l elsewhere.
		{made(api.L1, 3, api.Star, 5, api.L3), made(api.L1, 3, api.Star), api.ErrLabel, api.ErrStar},
		{made(api.L1, 3, api.Star), made(api.L1, 3, api.Star, 5, api.L0), api.ErrLabel, api.ErrStar},
	} {
		if e := may1.Rises(x.t, x.l); e != x.rises {
			t.Errorf("Rises(%v, %v): %d, want %d", x.t, x.l, e, x.rises)
		}
		if e := may1.Makes(x.t, x.l); e != x.makes {
			t.Errorf("Makes(%v, %v): %d, want %d", x.t, x.l, e, x.makes)
		}
	}
}

func TestOfSeveralErrorsTheFirstIsTold(t *testing.T) {
	// Each l may not be named; it has stars that t has, lacks, or none; t flows to it, or does not.
	for _, thread := range []api.Label{made(api.L1), made(api.L1, 3, api.Star), made(api.L1, 5, api.L3), made(api.L3)} {
		for _, l := range []api.Label{
			made(api.L2), made(api.L0), made(api.L3, 3, api.Star), made(api.L0, 3, api.Star), made(api.L1, 3, api.Star, 5, api.L2),
			made(api.L1, 2, api.L2, 3, api.Star), made(api.L1, 4, api.L0, 5, api.L2), made(api.L1, 3, api.Star, 4, api.L0, 65535, api.L2),
		} {
			if e := may1.Rises(thread, l); e != api.ErrLevel {
				t.Errorf("Rises(%v, %v): %d", thread, l, e)
			}
			if e := may1.Makes(thread, l); e != api.ErrLevel {
				t.Errorf("Makes(%v, %v): %d", thread, l, e)
			}
		}
	}
	// Each l may be named, has a star that t has not, and is one to which t does not flow elsewhere either.
	thread := made(api.L1, 3, api.Star, 5, api.L3)
	for _, l := range []api.Label{made(api.L1, 9, api.Star), made(api.L1, 3, api.Star, 9, api.Star), made(api.L1, 2, api.L0, 5, api.Star)} {
		if e := may1.Rises(thread, l); e != api.ErrStar {
			t.Errorf("Rises(%v, %v): %d", thread, l, e)
		}
		if e := may1.Makes(thread, l); e != api.ErrStar {
			t.Errorf("Makes(%v, %v): %d", thread, l, e)
		}
	}
}

// holdErrors asks that Rises and Makes tell the first error that these labels say, category by category.
func holdErrors(t *testing.T, a, b api.Label) {
	t.Helper()
	if e := may1.Rises(a, b); e != wantErr(a, b, true) {
		t.Errorf("Rises(%v, %v): %d, want %d", a, b, e, wantErr(a, b, true))
	}
	if e := may1.Makes(a, b); e != wantErr(a, b, false) {
		t.Errorf("Makes(%v, %v): %d, want %d", a, b, e, wantErr(a, b, false))
	}
}

func TestRisesAndMakesOfEveryTwoSmallLabels(t *testing.T) {
	rises, makes := map[api.Errno]int{}, map[api.Errno]int{}
	pairsEach(smallLabels(), func(a, b api.Label) {
		holdErrors(t, a, b)
		rises[may1.Rises(a, b)]++
		makes[may1.Makes(a, b)]++
	})
	for _, e := range []api.Errno{api.OK, api.ErrLevel, api.ErrStar, api.ErrLabel} {
		if rises[e] == 0 || makes[e] == 0 {
			t.Errorf("%d is never told", e)
		}
	}
}

func TestRisesAndMakesOfEveryTwoFullLabels(t *testing.T) {
	pairsEach(fullLabels(), func(a, b api.Label) { holdErrors(t, a, b) })
}

func TestRisesWithStarsAtEveryPlace(t *testing.T) {
	all := even(api.L1, api.Star, 15, 4096)
	if e := may1.Rises(all, all); e != api.OK {
		t.Errorf("Rises with all stars: %d", e)
	}
	for i := range all.Pairs {
		for _, lev := range []uint8{api.L0, api.L1, api.L2, api.L3} {
			fewer := label.Set(all, all.Pairs[i].Cat, lev)
			if e := may1.Rises(fewer, all); e != api.ErrStar {
				t.Errorf("Rises to a star at %d from %d: %d", all.Pairs[i].Cat, lev, e)
			}
			holdErrors(t, all, fewer)
		}
		one := made(api.L1, int(all.Pairs[i].Cat), api.Star)
		if e := may1.Rises(all, one); e != api.OK {
			t.Errorf("Rises to one star of many: %d", e)
		}
		if e := may1.Makes(all, one); e != api.ErrStar {
			t.Errorf("Makes of one star of many: %d", e)
		}
	}
}

// What follows

// risenEach calls try with every small thread's label, every one that it may become, and every small object's label.
func risenEach(try func(t, l, o api.Label)) {
	pairsEach(smallLabels(), func(a, b api.Label) {
		if may1.Rises(a, b) != api.OK {
			return
		}
		for _, o := range smallLabels() {
			try(a, b, o)
		}
	})
}

func TestWhoHasRisenTurnsNoMore(t *testing.T) {
	risenEach(func(a, b, o api.Label) {
		if may1.Turns(b, o) && !may1.Turns(a, o) {
			t.Errorf("%v risen to %v turns %v", a, b, o)
		}
	})
}

func TestWhoHasRisenSeesNoLessButForStars(t *testing.T) {
	risenEach(func(a, b, o api.Label) {
		// A star that is given up sees no more than the level that it became.
		if slices.Equal(label.Stars(a), label.Stars(b)) && may1.Sees(a, o) && !may1.Sees(b, o) {
			t.Errorf("%v risen to %v does not see %v", a, b, o)
		}
	})
	if a, b, o := made(api.L1, 3, api.Star), made(api.L1), made(api.L1, 3, api.L3); !may1.Sees(a, o) || may1.Rises(a, b) != api.OK || may1.Sees(b, o) {
		t.Error("a star that is given up sees all of its category still")
	}
}

func TestWhoMakesAnObjectTurnsIt(t *testing.T) {
	pairsEach(smallLabels(), func(a, b api.Label) {
		if may1.Makes(a, b) == api.OK && !may1.Turns(a, b) {
			t.Errorf("%v makes %v, and does not turn it", a, b)
		}
	})
}

// R1, R4

// answers is what every call tells of two labels.
type answers struct {
	names, sees, turns bool
	rises, makes       api.Errno
}

// tell answers what every call tells of two labels.
func tell(a, b api.Label) answers {
	return answers{may1.Names(b), may1.Sees(a, b), may1.Turns(a, b), may1.Rises(a, b), may1.Makes(a, b)}
}

// badLabels answers labels that may not be.
func badLabels() []api.Label {
	long := filled(api.L1, 0, 1, allCats, 1)
	down := filled(api.L1, 0, 1, allCats, 2)
	slices.Reverse(down.Pairs)
	return []api.Label{
		{}, made(api.Star), made(api.High), made(6), made(255), made(api.Star, 3, api.Star), made(api.High, 3, api.High, 9, api.Star),
		made(api.L1, 3, api.High), made(api.L1, 3, 6), made(api.L1, 3, 255), made(api.L1, 3, api.L1), made(api.L1, 3, api.L0, 3, api.Star),
		made(api.L1, 9, api.Star, 3, api.L3), made(api.L1, 3, api.Star, 3, api.Star), made(api.L1, 65535, api.Star, 0, api.L2), made(200, 4, api.Star, 4, 200),
		filled(api.L1, 0, 1, api.MaxPairs+1, 0), filled(api.L1, 9, 3, 300, 0), long, down,
	}
}

func TestWhateverLabelsCallsEndAndTellTheSame(t *testing.T) {
	every := append(badLabels(), made(api.L1), made(api.L1, 3, api.Star), even(api.L1, api.Star, 0, 1), filled(api.L2, 0, 1, api.MaxPairs, 0))
	pairsEach(every, func(a, b api.Label) {
		if first, second := tell(a, b), tell(a, b); first != second {
			t.Errorf("labels of %d and %d pairs: told %v, then %v", len(a.Pairs), len(b.Pairs), first, second)
		}
	})
}

func TestWhateverNumbersCallsEnd(t *testing.T) {
	for n := range math.MaxUint8 + 1 {
		for _, other := range []api.Label{made(api.L1), made(api.L1, 3, api.Star), made(uint8(n))} {
			for _, l := range []api.Label{made(uint8(n)), made(api.L1, 3, n), made(uint8(n), 3, n)} {
				tell(l, other)
				tell(other, l)
			}
		}
	}
}

func TestWhateverPairsCallsEnd(t *testing.T) {
	seed := uint32(7)
	random := func(size int) api.Label {
		l := api.Label{Default: uint8(size % 7), Pairs: make([]api.Pair, size)}
		for i := range l.Pairs {
			seed = seed*1664525 + 1013904223
			l.Pairs[i] = api.Pair{Cat: uint16(seed>>16) % 40, Level: uint8(seed>>8) % 8}
		}
		return l
	}
	for n := range 3000 {
		a, b := random(n%23), random(n%19)
		if first, second := tell(a, b), tell(a, b); first != second {
			t.Fatalf("%v and %v: told %v, then %v", a, b, first, second)
		}
	}
}

// R3

// roomy answers l with spare room behind its pairs, all of it filled.
func roomy(l api.Label) api.Label {
	room := slices.Repeat([]api.Pair{{Cat: 0xa5a5, Level: 0xa5}}, 5)
	whole := append(slices.Clone(l.Pairs), room...)
	return api.Label{Default: l.Default, Pairs: whole[:len(l.Pairs)]}
}

// whole answers a copy of l's pairs and of their spare room.
func whole(l api.Label) []api.Pair { return slices.Clone(l.Pairs[:cap(l.Pairs)]) }

// scribble overwrites l's pairs and their spare room.
func scribble(l api.Label) {
	all := l.Pairs[:cap(l.Pairs)]
	for i := range all {
		all[i].Cat, all[i].Level = ^all[i].Cat, ^all[i].Level
	}
}

// memoryLabels answers labels for which it is looked at what memory is theirs: such as may be, and others.
func memoryLabels() []api.Label {
	out := append(smallLabels()[:50], fullLabels()[:20]...)
	for _, l := range badLabels() {
		if len(l.Pairs) <= 20 {
			out = append(out, l)
		}
	}
	return out
}

func TestWhatIsHandedInIsNotChanged(t *testing.T) {
	pairsEach(memoryLabels(), func(x, y api.Label) {
		a, b := roomy(x), roomy(y)
		wasA, wasB := whole(a), whole(b)
		tell(a, b)
		if !slices.Equal(whole(a), wasA) || !slices.Equal(whole(b), wasB) {
			t.Errorf("%v and %v: changed", x, y)
		}
	})
}

func TestWhatIsHandedInIsNotKept(t *testing.T) {
	pairsEach(memoryLabels(), func(x, y api.Label) {
		a, b := roomy(x), roomy(y)
		want := tell(a, b)
		scribble(a)
		scribble(b)
		tell(a, b)
		if got := tell(x, y); got != want {
			t.Errorf("%v and %v: told %v, and %v once what was handed in had changed", x, y, want, got)
		}
	})
}

func TestNilAndEmptyAreOne(t *testing.T) {
	for _, def := range append(defaults(), api.Star, api.High) {
		none, empty := api.Label{Default: def}, api.Label{Default: def, Pairs: []api.Pair{}}
		for _, l := range append(memoryLabels(), none, empty) {
			if tell(none, l) != tell(empty, l) || tell(l, none) != tell(l, empty) {
				t.Errorf("%v with Default %d alone: nil and empty differ", l, def)
			}
		}
	}
}
