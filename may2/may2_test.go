package may2_test

import (
	"slices"
	"testing"

	"transom/api"
	"transom/label"
	"transom/may1"
	"transom/may2"
	"transom/sets"
)

// allCats is how many categories there are.
const allCats = 1 << 16

// Where a category stands in a label.
const (
	nowhere = iota
	inS
	inI
	inO
)

// l answers the list of these.
func l(c ...uint16) []uint16 { return c }

// made answers the label of these lists, as they are.
func made(s, i, o []uint16) api.Sets { return api.Sets{S: s, I: i, O: o} }

// count answers the set of n categories from first on, each step above the one ahead.
func count(first, step, n int) []uint16 {
	var out []uint16
	for i := range n {
		out = append(out, uint16(first+i*step))
	}
	return out
}

// together answers the set of both sets' categories.
func together(a, b []uint16) []uint16 {
	out := slices.Concat(a, b)
	slices.Sort(out)
	return slices.Compact(out)
}

// without answers the set without c.
func without(list []uint16, c uint16) []uint16 {
	return slices.DeleteFunc(slices.Clone(list), func(x uint16) bool { return x == c })
}

// at answers s with c in the place where, and in no other.
func at(s api.Sets, where int, c uint16) api.Sets {
	out := made(without(s.S, c), without(s.I, c), without(s.O, c))
	switch where {
	case inS:
		out.S = together(out.S, l(c))
	case inI:
		out.I = together(out.I, l(c))
	case inO:
		out.O = together(out.O, l(c))
	}
	return out
}

// edgeCats answers the categories at either end, and on either side of what one byte says.
func edgeCats() []uint16 { return []uint16{0, 3, 255, 256, 32768, 65535} }

// smallLabels answers every label of three categories, the first and the last one among them, each at one of these places.
func smallLabels(places ...int) []api.Sets {
	out := []api.Sets{{}}
	for _, c := range []uint16{0, 3, 65535} {
		var more []api.Sets
		for _, s := range out {
			for _, where := range places {
				more = append(more, at(s, where, c))
			}
		}
		out = more
	}
	return out
}

// threads answers every small label.
func threads() []api.Sets { return smallLabels(nowhere, inS, inI, inO) }

// objects answers every small label with an empty O.
func objects() []api.Sets { return smallLabels(nowhere, inS, inI) }

// fullLabels answers labels of MaxPairs categories, however they are spread: in blocks, and woven into one another.
func fullLabels() []api.Sets {
	var out []api.Sets
	for s := range api.MaxPairs + 1 {
		for i := range api.MaxPairs + 1 - s {
			o := api.MaxPairs - s - i
			out = append(out, made(count(0, 1, s), count(s, 1, i), count(65536-o, 1, o)), woven(s, i, o))
		}
	}
	return out
}

// woven answers the label of so many categories from 0 to 65535, which go to S, I and O in turn while there is room.
func woven(s, i, o int) api.Sets {
	var out api.Sets
	for _, c := range count(0, 4369, s+i+o) {
		if len(out.S) < s && len(out.S) <= len(out.I) {
			out.S = append(out.S, c)
		} else if len(out.I) < i && (len(out.I) <= len(out.O) || len(out.O) == o) {
			out.I = append(out.I, c)
		} else if len(out.O) < o {
			out.O = append(out.O, c)
		} else {
			out.S = append(out.S, c)
		}
	}
	return out
}

// fullObjects answers those of the full labels that own nothing.
func fullObjects() []api.Sets {
	return slices.DeleteFunc(fullLabels(), func(s api.Sets) bool { return len(s.O) > 0 })
}

// each calls try with every two of these labels.
func each(a, b []api.Sets, try func(a, b api.Sets)) {
	for _, x := range a {
		for _, y := range b {
			try(x, y)
		}
	}
}

// within says, without the package cats, whether each of a stands in one of these lists.
func within(a []uint16, lists ...[]uint16) bool {
	for _, c := range a {
		if !slices.ContainsFunc(lists, func(list []uint16) bool { return slices.Contains(list, c) }) {
			return false
		}
	}
	return true
}

// wantSees says what P10.1 says of Sees.
func wantSees(t, o api.Sets) bool { return within(o.S, t.S, t.O) && within(t.I, o.I) }

// wantTurns says what P10.1 says of Turns.
func wantTurns(t, o api.Sets) bool { return within(t.S, o.S) && within(o.I, t.I, t.O) }

// wantRises says what P10.2 says of Rises.
func wantRises(t, s api.Sets) api.Errno {
	if !within(s.O, t.O) {
		return api.ErrStar
	}
	if !within(t.S, s.S) || !within(s.I, t.I, t.O) {
		return api.ErrLabel
	}
	return api.OK
}

// wantMakes says what P10.2 says of Makes.
func wantMakes(t, s api.Sets) api.Errno {
	if len(s.O) > 0 {
		return api.ErrStar
	}
	if !wantTurns(t, s) {
		return api.ErrLabel
	}
	return api.OK
}

// holdMay asks that Sees and Turns tell what P10.1 says, category by category.
func holdMay(t *testing.T, a, o api.Sets) {
	t.Helper()
	if got := may2.Sees(a, o); got != wantSees(a, o) {
		t.Errorf("Sees(%v, %v): %v", a, o, got)
	}
	if got := may2.Turns(a, o); got != wantTurns(a, o) {
		t.Errorf("Turns(%v, %v): %v", a, o, got)
	}
}

// holdErrors asks that Rises and Makes tell what P10.2 says, category by category.
func holdErrors(t *testing.T, a, s api.Sets) {
	t.Helper()
	if got := may2.Rises(a, s); got != wantRises(a, s) {
		t.Errorf("Rises(%v, %v): %d, want %d", a, s, got, wantRises(a, s))
	}
	if got := may2.Makes(a, s); got != wantMakes(a, s) {
		t.Errorf("Makes(%v, %v): %d, want %d", a, s, got, wantMakes(a, s))
	}
}

func TestTheLabelsOfTheseTests(t *testing.T) {
	for _, s := range fullLabels() {
		if n := len(s.S) + len(s.I) + len(s.O); !sets.May(s) || n != api.MaxPairs {
			t.Errorf("%v: of %d categories, or may not be", s, n)
		}
	}
	for _, s := range threads() {
		if !sets.May(s) {
			t.Errorf("%v may not be", s)
		}
	}
	for _, o := range slices.Concat(objects(), fullObjects()) {
		if !sets.May(o) || len(o.O) != 0 {
			t.Errorf("%v is no object's", o)
		}
	}
}

// P10.1 Sees, Turns

func TestSeesAndTurnsOfNothing(t *testing.T) {
	if !may2.Sees(api.Sets{}, api.Sets{}) || !may2.Turns(api.Sets{}, api.Sets{}) {
		t.Error("nothing does not see or turn nothing")
	}
}

func TestSeesAndTurnsOfOneCategoryAtEachPlace(t *testing.T) {
	for _, x := range []struct {
		thread, object int
		sees, turns    bool
	}{
		{nowhere, nowhere, true, true}, {nowhere, inS, false, true}, {nowhere, inI, true, false},
		{inS, nowhere, true, false}, {inS, inS, true, true}, {inS, inI, true, false},
		{inI, nowhere, false, true}, {inI, inS, false, true}, {inI, inI, true, true},
		{inO, nowhere, true, true}, {inO, inS, true, true}, {inO, inI, true, true},
	} {
		for _, c := range edgeCats() {
			thread, object := at(api.Sets{}, x.thread, c), at(api.Sets{}, x.object, c)
			if got := may2.Sees(thread, object); got != x.sees {
				t.Errorf("Sees(%v, %v): %v", thread, object, got)
			}
			if got := may2.Turns(thread, object); got != x.turns {
				t.Errorf("Turns(%v, %v): %v", thread, object, got)
			}
		}
	}
}

func TestSeesAndTurnsOfTwoCategories(t *testing.T) {
	for _, x := range []struct {
		t, o        api.Sets
		sees, turns bool
	}{
		// One category says nothing of another one.
		{made(l(3), nil, nil), made(l(4), nil, nil), false, false},
		{made(nil, l(3), nil), made(nil, l(4), nil), false, false},
		{made(nil, nil, l(3)), made(l(4), nil, nil), false, true},
		{made(nil, nil, l(3)), made(nil, l(4), nil), true, false},
		{made(l(0), nil, nil), made(l(65535), nil, nil), false, false},
		{made(nil, nil, l(65535)), made(l(0), nil, nil), false, true},
		// S and O together, the one below the other and above it.
		{made(l(3), nil, l(5)), made(l(3, 5), nil, nil), true, true},
		{made(l(5), nil, l(3)), made(l(3, 5), nil, nil), true, true},
		{made(l(3), nil, l(5)), made(l(3, 5, 7), nil, nil), false, true},
		{made(l(3), nil, l(5)), made(l(5), nil, nil), true, false},
		// I and O together, likewise.
		{made(nil, l(3), l(5)), made(nil, l(3, 5), nil), true, true},
		{made(nil, l(5), l(3)), made(nil, l(3, 5), nil), true, true},
		{made(nil, l(3), l(5)), made(nil, l(3, 5, 7), nil), true, false},
		{made(nil, l(3), l(5)), made(nil, l(5), nil), false, true},
		// What one category allows another one forbids, in either list.
		{made(l(3), l(5), nil), made(l(3), nil, nil), false, true},
		{made(l(3), l(5), nil), made(nil, l(5), nil), true, false},
		{made(l(3), nil, nil), made(l(3), l(5), nil), true, false},
		{made(nil, l(5), nil), made(l(3), l(5), nil), false, true},
		{made(l(3), l(5), l(7)), made(l(3, 7), l(5), nil), true, true},
		{made(l(3), l(5), l(7)), made(l(3), l(5, 7), nil), true, true},
	} {
		if sees, turns := may2.Sees(x.t, x.o), may2.Turns(x.t, x.o); sees != x.sees || turns != x.turns {
			t.Errorf("%v, %v: Sees %v, Turns %v", x.t, x.o, sees, turns)
		}
	}
}

func TestSeesAndTurnsOfEveryTwoSmallLabels(t *testing.T) {
	each(threads(), objects(), func(a, o api.Sets) { holdMay(t, a, o) })
}

func TestSeesAndTurnsOfEveryTwoFullLabels(t *testing.T) {
	each(fullLabels(), fullObjects(), func(a, o api.Sets) { holdMay(t, a, o) })
}

func TestSeesAsksForWhatWasSeenAlone(t *testing.T) {
	for _, a := range fullLabels() {
		o := made(together(a.S, a.O), a.I, nil)
		if !may2.Sees(a, o) {
			t.Errorf("Sees(%v, %v): no", a, o)
		}
		for _, c := range o.S {
			if fewer := made(without(o.S, c), o.I, nil); !may2.Sees(a, fewer) {
				t.Errorf("Sees(%v, %v): no", a, fewer)
			}
			// Another one in its place: as many as there were, and none of the thread's.
			if other := made(together(without(o.S, c), l(30000)), o.I, nil); may2.Sees(a, other) {
				t.Errorf("Sees(%v, %v): yes", a, other)
			}
		}
	}
}

func TestSeesAsksForWhatVouchesAlone(t *testing.T) {
	for _, a := range fullLabels() {
		o := made(nil, a.I, nil)
		if !may2.Sees(a, o) {
			t.Errorf("Sees(%v, %v): no", a, o)
		}
		if more := made(nil, together(a.I, l(30000)), nil); len(a.I) < api.MaxPairs && !may2.Sees(a, more) {
			t.Errorf("Sees(%v, %v): no", a, more)
		}
		for _, c := range o.I {
			fewer := made(nil, without(o.I, c), nil)
			other := made(nil, together(fewer.I, l(30000)), nil)
			if may2.Sees(a, fewer) || may2.Sees(a, other) {
				t.Errorf("%v sees what %d does not vouch for", a, c)
			}
		}
	}
}

func TestTurnsAsksForWhatWasSeenAlone(t *testing.T) {
	for _, a := range fullLabels() {
		o := made(a.S, nil, nil)
		if !may2.Turns(a, o) {
			t.Errorf("Turns(%v, %v): no", a, o)
		}
		if more := made(together(a.S, l(30000)), nil, nil); len(a.S) < api.MaxPairs && !may2.Turns(a, more) {
			t.Errorf("Turns(%v, %v): no", a, more)
		}
		for _, c := range o.S {
			fewer := made(without(o.S, c), nil, nil)
			other := made(together(fewer.S, l(30000)), nil, nil)
			if may2.Turns(a, fewer) || may2.Turns(a, other) {
				t.Errorf("%v turns what has not seen %d", a, c)
			}
		}
	}
}

func TestTurnsAsksForWhatVouchesAlone(t *testing.T) {
	for _, a := range fullLabels() {
		o := made(a.S, together(a.I, a.O), nil)
		if !may2.Turns(a, o) {
			t.Errorf("Turns(%v, %v): no", a, o)
		}
		for _, c := range o.I {
			if fewer := made(o.S, without(o.I, c), nil); !may2.Turns(a, fewer) {
				t.Errorf("Turns(%v, %v): no", a, fewer)
			}
			if other := made(o.S, together(without(o.I, c), l(30000)), nil); may2.Turns(a, other) {
				t.Errorf("Turns(%v, %v): yes", a, other)
			}
		}
	}
}

func TestAnOwnerSeesAndTurnsAllOfItsCategory(t *testing.T) {
	for _, c := range edgeCats() {
		for _, where := range []int{nowhere, inS, inI} {
			for _, rest := range []api.Sets{{}, made(l(7), nil, nil), made(nil, l(7), nil), made(l(7, 300), l(8, 40000), nil)} {
				// But for c both are one: only what stands at c could hinder.
				thread, o := at(rest, inO, c), at(rest, where, c)
				if !may2.Sees(thread, o) || !may2.Turns(thread, o) {
					t.Errorf("%v, %v: Sees %v, Turns %v", thread, o, may2.Sees(thread, o), may2.Turns(thread, o))
				}
			}
		}
	}
}

func TestAnOwnerOfAllSeesAndTurnsAll(t *testing.T) {
	owner := made(nil, nil, count(0, 4369, api.MaxPairs))
	for s := range api.MaxPairs + 1 {
		o := woven(s, api.MaxPairs-s, 0)
		if !may2.Sees(owner, o) || !may2.Turns(owner, o) {
			t.Errorf("%v: Sees %v, Turns %v", o, may2.Sees(owner, o), may2.Turns(owner, o))
		}
		for _, c := range owner.O {
			fewer := made(nil, nil, without(owner.O, c))
			if may2.Sees(fewer, o) && may2.Turns(fewer, o) {
				t.Errorf("%v sees and turns %v", fewer, o)
			}
		}
	}
}

// An object's O is empty, so the words of P10.1 do not name it: what stands there nonetheless says nothing.
func TestSeesAndTurnsDoNotHangOnWhatAnObjectOwns(t *testing.T) {
	each(threads(), threads(), func(a, o api.Sets) { holdMay(t, a, o) })
}

// P10.2 Rises, Makes

func TestRisesAndMakesOfNothing(t *testing.T) {
	if rises, makes := may2.Rises(api.Sets{}, api.Sets{}), may2.Makes(api.Sets{}, api.Sets{}); rises != api.OK || makes != api.OK {
		t.Errorf("of nothing: Rises %d, Makes %d", rises, makes)
	}
}

func TestRisesAndMakesOfOneCategoryAtEachPlace(t *testing.T) {
	for _, x := range []struct {
		thread, named int
		rises, makes  api.Errno
	}{
		{nowhere, nowhere, api.OK, api.OK}, {nowhere, inS, api.OK, api.OK}, {nowhere, inI, api.ErrLabel, api.ErrLabel}, {nowhere, inO, api.ErrStar, api.ErrStar},
		{inS, nowhere, api.ErrLabel, api.ErrLabel}, {inS, inS, api.OK, api.OK}, {inS, inI, api.ErrLabel, api.ErrLabel}, {inS, inO, api.ErrStar, api.ErrStar},
		{inI, nowhere, api.OK, api.OK}, {inI, inS, api.OK, api.OK}, {inI, inI, api.OK, api.OK}, {inI, inO, api.ErrStar, api.ErrStar},
		{inO, nowhere, api.OK, api.OK}, {inO, inS, api.OK, api.OK}, {inO, inI, api.OK, api.OK}, {inO, inO, api.OK, api.ErrStar},
	} {
		for _, c := range edgeCats() {
			thread, named := at(api.Sets{}, x.thread, c), at(api.Sets{}, x.named, c)
			if got := may2.Rises(thread, named); got != x.rises {
				t.Errorf("Rises(%v, %v): %d", thread, named, got)
			}
			if got := may2.Makes(thread, named); got != x.makes {
				t.Errorf("Makes(%v, %v): %d", thread, named, got)
			}
		}
	}
}

func TestRisesAndMakesOfSeveralCategories(t *testing.T) {
	for _, x := range []struct {
		t, s         api.Sets
		rises, makes api.Errno
	}{
		// What is owned may be kept, let go of, put into S and into I, each one as one likes.
		{made(nil, nil, l(3, 5, 7)), made(nil, nil, l(3, 5, 7)), api.OK, api.ErrStar},
		{made(nil, nil, l(3, 5, 7)), made(nil, nil, l(5)), api.OK, api.ErrStar},
		{made(nil, nil, l(3, 5, 7)), api.Sets{}, api.OK, api.OK},
		{made(nil, nil, l(3, 5, 7)), made(l(3), l(5), l(7)), api.OK, api.ErrStar},
		{made(nil, nil, l(3, 5, 7)), made(l(7), l(3, 5), nil), api.OK, api.OK},
		{made(l(0), l(65535), l(3)), made(l(0, 3), l(65535), nil), api.OK, api.OK},
		{made(l(0), l(65535), l(3)), made(l(0), l(3, 65535), nil), api.OK, api.OK},
		// ErrStar alone: what t lacks, with all else as it may be.
		{api.Sets{}, made(nil, nil, l(0)), api.ErrStar, api.ErrStar},
		{made(nil, nil, l(3)), made(nil, nil, l(4)), api.ErrStar, api.ErrStar},
		{made(nil, nil, l(3)), made(nil, nil, l(3, 65535)), api.ErrStar, api.ErrStar},
		{made(l(1), l(2), l(3)), made(l(1), nil, l(2, 3)), api.ErrStar, api.ErrStar},
		// ErrLabel alone: what t has seen is not in s.S.
		{made(l(0, 65535), nil, nil), made(l(0), nil, nil), api.ErrLabel, api.ErrLabel},
		{made(l(3), nil, l(5)), made(l(5), nil, nil), api.ErrLabel, api.ErrLabel},
		{made(l(3), nil, l(5)), made(nil, l(5), nil), api.ErrLabel, api.ErrLabel},
		// ErrLabel alone: s.I is not in t.I and t.O together.
		{made(nil, l(3), l(5)), made(nil, l(3, 5, 7), nil), api.ErrLabel, api.ErrLabel},
		{made(nil, l(65535), nil), made(nil, l(0), nil), api.ErrLabel, api.ErrLabel},
		{made(l(3), nil, l(5)), made(l(3), l(0), nil), api.ErrLabel, api.ErrLabel},
		// Both lists hinder.
		{made(l(3), nil, nil), made(nil, l(5), nil), api.ErrLabel, api.ErrLabel},
		// What t owns may stand in s.O, but t does not come there: an object may not own it anyhow.
		{made(l(5), nil, l(3)), made(nil, nil, l(3)), api.ErrLabel, api.ErrStar},
		{made(nil, nil, l(3)), made(nil, l(5), l(3)), api.ErrLabel, api.ErrStar},
	} {
		if got := may2.Rises(x.t, x.s); got != x.rises {
			t.Errorf("Rises(%v, %v): %d, want %d", x.t, x.s, got, x.rises)
		}
		if got := may2.Makes(x.t, x.s); got != x.makes {
			t.Errorf("Makes(%v, %v): %d, want %d", x.t, x.s, got, x.makes)
		}
	}
}

func TestOfBothErrorsErrStarIsTold(t *testing.T) {
	for _, x := range []struct{ t, s api.Sets }{
		{made(l(3), nil, nil), made(nil, nil, l(5))},
		{made(l(3), nil, nil), made(nil, nil, l(3))},
		{made(l(3), nil, l(7)), made(nil, nil, l(5, 7))},
		{api.Sets{}, made(nil, l(3), l(5))},
		{made(nil, l(0), l(7)), made(nil, l(0, 3), l(7, 65535))},
		{made(l(3), nil, nil), made(nil, l(4), l(5))},
	} {
		if rises, makes := may2.Rises(x.t, x.s), may2.Makes(x.t, x.s); rises != api.ErrStar || makes != api.ErrStar {
			t.Errorf("%v, %v: Rises %d, Makes %d", x.t, x.s, rises, makes)
		}
		// Without what hinders it by its O, s is still where t may not come.
		if s := made(x.s.S, x.s.I, nil); may2.Rises(x.t, s) != api.ErrLabel || may2.Makes(x.t, s) != api.ErrLabel {
			t.Errorf("%v, %v: Rises %d, Makes %d", x.t, s, may2.Rises(x.t, s), may2.Makes(x.t, s))
		}
	}
}

func TestRisesAndMakesOfEveryTwoSmallLabels(t *testing.T) {
	rises, makes := map[api.Errno]int{}, map[api.Errno]int{}
	each(threads(), threads(), func(a, s api.Sets) {
		holdErrors(t, a, s)
		rises[may2.Rises(a, s)]++
		makes[may2.Makes(a, s)]++
	})
	for _, e := range []api.Errno{api.OK, api.ErrStar, api.ErrLabel} {
		if rises[e] == 0 || makes[e] == 0 {
			t.Errorf("%d is never told", e)
		}
	}
}

func TestRisesAndMakesOfEveryTwoFullLabels(t *testing.T) {
	each(fullLabels(), fullLabels(), func(a, s api.Sets) { holdErrors(t, a, s) })
}

func TestRisesAndMakesWhereOneCategoryOfManyMoves(t *testing.T) {
	for _, a := range fullLabels() {
		for _, c := range slices.Concat(a.S, a.I, a.O) {
			for _, where := range []int{nowhere, inS, inI, inO} {
				holdErrors(t, a, at(a, where, c))
				holdErrors(t, at(a, where, c), a)
				// Without its O the label may be an object's.
				o := at(made(a.S, a.I, nil), where, c)
				holdErrors(t, a, o)
				holdMay(t, a, made(o.S, o.I, nil))
			}
		}
	}
}

func TestOneKeepsItsLabelAndMakesNoOwner(t *testing.T) {
	for _, a := range slices.Concat(threads(), fullLabels()) {
		if e := may2.Rises(a, a); e != api.OK {
			t.Errorf("Rises(%v) to itself: %d", a, e)
		}
		want := api.OK
		if len(a.O) > 0 {
			want = api.ErrStar
		}
		if e := may2.Makes(a, a); e != want {
			t.Errorf("Makes(%v) of itself: %d", a, e)
		}
	}
}

func TestMakesOfWhatOneOwnsIsErrStar(t *testing.T) {
	for n := 1; n <= api.MaxPairs; n++ {
		owner := made(nil, nil, count(65536-n, 1, n))
		for _, c := range owner.O {
			if e := may2.Makes(owner, made(nil, nil, l(c))); e != api.ErrStar {
				t.Errorf("Makes(%v) of an owner of %d: %d", owner, c, e)
			}
			if e := may2.Rises(owner, made(nil, nil, l(c))); e != api.OK {
				t.Errorf("Rises(%v) to an owner of %d: %d", owner, c, e)
			}
			fewer := made(nil, nil, without(owner.O, c))
			if e := may2.Rises(fewer, owner); e != api.ErrStar {
				t.Errorf("Rises(%v) to an owner of %d too: %d", fewer, c, e)
			}
		}
	}
}

// What follows

// butFor answers s without these categories.
func butFor(s api.Sets, own []uint16) api.Sets {
	for _, c := range own {
		s = at(s, nowhere, c)
	}
	return s
}

func TestWhatOneSeesFlowsToItAndWhatItTurnsItFlowsTo(t *testing.T) {
	each(threads(), objects(), func(a, o api.Sets) {
		// But for what it owns, of which it sees and turns all.
		thread, object := butFor(a, a.O), butFor(o, a.O)
		if may2.Sees(a, o) != sets.Flows(object, thread) {
			t.Errorf("Sees(%v, %v): %v", a, o, may2.Sees(a, o))
		}
		if may2.Turns(a, o) != sets.Flows(thread, object) {
			t.Errorf("Turns(%v, %v): %v", a, o, may2.Turns(a, o))
		}
	})
}

func TestWhatIsSeenFlowsToWhatIsTurned(t *testing.T) {
	for _, a := range threads() {
		each(objects(), objects(), func(x, y api.Sets) {
			if may2.Sees(a, x) && may2.Turns(a, y) && !sets.Flows(butFor(x, a.O), butFor(y, a.O)) {
				t.Errorf("%v sees %v and turns %v", a, x, y)
			}
		})
	}
}

func TestWhoHasRisenTurnsNoMore(t *testing.T) {
	each(threads(), threads(), func(a, s api.Sets) {
		for _, o := range objects() {
			if may2.Rises(a, s) == api.OK && may2.Turns(s, o) && !may2.Turns(a, o) {
				t.Errorf("%v risen to %v turns %v", a, s, o)
			}
		}
	})
}

// levels answers the label of levels that says what s says: L3 of what was seen, L0 of what vouches, a star of what is owned.
func levels(s api.Sets) api.Label {
	out := label.Make(api.L1, nil)
	for _, c := range s.S {
		out = label.Set(out, c, api.L3)
	}
	for _, c := range s.I {
		out = label.Set(out, c, api.L0)
	}
	for _, c := range s.O {
		out = label.Set(out, c, api.Star)
	}
	return out
}

func TestSetsSayWhatLevelsSay(t *testing.T) {
	each(threads(), threads(), func(a, s api.Sets) {
		if rises, makes := may2.Rises(a, s), may2.Makes(a, s); rises != may1.Rises(levels(a), levels(s)) || makes != may1.Makes(levels(a), levels(s)) {
			t.Errorf("%v, %v: Rises %d, Makes %d", a, s, rises, makes)
		}
	})
	each(threads(), objects(), func(a, o api.Sets) {
		if sees, turns := may2.Sees(a, o), may2.Turns(a, o); sees != may1.Sees(levels(a), levels(o)) || turns != may1.Turns(levels(a), levels(o)) {
			t.Errorf("%v, %v: Sees %v, Turns %v", a, o, sees, turns)
		}
	})
}

// R1, R4

// answers is what every call tells of two labels.
type answers struct {
	sees, turns  bool
	rises, makes api.Errno
}

// tell answers what every call tells of two labels.
func tell(a, b api.Sets) answers {
	return answers{may2.Sees(a, b), may2.Turns(a, b), may2.Rises(a, b), may2.Makes(a, b)}
}

// holdSame asks that every call of these labels ends, and tells the same when it is asked again.
func holdSame(t *testing.T, a, b api.Sets) {
	t.Helper()
	if first, second := tell(a, b), tell(a, b); first != second {
		t.Errorf("labels of %v and %v: told %v, then %v", brief(a), brief(b), first, second)
	}
	for _, e := range []api.Errno{may2.Rises(a, b), may2.Makes(a, b)} {
		if e != api.OK && e != api.ErrStar && e != api.ErrLabel {
			t.Errorf("labels of %v and %v: error %d", brief(a), brief(b), e)
		}
	}
}

// brief answers how many categories s has at each place, for what a test says of great labels.
func brief(s api.Sets) [3]int { return [3]int{len(s.S), len(s.I), len(s.O)} }

// badLabels answers labels that may not be, none of them great.
func badLabels() []api.Sets {
	var out []api.Sets
	for _, list := range [][]uint16{l(5, 5), l(6, 5), l(0, 65535, 0), l(65535, 0), slices.Repeat(l(4), 16), slices.Repeat(l(4), 300), count(0, 1, api.MaxCats+1), count(9, 7, 300)} {
		out = append(out, made(list, nil, nil), made(nil, list, nil), made(nil, nil, list), made(l(1), list, l(9)), made(list, list, list))
	}
	return append(out, made(l(3), l(3), nil), made(l(3), nil, l(3)), made(nil, l(3), l(3)), made(l(3), l(3), l(3)), made(count(0, 1, 9), count(20, 1, 9), count(40, 1, 9)))
}

// greatLabels answers labels of every category there is, rising, falling and more than once.
func greatLabels() []api.Sets {
	up := count(0, 1, allCats)
	down := slices.Clone(up)
	slices.Reverse(down)
	round := count(0, 1, 2*allCats)
	return []api.Sets{made(up, nil, nil), made(nil, up, nil), made(nil, nil, up), made(up, up, up), made(down, up, down), made(nil, down, up), made(round, nil, down), made(nil, round, round)}
}

func TestWhateverLabelsCallsEndAndTellTheSame(t *testing.T) {
	every := slices.Concat(badLabels(), threads(), fullLabels()[:20])
	each(every, every, func(a, b api.Sets) { holdSame(t, a, b) })
}

func TestWhateverGreatLabelsCallsEndAndTellTheSame(t *testing.T) {
	great := greatLabels()
	few := append(badLabels()[:10], api.Sets{}, made(l(0), l(3), l(65535)))
	each(great, great, func(a, b api.Sets) { holdSame(t, a, b) })
	each(great, few, func(a, b api.Sets) {
		holdSame(t, a, b)
		holdSame(t, b, a)
	})
}

func TestWhateverListsCallsEndAndTellTheSame(t *testing.T) {
	seed := uint32(7)
	random := func(size int) []uint16 {
		list := make([]uint16, size)
		for i := range list {
			seed = seed*1664525 + 1013904223
			list[i] = uint16(seed>>16) % 40
		}
		return list
	}
	for n := range 5000 {
		holdSame(t, made(random(n%23), random(n%7), random(n%19)), made(random(n%5), random(n%17), random(n%11)))
	}
}

// Sets however great are sets: cats promises the same of them.
func TestSeesAndTurnsOfGreatSets(t *testing.T) {
	half, other := count(0, 2, allCats/2), count(1, 2, allCats/2)
	all := count(0, 1, allCats)
	if !may2.Sees(made(half, nil, other), made(all, nil, nil)) || may2.Sees(made(half, nil, other[1:]), made(all, nil, nil)) {
		t.Error("Sees of all categories, seen or owned")
	}
	if !may2.Turns(made(nil, half, other), made(nil, all, nil)) || may2.Turns(made(nil, half[1:], other), made(nil, all, nil)) {
		t.Error("Turns of all categories, vouching or owned")
	}
}

// R3

// roomy answers list with spare room behind it, all of it filled, so that a write into it shows.
func roomy(list []uint16) []uint16 {
	whole := append(slices.Clone(list), 0, 0xa5a5, 3, 65535, 7)
	return whole[:len(list)]
}

// roomySets answers s with spare room behind each of its three.
func roomySets(s api.Sets) api.Sets { return made(roomy(s.S), roomy(s.I), roomy(s.O)) }

// whole answers a copy of the three lists of s and of their spare room, one behind the other.
func whole(s api.Sets) []uint16 {
	return slices.Concat(s.S[:cap(s.S)], s.I[:cap(s.I)], s.O[:cap(s.O)])
}

// scribble overwrites the three lists of s and their spare room.
func scribble(s api.Sets) {
	for _, list := range [][]uint16{s.S, s.I, s.O} {
		list = list[:cap(list)]
		for i := range list {
			list[i] = ^list[i]
		}
	}
}

// memoryLabels answers labels for which it is looked at what memory is theirs: such as may be, and others.
func memoryLabels() []api.Sets {
	return slices.Concat(threads(), fullLabels()[:40], badLabels())
}

func TestWhatIsHandedInIsNotChanged(t *testing.T) {
	each(memoryLabels(), memoryLabels(), func(x, y api.Sets) {
		a, b := roomySets(x), roomySets(y)
		wasA, wasB := whole(a), whole(b)
		tell(a, b)
		if !slices.Equal(whole(a), wasA) || !slices.Equal(whole(b), wasB) {
			t.Errorf("%v and %v: changed", x, y)
		}
	})
}

func TestWhatIsHandedInIsNotKept(t *testing.T) {
	each(memoryLabels(), memoryLabels(), func(x, y api.Sets) {
		a, b := roomySets(x), roomySets(y)
		want := tell(a, b)
		scribble(a)
		scribble(b)
		tell(a, b)
		if got := tell(x, y); got != want {
			t.Errorf("%v and %v: told %v, and %v once what was handed in had changed", x, y, want, got)
		}
	})
}

func TestOneLabelHandedInTwiceIsAsTwo(t *testing.T) {
	for _, s := range memoryLabels() {
		a := roomySets(s)
		if got, want := tell(a, a), tell(a, roomySets(s)); got != want {
			t.Errorf("%v handed in twice: %v, want %v", s, got, want)
		}
	}
}

// filled answers s with empty lists for nil ones.
func filled(s api.Sets) api.Sets {
	return made(append([]uint16{}, s.S...), append([]uint16{}, s.I...), append([]uint16{}, s.O...))
}

// bare answers s with nil for empty lists.
func bare(s api.Sets) api.Sets {
	return made(append([]uint16(nil), s.S...), append([]uint16(nil), s.I...), append([]uint16(nil), s.O...))
}

func TestNilAndEmptyAreOne(t *testing.T) {
	each(memoryLabels(), memoryLabels(), func(a, b api.Sets) {
		want := tell(bare(a), bare(b))
		if tell(filled(a), bare(b)) != want || tell(bare(a), filled(b)) != want || tell(filled(a), filled(b)) != want {
			t.Errorf("%v and %v: nil and empty differ", a, b)
		}
	})
}
