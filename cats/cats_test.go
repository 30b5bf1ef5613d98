package cats_test

import (
	"bytes"
	"slices"
	"testing"

	"transom/api"
	"transom/cats"
)

// spareCat and spareByte fill spare room, so that a write into it shows.
const (
	spareCat  = 0xa5a5
	spareByte = 0xa5
)

// roomy answers l with spare room behind it, all of it filled.
func roomy[T any](l []T, fill T) []T {
	whole := append(slices.Clone(l), slices.Repeat([]T{fill}, 5)...)
	return whole[:len(l)]
}

// whole answers a copy of l and of its spare room.
func whole[T any](l []T) []T { return slices.Clone(l[:cap(l)]) }

// scribble overwrites l and its spare room.
func scribble[T uint16 | byte](l []T) {
	l = l[:cap(l)]
	for i := range l {
		l[i] = ^l[i]
	}
}

// count answers the set of n categories from first on, each step above the one ahead.
func count(first, step, n int) []uint16 {
	var out []uint16
	for i := range n {
		out = append(out, uint16(first+i*step))
	}
	return out
}

// all answers every category there is.
func all() []uint16 { return count(0, 1, 1<<16) }

// sets answers sets that share none, some and all of their categories, and sets greater than MaxCats.
func sets() [][]uint16 {
	return [][]uint16{
		nil, {}, {0}, {1}, {3}, {65535}, {0, 65535}, {65534, 65535},
		{1, 3, 5, 65535}, {0, 3, 4, 5}, {2, 4, 6}, {3, 5}, {255, 256, 257, 32767, 32768},
		count(0, 1, api.MaxCats), count(0, 1, api.MaxCats+1), count(8, 1, api.MaxCats), count(65536-20, 1, 20),
		count(0, 2, 300), count(1, 2, 300), count(0, 3, 1000), all(),
	}
}

// eachTwo calls try with every two of sets.
func eachTwo(try func(a, b []uint16)) {
	for _, a := range sets() {
		for _, b := range sets() {
			try(a, b)
		}
	}
}

// marks answers which categories l has, by a mark for each that there is.
func marks(l []uint16) []bool {
	out := make([]bool, 1<<16)
	for _, c := range l {
		out[c] = true
	}
	return out
}

// marked answers the set of the categories whose marks in a and b are such that keep says yes.
func marked(a, b []bool, keep func(inA, inB bool) bool) []uint16 {
	var out []uint16
	for c := range 1 << 16 {
		if keep(a[c], b[c]) {
			out = append(out, uint16(c))
		}
	}
	return out
}

// lists answers lists that are no sets: such as fall, and such as have one twice.
func lists() [][]uint16 {
	down := all()
	slices.Reverse(down)
	return [][]uint16{
		{2, 2}, {3, 2}, {0, 0}, {65535, 65535}, {65535, 0}, {1, 2, 2}, {1, 1, 2}, {1, 3, 2}, {2, 1, 3}, {7, 2, 7, 0, 2},
		{5, 4, 3, 2, 1, 0}, slices.Repeat([]uint16{9}, 100), slices.Repeat([]uint16{0}, api.MaxCats), append(count(0, 1, 15), 14),
		slices.Repeat([]uint16{8, 1, 9}, 70), down, slices.Concat(all(), all()),
	}
}

// P4.1 May

func TestMayOfSets(t *testing.T) {
	for _, l := range [][]uint16{nil, {}, {0}, {7}, {65535}, {0, 1}, {0, 65535}, {65534, 65535}, {255, 256}, {1, 3, 1000, 32768}} {
		if !cats.May(l) {
			t.Errorf("May(%v): no", l)
		}
	}
}

func TestMayOfAtMostMaxCats(t *testing.T) {
	for n := range 3 * api.MaxCats {
		for _, l := range [][]uint16{count(0, 1, n), count(65536-n, 1, n), count(5, 999, n)} {
			if got := cats.May(l); got != (n <= api.MaxCats) {
				t.Errorf("May of %d categories: %v", n, got)
			}
		}
	}
	for _, n := range []int{255, 256, 256 + 5, 65536} {
		if cats.May(count(0, 1, n)) {
			t.Errorf("May of %d categories: yes", n)
		}
	}
}

func TestMayNotOfListsThatAreNoSets(t *testing.T) {
	for _, l := range lists() {
		if cats.May(l) {
			t.Errorf("May of a list of %d that begins %v: yes", len(l), l[:2])
		}
	}
}

func TestMayLooksAtEveryTwoNeighbours(t *testing.T) {
	for n := 2; n <= api.MaxCats; n++ {
		for at := 1; at < n; at++ {
			twice, falls := count(10, 10, n), count(10, 10, n)
			twice[at] = twice[at-1]
			falls[at-1], falls[at] = falls[at], falls[at-1]
			if cats.May(twice) || cats.May(falls) {
				t.Errorf("May: yes of %v or of %v", twice, falls)
			}
		}
	}
}

// P4.1 Make

func TestMakeOfLists(t *testing.T) {
	for _, x := range []struct{ l, want []uint16 }{
		{nil, nil},
		{[]uint16{}, nil},
		{[]uint16{4}, []uint16{4}},
		{[]uint16{4, 4, 4}, []uint16{4}},
		{[]uint16{0, 0}, []uint16{0}},
		{[]uint16{65535, 0}, []uint16{0, 65535}},
		{[]uint16{7, 2, 7, 0, 2}, []uint16{0, 2, 7}},
		{[]uint16{1, 2, 3}, []uint16{1, 2, 3}},
		{[]uint16{3, 2, 1}, []uint16{1, 2, 3}},
		{[]uint16{256, 1, 255, 65535, 1, 32768, 0, 32767}, []uint16{0, 1, 255, 256, 32767, 32768, 65535}},
	} {
		if got := cats.Make(x.l); !slices.Equal(got, x.want) {
			t.Errorf("Make(%v): %v, want %v", x.l, got, x.want)
		}
	}
}

func TestMakeOfWhateverList(t *testing.T) {
	for _, l := range slices.Concat(lists(), sets()) {
		m := marks(l)
		want := marked(m, m, func(in, _ bool) bool { return in })
		if got := cats.Make(l); !slices.Equal(got, want) {
			t.Errorf("Make of a list of %d: %d categories, want %d", len(l), len(got), len(want))
		}
	}
}

// P4.1 Has

func TestHasOfEveryCategory(t *testing.T) {
	for i, l := range sets() {
		m := marks(l)
		for c := range 1 << 16 {
			if got := cats.Has(l, uint16(c)); got != m[c] {
				t.Fatalf("set %d: Has(%d): %v", i, c, got)
			}
		}
	}
}

// P4.1 Or, And, Less, In

func TestOrAndLessInOfFewCategories(t *testing.T) {
	a, b := []uint16{1, 3, 5, 65535}, []uint16{0, 3, 4, 5}
	for _, x := range []struct {
		says      string
		got, want []uint16
	}{
		{"Or", cats.Or(a, b), []uint16{0, 1, 3, 4, 5, 65535}},
		{"And", cats.And(a, b), []uint16{3, 5}},
		{"Less", cats.Less(a, b), []uint16{1, 65535}},
		{"Less, the other way", cats.Less(b, a), []uint16{0, 4}},
		{"Or with none", cats.Or(a, nil), a},
		{"Or of none", cats.Or(nil, b), b},
		{"And with none", cats.And(a, nil), nil},
		{"Less none", cats.Less(a, nil), a},
		{"none Less", cats.Less(nil, a), nil},
		{"Less itself", cats.Less(a, a), nil},
		{"Or of none with none", cats.Or(nil, nil), nil},
	} {
		if !slices.Equal(x.got, x.want) {
			t.Errorf("%s: %v, want %v", x.says, x.got, x.want)
		}
	}
}

func TestInOfFewCategories(t *testing.T) {
	a := []uint16{1, 3, 5, 65535}
	for _, l := range [][]uint16{nil, {}, {1}, {3}, {65535}, {1, 65535}, {3, 5}, {1, 3, 5}, a} {
		if !cats.In(l, a) {
			t.Errorf("In(%v, %v): no", l, a)
		}
	}
	for _, l := range [][]uint16{{0}, {2}, {4}, {65534}, {0, 1}, {1, 2}, {5, 65534, 65535}, {1, 3, 4, 5, 65535}} {
		if cats.In(l, a) {
			t.Errorf("In(%v, %v): yes", l, a)
		}
	}
	if !cats.In(nil, nil) || cats.In(a, nil) || cats.In([]uint16{0}, nil) {
		t.Error("In of none")
	}
}

func TestOrAndLessInOfEveryTwoSets(t *testing.T) {
	or := func(inA, inB bool) bool { return inA || inB }
	and := func(inA, inB bool) bool { return inA && inB }
	less := func(inA, inB bool) bool { return inA && !inB }
	eachTwo(func(a, b []uint16) {
		inA, inB := marks(a), marks(b)
		if got, want := cats.Or(a, b), marked(inA, inB, or); !slices.Equal(got, want) {
			t.Errorf("Or of %d and %d: %d categories, want %d", len(a), len(b), len(got), len(want))
		}
		if got, want := cats.And(a, b), marked(inA, inB, and); !slices.Equal(got, want) {
			t.Errorf("And of %d and %d: %d categories, want %d", len(a), len(b), len(got), len(want))
		}
		want := marked(inA, inB, less)
		if got := cats.Less(a, b); !slices.Equal(got, want) {
			t.Errorf("Less of %d and %d: %d categories, want %d", len(a), len(b), len(got), len(want))
		}
		if got := cats.In(a, b); got != (len(want) == 0) {
			t.Errorf("In of %d and %d: %v", len(a), len(b), got)
		}
	})
}

// smallSet answers the set of those below 6 whose bits are set.
func smallSet(bits int) []uint16 {
	var out []uint16
	for c := range 6 {
		if bits>>c&1 == 1 {
			out = append(out, uint16(c))
		}
	}
	return out
}

func TestOrAndLessInOfEveryTwoSmallSets(t *testing.T) {
	for i := range 64 {
		for k := range 64 {
			a, b := smallSet(i), smallSet(k)
			if got := cats.Or(a, b); !slices.Equal(got, smallSet(i|k)) {
				t.Errorf("Or(%v, %v): %v", a, b, got)
			}
			if got := cats.And(a, b); !slices.Equal(got, smallSet(i&k)) {
				t.Errorf("And(%v, %v): %v", a, b, got)
			}
			if got := cats.Less(a, b); !slices.Equal(got, smallSet(i&^k)) {
				t.Errorf("Less(%v, %v): %v", a, b, got)
			}
			if got := cats.In(a, b); got != (i&^k == 0) {
				t.Errorf("In(%v, %v): %v", a, b, got)
			}
		}
	}
}

// P4.2 Put

func TestPutTellsTheExample(t *testing.T) {
	if got := cats.Put(nil, []uint16{3}); !bytes.Equal(got, []byte{1, 0, 3}) {
		t.Errorf("Put(nil, {3}): %v", got)
	}
}

func TestPutLaysCountAndCategories(t *testing.T) {
	most, want := count(250, 1, api.MaxCats), []byte{9, 8, 16}
	for _, c := range most {
		want = append(want, byte(c/256), byte(c%256))
	}
	for _, x := range []struct {
		b    []byte
		l    []uint16
		want []byte
	}{
		{nil, nil, []byte{0}},
		{[]byte{}, []uint16{}, []byte{0}},
		{[]byte{7}, nil, []byte{7, 0}},
		{nil, []uint16{0}, []byte{1, 0, 0}},
		{nil, []uint16{65535}, []byte{1, 255, 255}},
		{[]byte{9}, []uint16{3, 258}, []byte{9, 2, 0, 3, 1, 2}},
		{[]byte{1, 2, 3}, []uint16{255, 256, 65280}, []byte{1, 2, 3, 3, 0, 255, 1, 0, 255, 0}},
		{[]byte{9, 8}, most, want},
	} {
		if got := cats.Put(x.b, x.l); !bytes.Equal(got, x.want) {
			t.Errorf("Put(%v, %v): %v, want %v", x.b, x.l, got, x.want)
		}
	}
}

// P4.2 Take

// maySets answers sets of none to MaxCats categories, at either end and spread.
func maySets() [][]uint16 {
	out := [][]uint16{{0}, {65535}, {0, 65535}, {255, 256, 32768}}
	for n := range api.MaxCats + 1 {
		out = append(out, count(0, 1, n), count(65536-n, 1, n), count(1, 4369, min(n, 15)), count(77, 1000, n))
	}
	return out
}

func TestTakeReadsWhatPutWrote(t *testing.T) {
	for _, l := range maySets() {
		for _, more := range [][]byte{nil, {0}, {77}, {255, 255, 255}} {
			b := append(cats.Put([]byte{3, 4}, l), more...)
			got, n, e := cats.Take(b[2:])
			if !slices.Equal(got, l) || n != 1+2*len(l) || e != api.OK {
				t.Errorf("%v with %v behind: %v, read %d, error %d", l, more, got, n, e)
			}
		}
	}
}

func TestTakeReadsSetsOneBehindAnother(t *testing.T) {
	var b []byte
	for _, l := range maySets() {
		b = cats.Put(b, l)
	}
	for i, want := range maySets() {
		l, n, e := cats.Take(b)
		if !slices.Equal(l, want) || n != 1+2*len(want) || e != api.OK {
			t.Fatalf("set %d: %v, read %d, error %d, want %v", i, l, n, e, want)
		}
		b = b[n:]
	}
	if len(b) != 0 {
		t.Errorf("%d bytes are left", len(b))
	}
}

// wantNo asks that Take of b tells e alone.
func wantNo(t *testing.T, b []byte, want api.Errno) {
	t.Helper()
	if l, n, e := cats.Take(b); len(l) != 0 || n != 0 || e != want {
		t.Errorf("Take of %d bytes that begin %v: %v, read %d, error %d, want %d", len(b), b[:min(len(b), 6)], l, n, e, want)
	}
}

// said answers the bytes of a list as Put lays them, also of a list that Put need not take.
func said(l []uint16) []byte {
	out := []byte{byte(len(l))}
	for _, c := range l {
		out = append(out, byte(c/256), byte(c%256))
	}
	return out
}

func TestTakeOfBytesCutOffIsErrShort(t *testing.T) {
	wantNo(t, nil, api.ErrShort)
	wantNo(t, []byte{}, api.ErrShort)
	for _, l := range maySets() {
		// Spare room behind the cut is not the list's.
		b := cats.Put(nil, l)
		for cut := range len(b) {
			wantNo(t, b[:cut], api.ErrShort)
		}
	}
}

func TestTakeTellsErrShortAheadOfErrForm(t *testing.T) {
	for _, l := range [][]uint16{{5, 5}, {5, 3}, {9, 8, 7}, {1, 1, 1, 2}, count(0, 1, api.MaxCats+1), slices.Repeat([]uint16{4}, 17), count(0, 1, 255)} {
		b := said(l)
		for cut := range len(b) {
			wantNo(t, b[:cut], api.ErrShort)
		}
	}
}

func TestTakeOfMoreThanMaxCatsIsErrForm(t *testing.T) {
	for n := api.MaxCats + 1; n <= 255; n++ {
		b := said(count(3, 7, n))
		wantNo(t, b, api.ErrForm)
		wantNo(t, append(b, 1, 2, 3), api.ErrForm)
	}
}

func TestTakeOfCategoriesThatDoNotRiseIsErrForm(t *testing.T) {
	for n := 2; n <= api.MaxCats; n++ {
		for at := 1; at < n; at++ {
			twice, falls := count(10, 300, n), count(10, 300, n)
			twice[at] = twice[at-1]
			falls[at-1], falls[at] = falls[at], falls[at-1]
			wantNo(t, said(twice), api.ErrForm)
			wantNo(t, append(said(falls), 200), api.ErrForm)
		}
	}
	wantNo(t, []byte{2, 0, 0, 0, 0}, api.ErrForm)
	wantNo(t, []byte{2, 255, 255, 0, 0}, api.ErrForm)
	wantNo(t, []byte{2, 1, 0, 0, 255}, api.ErrForm)
}

// R1, R4

// tell answers what every call tells of two lists and of bytes.
func tell(a, b []uint16, s []byte) (lists [][]uint16, bits []bool, put []byte, n int, e api.Errno) {
	lists = [][]uint16{cats.Make(a), cats.Or(a, b), cats.And(a, b), cats.Less(a, b), nil}
	bits = []bool{cats.May(a), cats.Has(a, 0), cats.Has(a, 9), cats.Has(a, 65535), cats.In(a, b)}
	lists[4], n, e = cats.Take(s)
	return lists, bits, cats.Put(s, a), n, e
}

// tellTwice asks that every call of these ends, and tells the same when it is made again.
func tellTwice(t *testing.T, a, b []uint16, s []byte) {
	t.Helper()
	lists1, bits1, put1, n1, e1 := tell(a, b, s)
	lists2, bits2, put2, n2, e2 := tell(a, b, s)
	if !slices.EqualFunc(lists1, lists2, slices.Equal) || !slices.Equal(bits1, bits2) || !bytes.Equal(put1, put2) || n1 != n2 || e1 != e2 {
		t.Errorf("lists of %d and %d, %d bytes: told two things", len(a), len(b), len(s))
	}
}

func TestWhateverListsCallsEndAndTellTheSame(t *testing.T) {
	every := slices.Concat(lists(), [][]uint16{nil, {}, {0}, {65535}, {1, 3, 5}, count(0, 1, 17), all()})
	for _, a := range every {
		for _, b := range every {
			tellTwice(t, a, b, said(a))
		}
	}
}

func TestWhateverBytesCallsEndAndTellTheSame(t *testing.T) {
	seed := uint32(1)
	for size := range 600 {
		s := make([]byte, size)
		for i := range s {
			seed = seed*1664525 + 1013904223
			s[i] = byte(seed >> 24)
		}
		for first := range min(size, 1) * 256 {
			s[0] = byte(first)
			l, n, e := cats.Take(s)
			if e == api.OK && (!cats.May(l) || !bytes.Equal(cats.Put(nil, l), s[:n])) {
				t.Fatalf("Take(%v): %v, read %d", s, l, n)
			}
			if e != api.OK && (len(l) != 0 || n != 0 || e != api.ErrShort && e != api.ErrForm) {
				t.Fatalf("Take(%v): %v, read %d, error %d", s, l, n, e)
			}
		}
		tellTwice(t, nil, nil, s)
	}
}

// R3

// memoryLists answers lists for which it is looked at what memory is theirs: sets, and others.
func memoryLists() [][]uint16 {
	return [][]uint16{{}, {0}, {5}, {65535}, {1, 3, 5}, {2, 4, 6}, {0, 3, 9}, count(0, 1, 16), count(0, 1, 17), {7, 2, 7, 0}, {3, 2}, {4, 4, 4}}
}

func TestWhatIsHandedInIsNotChanged(t *testing.T) {
	for _, x := range memoryLists() {
		for _, y := range memoryLists() {
			a, b, s := roomy(x, spareCat), roomy(y, spareCat), roomy(said(x), spareByte)
			wasA, wasB, wasS := whole(a), whole(b), whole(s)
			tell(a, b, s)
			if !slices.Equal(whole(a), wasA) || !slices.Equal(whole(b), wasB) || !bytes.Equal(whole(s), wasS) {
				t.Errorf("%v and %v: changed", x, y)
			}
		}
	}
}

func TestWhatIsToldIsNewMemory(t *testing.T) {
	for _, x := range memoryLists() {
		for _, y := range memoryLists() {
			a, b, s := roomy(x, spareCat), roomy(y, spareCat), roomy(said(x), spareByte)
			wasA, wasB, wasS := whole(a), whole(b), whole(s)
			told, _, put, _, _ := tell(a, b, s)
			for _, l := range told {
				scribble(l)
			}
			scribble(put)
			if !slices.Equal(whole(a), wasA) || !slices.Equal(whole(b), wasB) || !bytes.Equal(whole(s), wasS) {
				t.Errorf("%v and %v: an answer is what was handed in", x, y)
			}
		}
	}
}

func TestWhatIsHandedInIsNotKept(t *testing.T) {
	for _, x := range memoryLists() {
		for _, y := range memoryLists() {
			a, b, s := roomy(x, spareCat), roomy(y, spareCat), roomy(said(x), spareByte)
			told, _, put, _, _ := tell(a, b, s)
			scribble(a)
			scribble(b)
			scribble(s)
			want, _, wantPut, _, _ := tell(x, y, said(x))
			if !slices.EqualFunc(told, want, slices.Equal) || !bytes.Equal(put, wantPut) {
				t.Errorf("%v and %v: an answer changed with what was handed in", x, y)
			}
		}
	}
}

func TestNilAndEmptyAreOne(t *testing.T) {
	none, empty := []uint16(nil), []uint16{}
	for _, l := range memoryLists() {
		if !slices.Equal(cats.Or(l, none), cats.Or(l, empty)) || !slices.Equal(cats.Or(none, l), cats.Or(empty, l)) {
			t.Errorf("Or of %v with none", l)
		}
		if !slices.Equal(cats.And(l, none), cats.And(l, empty)) || !slices.Equal(cats.And(none, l), cats.And(empty, l)) {
			t.Errorf("And of %v with none", l)
		}
		if !slices.Equal(cats.Less(l, none), cats.Less(l, empty)) || !slices.Equal(cats.Less(none, l), cats.Less(empty, l)) {
			t.Errorf("Less of %v with none", l)
		}
		if cats.In(l, none) != cats.In(l, empty) || cats.In(none, l) != cats.In(empty, l) {
			t.Errorf("In of %v with none", l)
		}
		if !bytes.Equal(cats.Put(nil, l), cats.Put([]byte{}, l)) {
			t.Errorf("Put of %v behind none", l)
		}
	}
	if cats.May(none) != cats.May(empty) || cats.Has(none, 0) != cats.Has(empty, 0) || !bytes.Equal(cats.Put(nil, none), cats.Put(nil, empty)) {
		t.Error("of none alone")
	}
}
