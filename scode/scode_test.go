package scode_test

import (
	"bytes"
	"slices"
	"testing"

	"transom/api"
	"transom/scode"
)

// maxCount is the most categories that the byte of their number can say.
const maxCount = 255

// places is how many sets a label has: S, I, O.
const places = 3

// l answers the list of these.
func l(c ...uint16) []uint16 { return c }

// made answers the label of these lists, as they are.
func made(s, i, o []uint16) api.Sets { return api.Sets{S: s, I: i, O: o} }

// of answers the label whose S, I and O these are.
func of(lists [places][]uint16) api.Sets { return made(lists[0], lists[1], lists[2]) }

// lists answers the label's S, I and O.
func lists(s api.Sets) [places][]uint16 { return [places][]uint16{s.S, s.I, s.O} }

// changed answers s with list in the place at.
func changed(s api.Sets, at int, list []uint16) api.Sets {
	all := lists(s)
	all[at] = list
	return of(all)
}

// alone answers the label that has list in the place at, and nothing elsewhere.
func alone(at int, list []uint16) api.Sets { return changed(api.Sets{}, at, list) }

// count answers the set of n categories from first on, each step above the one ahead.
func count(first, step, n int) []uint16 {
	var out []uint16
	for i := range n {
		out = append(out, uint16(first+i*step))
	}
	return out
}

// edgeCats answers the categories at either end, and on either side of what one byte says.
func edgeCats() []uint16 {
	return []uint16{0, 1, 255, 256, 257, 32767, 32768, 65279, 65280, 65534, 65535}
}

// spread answers labels of s, i and o categories: in blocks, and woven into one another.
func spread(s, i, o int) []api.Sets {
	return []api.Sets{
		made(count(0, 1, s), count(250, 1, i), count(65536-o, 1, o)),
		made(count(65536-s, 1, s), count(0, 1, i), count(250, 1, o)),
		made(count(2, 3, s), count(0, 3, i), count(1, 3, o)),
	}
}

// edgeLabels answers labels of the edges' categories, in one place and in several.
func edgeLabels() []api.Sets {
	var out []api.Sets
	for at := range places {
		for _, c := range edgeCats() {
			out = append(out, alone(at, l(c)))
		}
		out = append(out, alone(at, edgeCats()), alone(at, l(0, 65535)), alone(at, l(255, 256)), alone(at, count(15, 4096, 16)))
		beside := changed(made(l(0), l(0), l(0)), at, l(65535))
		out = append(out, changed(beside, (at+1)%places, l(255, 256)))
	}
	return append(out, made(l(0, 255), l(256), l(65535)), made(l(65535), l(0, 256), l(255)), made(l(256), l(255), l(0, 65535)))
}

// mayLabels answers labels that may be: nothing, edges, and none to MaxPairs categories, however spread.
func mayLabels() []api.Sets {
	out := append(edgeLabels(), api.Sets{})
	for s := range api.MaxPairs + 1 {
		for i := range api.MaxPairs + 1 - s {
			for o := range api.MaxPairs + 1 - s - i {
				out = append(out, spread(s, i, o)...)
			}
		}
	}
	return out
}

// saidList answers the bytes that P4.2 says of a list of at most maxCount categories, also of one that may not be.
func saidList(list []uint16) []byte {
	out := []byte{byte(len(list))}
	for _, c := range list {
		out = append(out, byte(c/256), byte(c%256))
	}
	return out
}

// said answers the bytes that P9.1 says of a label, also of one that may not be.
func said(s api.Sets) []byte {
	return slices.Concat(saidList(s.S), saidList(s.I), saidList(s.O))
}

// size answers how many bytes a label's text has.
func size(s api.Sets) int { return places + 2*(len(s.S)+len(s.I)+len(s.O)) }

// isSet says, without the package cats, whether a list is a set that may be.
func isSet(list []uint16) bool {
	for i := range list {
		if i > 0 && list[i-1] >= list[i] {
			return false
		}
	}
	return len(list) <= api.MaxCats
}

// areSets tells whether each of the label's three is a set that may be.
func areSets(s api.Sets) bool { return isSet(s.S) && isSet(s.I) && isSet(s.O) }

// mayBe says, without the package sets, whether a label may be.
func mayBe(s api.Sets) bool {
	all := slices.Concat(s.S, s.I, s.O)
	found := map[uint16]int{}
	for _, c := range all {
		found[c]++
	}
	return areSets(s) && len(found) == len(all) && len(all) <= api.MaxPairs
}

// isOne tells whether two labels are one, list by list.
func isOne(a, b api.Sets) bool {
	return slices.Equal(a.S, b.S) && slices.Equal(a.I, b.I) && slices.Equal(a.O, b.O)
}

// isNothing tells whether a label has nothing in it.
func isNothing(s api.Sets) bool { return len(s.S)+len(s.I)+len(s.O) == 0 }

// longLists answers lists of more than MaxCats categories that rise.
func longLists() [][]uint16 {
	var out [][]uint16
	for n := api.MaxCats + 1; n <= maxCount; n++ {
		out = append(out, count(20, 7, n))
	}
	return out
}

// fallingLists answers lists of at most MaxCats categories that fall, or have one twice, at each place.
func fallingLists() [][]uint16 {
	out := [][]uint16{l(0, 0), l(65535, 65535), l(65535, 0), l(256, 255), l(257, 256), l(21, 20), slices.Repeat(l(40), api.MaxCats)}
	for n := 2; n <= api.MaxCats; n++ {
		for at := 1; at < n; at++ {
			twice, falls := count(20, 300, n), count(20, 300, n)
			twice[at] = twice[at-1]
			falls[at-1], falls[at] = falls[at], falls[at-1]
			out = append(out, twice, falls)
		}
	}
	return out
}

// withList answers labels that have list in one place each, and nothing or little in the others.
func withList(list []uint16) []api.Sets {
	var out []api.Sets
	for at := range places {
		out = append(out, alone(at, list), changed(made(l(5), l(7), l(9)), at, list))
	}
	return out
}

// badSets answers labels one of whose three may not be a set, whose bytes there are nonetheless.
func badSets() []api.Sets {
	var out []api.Sets
	for _, list := range slices.Concat(longLists(), fallingLists()) {
		out = append(out, withList(list)...)
	}
	return out
}

// shared answers labels of sets that may be each, with a category in two of them, or in all.
func shared() []api.Sets {
	var out []api.Sets
	for _, c := range edgeCats() {
		out = append(out, made(l(c), l(c), nil), made(l(c), nil, l(c)), made(nil, l(c), l(c)), made(l(c), l(c), l(c)))
	}
	for at := range 5 {
		for other := range 5 {
			// They share 1000 alone, which may stand anywhere in either.
			x, y := count(1000-10*at, 10, 5), count(1000-7*other, 7, 5)
			out = append(out, made(x, y, nil), made(x, nil, y), made(nil, x, y), made(x, y, l(1)), made(x, l(1), y), made(l(1), x, y))
		}
	}
	return out
}

// tooMany answers labels of sets that may be each and share nothing, of more than MaxPairs categories in all.
func tooMany() []api.Sets {
	var out []api.Sets
	for s := range api.MaxCats + 1 {
		for i := range api.MaxCats + 1 {
			for o := range api.MaxCats + 1 {
				if n := s + i + o; n == api.MaxPairs+1 || n == api.MaxPairs+2 || n == 3*api.MaxCats {
					out = append(out, spread(s, i, o)...)
				}
			}
		}
	}
	return out
}

// badTogether answers labels of three sets that may be each, but not together.
func badTogether() []api.Sets { return slices.Concat(shared(), tooMany()) }

func TestTheLabelsOfTheseTests(t *testing.T) {
	for _, s := range mayLabels() {
		if !mayBe(s) {
			t.Errorf("%v may not be", s)
		}
	}
	for _, s := range badSets() {
		if areSets(s) {
			t.Errorf("%v: each may be", s)
		}
	}
	for _, s := range badTogether() {
		if !areSets(s) || mayBe(s) {
			t.Errorf("%v: one may not be, or all may", s)
		}
	}
}

// P9.1 Put

func TestPutTellsTheExample(t *testing.T) {
	empty := []uint16{}
	for _, s := range []api.Sets{{}, made(empty, empty, empty), made(nil, empty, nil)} {
		if got := scode.Put(nil, s); !bytes.Equal(got, []byte{0, 0, 0}) {
			t.Errorf("Put of nothing: %v", got)
		}
	}
}

func TestPutLaysSThenIThenO(t *testing.T) {
	for _, x := range []struct {
		b    []byte
		s    api.Sets
		want []byte
	}{
		{[]byte{}, api.Sets{}, []byte{0, 0, 0}},
		{[]byte{7, 0}, api.Sets{}, []byte{7, 0, 0, 0, 0}},
		{nil, made(l(3), nil, nil), []byte{1, 0, 3, 0, 0}},
		{nil, made(nil, l(3), nil), []byte{0, 1, 0, 3, 0}},
		{nil, made(nil, nil, l(3)), []byte{0, 0, 1, 0, 3}},
		{nil, made(l(0), nil, nil), []byte{1, 0, 0, 0, 0}},
		{nil, made(l(255), l(256), l(65535)), []byte{1, 0, 255, 1, 1, 0, 1, 255, 255}},
		{nil, made(l(65535), l(0), l(256)), []byte{1, 255, 255, 1, 0, 0, 1, 1, 0}},
		{[]byte{9}, made(l(3, 258), nil, l(7)), []byte{9, 2, 0, 3, 1, 2, 0, 1, 0, 7}},
		{[]byte{9}, made(nil, l(3, 258), l(7)), []byte{9, 0, 2, 0, 3, 1, 2, 1, 0, 7}},
		{[]byte{1, 2, 3}, made(l(9), l(8), nil), []byte{1, 2, 3, 1, 0, 9, 1, 0, 8, 0}},
		{[]byte{255}, made(l(0, 255, 256, 65535), l(1), l(2, 4)), []byte{255, 4, 0, 0, 0, 255, 1, 0, 255, 255, 1, 0, 1, 2, 0, 2, 0, 4}},
	} {
		if got := scode.Put(x.b, x.s); !bytes.Equal(got, x.want) {
			t.Errorf("Put(%v, %v): %v, want %v", x.b, x.s, got, x.want)
		}
	}
}

func TestPutOfMaxPairsInOneSet(t *testing.T) {
	want := []byte{16}
	for i := range api.MaxPairs {
		want = append(want, byte((250+i)/256), byte((250+i)%256))
	}
	full := count(250, 1, api.MaxPairs)
	for at, text := range [][]byte{slices.Concat(want, []byte{0, 0}), slices.Concat([]byte{0}, want, []byte{0}), slices.Concat([]byte{0, 0}, want)} {
		if got := scode.Put([]byte{8}, alone(at, full)); !bytes.Equal(got, append([]byte{8}, text...)) {
			t.Errorf("Put of MaxPairs in place %d: %v, want %v", at, got, text)
		}
	}
}

func TestPutOfEveryLabelBehindWhateverBytes(t *testing.T) {
	long := slices.Repeat([]byte{5, 0, 255}, 100)
	for _, s := range mayLabels() {
		for _, b := range [][]byte{nil, {}, {0}, {0, 0, 0}, {255, 1, 7}, long} {
			want := append(bytes.Clone(b), said(s)...)
			if got := scode.Put(b, s); !bytes.Equal(got, want) {
				t.Errorf("%v behind %d bytes: %v, want %v", s, len(b), got, want)
			}
		}
	}
}

func TestTwoLabelsHaveOneTextJustIfTheyAreOne(t *testing.T) {
	texts := map[string]api.Sets{}
	for _, s := range mayLabels() {
		text := string(scode.Put(nil, s))
		if other, found := texts[text]; found && !isOne(s, other) {
			t.Errorf("%v and %v: one text", s, other)
		}
		texts[text] = s
		again := made(slices.Clone(s.S), slices.Clone(s.I), slices.Clone(s.O))
		if other := string(scode.Put(nil, again)); other != text {
			t.Errorf("%v: two texts, %q and %q", s, text, other)
		}
	}
}

// The document promises nothing of such a label but that the call ends; it must not leave bytes that are read as another label.
func TestPutOfSetsThatMayNotBeTellsTheBytesAlone(t *testing.T) {
	every := badSets()
	for _, list := range [][]uint16{count(0, 1, 256), count(0, 1, 257), count(0, 1, 272), count(0, 1, 1<<16), make([]uint16, 1<<17)} {
		every = append(every, withList(list)...)
	}
	for _, s := range every {
		for _, b := range [][]byte{nil, {}, {9}, {0, 0, 0}} {
			if got := scode.Put(b, s); !bytes.Equal(got, b) {
				t.Errorf("sets of %d, %d, %d behind %v: %v", len(s.S), len(s.I), len(s.O), b, got)
			}
		}
	}
}

// Three sets that may be each have bytes as cats.Put has them, also where Take refuses them together.
func TestPutOfSetsThatMayNotBeTogether(t *testing.T) {
	for _, s := range badTogether() {
		for _, b := range [][]byte{nil, {9}} {
			if got := scode.Put(b, s); !bytes.Equal(got, append(bytes.Clone(b), said(s)...)) {
				t.Errorf("%v behind %v: %v", s, b, got)
			}
		}
	}
}

// P9.1 Take

// wantTaken asks that Take of b tells s, from so many bytes.
func wantTaken(t *testing.T, b []byte, s api.Sets, size int) {
	t.Helper()
	if got, n, e := scode.Take(b); !isOne(got, s) || n != size || e != api.OK {
		t.Errorf("Take(%v): %v, read %d, error %d, want %v, read %d", b, got, n, e, s, size)
	}
}

// wantNo asks that Take of b tells the error alone (R2).
func wantNo(t *testing.T, b []byte, want api.Errno) {
	t.Helper()
	if s, n, e := scode.Take(b); !isNothing(s) || n != 0 || e != want {
		t.Errorf("Take of %d bytes that begin %v: %v, read %d, error %d, want %d", len(b), b[:min(len(b), 11)], s, n, e, want)
	}
}

func TestTakeReadsTheLabel(t *testing.T) {
	wantTaken(t, []byte{0, 0, 0}, api.Sets{}, 3)
	wantTaken(t, []byte{0, 0, 0, 1, 0, 3}, api.Sets{}, 3)
	wantTaken(t, []byte{1, 0, 3, 0, 0}, made(l(3), nil, nil), 5)
	wantTaken(t, []byte{0, 1, 0, 3, 0}, made(nil, l(3), nil), 5)
	wantTaken(t, []byte{0, 0, 1, 0, 3}, made(nil, nil, l(3)), 5)
	wantTaken(t, []byte{1, 0, 255, 1, 1, 0, 1, 255, 255, 9}, made(l(255), l(256), l(65535)), 9)
	wantTaken(t, []byte{2, 0, 3, 1, 2, 0, 1, 0, 7, 5}, made(l(3, 258), nil, l(7)), 9)
	wantTaken(t, []byte{0, 2, 0, 0, 255, 255, 1, 0, 7}, made(nil, l(0, 65535), l(7)), 9)
}

func TestTakeOfEveryLabelWithBytesBehind(t *testing.T) {
	for _, s := range mayLabels() {
		for _, more := range [][]byte{nil, {0}, {77}, {0, 0, 0}, {255, 255, 255, 255}} {
			wantTaken(t, append(said(s), more...), s, size(s))
		}
	}
}

func TestTakeReadsWhatPutWrote(t *testing.T) {
	for _, s := range mayLabels() {
		b := scode.Put([]byte{3, 4}, s)
		wantTaken(t, b[2:], s, len(b)-2)
	}
}

func TestTakeReadsLabelsOneBehindAnother(t *testing.T) {
	every := edgeLabels()
	var b []byte
	for _, s := range every {
		b = scode.Put(b, s)
	}
	for i, want := range every {
		s, n, e := scode.Take(b)
		if !isOne(s, want) || n != size(want) || e != api.OK {
			t.Fatalf("label %d: %v, read %d, error %d, want %v", i, s, n, e, want)
		}
		b = b[n:]
	}
	if len(b) != 0 {
		t.Errorf("%d bytes are left", len(b))
	}
}

func TestTakenAndPutAgainIsTheTextThatWasRead(t *testing.T) {
	for _, x := range mayLabels() {
		b := append(said(x), 2, 1, 0)
		s, n, e := scode.Take(b)
		if got := scode.Put([]byte{6}, s); e != api.OK || !bytes.Equal(got[1:], b[:n]) {
			t.Errorf("Take(%v), error %d, put again: %v", b, e, got)
		}
	}
}

func TestTakeOfEveryCategoryInEachPlace(t *testing.T) {
	for c := range 1 << 16 {
		s := alone(c%places, l(uint16(c)))
		wantTaken(t, said(s), s, 5)
	}
}

func TestTakeOfNoBytesIsErrShort(t *testing.T) {
	wantNo(t, nil, api.ErrShort)
	wantNo(t, []byte{}, api.ErrShort)
	wantNo(t, []byte{0, 0, 0}[:0], api.ErrShort)
}

func TestTakeOfBytesCutOffIsErrShort(t *testing.T) {
	for _, s := range mayLabels() {
		// Spare room behind the cut is not the text's.
		b := said(s)
		for cut := range len(b) {
			wantNo(t, b[:cut], api.ErrShort)
			wantNo(t, bytes.Clone(b[:cut]), api.ErrShort)
		}
	}
}

// wantForm asks that Take of each label's bytes, alone and with bytes behind, tells ErrForm.
func wantForm(t *testing.T, labels []api.Sets) {
	t.Helper()
	for _, s := range labels {
		wantNo(t, said(s), api.ErrForm)
		wantNo(t, append(said(s), 0, 0, 0), api.ErrForm)
	}
}

func TestTakeOfASetOfMoreThanMaxCatsIsErrForm(t *testing.T) {
	for _, list := range longLists() {
		wantForm(t, withList(list))
	}
}

func TestTakeOfASetThatDoesNotRiseIsErrForm(t *testing.T) {
	for _, list := range fallingLists() {
		wantForm(t, withList(list))
	}
}

func TestTakeOfACategoryInTwoIsErrForm(t *testing.T) { wantForm(t, shared()) }

func TestTakeOfMoreThanMaxPairsInAllIsErrForm(t *testing.T) { wantForm(t, tooMany()) }

// A set of a wrong form that is whole is told at once: the next one is not looked for.
func TestTakeTellsAWrongSetAheadOfAShortOneBehind(t *testing.T) {
	for _, bad := range [][]uint16{l(5, 5), l(6, 5), l(256, 255), count(0, 1, api.MaxCats+1), count(0, 1, maxCount)} {
		wrong := saidList(bad)
		for _, fine := range [][]uint16{nil, l(7), l(300, 400), count(500, 1, api.MaxCats)} {
			ahead := saidList(fine)
			for _, short := range [][]byte{nil, {1}, {1, 0}, {2, 0, 7}, {2, 0, 7, 0}, {255}} {
				wantNo(t, slices.Concat(wrong, short), api.ErrForm)
				wantNo(t, slices.Concat(wrong, ahead, short), api.ErrForm)
				wantNo(t, slices.Concat(ahead, wrong, short), api.ErrForm)
			}
		}
	}
}

// A set that is short takes all bytes there are: what stands there of another, of whatever form, is not read.
func TestTakeTellsAShortSetAheadOfAWrongOne(t *testing.T) {
	for _, ahead := range [][]byte{nil, {0}, {1, 0, 3}, {0, 0}, {1, 0, 3, 1, 0, 4}, {1, 0, 3, 1, 0, 3}, saidList(count(0, 1, api.MaxCats))} {
		// Short and not rising, short and of too many, in the one that is next.
		for _, short := range [][]byte{{3, 0, 5, 0, 5}, {3, 0, 6, 0, 5, 0}, {17, 0, 5}, {255, 0, 0, 0, 0}, saidList(count(0, 1, 200))[:400]} {
			wantNo(t, slices.Concat(ahead, short), api.ErrShort)
		}
	}
	// S says more than is there; the bytes behind would be an I, an O of a wrong form.
	wantNo(t, []byte{9, 2, 0, 5, 0, 5, 2, 0, 5, 0, 5}, api.ErrShort)
	wantNo(t, []byte{0, 9, 2, 0, 5, 0, 5, 0}, api.ErrShort)
}

// Of two sets of a wrong form, or cut off at each place, the one ahead says which error it is.
func TestTakeTellsCatsErrorsOneByOne(t *testing.T) {
	for _, list := range append(fallingLists(), count(0, 1, api.MaxCats+1), count(0, 1, 40), count(0, 1, maxCount)) {
		for _, s := range withList(list) {
			for cut := range len(said(s)) {
				holdTake(t, said(s)[:cut])
			}
		}
	}
	wrong := [][]uint16{l(5, 5), l(6, 5), count(0, 1, api.MaxCats+1)}
	for _, one := range wrong {
		for _, two := range wrong {
			for _, s := range []api.Sets{made(one, two, nil), made(one, nil, two), made(nil, one, two), made(one, two, one)} {
				for cut := range len(said(s)) + 1 {
					holdTake(t, said(s)[:cut])
				}
			}
		}
	}
}

// That three sets may not be together is found when all are there.
func TestTakeTellsErrShortAheadOfSetsThatMayNotBeTogether(t *testing.T) {
	for _, s := range badTogether() {
		b := said(s)
		for cut := range len(b) {
			wantNo(t, b[:cut], api.ErrShort)
		}
	}
}

// Where categories may stand: each of the small ones in none, one, two or all of the three.
func TestTakeOfEachPlaceOfFewCategories(t *testing.T) {
	for bits := range 8 * 8 * 8 {
		var all [places][]uint16
		for i, c := range l(255, 256, 65535) {
			where := bits >> (3 * i) & 7
			for at := range places {
				if where>>at&1 == 1 {
					all[at] = append(all[at], c)
				}
			}
		}
		s := of(all)
		if mayBe(s) {
			wantTaken(t, said(s), s, size(s))
		} else {
			wantNo(t, said(s), api.ErrForm)
		}
	}
}

// R1, R4

// readPlainly answers what P9.1 says that Take tells of b, without the packages below.
func readPlainly(b []byte) (s api.Sets, n int, e api.Errno) {
	var all [places][]uint16
	for at := range all {
		if n == len(b) || len(b) < n+1+2*int(b[n]) {
			return api.Sets{}, 0, api.ErrShort
		}
		end := n + 1 + 2*int(b[n])
		for n++; n < end; n += 2 {
			all[at] = append(all[at], uint16(b[n])*256+uint16(b[n+1]))
		}
		if !isSet(all[at]) {
			return api.Sets{}, 0, api.ErrForm
		}
	}
	if !mayBe(of(all)) {
		return api.Sets{}, 0, api.ErrForm
	}
	return of(all), n, api.OK
}

// holdTake asks that Take of b tells what P9.1 says of whatever bytes, and the same when it is asked again.
func holdTake(t *testing.T, b []byte) {
	t.Helper()
	want, size, no := readPlainly(b)
	for range 2 {
		if no != api.OK {
			wantNo(t, b, no)
		} else {
			wantTaken(t, b, want, size)
		}
	}
}

func TestTakeOfWhateverBytes(t *testing.T) {
	seed := uint32(1)
	for size := range 700 {
		b := make([]byte, size)
		for i := range b {
			seed = seed*1664525 + 1013904223
			b[i] = byte(seed >> 24)
		}
		holdTake(t, b)
		for first := range 256 * min(size, 1) {
			b[0] = byte(first)
			holdTake(t, b)
		}
	}
}

// Few values of a byte, so that many texts are labels, or miss being one by little.
func TestTakeOfEveryShortTextOfFewValues(t *testing.T) {
	for size := range 11 {
		many := 1
		for range size {
			many *= 3
		}
		for bits := range many {
			b := make([]byte, size)
			for i := range b {
				b[i] = byte(bits % 3)
				bits /= 3
			}
			holdTake(t, b)
		}
	}
}

func TestTakeOfTextsWithOneByteChanged(t *testing.T) {
	for _, s := range []api.Sets{
		{}, made(l(3, 258), nil, l(7)), made(l(255), l(256), l(0, 65535)), alone(1, count(250, 1, api.MaxPairs)), made(count(0, 3, 6), count(1, 3, 5), count(2, 3, 5)),
	} {
		for at := range said(s) {
			for v := range 256 {
				b := append(said(s), 0, 0, 0)
				b[at] = byte(v)
				holdTake(t, b)
			}
		}
	}
}

// whateverLabels answers labels that may be, such as may not, and such as no bytes say.
func whateverLabels() []api.Sets {
	out := slices.Concat(mayLabels(), badSets(), badTogether())
	for _, list := range [][]uint16{make([]uint16, 300), count(0, 1, 256), count(0, 1, 272), count(0, 1, 1<<16), count(9, 0, 1<<17)} {
		out = append(out, withList(list)...)
		out = append(out, made(list, list, list))
	}
	return out
}

func TestPutOfWhateverSetsEndsAndTellsTheSame(t *testing.T) {
	for _, s := range whateverLabels() {
		for _, b := range [][]byte{nil, {}, {9}, {2, 1, 0}} {
			if first, again := scode.Put(b, s), scode.Put(b, s); !bytes.Equal(first, again) {
				t.Errorf("sets of %d, %d, %d behind %v: told two things", len(s.S), len(s.I), len(s.O), b)
			}
		}
	}
}

func TestWhatWasToldStaysAsItWasTold(t *testing.T) {
	s := made(l(3, 258), nil, l(7))
	put := scode.Put([]byte{9}, s)
	taken, _, _ := scode.Take(put[1:])
	for _, other := range mayLabels() {
		scode.Take(scode.Put(nil, other))
	}
	if !bytes.Equal(put, []byte{9, 2, 0, 3, 1, 2, 0, 1, 0, 7}) || !isOne(taken, s) {
		t.Errorf("an earlier answer was changed: %v, %v", put, taken)
	}
}

// R3

// roomy answers list with spare room behind it, all of it filled, so that a write into it shows.
func roomy[T any](list []T, spare int, fill T) []T {
	whole := append(slices.Clone(list), slices.Repeat([]T{fill}, spare)...)
	return whole[:len(list):len(whole)]
}

// roomySets answers s with spare room behind each of its three.
func roomySets(s api.Sets, spare int) api.Sets {
	return made(roomy(s.S, spare, 0xa5a5), roomy(s.I, spare, 0xa5a5), roomy(s.O, spare, 0xa5a5))
}

// whole answers a copy of list and of its spare room.
func whole[T any](list []T) []T { return slices.Clone(list[:cap(list)]) }

// wholeSets answers a copy of s and of the spare room of its three.
func wholeSets(s api.Sets) api.Sets { return made(whole(s.S), whole(s.I), whole(s.O)) }

// copySets answers a copy of s.
func copySets(s api.Sets) api.Sets {
	return made(slices.Clone(s.S), slices.Clone(s.I), slices.Clone(s.O))
}

// scribble overwrites list and its spare room.
func scribble[T byte | uint16](list []T) {
	list = list[:cap(list)]
	for i := range list {
		list[i] = ^list[i]
	}
}

// scribbleSets overwrites the three of s and their spare room.
func scribbleSets(s api.Sets) {
	for _, list := range lists(s) {
		scribble(list)
	}
}

// memoryLabels answers labels for which it is looked at what memory is theirs: such as may be, and others.
func memoryLabels() []api.Sets {
	return []api.Sets{
		{}, made(l(3), nil, nil), made(nil, l(3), nil), made(nil, nil, l(3)), made(l(3, 258), l(5), l(0, 65535)), made(count(0, 3, 6), count(1, 3, 5), count(2, 3, 5)), alone(2, count(0, 1, api.MaxPairs)),
		made(l(3), l(3), nil), made(l(5, 5), l(1), l(2)), made(l(1), l(6, 5), l(2)), made(l(1), l(2), l(6, 5)), made(count(0, 1, 9), count(20, 1, 9), nil), alone(0, count(0, 1, api.MaxCats+1)), alone(1, count(0, 1, 300)),
	}
}

func TestPutNeitherChangesNorKeeps(t *testing.T) {
	for _, s := range memoryLabels() {
		for _, spare := range []int{0, 1, 2, 5, 400} {
			for _, front := range [][]byte{{}, {9}, {1, 2, 3}} {
				b, in := roomy(front, spare, 0xa5), roomySets(s, spare)
				wasB, wasSets := whole(b), wholeSets(in)
				got := scode.Put(b, in)
				told := bytes.Clone(got)
				if !bytes.Equal(whole(b), wasB) || !isOne(wholeSets(in), wasSets) {
					t.Errorf("%v behind %v, spare %d: changed", s, front, spare)
				}
				scribble(got)
				if !bytes.Equal(whole(b), wasB) {
					t.Errorf("%v behind %v, spare %d: what is told shares memory", s, front, spare)
				}
				scribble(got)
				scribble(b)
				scribbleSets(in)
				if !bytes.Equal(got, told) {
					t.Errorf("%v behind %v, spare %d: what is told hangs on what was handed in", s, front, spare)
				}
			}
		}
	}
}

func TestTakeNeitherChangesNorKeeps(t *testing.T) {
	for _, s := range memoryLabels() {
		for _, spare := range []int{0, 1, 5, 400} {
			for _, more := range [][]byte{nil, {7}, {2, 0, 1}} {
				b := roomy(append(said(s), more...), spare, 0xa5)
				was := whole(b)
				got, _, _ := scode.Take(b)
				told := copySets(got)
				if !bytes.Equal(whole(b), was) {
					t.Errorf("%v, spare %d: changed", s, spare)
				}
				scribble(b)
				if !isOne(got, told) {
					t.Errorf("%v, spare %d: what is told hangs on what was handed in", s, spare)
				}
			}
		}
	}
}

func TestTakeTellsNewMemoryEachTime(t *testing.T) {
	for _, s := range mayLabels() {
		b := said(s)
		first, _, _ := scode.Take(b)
		second, _, _ := scode.Take(b)
		scribbleSets(first)
		third, _, _ := scode.Take(b)
		if !isOne(second, s) || !isOne(third, s) || !bytes.Equal(b, said(s)) {
			t.Errorf("%v: an answer is another one, or what was handed in", s)
		}
	}
}

// No two lists of one answer share memory, their spare room neither.
func TestTakeTellsThreeListsOfTheirOwn(t *testing.T) {
	for _, s := range mayLabels() {
		for at := range places {
			got, _, _ := scode.Take(said(s))
			all := lists(got)
			scribble(all[at])
			for other := range places {
				if other != at && !slices.Equal(all[other], lists(s)[other]) {
					t.Errorf("%v: the lists %d and %d share memory", s, at, other)
				}
			}
		}
	}
}

func TestPutTellsNewMemoryEachTime(t *testing.T) {
	for _, s := range memoryLabels() {
		for _, b := range [][]byte{nil, {}, {9}, {1, 2, 3}} {
			first, second := scode.Put(b, s), scode.Put(b, s)
			want := bytes.Clone(first)
			scribble(first)
			if !bytes.Equal(second, want) || !bytes.Equal(scode.Put(b, s), want) {
				t.Errorf("%v behind %v: an answer is another one", s, b)
			}
		}
	}
}

func TestNilAndEmptyAreOne(t *testing.T) {
	for _, s := range slices.Concat(memoryLabels(), edgeLabels()) {
		filled := made(append([]uint16{}, s.S...), append([]uint16{}, s.I...), append([]uint16{}, s.O...))
		want := scode.Put(nil, s)
		if !bytes.Equal(scode.Put([]byte{}, s), want) || !bytes.Equal(scode.Put(nil, filled), want) {
			t.Errorf("Put of %v: nil and empty differ", s)
		}
	}
}
