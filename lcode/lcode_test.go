package lcode_test

import (
	"bytes"
	"slices"
	"testing"

	"transom/api"
	"transom/lcode"
)

// maxCount is the most pairs that the byte of their number can say.
const maxCount = 255

// made answers the label of def and of pairs of a category and a level each, as they are.
func made(def uint8, l ...int) api.Label {
	out := api.Label{Default: def}
	for i := 0; i < len(l); i += 2 {
		out.Pairs = append(out.Pairs, api.Pair{Cat: uint16(l[i]), Level: uint8(l[i+1])})
	}
	return out
}

// mixed answers a label of def with n pairs, each category step above the one ahead, of levels that go round and are not def.
func mixed(def uint8, first, step, n int) api.Label {
	out := api.Label{Default: def}
	for i := range n {
		lev := uint8(int(def)+1+(i+n)%4) % 5
		out.Pairs = append(out.Pairs, api.Pair{Cat: uint16(first + i*step), Level: lev})
	}
	return out
}

// defaults answers every Default that may be.
func defaults() []uint8 { return []uint8{api.L0, api.L1, api.L2, api.L3} }

// levels answers every level that a pair may have.
func levels() []uint8 { return []uint8{api.Star, api.L0, api.L1, api.L2, api.L3} }

// edgeCats answers the categories at either end, and on either side of what one byte says.
func edgeCats() []int { return []int{0, 1, 255, 256, 257, 32767, 32768, 65279, 65280, 65534, 65535} }

// mayLabels answers labels that may be: of none to MaxPairs pairs, of each Default, level and edge.
func mayLabels() []api.Label {
	var out []api.Label
	for _, def := range defaults() {
		for n := range api.MaxPairs + 1 {
			out = append(out, mixed(def, 0, 1, n), mixed(def, 65536-n, 1, n), mixed(def, 250, 1, n), mixed(def, 15, 4096, n))
		}
		for _, lev := range levels() {
			if lev == def {
				continue
			}
			for _, c := range edgeCats() {
				out = append(out, made(def, c, int(lev)))
			}
			out = append(out, made(def, 0, int(lev), 255, int(lev), 256, int(lev), 65535, int(lev)))
		}
	}
	return out
}

// said answers the bytes that P6.1 says of a label of at most maxCount pairs, also of one that may not be.
func said(l api.Label) []byte {
	out := []byte{l.Default, byte(len(l.Pairs))}
	for _, p := range l.Pairs {
		out = append(out, byte(p.Cat/256), byte(p.Cat%256), p.Level)
	}
	return out
}

// mayBe says, without the package label, whether a label may be.
func mayBe(l api.Label) bool {
	if l.Default < api.L0 || l.Default > api.L3 || len(l.Pairs) > api.MaxPairs {
		return false
	}
	last := -1
	for _, p := range l.Pairs {
		if int(p.Cat) <= last || p.Level > api.L3 || p.Level == l.Default {
			return false
		}
		last = int(p.Cat)
	}
	return true
}

// isOne tells whether two labels are one, pair by pair.
func isOne(a, b api.Label) bool {
	return a.Default == b.Default && slices.Equal(a.Pairs, b.Pairs)
}

// badDefaults answers labels with a Default that may not be.
func badDefaults() []api.Label {
	var out []api.Label
	for def := range 256 {
		if def >= api.L0 && def <= api.L3 {
			continue
		}
		out = append(out, made(uint8(def)), made(uint8(def), 3, api.L0), made(uint8(def), 0, api.L3, 65535, api.L1))
	}
	return out
}

// badLevels answers labels with a pair of a level that may not be, or of Default's, at each place.
func badLevels() []api.Label {
	var out []api.Label
	for _, def := range defaults() {
		out = append(out, made(def, 3, int(def)))
		for lev := api.High; lev < 256; lev++ {
			out = append(out, made(def, 3, lev))
		}
		for n := 2; n <= api.MaxPairs; n++ {
			for at := range n {
				for _, lev := range []uint8{def, api.High, api.High + 1, 128, 255} {
					l := mixed(def, 10, 300, n)
					l.Pairs[at].Level = lev
					out = append(out, l)
				}
			}
		}
	}
	return out
}

// badOrders answers labels with categories that fall, or stand twice, at each place.
func badOrders() []api.Label {
	out := []api.Label{
		made(api.L1, 0, api.L0, 0, api.L0), made(api.L1, 0, api.L0, 0, api.L3), made(api.L1, 65535, api.L0, 65535, api.L3),
		made(api.L1, 65535, api.L0, 0, api.L0), made(api.L1, 256, api.L0, 255, api.L0), made(api.L1, 257, api.L0, 256, api.L0), made(api.L1, 1, api.L0, 0, api.L0),
	}
	for _, def := range defaults() {
		for n := 2; n <= api.MaxPairs; n++ {
			for at := 1; at < n; at++ {
				twice, falls := mixed(def, 10, 300, n), mixed(def, 10, 300, n)
				twice.Pairs[at].Cat = twice.Pairs[at-1].Cat
				falls.Pairs[at-1], falls.Pairs[at] = falls.Pairs[at], falls.Pairs[at-1]
				out = append(out, twice, falls)
			}
		}
	}
	return out
}

// badCounts answers labels of more than MaxPairs pairs, which may be but for that.
func badCounts() []api.Label {
	var out []api.Label
	for n := api.MaxPairs + 1; n <= maxCount; n++ {
		out = append(out, mixed(defaults()[n%4], 3, 7, n))
	}
	return out
}

// badLabels answers labels that may not be, whose bytes there are nonetheless.
func badLabels() []api.Label {
	return slices.Concat(badDefaults(), badLevels(), badOrders(), badCounts())
}

func TestTheLabelsOfTheseTests(t *testing.T) {
	for _, l := range mayLabels() {
		if !mayBe(l) {
			t.Errorf("%v may not be", l)
		}
	}
	for _, l := range badLabels() {
		if mayBe(l) {
			t.Errorf("%v may be", l)
		}
	}
}

// P6.1 Put

func TestPutTellsTheExample(t *testing.T) {
	if got := lcode.Put(nil, made(api.L1)); !bytes.Equal(got, []byte{2, 0}) {
		t.Errorf("Put(nil, {L1}): %v", got)
	}
}

func TestPutLaysDefaultCountAndPairs(t *testing.T) {
	most, want := api.Label{Default: api.L3}, []byte{9, 8, 4, 16}
	for i := range api.MaxPairs {
		most.Pairs = append(most.Pairs, api.Pair{Cat: uint16(250 + i), Level: uint8(i % 4)})
		want = append(want, byte((250+i)/256), byte((250+i)%256), byte(i%4))
	}
	for _, x := range []struct {
		b    []byte
		l    api.Label
		want []byte
	}{
		{nil, made(api.L0), []byte{1, 0}},
		{[]byte{}, made(api.L2), []byte{3, 0}},
		{[]byte{7}, made(api.L3), []byte{7, 4, 0}},
		{nil, made(api.L1, 0, api.Star), []byte{2, 1, 0, 0, 0}},
		{nil, made(api.L1, 255, api.L0), []byte{2, 1, 0, 255, 1}},
		{nil, made(api.L1, 256, api.L2), []byte{2, 1, 1, 0, 3}},
		{nil, made(api.L1, 65535, api.L3), []byte{2, 1, 255, 255, 4}},
		{nil, made(api.L0, 3, api.L1), []byte{1, 1, 0, 3, 2}},
		{[]byte{9}, made(api.L1, 3, api.Star, 258, api.L3), []byte{9, 2, 2, 0, 3, 0, 1, 2, 4}},
		{[]byte{1, 2, 3}, made(api.L2, 0, api.L0, 255, api.L1, 256, api.L3, 65280, api.Star), []byte{1, 2, 3, 3, 4, 0, 0, 1, 0, 255, 2, 1, 0, 4, 255, 0, 0}},
		{[]byte{9, 8}, most, want},
	} {
		if got := lcode.Put(x.b, x.l); !bytes.Equal(got, x.want) {
			t.Errorf("Put(%v, %v): %v, want %v", x.b, x.l, got, x.want)
		}
	}
}

func TestPutOfEveryLabelBehindWhateverBytes(t *testing.T) {
	long := slices.Repeat([]byte{5, 0, 255}, 100)
	for _, l := range mayLabels() {
		for _, b := range [][]byte{nil, {}, {0}, {2, 0}, {255, 1, 7}, long} {
			want := append(bytes.Clone(b), said(l)...)
			if got := lcode.Put(b, l); !bytes.Equal(got, want) {
				t.Errorf("%v behind %d bytes: %v, want %v", l, len(b), got, want)
			}
		}
	}
}

func TestEachLabelHasOneText(t *testing.T) {
	texts := map[string]api.Label{}
	for _, l := range mayLabels() {
		text := string(lcode.Put(nil, l))
		if other, found := texts[text]; found && !isOne(l, other) {
			t.Errorf("%v and %v: one text", l, other)
		}
		texts[text] = l
	}
}

// The document promises nothing of such a label but that the call ends; it must not leave bytes that are read as a label.
func TestPutOfLabelsThatMayNotBeTellsTheBytesAlone(t *testing.T) {
	every := append(badLabels(), mixed(api.L1, 0, 1, 256), mixed(api.L1, 0, 1, 257), mixed(api.L1, 0, 1, 1<<16), api.Label{})
	for _, l := range every {
		for _, b := range [][]byte{nil, {}, {9}, {2, 0}} {
			if got := lcode.Put(b, l); !bytes.Equal(got, b) {
				t.Errorf("%d with %d pairs behind %v: %v", l.Default, len(l.Pairs), b, got)
			}
		}
	}
}

// P6.1 Take

// wantTaken asks that Take of b tells l, from so many bytes.
func wantTaken(t *testing.T, b []byte, l api.Label, size int) {
	t.Helper()
	if got, n, e := lcode.Take(b); !isOne(got, l) || n != size || e != api.OK {
		t.Errorf("Take(%v): %v, read %d, error %d, want %v, read %d", b, got, n, e, l, size)
	}
}

// wantNo asks that Take of b tells the error alone.
func wantNo(t *testing.T, b []byte, want api.Errno) {
	t.Helper()
	if l, n, e := lcode.Take(b); l.Default != 0 || len(l.Pairs) != 0 || n != 0 || e != want {
		t.Errorf("Take of %d bytes that begin %v: %v, read %d, error %d, want %d", len(b), b[:min(len(b), 11)], l, n, e, want)
	}
}

func TestTakeReadsTheLabel(t *testing.T) {
	wantTaken(t, []byte{2, 0}, made(api.L1), 2)
	wantTaken(t, []byte{4, 0, 1, 2, 3}, made(api.L3), 2)
	wantTaken(t, []byte{1, 1, 0, 0, 0}, made(api.L0, 0, api.Star), 5)
	wantTaken(t, []byte{2, 1, 0, 255, 4, 9}, made(api.L1, 255, api.L3), 5)
	wantTaken(t, []byte{3, 1, 1, 0, 1}, made(api.L2, 256, api.L0), 5)
	wantTaken(t, []byte{2, 2, 0, 3, 0, 1, 2, 4, 5}, made(api.L1, 3, api.Star, 258, api.L3), 8)
	wantTaken(t, []byte{2, 2, 0, 0, 3, 255, 255, 1}, made(api.L1, 0, api.L2, 65535, api.L0), 8)
}

func TestTakeOfEveryLabelWithBytesBehind(t *testing.T) {
	for _, l := range mayLabels() {
		for _, more := range [][]byte{nil, {0}, {77}, {2, 0}, {255, 255, 255, 255}} {
			wantTaken(t, append(said(l), more...), l, 2+3*len(l.Pairs))
		}
	}
}

func TestTakeReadsWhatPutWrote(t *testing.T) {
	for _, l := range mayLabels() {
		b := lcode.Put([]byte{3, 4}, l)
		wantTaken(t, b[2:], l, len(b)-2)
	}
}

func TestTakeReadsLabelsOneBehindAnother(t *testing.T) {
	var b []byte
	for _, l := range mayLabels() {
		b = lcode.Put(b, l)
	}
	for i, want := range mayLabels() {
		l, n, e := lcode.Take(b)
		if !isOne(l, want) || n != 2+3*len(want.Pairs) || e != api.OK {
			t.Fatalf("label %d: %v, read %d, error %d, want %v", i, l, n, e, want)
		}
		b = b[n:]
	}
	if len(b) != 0 {
		t.Errorf("%d bytes are left", len(b))
	}
}

func TestTakenAndPutAgainIsTheTextThatWasRead(t *testing.T) {
	for _, x := range mayLabels() {
		b := append(said(x), 2, 1, 0)
		l, n, e := lcode.Take(b)
		if got := lcode.Put([]byte{6}, l); e != api.OK || !bytes.Equal(got[1:], b[:n]) {
			t.Errorf("Take(%v), error %d, put again: %v", b, e, got)
		}
	}
}

func TestTakeOfNoBytesIsErrShort(t *testing.T) {
	wantNo(t, nil, api.ErrShort)
	wantNo(t, []byte{}, api.ErrShort)
	wantNo(t, []byte{2, 0}[:0], api.ErrShort)
}

func TestTakeOfBytesCutOffIsErrShort(t *testing.T) {
	for _, l := range mayLabels() {
		// Spare room behind the cut is not the text's.
		b := said(l)
		for cut := range len(b) {
			wantNo(t, b[:cut], api.ErrShort)
			wantNo(t, bytes.Clone(b[:cut]), api.ErrShort)
		}
	}
}

func TestTakeTellsErrShortAheadOfErrForm(t *testing.T) {
	wantNo(t, []byte{9, 3, 0, 0}, api.ErrShort)
	wantNo(t, []byte{0}, api.ErrShort)
	wantNo(t, []byte{255}, api.ErrShort)
	wantNo(t, []byte{2, 255}, api.ErrShort)
	for _, l := range badLabels() {
		b := said(l)
		for cut := range len(b) {
			wantNo(t, b[:cut], api.ErrShort)
		}
	}
}

// wantForm asks that Take of each label's bytes, alone and with bytes behind, tells ErrForm.
func wantForm(t *testing.T, labels []api.Label) {
	t.Helper()
	for _, l := range labels {
		wantNo(t, said(l), api.ErrForm)
		wantNo(t, append(said(l), 2, 0, 1), api.ErrForm)
	}
}

func TestTakeOfADefaultThatMayNotBeIsErrForm(t *testing.T) { wantForm(t, badDefaults()) }

func TestTakeOfALevelThatMayNotBeIsErrForm(t *testing.T) { wantForm(t, badLevels()) }

func TestTakeOfCategoriesThatDoNotRiseIsErrForm(t *testing.T) { wantForm(t, badOrders()) }

func TestTakeOfMoreThanMaxPairsIsErrForm(t *testing.T) { wantForm(t, badCounts()) }

func TestTakeOfEveryTextOfOnePair(t *testing.T) {
	for def := range 256 {
		for lev := range 256 {
			for _, c := range edgeCats() {
				l := made(uint8(def), c, lev)
				if mayBe(l) {
					wantTaken(t, said(l), l, 5)
				} else {
					wantNo(t, said(l), api.ErrForm)
				}
			}
		}
	}
}

func TestTakeOfEveryCategory(t *testing.T) {
	for c := range 1 << 16 {
		l := made(api.L1, c, api.L3)
		wantTaken(t, said(l), l, 5)
	}
}

func TestTakeOfEveryTextOfTwoSmallPairs(t *testing.T) {
	for bits := range 7 * 7 * 7 * 9 {
		def, first, second, two := bits%7, bits/7%7, bits/49%7, bits/343
		l := made(uint8(def), 255+two%3, first, 255+two/3, second)
		if mayBe(l) {
			wantTaken(t, said(l), l, 8)
		} else {
			wantNo(t, said(l), api.ErrForm)
		}
	}
}

// R1, R4

// holdTake asks that Take of b tells what P6.1 says of whatever bytes, and the same when it is asked again.
func holdTake(t *testing.T, b []byte) {
	t.Helper()
	l, n, e := lcode.Take(b)
	l2, n2, e2 := lcode.Take(b)
	if !isOne(l, l2) || n != n2 || e != e2 {
		t.Errorf("Take(%v): told two things", b)
	}
	if len(b) < 2 || len(b) < 2+3*int(b[1]) {
		wantNo(t, b, api.ErrShort)
		return
	}
	want, size := api.Label{Default: b[0]}, 2
	for range b[1] {
		want.Pairs = append(want.Pairs, api.Pair{Cat: uint16(b[size])*256 + uint16(b[size+1]), Level: b[size+2]})
		size += 3
	}
	if !mayBe(want) {
		wantNo(t, b, api.ErrForm)
		return
	}
	wantTaken(t, b, want, size)
}

func TestTakeOfWhateverBytes(t *testing.T) {
	seed := uint32(1)
	for size := range 900 {
		b := make([]byte, size)
		for i := range b {
			seed = seed*1664525 + 1013904223
			b[i] = byte(seed >> 24)
		}
		holdTake(t, b)
		for count := range 256 * min(size/2, 1) {
			b[0], b[1] = byte(count%7), byte(count)
			holdTake(t, b)
		}
	}
}

func TestTakeOfTextsWithOneByteChanged(t *testing.T) {
	for _, l := range []api.Label{made(api.L1), made(api.L2, 255, api.Star, 256, api.L3), mixed(api.L3, 0, 1, 3), mixed(api.L1, 250, 1, api.MaxPairs)} {
		for at := range said(l) {
			for v := range 256 {
				b := append(said(l), 0, 0, 0)
				b[at] = byte(v)
				holdTake(t, b)
			}
		}
	}
}

// whateverLabels answers labels that may be, such as may not, and such as no bytes say.
func whateverLabels() []api.Label {
	out := slices.Concat(mayLabels(), badLabels(), []api.Label{{}, {Pairs: []api.Pair{}}, {Default: 255, Pairs: make([]api.Pair, 300)}})
	return append(out, mixed(api.L1, 0, 1, 256), mixed(api.L2, 0, 1, 272), mixed(api.L3, 0, 1, 1<<16), mixed(api.L0, 9, 0, 1<<17))
}

func TestPutOfWhateverLabelsEndsAndTellsTheSame(t *testing.T) {
	for _, l := range whateverLabels() {
		for _, b := range [][]byte{nil, {}, {9}, {2, 1, 0}} {
			if first, again := lcode.Put(b, l), lcode.Put(b, l); !bytes.Equal(first, again) {
				t.Errorf("%d with %d pairs behind %v: told two things", l.Default, len(l.Pairs), b)
			}
		}
	}
}

func TestWhatWasToldStaysAsItWasTold(t *testing.T) {
	l := made(api.L1, 3, api.Star, 258, api.L3)
	put := lcode.Put([]byte{9}, l)
	taken, _, _ := lcode.Take(put[1:])
	for _, other := range mayLabels() {
		lcode.Take(lcode.Put(nil, other))
	}
	if !bytes.Equal(put, []byte{9, 2, 2, 0, 3, 0, 1, 2, 4}) || !isOne(taken, l) {
		t.Errorf("an earlier answer was changed: %v, %v", put, taken)
	}
}

// R3

// roomy answers l with spare room behind it, all of it filled, so that a write into it shows.
func roomy[T any](l []T, spare int, fill T) []T {
	whole := append(slices.Clone(l), slices.Repeat([]T{fill}, spare)...)
	return whole[:len(l):len(whole)]
}

// roomyLabel answers l with spare room behind its pairs.
func roomyLabel(l api.Label, spare int) api.Label {
	return api.Label{Default: l.Default, Pairs: roomy(l.Pairs, spare, api.Pair{Cat: 0xa5a5, Level: 0xa5})}
}

// whole answers a copy of l and of its spare room.
func whole[T any](l []T) []T { return slices.Clone(l[:cap(l)]) }

// scribbleBytes overwrites b and its spare room.
func scribbleBytes(b []byte) {
	b = b[:cap(b)]
	for i := range b {
		b[i] ^= 0xff
	}
}

// scribblePairs overwrites l and its spare room.
func scribblePairs(l []api.Pair) {
	l = l[:cap(l)]
	for i := range l {
		l[i].Cat, l[i].Level = ^l[i].Cat, ^l[i].Level
	}
}

// memoryLabels answers labels for which it is looked at what memory is theirs: such as may be, and others.
func memoryLabels() []api.Label {
	return []api.Label{
		made(api.L1), made(api.L1, 3, api.L3), made(api.L2, 0, api.Star, 65535, api.L0), mixed(api.L1, 0, 1, api.MaxPairs),
		{}, made(api.High, 3, api.L3), made(api.L1, 3, api.L1), made(api.L1, 3, api.High), made(api.L1, 4, api.L0, 3, api.L0), mixed(api.L3, 0, 1, api.MaxPairs+1), mixed(api.L3, 0, 1, 300),
	}
}

func TestPutNeitherChangesNorKeeps(t *testing.T) {
	for _, l := range memoryLabels() {
		for _, spare := range []int{0, 1, 2, 5, 400} {
			for _, front := range [][]byte{{}, {9}, {1, 2, 3}} {
				b, in := roomy(front, spare, 0xa5), roomyLabel(l, spare)
				wasB, wasPairs := whole(b), whole(in.Pairs)
				got := lcode.Put(b, in)
				told := bytes.Clone(got)
				if !bytes.Equal(whole(b), wasB) || !slices.Equal(whole(in.Pairs), wasPairs) {
					t.Errorf("%v behind %v, spare %d: changed", l, front, spare)
				}
				scribbleBytes(got)
				if !bytes.Equal(whole(b), wasB) {
					t.Errorf("%v behind %v, spare %d: what is told shares memory", l, front, spare)
				}
				scribbleBytes(got)
				scribbleBytes(b)
				scribblePairs(in.Pairs)
				if !bytes.Equal(got, told) {
					t.Errorf("%v behind %v, spare %d: what is told hangs on what was handed in", l, front, spare)
				}
			}
		}
	}
}

func TestTakeNeitherChangesNorKeeps(t *testing.T) {
	for _, l := range memoryLabels() {
		for _, spare := range []int{0, 1, 5, 400} {
			for _, more := range [][]byte{nil, {7}, {2, 0, 1}} {
				b := roomy(append(said(l), more...), spare, 0xa5)
				was := whole(b)
				got, _, _ := lcode.Take(b)
				told := slices.Clone(got.Pairs)
				if !bytes.Equal(whole(b), was) {
					t.Errorf("%v, spare %d: changed", l, spare)
				}
				scribbleBytes(b)
				if !slices.Equal(got.Pairs, told) {
					t.Errorf("%v, spare %d: what is told hangs on what was handed in", l, spare)
				}
			}
		}
	}
}

func TestTakeTellsNewMemoryEachTime(t *testing.T) {
	for _, l := range mayLabels() {
		b := said(l)
		first, _, _ := lcode.Take(b)
		second, _, _ := lcode.Take(b)
		scribblePairs(first.Pairs)
		third, _, _ := lcode.Take(b)
		if !isOne(second, l) || !isOne(third, l) || !bytes.Equal(b, said(l)) {
			t.Errorf("%v: an answer is another one, or what was handed in", l)
		}
	}
}

func TestPutTellsNewMemoryEachTime(t *testing.T) {
	for _, l := range memoryLabels() {
		for _, b := range [][]byte{nil, {}, {9}, {1, 2, 3}} {
			first, second := lcode.Put(b, l), lcode.Put(b, l)
			want := bytes.Clone(first)
			scribbleBytes(first)
			if !bytes.Equal(second, want) || !bytes.Equal(lcode.Put(b, l), want) {
				t.Errorf("%v behind %v: an answer is another one", l, b)
			}
		}
	}
}

func TestNilAndEmptyAreOne(t *testing.T) {
	for def := range 256 {
		none, empty := api.Label{Default: uint8(def)}, api.Label{Default: uint8(def), Pairs: []api.Pair{}}
		for _, b := range [][]byte{nil, {}, {9}} {
			if !bytes.Equal(lcode.Put(b, none), lcode.Put(b, empty)) {
				t.Errorf("Put of Default %d alone behind %v: nil and empty differ", def, b)
			}
		}
	}
	for _, l := range memoryLabels() {
		if !bytes.Equal(lcode.Put(nil, l), lcode.Put([]byte{}, l)) {
			t.Errorf("Put of %v behind none: nil and empty differ", l)
		}
	}
}
