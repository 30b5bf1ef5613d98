package obj1_test

import (
	"bytes"
	"fmt"
	"math"
	"math/bits"
	"slices"
	"testing"

	"transom/api"
	"transom/cats"
	"transom/label"
	"transom/lcode"
	"transom/name"
	"transom/num"
	"transom/obj1"
	"transom/ring"
)

// kinds are all of them.
func kinds() []int { return []int{api.Box, api.Seg, api.Gate, api.Port} }

// levels answers the label of a Default and of pairs: a category and a level each.
func levels(def uint8, l ...int) api.Label {
	out := api.Label{Default: def}
	for i := 0; i < len(l); i += 2 {
		out.Pairs = append(out.Pairs, api.Pair{Cat: uint16(l[i]), Level: uint8(l[i+1])})
	}
	return out
}

// plain is a label of no pairs.
func plain() api.Label { return levels(api.L1) }

// row answers the label of so many pairs, of these levels by turns.
func row(def uint8, n int, l ...uint8) api.Label {
	out := api.Label{Default: def}
	for i := range n {
		out.Pairs = append(out.Pairs, api.Pair{Cat: uint16(250 + 3*i), Level: l[i%len(l)]})
	}
	return out
}

// count answers n categories, each so much above the one ahead of it.
func count(from, step, n int) []uint16 {
	var out []uint16
	for i := range n {
		out = append(out, uint16(from+step*i))
	}
	return out
}

// filled answers so many bytes that differ from their neighbours.
func filled(from, size int) []byte {
	out := make([]byte, size)
	for i := range out {
		out[i] = byte(from + i*7 + i/256)
	}
	return out
}

// letters answers a letter of each length.
func letters(sizes ...int) [][]byte {
	var out [][]byte
	for i, size := range sizes {
		out = append(out, filled(i*61+1, size))
	}
	return out
}

// Objects of each kind, of a short name and label.

func box(quota, used, next int) api.Object {
	return api.Object{ID: 67, Kind: api.Box, Label: plain(), Quota: quota, Used: used, Next: next}
}

func seg(data []byte) api.Object {
	return api.Object{ID: 67, Kind: api.Seg, Label: plain(), Data: data}
}

func gate(l []uint16) api.Object {
	return api.Object{ID: 67, Kind: api.Gate, Label: plain(), Cats: l}
}

func port(l [][]byte) api.Object {
	return api.Object{ID: 67, Kind: api.Port, Label: plain(), Ring: l}
}

// some answers objects of each kind, with little in them and with as much as may be.
func some() []api.Object {
	return []api.Object{
		box(0, 0, 1), box(300, 2, 64), box(400, 400, 64), box(257, 256, 9), seg(nil), seg([]byte("hi")), seg(filled(3, 64)),
		gate(nil), gate([]uint16{9}), gate(count(0, 4369, 16)), port(nil), port(letters(1, 0)), port(letters(0)), port(letters(16, 16, 16, 16)),
	}
}

// with answers o with another name and label.
func with(o api.Object, id uint64, l api.Label) api.Object {
	o.ID, o.Label = id, l
	return o
}

// names are such as may be: Root, the first and the last of every depth, and others.
func names() []uint64 {
	out := []uint64{api.Root, 67, 4290, 127<<6 | 1, 65<<12 | 63<<6 | 32}
	low, high := uint64(api.Root), uint64(api.Root)
	for range api.MaxDepth {
		low, high = low<<6|1, high<<6|63
		out = append(out, low, high)
	}
	return out
}

// noNames are such as may not be: 0, those in which a number is 0, those that are too deep, and those that do not begin with Root.
func noNames() []uint64 {
	out := []uint64{0, 2, 3, 63, 64, 128, 1 << 12, 1<<12 | 1, 1<<12 | 1<<6, 1<<36 | 1, 5 << 30, 1 << 42, math.MaxUint64, 1 << 63, 1<<63 | 65, 1<<32 | 65, 1<<40 | 67, 65 << 56}
	deep := uint64(api.Root)
	for range api.MaxDepth {
		deep = deep<<6 | 7
	}
	for range 3 {
		deep = deep<<6 | 7
		out = append(out, deep, deep<<1, deep|1<<63)
	}
	return out
}

// labels are such as an object may have.
func labels() []api.Label {
	var out []api.Label
	for def := uint8(api.L0); def <= api.L3; def++ {
		out = append(out, levels(def))
		for lev := uint8(api.L0); lev <= api.L3; lev++ {
			if lev != def {
				out = append(out, levels(def, 3, int(lev)), levels(def, 0, int(lev), 65535, int(lev)), row(def, 15, lev), row(def, 16, lev))
			}
		}
	}
	return append(out, levels(api.L1, 3, api.L3, 255, api.L0, 256, api.L2, 40000, api.L3), row(api.L1, 16, api.L0, api.L2, api.L3), row(api.L3, 16, api.L0, api.L1, api.L2))
}

// badLabels are such as P5.1 refuses, each for one reason.
func badLabels() []api.Label {
	out := []api.Label{{}, levels(api.Star, 3, api.L1), levels(api.High), levels(6), levels(255), row(api.L1, 17, api.L3), row(api.L1, 18, api.L0, api.L2), row(api.L2, 255, api.L1)}
	for _, lev := range []int{api.High, 6, 128, 255, api.L1} {
		out = append(out, levels(api.L1, 3, lev), levels(api.L1, 1, api.L0, 3, lev), levels(api.L1, 3, lev, 5, api.L3))
	}
	return append(out, levels(api.L1, 5, api.L3, 3, api.L3), levels(api.L1, 3, api.L3, 3, api.L3), levels(api.L1, 3, api.L3, 3, api.L0), levels(api.L1, 1, api.L0, 256, api.L3, 255, api.L3), levels(api.L1, 65535, api.L3, 0, api.L3))
}

// starLabels are such as a thread may have, and an object may not.
func starLabels() []api.Label {
	var out []api.Label
	for def := uint8(api.L0); def <= api.L3; def++ {
		out = append(out, levels(def, 3, api.Star), levels(def, 0, api.Star), levels(def, 65535, api.Star), row(def, 16, api.Star), row(def, 15, api.Star))
	}
	for at := range api.MaxPairs {
		l := row(api.L1, api.MaxPairs, api.L0, api.L2, api.L3)
		l.Pairs[at].Level = api.Star
		out = append(out, l)
	}
	return out
}

// ends are numbers around the limits, those that come round to them in two bytes and in four, and the ends of int.
func ends() []int {
	out := []int{math.MinInt, math.MinInt + 1, math.MinInt32, -65536, -65535, -65136, -256, -2, -1}
	for _, base := range []int{0, 1, 63, 64, 65, 255, 256, 399, 400, 401, 1000, 32767, 65535, 65536, 65537, 65600, 65601, 65936, 65937, 1 << 32, 1<<32 + 1, 1<<32 + 300, math.MaxInt32, math.MaxInt - 1, math.MaxInt} {
		out = append(out, base)
	}
	return out
}

// badSets are lists of categories that may not be.
func badSets() [][]uint16 {
	return [][]uint16{{3, 3}, {5, 3}, {0, 0}, {256, 255}, {1, 2, 2}, {1, 3, 2, 4}, {65535, 0}, count(0, 1, 17), count(9, 100, 18), count(0, 1, 255), make([]uint16, 16)}
}

// badRings are lists of letters that may not be.
func badRings() [][][]byte {
	out := [][][]byte{letters(17), letters(17, 0), letters(0, 17), letters(16, 16, 16, 17), letters(1, 300, 2), letters(4096), letters(0, 0, 0, 0, 0), letters(16, 16, 16, 16, 16), letters(17, 17, 17, 17, 17)}
	return append(out, make([][]byte, 6), make([][]byte, 255))
}

// longData are bytes that are too many for a segment.
func longData() [][]byte {
	var out [][]byte
	for _, size := range []int{65, 66, 127, 128, 255, 256, 257, 300, 320, 1000, 65535} {
		out = append(out, filled(5, size))
	}
	return out
}

// mayLevels says what P5.1 says of a label, and that it has no star.
func mayLevels(l api.Label) bool {
	ok := 1 <= l.Default && l.Default <= 4 && len(l.Pairs) <= 16
	for i, p := range l.Pairs {
		ok = ok && 0 <= p.Level && p.Level <= 4 && p.Level != l.Default && (i == 0 || l.Pairs[i-1].Cat < p.Cat)
	}
	return ok
}

// noStars tells that no pair is of level Star.
func noStars(l api.Label) bool {
	return !slices.ContainsFunc(l.Pairs, func(p api.Pair) bool { return p.Level == 0 })
}

// mayName says what P14.1 says of a name.
func mayName(id uint64) bool {
	for range 7 {
		if id == 1 {
			return true
		}
		if id%64 == 0 {
			return false
		}
		id /= 64
	}
	return false
}

// maySet says what P4.1 says of a set.
func maySet(l []uint16) bool {
	for i := range l {
		if i > 0 && l[i-1] >= l[i] {
			return false
		}
	}
	return len(l) <= 16
}

// mayWait says what P16.1 says of letters.
func mayWait(l [][]byte) bool {
	return len(l) <= 4 && !slices.ContainsFunc(l, func(b []byte) bool { return len(b) > 16 })
}

// mayBe says what P17.1 says of an object.
func mayBe(o api.Object) bool {
	if !mayName(o.ID) || !mayLevels(o.Label) || !noStars(o.Label) {
		return false
	}
	switch o.Kind {
	case 1:
		return o.Used >= 0 && o.Used <= o.Quota && o.Quota <= 400 && o.Next >= 1 && o.Next <= 64
	case 2:
		return len(o.Data) <= 64
	case 3:
		return maySet(o.Cats)
	case 4:
		return mayWait(o.Ring)
	}
	return false
}

// two answers a number in two bytes.
func two(v int) []byte { return []byte{byte(v >> 8), byte(v)} }

// saidLabel answers a label's bytes, also of one that may not be.
func saidLabel(l api.Label) []byte {
	out := []byte{l.Default, byte(len(l.Pairs))}
	for _, p := range l.Pairs {
		out = append(append(out, two(int(p.Cat))...), p.Level)
	}
	return out
}

// saidHead answers what stands ahead of a label.
func saidHead(o api.Object) []byte {
	out := []byte{1, byte(o.Kind)}
	for shift := 56; shift >= 0; shift -= 8 {
		out = append(out, byte(o.ID>>shift))
	}
	return out
}

// saidOwn answers what stands behind a label.
func saidOwn(o api.Object) []byte {
	switch o.Kind {
	case api.Box:
		return slices.Concat(two(o.Quota), two(o.Used), two(o.Next))
	case api.Seg:
		return append(two(len(o.Data)), o.Data...)
	case api.Gate:
		out := []byte{byte(len(o.Cats))}
		for _, c := range o.Cats {
			out = append(out, two(int(c))...)
		}
		return out
	}
	out := []byte{byte(len(o.Ring))}
	for _, b := range o.Ring {
		out = append(append(out, two(len(b))...), b...)
	}
	return out
}

// said answers the text of an object as P17.1 says it, also of one that may not be.
func said(o api.Object) []byte { return slices.Concat(saidHead(o), saidLabel(o.Label), saidOwn(o)) }

// same tells whether two objects are the same, in all fields; nil and an empty list are one.
func same(a, b api.Object) bool {
	levels := a.Label.Default == b.Label.Default && slices.Equal(a.Label.Pairs, b.Label.Pairs)
	sets := slices.Equal(a.Sets.S, b.Sets.S) && slices.Equal(a.Sets.I, b.Sets.I) && slices.Equal(a.Sets.O, b.Sets.O)
	numbers := a.ID == b.ID && a.Kind == b.Kind && a.Quota == b.Quota && a.Used == b.Used && a.Next == b.Next
	return levels && sets && numbers && bytes.Equal(a.Data, b.Data) && slices.Equal(a.Cats, b.Cats) && slices.EqualFunc(a.Ring, b.Ring, bytes.Equal)
}

// brief answers an object as a text that is not too long to read.
func brief(o api.Object) string {
	return fmt.Sprintf("kind %d, name %d, label %.200s, numbers %d %d %d, %d bytes %.40x, cats %.200s, %d letters %.200s",
		o.Kind, o.ID, fmt.Sprint(o.Label), o.Quota, o.Used, o.Next, len(o.Data), o.Data, fmt.Sprint(o.Cats[:min(len(o.Cats), 40)]), len(o.Ring), fmt.Sprintf("%x", o.Ring))
}

// eachRing calls try with every list of none to four letters of these lengths.
func eachRing(sizes []int, try func(l [][]byte)) {
	var from func(l []int)
	from = func(l []int) {
		try(letters(l...))
		if len(l) == api.MaxRing {
			return
		}
		for _, size := range sizes {
			from(append(slices.Clip(l), size))
		}
	}
	from(nil)
}

// eachGood calls try with objects that may be, of each kind, with numbers and lists at both ends of what may be and in between.
func eachGood(try func(o api.Object)) {
	for _, o := range some() {
		for _, id := range names() {
			for _, l := range labels() {
				try(with(o, id, l))
			}
		}
	}
	for _, quota := range []int{0, 1, 2, 200, 255, 256, 257, 399, 400} {
		for used := 0; used <= quota; used += 1 + quota/16 {
			try(box(quota, used, 1+used%64))
		}
		try(box(quota, quota, 64))
	}
	for next := 1; next <= 64; next++ {
		try(box(258, 1, next))
	}
	for size := range api.MaxData + 1 {
		try(seg(filled(size, size)))
		try(gate(count(size, 1+17*size, min(size, 16))))
	}
	eachRing([]int{0, 1, 2, 15, 16}, func(l [][]byte) { try(port(l)) })
}

// eachBad calls try with objects that may not be and that bytes can say, each for one reason: those that are found where they are met, and those that are found when all is read.
func eachBad(try func(o api.Object, met bool)) {
	for _, o := range some() {
		for _, id := range noNames() {
			try(with(o, id, o.Label), false)
		}
		for _, l := range starLabels() {
			try(with(o, 67, l), false)
		}
		for _, l := range badLabels() {
			try(with(o, 67, l), true)
		}
	}
	for _, data := range longData() {
		try(seg(data), false)
	}
	for _, l := range badSets() {
		try(gate(l), true)
	}
	for _, l := range badRings() {
		try(port(l), true)
	}
	for _, o := range []api.Object{box(0, 1, 1), box(300, 301, 1), box(399, 400, 5), box(0, 65535, 1), box(401, 0, 1), box(401, 401, 1), box(65535, 0, 1), box(65535, 65535, 64), box(3, 1, 0), box(3, 1, 65), box(3, 1, 66), box(3, 1, 256), box(3, 1, 257), box(3, 1, 65535)} {
		try(o, false)
	}
}

// P17.1 Put

// isPut asks that Put tells the bytes.
func isPut(t *testing.T, o api.Object, want []byte) {
	t.Helper()
	if got, e := obj1.Put(o); !bytes.Equal(got, want) || e != api.OK {
		t.Fatalf("Put of %s: %v, %d, want %v", brief(o), got, e, want)
	}
}

// isArg asks that Put tells ErrArg, and nothing beside it.
func isArg(t *testing.T, o api.Object) {
	t.Helper()
	if got, e := obj1.Put(o); len(got) != 0 || e != api.ErrArg {
		t.Fatalf("Put of %s: %d bytes, %d, want ErrArg", brief(o), len(got), e)
	}
}

func TestPutOfAPort(t *testing.T) {
	isPut(t, port(nil), []byte{1, 4, 0, 0, 0, 0, 0, 0, 0, 67, 2, 0, 0})
}

func TestPutsWrittenOut(t *testing.T) {
	l := levels(api.L1, 3, api.L3)
	for _, x := range []struct {
		o    api.Object
		want []byte
	}{
		{with(box(300, 2, 64), 67, l), []byte{1, 1, 0, 0, 0, 0, 0, 0, 0, 67, 2, 1, 0, 3, 4, 1, 44, 0, 2, 0, 64}},
		{with(box(0, 0, 1), 1, levels(api.L3)), []byte{1, 1, 0, 0, 0, 0, 0, 0, 0, 1, 4, 0, 0, 0, 0, 0, 0, 1}},
		{with(box(400, 256, 10), 65, l), []byte{1, 1, 0, 0, 0, 0, 0, 0, 0, 65, 2, 1, 0, 3, 4, 1, 144, 1, 0, 0, 10}},
		{with(seg([]byte("hi")), 67, l), []byte{1, 2, 0, 0, 0, 0, 0, 0, 0, 67, 2, 1, 0, 3, 4, 0, 2, 'h', 'i'}},
		{with(seg(nil), 4290, levels(api.L0)), []byte{1, 2, 0, 0, 0, 0, 0, 0, 16, 194, 1, 0, 0, 0}},
		{with(gate([]uint16{9}), 67, l), []byte{1, 3, 0, 0, 0, 0, 0, 0, 0, 67, 2, 1, 0, 3, 4, 1, 0, 9}},
		{with(gate([]uint16{0, 258, 65535}), 127, l), []byte{1, 3, 0, 0, 0, 0, 0, 0, 0, 127, 2, 1, 0, 3, 4, 3, 0, 0, 1, 2, 255, 255}},
		{with(gate(nil), 67, levels(api.L2, 258, api.L0)), []byte{1, 3, 0, 0, 0, 0, 0, 0, 0, 67, 3, 1, 1, 2, 1, 0}},
		{with(port([][]byte{[]byte("x"), nil}), 67, l), []byte{1, 4, 0, 0, 0, 0, 0, 0, 0, 67, 2, 1, 0, 3, 4, 2, 0, 1, 'x', 0, 0}},
		{with(port(nil), 0x1041041041, levels(api.L1)), []byte{1, 4, 0, 0, 0, 16, 65, 4, 16, 65, 2, 0, 0}},
		{with(port(nil), 0x1fffffffff, levels(api.L1, 1, api.L0, 2, api.L2)), []byte{1, 4, 0, 0, 0, 31, 255, 255, 255, 255, 2, 2, 0, 1, 1, 0, 2, 3, 0}},
	} {
		isPut(t, x.o, x.want)
	}
}

func TestPutOfEveryGoodObject(t *testing.T) {
	n := 0
	eachGood(func(o api.Object) {
		n++
		isPut(t, o, said(o))
	})
	if n < 5000 {
		t.Errorf("only %d objects", n)
	}
}

func TestPutOfEveryName(t *testing.T) {
	for _, o := range some() {
		for n := range uint64(1 << 13) {
			x := with(o, n, o.Label)
			if mayName(n) {
				isPut(t, x, said(x))
			} else {
				isArg(t, x)
			}
		}
	}
}

func TestPutOfEveryBoxAroundTheEnds(t *testing.T) {
	good := 0
	for _, quota := range ends() {
		for _, used := range ends() {
			for _, next := range ends() {
				o := box(quota, used, next)
				if mayBe(o) {
					good++
					isPut(t, o, said(o))
				} else {
					isArg(t, o)
				}
			}
		}
	}
	if good == 0 {
		t.Error("no good box")
	}
}

func TestPutLaysPartsAsTheirLayersDo(t *testing.T) {
	eachGood(func(o api.Object) {
		want := lcode.Put(num.Put(num.Put(num.Put(nil, 1, 1), uint64(o.Kind), 1), o.ID, 8), o.Label)
		switch o.Kind {
		case api.Box:
			want = num.Put(num.Put(num.Put(want, uint64(o.Quota), 2), uint64(o.Used), 2), uint64(o.Next), 2)
		case api.Seg:
			want = num.PutBytes(want, o.Data)
		case api.Gate:
			want = cats.Put(want, o.Cats)
		case api.Port:
			want = ring.Put(want, o.Ring)
		}
		isPut(t, o, want)
	})
}

// litter answers o with something in every field of other kinds, and in Sets: such as may be, and such as may not.
func litter(o api.Object) []api.Object {
	var out []api.Object
	for _, s := range []api.Sets{{S: []uint16{1}, I: []uint16{2}, O: []uint16{3}}, {S: []uint16{5, 3}, I: count(0, 1, 300), O: []uint16{5, 5}}} {
		for _, v := range ends() {
			for i := range 4 {
				x := api.Object{ID: o.ID, Kind: o.Kind, Label: o.Label, Sets: s, Quota: v, Used: -v, Next: 1 - v, Data: filled(2, 60*i), Cats: slices.Repeat([]uint16{9}, i*i), Ring: letters(16, 30)}
				x.Ring = slices.Repeat(x.Ring, i)
				out = append(out, owned(x, o))
			}
		}
	}
	return out
}

// owned answers x with what only objects of o's kind have as o has it.
func owned(x, o api.Object) api.Object {
	switch o.Kind {
	case api.Box:
		x.Quota, x.Used, x.Next = o.Quota, o.Used, o.Next
	case api.Seg:
		x.Data = o.Data
	case api.Gate:
		x.Cats = o.Cats
	case api.Port:
		x.Ring = o.Ring
	}
	return x
}

func TestPutDoesNotAskForFieldsOfOtherKinds(t *testing.T) {
	for _, o := range some() {
		for _, x := range litter(o) {
			isPut(t, x, said(o))
		}
	}
}

func TestPutOfOneFieldOfAnotherKind(t *testing.T) {
	for _, o := range some() {
		for _, change := range []func(x *api.Object){
			func(x *api.Object) { x.Quota = -1 }, func(x *api.Object) { x.Used = 9 }, func(x *api.Object) { x.Next = 99 },
			func(x *api.Object) { x.Data = filled(0, 99) }, func(x *api.Object) { x.Cats = []uint16{3, 3} }, func(x *api.Object) { x.Ring = letters(17) },
			func(x *api.Object) { x.Sets.S = []uint16{3, 3} }, func(x *api.Object) { x.Sets.I = []uint16{3, 3} }, func(x *api.Object) { x.Sets.O = []uint16{3} },
		} {
			x := o
			change(&x)
			isPut(t, owned(x, o), said(o))
		}
	}
}

func TestPutOfNothingIsErrArg(t *testing.T) { isArg(t, api.Object{}) }

func TestPutOfWhatMayNotBeIsErrArg(t *testing.T) {
	n := 0
	eachBad(func(o api.Object, _ bool) {
		n++
		if mayBe(o) {
			t.Fatalf("%s may be", brief(o))
		}
		isArg(t, o)
	})
	if n < 1000 {
		t.Errorf("only %d objects", n)
	}
}

func TestPutOfAKindThatIsNoneOfTheFourIsErrArg(t *testing.T) {
	every := append(ends(), 2+256, 3+65536, 4+1<<32, 1-256, 5, 6, 7, 8, -3, -4)
	for _, o := range some() {
		for _, kind := range every {
			if kind < 1 || kind > 4 {
				o.Kind = kind
				isArg(t, o)
			}
		}
	}
	all := api.Object{ID: 67, Label: plain(), Quota: 3, Used: 1, Next: 2, Data: []byte("ab"), Cats: []uint16{4}, Ring: letters(2)}
	for _, kind := range every {
		all.Kind = kind
		if kind < 1 || kind > 4 {
			isArg(t, all)
		}
	}
	for _, kind := range kinds() {
		all.Kind = kind
		isPut(t, all, said(all))
	}
}

func TestPutOfAnotherKindsFieldsAlone(t *testing.T) {
	for _, o := range some() {
		for _, kind := range kinds() {
			x := o
			x.Kind = kind
			if mayBe(x) {
				isPut(t, x, said(x))
			} else {
				isArg(t, x)
			}
		}
	}
}

func TestPutOfAStarIsErrArg(t *testing.T) {
	for _, l := range starLabels() {
		if !label.May(l) {
			t.Fatalf("%v may not be: another reason", l)
		}
		for _, o := range some() {
			isArg(t, with(o, 67, l))
		}
	}
}

func TestPutOfGreatListsIsErrArg(t *testing.T) {
	for _, size := range []int{65536, 65537, 65538, 65600, 1 << 17} {
		isArg(t, seg(make([]byte, size)))
		isArg(t, port([][]byte{make([]byte, size)}))
		isArg(t, port(make([][]byte, size)))
		isArg(t, gate(make([]uint16, size)))
		isArg(t, with(seg(nil), 67, api.Label{Default: api.L1, Pairs: make([]api.Pair, size)}))
	}
	for _, n := range []int{256, 257, 260, 272, 512} {
		isArg(t, gate(count(0, 1, n)))
		isArg(t, port(make([][]byte, n)))
		isArg(t, with(seg(nil), 67, row(api.L1, n, api.L3)))
	}
	isArg(t, gate(count(0, 1, 65536)))
	isArg(t, with(gate(nil), 67, row(api.L1, 20000, api.L0)))
}

// Each of two wrongs beside each other one, in objects of each kind.
func TestPutOfTwoThingsThatMayNotBe(t *testing.T) {
	wrongs := []func(o *api.Object){
		func(o *api.Object) { o.ID = 2 }, func(o *api.Object) { o.ID = 0 }, func(o *api.Object) { o.Kind = 0 }, func(o *api.Object) { o.Kind = 5 },
		func(o *api.Object) { o.Label = api.Label{} }, func(o *api.Object) { o.Label = levels(api.L1, 3, api.Star) }, func(o *api.Object) { o.Label = levels(api.L1, 5, api.L3, 3, api.L3) },
		func(o *api.Object) { o.Used = -1 }, func(o *api.Object) { o.Quota = 401 }, func(o *api.Object) { o.Next = 0 }, func(o *api.Object) { o.Next = 65 },
		func(o *api.Object) { o.Quota, o.Used = 2, 3 }, func(o *api.Object) { o.Data = filled(0, 65) }, func(o *api.Object) { o.Cats = []uint16{3, 3} }, func(o *api.Object) { o.Ring = letters(17) },
	}
	for _, o := range some() {
		for _, one := range wrongs {
			for _, other := range wrongs {
				x := o
				one(&x)
				other(&x)
				if mayBe(x) {
					isPut(t, x, said(x))
				} else {
					isArg(t, x)
				}
			}
		}
	}
}

// P17.2 Take

// isTaken asks that Take of b tells the object.
func isTaken(t *testing.T, b []byte, want api.Object) {
	t.Helper()
	if got, e := obj1.Take(b); !same(got, want) || e != api.OK {
		t.Fatalf("Take(%v): %s, %d, want %s", b, brief(got), e, brief(want))
	}
}

// isNo asks that Take of b tells the error, and an object that is its zero value.
func isNo(t *testing.T, b []byte, want api.Errno) {
	t.Helper()
	if got, e := obj1.Take(b); !same(got, api.Object{}) || e != want {
		t.Fatalf("Take of %d bytes that begin %v: %s, %d, want %d", len(b), b[:min(len(b), 80)], brief(got), e, want)
	}
}

func TestTakesWrittenOut(t *testing.T) {
	l := levels(api.L1, 3, api.L3)
	isTaken(t, []byte{1, 4, 0, 0, 0, 0, 0, 0, 0, 67, 2, 0, 0}, port(nil))
	isTaken(t, []byte{1, 1, 0, 0, 0, 0, 0, 0, 0, 67, 2, 1, 0, 3, 4, 1, 44, 0, 2, 0, 64}, with(box(300, 2, 64), 67, l))
	isTaken(t, []byte{1, 1, 0, 0, 0, 0, 0, 0, 0, 1, 4, 0, 0, 0, 0, 0, 0, 1}, with(box(0, 0, 1), 1, levels(api.L3)))
	isTaken(t, []byte{1, 2, 0, 0, 0, 0, 0, 0, 16, 194, 1, 0, 0, 0}, with(seg(nil), 4290, levels(api.L0)))
	isTaken(t, []byte{1, 2, 0, 0, 0, 0, 0, 0, 0, 67, 2, 1, 0, 3, 4, 0, 2, 'h', 'i'}, with(seg([]byte("hi")), 67, l))
	isTaken(t, []byte{1, 3, 0, 0, 0, 0, 0, 0, 0, 127, 2, 1, 0, 3, 4, 3, 0, 0, 1, 2, 255, 255}, with(gate([]uint16{0, 258, 65535}), 127, l))
	isTaken(t, []byte{1, 4, 0, 0, 0, 0, 0, 0, 0, 67, 2, 1, 0, 3, 4, 2, 0, 1, 'x', 0, 0}, with(port([][]byte{[]byte("x"), nil}), 67, l))
	isTaken(t, []byte{1, 4, 0, 0, 0, 31, 255, 255, 255, 255, 2, 2, 0, 1, 1, 0, 2, 3, 0}, with(port(nil), 0x1fffffffff, levels(api.L1, 1, api.L0, 2, api.L2)))
}

func TestTakeOfEveryGoodObject(t *testing.T) {
	eachGood(func(o api.Object) { isTaken(t, said(o), o) })
}

func TestTakeReadsWhatPutWrote(t *testing.T) {
	for _, o := range some() {
		for _, x := range litter(o) {
			b, e := obj1.Put(x)
			if e != api.OK {
				t.Fatalf("Put of %s: %d", brief(x), e)
			}
			isTaken(t, b, o)
		}
	}
}

func TestTakenAndPutAgainIsTheTextThatWasRead(t *testing.T) {
	eachGood(func(o api.Object) {
		b := said(o)
		got, e := obj1.Take(b)
		if again, no := obj1.Put(got); e != api.OK || no != api.OK || !bytes.Equal(again, b) {
			t.Fatalf("Take(%v), error %d, put again: %v, %d", b, e, again, no)
		}
	})
}

func TestEachObjectHasOneText(t *testing.T) {
	texts := map[string]api.Object{}
	eachGood(func(o api.Object) {
		b, _ := obj1.Put(o)
		if other, found := texts[string(b)]; found && !same(o, other) {
			t.Fatalf("%s and %s: one text", brief(o), brief(other))
		}
		texts[string(b)] = o
	})
}

func TestTakeOfNoBytesIsErrShort(t *testing.T) {
	isNo(t, nil, api.ErrShort)
	isNo(t, []byte{}, api.ErrShort)
	isNo(t, said(port(nil))[:0], api.ErrShort)
}

func TestTakeOfBytesCutOffIsErrShort(t *testing.T) {
	for _, o := range some() {
		for _, id := range []uint64{1, 0x1fffffffff} {
			for _, l := range labels() {
				// Spare room behind the cut is not the text's.
				b := said(with(o, id, l))
				for cut := range len(b) {
					isNo(t, b[:cut], api.ErrShort)
				}
				isNo(t, slices.Clip(b[:len(b)-1]), api.ErrShort)
			}
		}
	}
	eachGood(func(o api.Object) {
		b := said(o)
		isNo(t, b[:len(b)-1], api.ErrShort)
		isNo(t, b[:len(b)/2], api.ErrShort)
	})
}

func TestTakeOfBytesBehindIsErrForm(t *testing.T) {
	eachGood(func(o api.Object) {
		for _, more := range [][]byte{{0}, {1}, {255, 255}} {
			isNo(t, append(said(o), more...), api.ErrForm)
		}
	})
	for _, o := range some() {
		for _, other := range some() {
			isNo(t, append(said(o), said(other)...), api.ErrForm)
		}
		isNo(t, append(said(o), make([]byte, 70000)...), api.ErrForm)
	}
}

func TestTakeOfAnotherVersionIsErrForm(t *testing.T) {
	for _, o := range some() {
		b := said(o)
		for v := range 256 {
			if v == 1 {
				continue
			}
			b[0] = byte(v)
			// It is met at once: what stands behind it, or does not, is not looked at.
			for cut := 1; cut <= len(b); cut++ {
				isNo(t, b[:cut], api.ErrForm)
			}
			isNo(t, append(slices.Clip(b), 0), api.ErrForm)
		}
	}
	isNo(t, []byte{2, 5}, api.ErrForm)
	isNo(t, []byte{0, 0, 0, 0}, api.ErrForm)
}

func TestTakeOfAnotherKindIsErrForm(t *testing.T) {
	for _, o := range some() {
		b := said(o)
		for v := range 256 {
			if 1 <= v && v <= 4 {
				continue
			}
			b[1] = byte(v)
			for cut := 2; cut <= len(b); cut++ {
				isNo(t, b[:cut], api.ErrForm)
			}
			isNo(t, b[:1], api.ErrShort)
			isNo(t, append(slices.Clip(b), 0), api.ErrForm)
		}
	}
}

func TestTakeOfWhatMayNotBeIsErrForm(t *testing.T) {
	eachBad(func(o api.Object, _ bool) {
		isNo(t, said(o), api.ErrForm)
		isNo(t, append(said(o), 0), api.ErrForm)
	})
}

// What may not be is told when all is read: where the text is cut off it is short.
func TestTakeTellsErrShortAheadOfWhatMayNotBe(t *testing.T) {
	eachBad(func(o api.Object, met bool) {
		if met {
			return
		}
		b := said(o)
		for cut := 0; cut < len(b); cut += 1 + len(b)/90 {
			isNo(t, b[:cut], api.ErrShort)
		}
		isNo(t, b[:len(b)-1], api.ErrShort)
	})
}

// metAt answers where a label, a set or letters that may not be end: what is found of them is found when all of them is there.
func metAt(o api.Object) int {
	if !mayLevels(o.Label) {
		return len(saidHead(o)) + len(saidLabel(o.Label))
	}
	return len(said(o))
}

// A part that another layer refuses is told where it is met: what stands behind it, or does not, is not looked at.
func TestTakeTellsErrorsOfPartsWhereTheyAreMet(t *testing.T) {
	eachBad(func(o api.Object, met bool) {
		if !met {
			return
		}
		b, at := said(o), metAt(o)
		for cut := 0; cut <= len(b); cut += 1 + len(b)/200 {
			want := api.ErrShort
			if cut >= at {
				want = api.ErrForm
			}
			isNo(t, b[:cut], want)
		}
		isNo(t, b[:at-1], api.ErrShort)
		isNo(t, b[:at], api.ErrForm)
	})
}

// A label of a wrong form stands ahead of parts that are short, whatever they are.
func TestTakeTellsAWrongLabelAheadOfAShortPart(t *testing.T) {
	for _, o := range some() {
		for _, id := range []uint64{67, 0, 2} {
			for _, l := range badLabels() {
				b := append(saidHead(with(o, id, l)), saidLabel(l)...)
				for _, own := range [][]byte{nil, {0}, {255}, {0, 9}, {255, 255, 1}} {
					isNo(t, append(slices.Clip(b), own...), api.ErrForm)
				}
			}
		}
	}
}

// A star and a name that may not be stand ahead of parts that are of a wrong form, and of such as are short.
func TestTakeTellsWhatIsMetAheadOfWhatMayNotBe(t *testing.T) {
	for _, id := range []uint64{67, 2} {
		for _, l := range []api.Label{plain(), levels(api.L1, 3, api.Star)} {
			for _, list := range badSets() {
				b := said(with(gate(list), id, l))
				isNo(t, b, api.ErrForm)
				isNo(t, b[:len(b)-1], api.ErrShort)
			}
			for _, list := range badRings() {
				b := said(with(port(list), id, l))
				isNo(t, b, api.ErrForm)
				isNo(t, b[:len(b)-1], api.ErrShort)
			}
			for _, data := range longData() {
				b := said(with(seg(data), id, l))
				isNo(t, b, api.ErrForm)
				isNo(t, b[:len(b)-1], api.ErrShort)
			}
		}
	}
}

func TestTakeOfALengthThatIsMoreThanThereIsIsErrShort(t *testing.T) {
	for _, size := range []int{1, 2, 64, 65, 255, 256, 65535} {
		b := said(seg(make([]byte, size)))
		for _, have := range []int{0, size / 2, size - 1} {
			isNo(t, b[:len(b)-size+have], api.ErrShort)
		}
	}
	for n := 1; n <= 255; n++ {
		isNo(t, append(said(gate(nil))[:12], byte(n)), api.ErrShort)
		isNo(t, append(said(port(nil))[:12], byte(n)), api.ErrShort)
		isNo(t, append(saidHead(port(nil)), api.L1, byte(n)), api.ErrShort)
	}
}

func TestTakeOfEveryNumberOfABox(t *testing.T) {
	for v := range 1 << 16 {
		for _, o := range []api.Object{box(v, min(v, 7), 3), box(400, v, 3), box(400, 9, v)} {
			if mayBe(o) {
				isTaken(t, said(o), o)
			} else {
				isNo(t, said(o), api.ErrForm)
			}
		}
	}
}

func TestTakeOfEveryName(t *testing.T) {
	for _, o := range some() {
		for n := range uint64(1 << 13) {
			x := with(o, n, o.Label)
			if mayName(n) {
				isTaken(t, said(x), x)
			} else {
				isNo(t, said(x), api.ErrForm)
			}
		}
	}
}

// R1, R4

// chance answers numbers that look like chance, and are the same each time.
type chance uint64

func (c *chance) next() uint64 {
	*c = *c*6364136223846793005 + 1442695040888963407
	return uint64(*c)
}

func (c *chance) below(n int) int {
	high, _ := bits.Mul64(c.next(), uint64(n))
	return int(high)
}

// one answers one of a list.
func one[T any](c *chance, l []T) T { return l[c.below(len(l))] }

// mostly answers a number below n, at times one below far.
func (c *chance) mostly(n, far int) int {
	if c.below(12) == 0 {
		return c.below(far)
	}
	return c.below(n)
}

// bytes answers so many bytes of whatever kind.
func (c *chance) bytes(size int) []byte {
	out := make([]byte, size)
	for i := range out {
		out[i] = byte(c.next() >> 40)
	}
	return out
}

// id answers a name, or what is nearly one.
func (c *chance) id() uint64 {
	id := uint64(api.Root)
	for range c.mostly(7, 9) {
		id = id<<6 | uint64(1+c.mostly(63, 70))
	}
	if c.below(20) == 0 {
		id ^= 1 << c.below(64)
	}
	return id
}

// label answers a label, or what is nearly one.
func (c *chance) label() api.Label {
	l := api.Label{Default: uint8(1 + c.mostly(4, 6))}
	cat := c.below(60)
	for range c.mostly(17, 24) {
		lev := uint8(1 + (int(l.Default)+c.below(3))%4)
		if c.below(40) == 0 {
			lev = uint8(c.below(7))
		}
		l.Pairs = append(l.Pairs, api.Pair{Cat: uint16(cat), Level: lev})
		cat += 1 + c.below(4000)
		if c.below(60) == 0 {
			cat -= 2000
		}
	}
	return l
}

// object answers an object, or what is nearly one; what stands in fields of other kinds is whatever it is.
func (c *chance) object() api.Object {
	o := api.Object{ID: c.id(), Kind: 1 + c.mostly(4, 6), Label: c.label()}
	o.Quota, o.Next = c.mostly(401, 500), 1+c.mostly(64, 70)-c.mostly(1, 3)
	o.Used = c.mostly(o.Quota+1, 500) - c.mostly(1, 3)
	o.Data = c.bytes(c.mostly(65, 70))
	cat := c.below(4000)
	for range c.mostly(17, 20) {
		o.Cats = append(o.Cats, uint16(cat))
		cat += 1 + c.below(3000)
		if c.below(60) == 0 {
			cat -= 2000
		}
	}
	for range c.mostly(5, 7) {
		o.Ring = append(o.Ring, c.bytes(c.mostly(17, 20)))
	}
	return o
}

// owns answers o with fields of other kinds their zero value.
func owns(o api.Object) api.Object {
	return owned(api.Object{ID: o.ID, Kind: o.Kind, Label: o.Label}, o)
}

// reader reads bytes one by one, and tells whether they were all there.
type reader struct {
	b     []byte
	short bool
}

func (r *reader) number(width int) int {
	v := 0
	for range width {
		if len(r.b) == 0 {
			r.short = true
			return 0
		}
		v = v*256 + int(r.b[0])
		r.b = r.b[1:]
	}
	return v
}

func (r *reader) list(size int) []byte {
	if r.short || len(r.b) < size {
		r.short = true
		return nil
	}
	out := r.b[:size]
	r.b = r.b[size:]
	return out
}

// own reads what only objects of o's kind have, and tells whether another layer takes it.
func (r *reader) own(o *api.Object) bool {
	switch o.Kind {
	case api.Box:
		o.Quota, o.Used, o.Next = r.number(2), r.number(2), r.number(2)
	case api.Seg:
		o.Data = r.list(r.number(2))
	case api.Gate:
		for range r.number(1) {
			o.Cats = append(o.Cats, uint16(r.number(2)))
		}
		return maySet(o.Cats)
	case api.Port:
		for range r.number(1) {
			o.Ring = append(o.Ring, r.list(r.number(2)))
		}
		return mayWait(o.Ring)
	}
	return true
}

// read says of whatever bytes what P17.2 says of them.
func read(b []byte) (api.Object, api.Errno) {
	r := reader{b: b}
	var o api.Object
	met := r.number(1) == 1
	if r.short || !met {
		return api.Object{}, what(r.short)
	}
	o.Kind = r.number(1)
	if r.short || o.Kind < 1 || o.Kind > 4 {
		return api.Object{}, what(r.short)
	}
	o.ID = uint64(r.number(4))<<32 | uint64(r.number(4))
	o.Label.Default = uint8(r.number(1))
	for range r.number(1) {
		o.Label.Pairs = append(o.Label.Pairs, api.Pair{Cat: uint16(r.number(2)), Level: uint8(r.number(1))})
	}
	if r.short || !mayLevels(o.Label) {
		return api.Object{}, what(r.short)
	}
	met = r.own(&o)
	if r.short || !met || !mayBe(o) || len(r.b) > 0 {
		return api.Object{}, what(r.short)
	}
	return o, api.OK
}

// what answers which error it is.
func what(short bool) api.Errno {
	if short {
		return api.ErrShort
	}
	return api.ErrForm
}

// holdTake asks that Take of b tells what P17.2 says, and that Put of it is b.
func holdTake(t *testing.T, b []byte) (good bool) {
	t.Helper()
	o, e := read(b)
	if e != api.OK {
		isNo(t, b, e)
		return false
	}
	isTaken(t, b, o)
	isPut(t, o, b)
	return true
}

func TestTakeOfWhateverBytes(t *testing.T) {
	c := chance(1)
	for size := range 400 {
		b := c.bytes(size)
		holdTake(t, b)
		for first := range min(size, 1) * 256 {
			b[0] = byte(first)
			holdTake(t, b)
		}
		for second := range min(size/2, 1) * 256 {
			b[0], b[1] = 1, byte(second)
			holdTake(t, b)
		}
	}
}

// Small values of bytes behind a good head, so that many texts are objects, or miss being one by little.
func TestTakeOfEveryShortTextOfFewValues(t *testing.T) {
	for _, kind := range kinds() {
		for size := range 9 {
			many := 1
			for range size {
				many *= 4
			}
			for n := range many {
				b := []byte{1, byte(kind), 0, 0, 0, 0, 0, 0, 0, 65}
				for range size {
					b = append(b, byte(n%4))
					n /= 4
				}
				holdTake(t, b)
			}
		}
	}
}

func TestTakeOfTextsWithOneByteChanged(t *testing.T) {
	for _, o := range some() {
		for _, l := range []api.Label{plain(), levels(api.L1, 3, api.L3, 5, api.L0), levels(api.L2, 255, api.L1, 256, api.L1)} {
			b := said(with(o, 4290, l))
			for at := range b {
				was := b[at]
				for v := range 256 {
					b[at] = byte(v)
					holdTake(t, b)
				}
				b[at] = was
			}
		}
	}
}

func TestTakeOfTextsWithBytesTakenOutAndPutIn(t *testing.T) {
	for _, o := range some() {
		for _, l := range []api.Label{plain(), levels(api.L1, 3, api.L3, 5, api.L0), levels(api.L2, 255, api.L1, 256, api.L1)} {
			b := said(with(o, 4290, l))
			for at := range b {
				for n := 1; n <= 4 && at+n <= len(b); n++ {
					holdTake(t, slices.Delete(bytes.Clone(b), at, at+n))
				}
				for _, v := range []byte{0, 1, 2, 3, 4, 16, 17, 64, 65, 255} {
					holdTake(t, slices.Insert(bytes.Clone(b), at, v))
					holdTake(t, slices.Insert(bytes.Clone(b), at, v, v))
				}
			}
		}
	}
}

func TestObjectsDrawn(t *testing.T) {
	c := chance(3)
	good := 0
	for range 60000 {
		o := c.object()
		if !mayBe(o) {
			isArg(t, o)
			if 1 <= o.Kind && o.Kind <= 4 && o.Used >= 0 && o.Next >= 0 {
				holdTake(t, said(o))
			}
			continue
		}
		good++
		isPut(t, o, said(o))
		isTaken(t, said(o), owns(o))
		b := said(o)
		isNo(t, b[:c.below(len(b))], api.ErrShort)
		b[c.below(len(b))] = byte(c.mostly(6, 256))
		holdTake(t, b)
		holdTake(t, b[:c.below(len(b))])
	}
	if good < 10000 || good > 50000 {
		t.Errorf("%d of 60000 were good", good)
	}
}

func TestToldTheSameEachTime(t *testing.T) {
	for _, o := range some() {
		for _, x := range append(litter(o), o, with(o, 2, o.Label), with(o, 67, api.Label{})) {
			first, e := obj1.Put(x)
			again, no := obj1.Put(x)
			if !bytes.Equal(first, again) || e != no {
				t.Errorf("Put of %s: told two things", brief(x))
			}
		}
		b := said(o)
		for cut := range len(b) + 1 {
			first, e := obj1.Take(b[:cut])
			again, no := obj1.Take(b[:cut])
			if !same(first, again) || e != no {
				t.Errorf("Take of %v: told two things", b[:cut])
			}
		}
	}
}

// R3

// roomy answers list with spare room behind it, all of it filled, so that a write into it shows.
func roomy[T any](list []T, spare int, fill T) []T {
	all := append(slices.Clone(list), slices.Repeat([]T{fill}, spare)...)
	return all[:len(list):len(all)]
}

// roomyObject answers o with spare room behind each of its lists.
func roomyObject(o api.Object, spare int) api.Object {
	o.Label.Pairs = roomy(o.Label.Pairs, spare, api.Pair{Cat: 0xa5a5, Level: 0xa5})
	o.Sets = api.Sets{S: roomy(o.Sets.S, spare, 0xa5a5), I: roomy(o.Sets.I, spare, 0xa5a5), O: roomy(o.Sets.O, spare, 0xa5a5)}
	o.Data, o.Cats = roomy(o.Data, spare, 0xa5), roomy(o.Cats, spare, 0xa5a5)
	list := roomy(o.Ring, spare, []byte("spare"))
	for i := range list {
		list[i] = roomy(list[i], spare, 0xa5)
	}
	o.Ring = list
	return o
}

// lists calls with each list that o has, and each of its letters, spare room and all.
func lists(o api.Object, pairs func(l []api.Pair), small func(l []byte), great func(l []uint16)) {
	pairs(o.Label.Pairs[:cap(o.Label.Pairs)])
	small(o.Data[:cap(o.Data)])
	for _, l := range [][]uint16{o.Sets.S, o.Sets.I, o.Sets.O, o.Cats} {
		great(l[:cap(l)])
	}
	for _, letter := range o.Ring[:cap(o.Ring)] {
		small(letter[:cap(letter)])
	}
}

// whole answers all that o has, spare room and all, as a text.
func whole(o api.Object) string {
	out := fmt.Sprint(o.ID, o.Kind, o.Label.Default, o.Quota, o.Used, o.Next, len(o.Ring))
	lists(o, func(l []api.Pair) { out += fmt.Sprint(l) }, func(l []byte) { out += fmt.Sprintf(" %x", l) }, func(l []uint16) { out += fmt.Sprint(l) })
	return out
}

// spoil overwrites all lists of o, and their spare room.
func spoil(o api.Object) {
	lists(o, func(l []api.Pair) {
		for i := range l {
			l[i] = api.Pair{Cat: ^l[i].Cat, Level: ^l[i].Level}
		}
	}, scribble[byte], scribble[uint16])
	list := o.Ring[:cap(o.Ring)]
	for i := range list {
		list[i] = []byte("spoilt")
	}
}

// scribble overwrites list and its spare room.
func scribble[T byte | uint16](list []T) {
	list = list[:cap(list)]
	for i := range list {
		list[i] = ^list[i]
	}
}

// memoryObjects answers objects for which it is looked at what memory is theirs: such as may be, and others.
func memoryObjects() []api.Object {
	var out []api.Object
	for _, o := range some() {
		l := with(o, 4290, levels(api.L1, 3, api.L3, 5, api.L0))
		all := owned(api.Object{ID: l.ID, Kind: l.Kind, Label: l.Label, Sets: api.Sets{S: []uint16{5, 3}, O: []uint16{7}}, Quota: 5, Used: 4, Next: 3, Data: []byte("data"), Cats: []uint16{1, 2}, Ring: letters(1, 2)}, l)
		out = append(out, o, l, all, with(all, 2, all.Label), with(all, 67, levels(api.L1, 3, api.Star)), with(all, 67, levels(api.L1, 5, api.L3, 3, api.L3)))
	}
	return append(out, seg(filled(0, 65)), gate([]uint16{3, 3}), port(letters(17)), port(letters(1, 2, 3, 4, 5)))
}

func TestPutNeitherChangesNorKeeps(t *testing.T) {
	for _, o := range memoryObjects() {
		for _, spare := range []int{0, 1, 5, 90} {
			in := roomyObject(o, spare)
			was := whole(in)
			got, _ := obj1.Put(in)
			told := bytes.Clone(got)
			if whole(in) != was {
				t.Fatalf("%s, spare %d: changed", brief(o), spare)
			}
			scribble(got)
			if whole(in) != was {
				t.Fatalf("%s, spare %d: what is told shares memory", brief(o), spare)
			}
			scribble(got)
			spoil(in)
			if !bytes.Equal(got, told) {
				t.Fatalf("%s, spare %d: what is told hangs on what was handed in", brief(o), spare)
			}
		}
	}
}

func TestTakeNeitherChangesNorKeeps(t *testing.T) {
	for _, o := range memoryObjects() {
		for _, more := range [][]byte{nil, {7}} {
			for _, spare := range []int{0, 1, 5, 90} {
				b := roomy(append(said(o), more...), spare, 0xa5)
				was := bytes.Clone(b[:cap(b)])
				got, _ := obj1.Take(b)
				told := whole(got)
				if !bytes.Equal(b[:cap(b)], was) {
					t.Fatalf("%s, spare %d: changed", brief(o), spare)
				}
				scribble(b)
				if whole(got) != told {
					t.Fatalf("%s, spare %d: what is told hangs on what was handed in", brief(o), spare)
				}
				scribble(b)
				spoil(got)
				if !bytes.Equal(b[:cap(b)], was) {
					t.Fatalf("%s, spare %d: what is told shares memory", brief(o), spare)
				}
			}
		}
	}
}

func TestTellsNewMemoryEachTime(t *testing.T) {
	for _, o := range some() {
		o := with(o, 4290, levels(api.L1, 3, api.L3, 5, api.L0))
		b := said(o)
		first, _ := obj1.Take(b)
		second, _ := obj1.Take(b)
		spoil(first)
		third, _ := obj1.Take(b)
		if !same(second, o) || !same(third, o) {
			t.Errorf("Take of %s: an answer is another one", brief(o))
		}
		put, _ := obj1.Put(o)
		again, _ := obj1.Put(o)
		scribble(put)
		if more, _ := obj1.Put(o); !bytes.Equal(again, b) || !bytes.Equal(more, b) {
			t.Errorf("Put of %s: an answer is another one", brief(o))
		}
	}
}

// No two lists of one answer share memory, their spare room neither.
func TestTakeTellsListsOfTheirOwn(t *testing.T) {
	for _, sizes := range [][]int{{0, 0}, {1, 2}, {0, 3}, {16, 16, 16, 16}, {5, 0, 5}} {
		want := with(port(letters(sizes...)), 67, levels(api.L1, 3, api.L3, 5, api.L0))
		for at := range sizes {
			got, _ := obj1.Take(said(want))
			scribble(got.Ring[at])
			for other := range sizes {
				if other != at && !bytes.Equal(got.Ring[other], want.Ring[other]) {
					t.Errorf("lengths %v: letters %d and %d share memory", sizes, at, other)
				}
			}
		}
	}
	for _, o := range some() {
		o := with(o, 67, levels(api.L1, 3, api.L3, 5, api.L0))
		got, _ := obj1.Take(said(o))
		scribble(got.Data)
		scribble(got.Cats)
		for _, letter := range got.Ring {
			scribble(letter)
		}
		if !slices.Equal(got.Label.Pairs, o.Label.Pairs) {
			t.Errorf("%s: its label shares memory", brief(o))
		}
	}
}

// What is handed in may share memory: it is read alone.
func TestPutOfListsThatShareMemory(t *testing.T) {
	b := filled(3, 16)
	isPut(t, port([][]byte{b, b, b[:7], b[7:]}), said(port([][]byte{bytes.Clone(b), bytes.Clone(b), bytes.Clone(b[:7]), bytes.Clone(b[7:])})))
	o := seg(b)
	o.Ring = [][]byte{b, b}
	isPut(t, o, said(seg(bytes.Clone(b))))
}

func TestNilAndEmptyAreOne(t *testing.T) {
	for _, o := range some() {
		want, _ := obj1.Put(o)
		x := o
		x.Label.Pairs = append([]api.Pair{}, x.Label.Pairs...)
		x.Data, x.Cats, x.Ring = append([]byte{}, x.Data...), append([]uint16{}, x.Cats...), append([][]byte{}, x.Ring...)
		for i := range x.Ring {
			x.Ring[i] = append([]byte{}, x.Ring[i]...)
		}
		isPut(t, x, want)
	}
	isPut(t, port([][]byte{nil, {}}), said(port([][]byte{{}, nil})))
}

func TestWhatWasToldStaysAsItWasTold(t *testing.T) {
	o := with(port(letters(1, 0, 16)), 4290, levels(api.L1, 3, api.L3))
	put, _ := obj1.Put(o)
	taken, _ := obj1.Take(put)
	for _, other := range memoryObjects() {
		b, _ := obj1.Put(other)
		obj1.Take(b)
	}
	if !bytes.Equal(put, said(o)) || !same(taken, o) {
		t.Errorf("an earlier answer was changed: %v, %s", put, brief(taken))
	}
}

// The names the tests lean on are what P14.1 says they are.
func TestNamesOfTheTests(t *testing.T) {
	for _, id := range names() {
		if !mayName(id) || !name.May(id) {
			t.Errorf("%d is no name", id)
		}
	}
	for _, id := range noNames() {
		if mayName(id) || name.May(id) {
			t.Errorf("%d is a name", id)
		}
	}
}
