package obj2_test

import (
	"bytes"
	"fmt"
	"math"
	"math/bits"
	"slices"
	"testing"

	"transom/api"
	"transom/cats"
	"transom/name"
	"transom/num"
	"transom/obj1"
	"transom/obj2"
	"transom/ring"
	"transom/scode"
	"transom/sets"
)

// kinds are all of them.
func kinds() []int { return []int{api.Box, api.Seg, api.Gate, api.Port} }

// l answers the list of these.
func l(c ...uint16) []uint16 { return c }

// of answers the label of these lists, as they are.
func of(s, i, o []uint16) api.Sets { return api.Sets{S: s, I: i, O: o} }

// plain is a label of nothing.
func plain() api.Sets { return api.Sets{} }

// both is a label that has seen something, and for which something vouches.
func both() api.Sets { return of(l(3, 258), l(5), nil) }

// count answers n categories, each so much above the one ahead of it.
func count(from, step, n int) []uint16 {
	var out []uint16
	for i := range n {
		out = append(out, uint16(from+step*i))
	}
	return out
}

// filled answers so many bytes that differ from their neighbours.
func filled(from, size int) []byte {
	out := make([]byte, size)
	for i := range out {
		out[i] = byte(from + i*7 + i/256)
	}
	return out
}

// letters answers a letter of each length.
func letters(sizes ...int) [][]byte {
	var out [][]byte
	for i, size := range sizes {
		out = append(out, filled(i*61+1, size))
	}
	return out
}

// Objects of each kind, of a short name and a label of nothing.

func box(quota, used, next int) api.Object {
	return api.Object{ID: 67, Kind: api.Box, Quota: quota, Used: used, Next: next}
}

func seg(data []byte) api.Object { return api.Object{ID: 67, Kind: api.Seg, Data: data} }

func gate(l []uint16) api.Object { return api.Object{ID: 67, Kind: api.Gate, Cats: l} }

func port(l [][]byte) api.Object { return api.Object{ID: 67, Kind: api.Port, Ring: l} }

// some answers objects of each kind, with little in them and with as much as may be.
func some() []api.Object {
	return []api.Object{
		box(0, 0, 1), box(300, 2, 64), box(400, 400, 64), box(257, 256, 9), seg(nil), seg([]byte("hi")), seg(filled(3, 64)),
		gate(nil), gate([]uint16{9}), gate(count(0, 4369, 16)), port(nil), port(letters(1, 0)), port(letters(0)), port(letters(16, 16, 16, 16)),
	}
}

// with answers o with another name and label.
func with(o api.Object, id uint64, s api.Sets) api.Object {
	o.ID, o.Sets = id, s
	return o
}

// names are such as may be: Root, the first and the last of every depth, and others.
func names() []uint64 {
	out := []uint64{api.Root, 67, 4290, 127<<6 | 1, 65<<12 | 63<<6 | 32}
	low, high := uint64(api.Root), uint64(api.Root)
	for range api.MaxDepth {
		low, high = low<<6|1, high<<6|63
		out = append(out, low, high)
	}
	return out
}

// noNames are such as may not be: 0, those in which a number is 0, those that are too deep, and those that do not begin with Root.
func noNames() []uint64 {
	out := []uint64{0, 2, 3, 63, 64, 128, 1 << 12, 1<<12 | 1, 1<<12 | 1<<6, 1<<36 | 1, 5 << 30, 1 << 42, math.MaxUint64, 1 << 63, 1<<63 | 65, 1<<32 | 65, 1<<40 | 67, 65 << 56}
	deep := uint64(api.Root)
	for range api.MaxDepth {
		deep = deep<<6 | 7
	}
	for range 3 {
		deep = deep<<6 | 7
		out = append(out, deep, deep<<1, deep|1<<63)
	}
	return out
}

// edgeCats answers the categories at either end, and on either side of what one byte says.
func edgeCats() []uint16 {
	return []uint16{0, 1, 255, 256, 257, 32767, 32768, 65279, 65280, 65534, 65535}
}

// fewLabels are such as an object may have: nothing, S alone, I alone, both, and as many as may be.
func fewLabels() []api.Sets {
	return []api.Sets{
		plain(), of(l(3), nil, nil), of(nil, l(3), nil), both(), of(l(65535), l(0), nil), of(edgeCats(), nil, nil), of(nil, edgeCats(), nil),
		of(count(250, 3, 16), nil, nil), of(nil, count(15, 4368, 16), nil), of(count(0, 2, 8), count(1, 2, 8), nil), of(count(1, 1, 1), count(256, 1, 15), nil), of(count(256, 1, 15), count(255, 1, 1), nil),
	}
}

// labels are such as an object may have: those, the edges' categories, and none to MaxPairs, however spread over S and I.
func labels() []api.Sets {
	out := fewLabels()
	for _, c := range edgeCats() {
		out = append(out, of(l(c), nil, nil), of(nil, l(c), nil), of(l(c), l(c+1), nil), of(l(c+1), l(c), nil))
	}
	for s := range api.MaxPairs + 1 {
		for i := range api.MaxPairs + 1 - s {
			out = append(out, of(count(0, 1, s), count(65536-i, 1, i), nil), of(count(65536-s, 1, s), count(250, 1, i), nil), of(count(251, 2, s), count(250, 2, i), nil))
		}
	}
	return out
}

// owning are labels such as a thread may have, and an object may not.
func owning() []api.Sets {
	out := []api.Sets{of(nil, nil, count(250, 3, 16)), of(l(1), nil, count(250, 3, 15)), of(count(0, 1, 7), count(7, 1, 8), l(15)), of(count(0, 3, 5), count(1, 3, 5), count(2, 3, 6))}
	for _, c := range edgeCats() {
		out = append(out, of(nil, nil, l(c)), of(l(7), nil, l(c)), of(nil, l(7), l(c)), of(l(7), l(9), l(c)))
	}
	return append(out, of(nil, nil, edgeCats()), of(l(3), l(5), l(4)), of(l(3), l(5), l(0, 65535)))
}

// ends are numbers around the limits, those that come round to them in two bytes and in four, and the ends of int.
func ends() []int {
	out := []int{math.MinInt, math.MinInt + 1, math.MinInt32, -65536, -65535, -65136, -256, -2, -1}
	for _, base := range []int{0, 1, 63, 64, 65, 255, 256, 399, 400, 401, 1000, 32767, 65535, 65536, 65537, 65600, 65601, 65936, 65937, 1 << 32, 1<<32 + 1, 1<<32 + 300, math.MaxInt32, math.MaxInt - 1, math.MaxInt} {
		out = append(out, base)
	}
	return out
}

// badLists are lists of categories that may not be.
func badLists() [][]uint16 {
	return [][]uint16{{3, 3}, {5, 3}, {0, 0}, {256, 255}, {1, 2, 2}, {1, 3, 2, 4}, {65535, 0}, count(0, 1, 17), count(9, 100, 18), count(0, 1, 255), make([]uint16, 16)}
}

// badLabels are such as P8.1 refuses: one of the three may not be, two have one category, or there are too many in all.
func badLabels() []api.Sets {
	var out []api.Sets
	for _, list := range badLists() {
		out = append(out, of(list, nil, nil), of(nil, list, nil), of(nil, nil, list), of(list, l(60000), nil), of(l(60000), list, nil), of(l(60000), l(60001), list), of(list, nil, l(60000)))
	}
	for _, c := range edgeCats() {
		out = append(out, of(l(c), l(c), nil), of(l(c), nil, l(c)), of(nil, l(c), l(c)), of(l(c), l(c), l(c)))
	}
	for at := range 8 {
		shared := l(uint16(2 * at))
		out = append(out, of(count(0, 2, 8), shared, nil), of(shared, count(0, 2, 8), nil), of(count(0, 2, 8), nil, shared), of(nil, shared, count(0, 2, 8)))
	}
	out = append(out, of(edgeCats(), l(2, 258, 65535), nil), of(count(0, 1, 16), l(16), nil), of(l(16), count(0, 1, 16), nil), of(count(0, 1, 16), nil, l(16)), of(nil, count(0, 1, 16), l(16)))
	return append(out, of(count(0, 1, 9), count(9, 1, 8), nil), of(count(0, 1, 8), count(8, 1, 9), nil), of(count(0, 1, 16), count(16, 1, 16), nil), of(count(0, 1, 6), count(6, 1, 6), count(12, 1, 5)), of(count(0, 1, 16), count(16, 1, 16), count(32, 1, 16)))
}

// badRings are lists of letters that may not be.
func badRings() [][][]byte {
	out := [][][]byte{letters(17), letters(17, 0), letters(0, 17), letters(16, 16, 16, 17), letters(1, 300, 2), letters(4096), letters(0, 0, 0, 0, 0), letters(16, 16, 16, 16, 16), letters(17, 17, 17, 17, 17)}
	return append(out, make([][]byte, 6), make([][]byte, 255))
}

// longData are bytes that are too many for a segment.
func longData() [][]byte {
	var out [][]byte
	for _, size := range []int{65, 66, 127, 128, 255, 256, 257, 300, 320, 1000, 65535} {
		out = append(out, filled(5, size))
	}
	return out
}

// badBoxes are boxes whose numbers may not be, and that two bytes can say.
func badBoxes() []api.Object {
	return []api.Object{box(0, 1, 1), box(300, 301, 1), box(399, 400, 5), box(0, 65535, 1), box(401, 0, 1), box(401, 401, 1), box(65535, 0, 1), box(65535, 65535, 64), box(3, 1, 0), box(3, 1, 65), box(3, 1, 66), box(3, 1, 256), box(3, 1, 257), box(3, 1, 65535)}
}

// maySet says what P4.1 says of a set.
func maySet(l []uint16) bool {
	for i := range l {
		if i > 0 && l[i-1] >= l[i] {
			return false
		}
	}
	return len(l) <= 16
}

// mayLabel says what P8.1 says of a label.
func mayLabel(s api.Sets) bool {
	all := slices.Concat(s.S, s.I, s.O)
	found := map[uint16]int{}
	for _, c := range all {
		found[c]++
	}
	return maySet(s.S) && maySet(s.I) && maySet(s.O) && len(found) == len(all) && len(all) <= 16
}

// mayName says what P14.1 says of a name.
func mayName(id uint64) bool {
	for range 7 {
		if id == 1 {
			return true
		}
		if id%64 == 0 {
			return false
		}
		id /= 64
	}
	return false
}

// mayWait says what P16.1 says of letters.
func mayWait(l [][]byte) bool {
	return len(l) <= 4 && !slices.ContainsFunc(l, func(b []byte) bool { return len(b) > 16 })
}

// mayBe says what P18.1 says of an object.
func mayBe(o api.Object) bool {
	if !mayName(o.ID) || !mayLabel(o.Sets) || len(o.Sets.O) > 0 {
		return false
	}
	switch o.Kind {
	case 1:
		return o.Used >= 0 && o.Used <= o.Quota && o.Quota <= 400 && o.Next >= 1 && o.Next <= 64
	case 2:
		return len(o.Data) <= 64
	case 3:
		return maySet(o.Cats)
	case 4:
		return mayWait(o.Ring)
	}
	return false
}

// two answers a number in two bytes.
func two(v int) []byte { return []byte{byte(v >> 8), byte(v)} }

// saidList answers a list's bytes, also of one that may not be.
func saidList(list []uint16) []byte {
	out := []byte{byte(len(list))}
	for _, c := range list {
		out = append(out, two(int(c))...)
	}
	return out
}

// saidLabel answers a label's bytes, also of one that may not be.
func saidLabel(s api.Sets) []byte {
	return slices.Concat(saidList(s.S), saidList(s.I), saidList(s.O))
}

// saidHead answers what stands ahead of a label.
func saidHead(o api.Object) []byte {
	out := []byte{2, byte(o.Kind)}
	for shift := 56; shift >= 0; shift -= 8 {
		out = append(out, byte(o.ID>>shift))
	}
	return out
}

// saidOwn answers what stands behind a label.
func saidOwn(o api.Object) []byte {
	switch o.Kind {
	case api.Box:
		return slices.Concat(two(o.Quota), two(o.Used), two(o.Next))
	case api.Seg:
		return append(two(len(o.Data)), o.Data...)
	case api.Gate:
		return saidList(o.Cats)
	}
	out := []byte{byte(len(o.Ring))}
	for _, b := range o.Ring {
		out = append(append(out, two(len(b))...), b...)
	}
	return out
}

// said answers the text of an object as P18.1 says it, also of one that may not be.
func said(o api.Object) []byte { return slices.Concat(saidHead(o), saidLabel(o.Sets), saidOwn(o)) }

// same tells whether two objects are the same, in all fields; nil and an empty list are one.
func same(a, b api.Object) bool {
	levels := a.Label.Default == b.Label.Default && slices.Equal(a.Label.Pairs, b.Label.Pairs)
	labels := slices.Equal(a.Sets.S, b.Sets.S) && slices.Equal(a.Sets.I, b.Sets.I) && slices.Equal(a.Sets.O, b.Sets.O)
	numbers := a.ID == b.ID && a.Kind == b.Kind && a.Quota == b.Quota && a.Used == b.Used && a.Next == b.Next
	return levels && labels && numbers && bytes.Equal(a.Data, b.Data) && slices.Equal(a.Cats, b.Cats) && slices.EqualFunc(a.Ring, b.Ring, bytes.Equal)
}

// brief answers an object as a text that is not too long to read.
func brief(o api.Object) string {
	return fmt.Sprintf("kind %d, name %d, sets %.200s, label %.80s, numbers %d %d %d, %d bytes %.40x, cats %.200s, %d letters %.200s",
		o.Kind, o.ID, fmt.Sprint(o.Sets), fmt.Sprint(o.Label), o.Quota, o.Used, o.Next, len(o.Data), o.Data, fmt.Sprint(o.Cats[:min(len(o.Cats), 40)]), len(o.Ring), fmt.Sprintf("%x", o.Ring))
}

// eachRing calls try with every list of none to four letters of these lengths.
func eachRing(sizes []int, try func(l [][]byte)) {
	var from func(l []int)
	from = func(l []int) {
		try(letters(l...))
		if len(l) == api.MaxRing {
			return
		}
		for _, size := range sizes {
			from(append(slices.Clip(l), size))
		}
	}
	from(nil)
}

// eachGood calls try with objects that may be, of each kind, with names, labels, numbers and lists at both ends of what may be and in between.
func eachGood(try func(o api.Object)) {
	for _, o := range some() {
		for _, id := range names() {
			for _, s := range fewLabels() {
				try(with(o, id, s))
			}
		}
		for _, s := range labels() {
			try(with(o, 4290, s))
		}
	}
	for _, quota := range []int{0, 1, 2, 200, 255, 256, 257, 399, 400} {
		for used := 0; used <= quota; used += 1 + quota/16 {
			try(box(quota, used, 1+used%64))
		}
		try(box(quota, quota, 64))
	}
	for next := 1; next <= 64; next++ {
		try(box(258, 1, next))
	}
	for size := range api.MaxData + 1 {
		try(seg(filled(size, size)))
		try(gate(count(size, 1+17*size, min(size, 16))))
	}
	// A gate's categories are no part of its label: they may be the same ones.
	try(with(gate(l(3, 5, 258)), 67, both()))
	eachRing([]int{0, 1, 2, 15, 16}, func(l [][]byte) { try(port(l)) })
}

// eachMet calls try with objects that may not be and that bytes can say, each for one reason that is found where it is met.
func eachMet(try func(o api.Object)) {
	for _, o := range some() {
		for _, s := range badLabels() {
			try(with(o, 67, s))
		}
	}
	for _, s := range []api.Sets{plain(), both()} {
		for _, list := range badLists() {
			try(with(gate(list), 67, s))
		}
		for _, list := range badRings() {
			try(with(port(list), 67, s))
		}
	}
}

// eachLate calls try with objects that may not be and that bytes can say, each for one reason that is found when all is read.
func eachLate(try func(o api.Object)) {
	for _, o := range some() {
		for _, id := range noNames() {
			try(with(o, id, o.Sets))
			try(with(o, id, both()))
		}
		for _, s := range owning() {
			try(with(o, 67, s))
		}
	}
	for _, s := range []api.Sets{plain(), both()} {
		for _, data := range longData() {
			try(with(seg(data), 67, s))
		}
		for _, o := range badBoxes() {
			try(with(o, 67, s))
		}
	}
}

// P18.1 Put

// isPut asks that Put tells the bytes.
func isPut(t *testing.T, o api.Object, want []byte) {
	t.Helper()
	if got, e := obj2.Put(o); !bytes.Equal(got, want) || e != api.OK {
		t.Fatalf("Put of %s: %v, %d, want %v", brief(o), got, e, want)
	}
}

// isArg asks that Put tells ErrArg, and nothing beside it.
func isArg(t *testing.T, o api.Object) {
	t.Helper()
	if got, e := obj2.Put(o); len(got) != 0 || e != api.ErrArg {
		t.Fatalf("Put of %s: %d bytes, %d, want ErrArg", brief(o), len(got), e)
	}
}

func TestPutOfAPort(t *testing.T) {
	isPut(t, port(nil), []byte{2, 4, 0, 0, 0, 0, 0, 0, 0, 67, 0, 0, 0, 0})
}

// record is an object, and its text.
type record struct {
	o    api.Object
	text []byte
}

// written answers objects of each kind, with their texts written out.
func written() []record {
	s := of(l(3), nil, nil)
	return []record{
		{with(box(300, 2, 64), 67, s), []byte{2, 1, 0, 0, 0, 0, 0, 0, 0, 67, 1, 0, 3, 0, 0, 1, 44, 0, 2, 0, 64}},
		{with(box(0, 0, 1), 1, plain()), []byte{2, 1, 0, 0, 0, 0, 0, 0, 0, 1, 0, 0, 0, 0, 0, 0, 0, 0, 1}},
		{with(box(400, 256, 10), 65, of(nil, l(3), nil)), []byte{2, 1, 0, 0, 0, 0, 0, 0, 0, 65, 0, 1, 0, 3, 0, 1, 144, 1, 0, 0, 10}},
		{with(seg([]byte("hi")), 67, s), []byte{2, 2, 0, 0, 0, 0, 0, 0, 0, 67, 1, 0, 3, 0, 0, 0, 2, 'h', 'i'}},
		{with(seg(nil), 4290, both()), []byte{2, 2, 0, 0, 0, 0, 0, 0, 16, 194, 2, 0, 3, 1, 2, 1, 0, 5, 0, 0, 0}},
		{with(gate(l(9)), 67, s), []byte{2, 3, 0, 0, 0, 0, 0, 0, 0, 67, 1, 0, 3, 0, 0, 1, 0, 9}},
		{with(gate(l(0, 258, 65535)), 127, of(nil, l(0, 65535), nil)), []byte{2, 3, 0, 0, 0, 0, 0, 0, 0, 127, 0, 2, 0, 0, 255, 255, 0, 3, 0, 0, 1, 2, 255, 255}},
		{with(gate(nil), 67, of(l(258), l(3), nil)), []byte{2, 3, 0, 0, 0, 0, 0, 0, 0, 67, 1, 1, 2, 1, 0, 3, 0, 0}},
		{with(port([][]byte{[]byte("x"), nil}), 67, s), []byte{2, 4, 0, 0, 0, 0, 0, 0, 0, 67, 1, 0, 3, 0, 0, 2, 0, 1, 'x', 0, 0}},
		{with(port(nil), 0x1041041041, plain()), []byte{2, 4, 0, 0, 0, 16, 65, 4, 16, 65, 0, 0, 0, 0}},
		{with(port(nil), 0x1fffffffff, of(l(1, 2), l(0, 256), nil)), []byte{2, 4, 0, 0, 0, 31, 255, 255, 255, 255, 2, 0, 1, 0, 2, 2, 0, 0, 1, 0, 0, 0}},
	}
}

func TestPutsWrittenOut(t *testing.T) {
	for _, r := range written() {
		isPut(t, r.o, r.text)
	}
}

func TestPutOfEveryGoodObject(t *testing.T) {
	n := 0
	eachGood(func(o api.Object) {
		n++
		isPut(t, o, said(o))
	})
	if n < 9000 {
		t.Errorf("only %d objects", n)
	}
}

func TestPutOfEveryName(t *testing.T) {
	for _, o := range some() {
		for n := range uint64(1 << 13) {
			x := with(o, n, o.Sets)
			if mayName(n) {
				isPut(t, x, said(x))
			} else {
				isArg(t, x)
			}
		}
	}
}

func TestPutOfEveryBoxAroundTheEnds(t *testing.T) {
	good := 0
	for _, quota := range ends() {
		for _, used := range ends() {
			for _, next := range ends() {
				o := box(quota, used, next)
				if mayBe(o) {
					good++
					isPut(t, o, said(o))
				} else {
					isArg(t, o)
				}
			}
		}
	}
	if good == 0 {
		t.Error("no good box")
	}
}

// eachSpread calls try with labels of so many categories in S, I and O, from none to more than may be, no two the same.
func eachSpread(try func(s api.Sets)) {
	for s := range 19 {
		for i := range 19 {
			for _, o := range []int{0, 1, 2, 15, 16, 17} {
				try(of(count(0, 3, s), count(1, 3, i), count(2, 3, o)))
			}
		}
	}
}

func TestPutOfSoManyCategoriesInEach(t *testing.T) {
	good := 0
	eachSpread(func(s api.Sets) {
		for _, o := range some() {
			x := with(o, 67, s)
			if !mayBe(x) {
				isArg(t, x)
				continue
			}
			good++
			isPut(t, x, said(x))
		}
	})
	if want := 17 * 18 / 2 * len(some()); good != want {
		t.Errorf("%d were good, want %d", good, want)
	}
}

func TestPutLaysPartsAsTheirLayersDo(t *testing.T) {
	eachGood(func(o api.Object) {
		want := scode.Put(num.Put(num.Put(num.Put(nil, 2, 1), uint64(o.Kind), 1), o.ID, 8), o.Sets)
		switch o.Kind {
		case api.Box:
			want = num.Put(num.Put(num.Put(want, uint64(o.Quota), 2), uint64(o.Used), 2), uint64(o.Next), 2)
		case api.Seg:
			want = num.PutBytes(want, o.Data)
		case api.Gate:
			want = cats.Put(want, o.Cats)
		case api.Port:
			want = ring.Put(want, o.Ring)
		}
		isPut(t, o, want)
	})
}

// levels are labels of the old kernel: such as may be, such as have a star, and such as may not be.
func levels() []api.Label {
	return []api.Label{{Default: api.L1}, {Default: api.L1, Pairs: []api.Pair{{Cat: 3, Level: api.L3}}}, {Default: api.L3, Pairs: []api.Pair{{Cat: 3, Level: api.Star}}}, {Default: 255, Pairs: []api.Pair{{Cat: 5, Level: 9}, {Cat: 5, Level: 9}}}, {Default: api.L1, Pairs: make([]api.Pair, 300)}}
}

// litter answers o with something in every field of other kinds, and in Label: such as may be, and such as may not.
func litter(o api.Object) []api.Object {
	var out []api.Object
	for _, level := range levels() {
		for _, v := range ends() {
			for i := range 4 {
				x := api.Object{ID: o.ID, Kind: o.Kind, Label: level, Sets: o.Sets, Quota: v, Used: -v, Next: 1 - v, Data: filled(2, 60*i), Cats: slices.Repeat([]uint16{9}, i*i), Ring: letters(16, 30)}
				x.Ring = slices.Repeat(x.Ring, i)
				out = append(out, owned(x, o))
			}
		}
	}
	return out
}

// owned answers x with what only objects of o's kind have as o has it.
func owned(x, o api.Object) api.Object {
	switch o.Kind {
	case api.Box:
		x.Quota, x.Used, x.Next = o.Quota, o.Used, o.Next
	case api.Seg:
		x.Data = o.Data
	case api.Gate:
		x.Cats = o.Cats
	case api.Port:
		x.Ring = o.Ring
	}
	return x
}

func TestPutDoesNotAskForFieldsOfOtherKinds(t *testing.T) {
	for _, o := range some() {
		for _, s := range fewLabels() {
			for _, x := range litter(with(o, 67, s)) {
				isPut(t, x, said(with(o, 67, s)))
			}
		}
	}
}

func TestPutOfOneFieldOfAnotherKind(t *testing.T) {
	for _, o := range some() {
		for _, change := range []func(x *api.Object){
			func(x *api.Object) { x.Quota = -1 }, func(x *api.Object) { x.Used = 9 }, func(x *api.Object) { x.Next = 99 },
			func(x *api.Object) { x.Data = filled(0, 99) }, func(x *api.Object) { x.Cats = []uint16{3, 3} }, func(x *api.Object) { x.Ring = letters(17) },
			func(x *api.Object) { x.Label.Default = api.L1 }, func(x *api.Object) { x.Label.Default = 99 }, func(x *api.Object) { x.Label.Pairs = []api.Pair{{Cat: 3}} },
		} {
			x := o
			change(&x)
			isPut(t, owned(x, o), said(o))
		}
	}
}

func TestPutOfNothingIsErrArg(t *testing.T) { isArg(t, api.Object{}) }

func TestPutOfWhatMayNotBeIsErrArg(t *testing.T) {
	n := 0
	for _, each := range []func(func(api.Object)){eachMet, eachLate} {
		each(func(o api.Object) {
			n++
			if mayBe(o) {
				t.Fatalf("%s may be", brief(o))
			}
			isArg(t, o)
		})
	}
	if n < 2000 {
		t.Errorf("only %d objects", n)
	}
}

func TestPutOfAKindThatIsNoneOfTheFourIsErrArg(t *testing.T) {
	every := append(ends(), 2+256, 3+65536, 4+1<<32, 1-256, 5, 6, 7, 8, -3, -4)
	for _, o := range some() {
		for _, kind := range every {
			if kind < 1 || kind > 4 {
				o.Kind = kind
				isArg(t, o)
			}
		}
	}
	all := api.Object{ID: 67, Sets: both(), Quota: 3, Used: 1, Next: 2, Data: []byte("ab"), Cats: []uint16{4}, Ring: letters(2)}
	for _, kind := range every {
		all.Kind = kind
		if kind < 1 || kind > 4 {
			isArg(t, all)
		}
	}
	for _, kind := range kinds() {
		all.Kind = kind
		isPut(t, all, said(all))
	}
}

func TestPutOfAnotherKindsFieldsAlone(t *testing.T) {
	for _, o := range some() {
		for _, kind := range kinds() {
			x := o
			x.Kind = kind
			if mayBe(x) {
				isPut(t, x, said(x))
			} else {
				isArg(t, x)
			}
		}
	}
}

func TestPutOfWhatIsOwnedIsErrArg(t *testing.T) {
	for _, s := range owning() {
		if !sets.May(s) {
			t.Fatalf("%v may not be: another reason", s)
		}
		for _, o := range some() {
			isArg(t, with(o, 67, s))
			rest := with(o, 67, of(s.S, s.I, nil))
			isPut(t, rest, said(rest))
		}
	}
}

func TestPutOfGreatListsIsErrArg(t *testing.T) {
	for _, size := range []int{65536, 65537, 65538, 65600, 1 << 17} {
		isArg(t, seg(make([]byte, size)))
		isArg(t, port([][]byte{make([]byte, size)}))
		isArg(t, port(make([][]byte, size)))
		isArg(t, gate(make([]uint16, size)))
		for _, s := range []api.Sets{of(make([]uint16, size), nil, nil), of(nil, make([]uint16, size), nil), of(nil, nil, make([]uint16, size))} {
			isArg(t, with(seg(nil), 67, s))
		}
	}
	for _, n := range []int{256, 257, 260, 272, 512, 65536} {
		list := count(0, 1, n)
		isArg(t, gate(list))
		for _, s := range []api.Sets{of(list, nil, nil), of(nil, list, nil), of(nil, nil, list), of(list, list, nil), of(list, list, list)} {
			isArg(t, with(seg(nil), 67, s))
		}
	}
	isArg(t, port(make([][]byte, 256)))
	isArg(t, port(make([][]byte, 260)))
}

// Each of two wrongs beside each other one, in objects of each kind.
func TestPutOfTwoThingsThatMayNotBe(t *testing.T) {
	wrongs := []func(o *api.Object){
		func(o *api.Object) { o.ID = 2 }, func(o *api.Object) { o.ID = 0 }, func(o *api.Object) { o.Kind = 0 }, func(o *api.Object) { o.Kind = 5 },
		func(o *api.Object) { o.Sets.S = l(3, 3) }, func(o *api.Object) { o.Sets.I = count(0, 1, 17) }, func(o *api.Object) { o.Sets.O = l(5, 3) },
		func(o *api.Object) { o.Sets.O = l(7) }, func(o *api.Object) { o.Sets.S, o.Sets.I = l(9), l(9) }, func(o *api.Object) { o.Sets.S, o.Sets.O = l(9), l(9) }, func(o *api.Object) { o.Sets.S, o.Sets.I = count(20, 1, 9), count(40, 1, 8) },
		func(o *api.Object) { o.Used = -1 }, func(o *api.Object) { o.Quota = 401 }, func(o *api.Object) { o.Next = 0 }, func(o *api.Object) { o.Next = 65 },
		func(o *api.Object) { o.Quota, o.Used = 2, 3 }, func(o *api.Object) { o.Data = filled(0, 65) }, func(o *api.Object) { o.Cats = []uint16{3, 3} }, func(o *api.Object) { o.Ring = letters(17) },
	}
	for _, o := range some() {
		for _, one := range wrongs {
			for _, other := range wrongs {
				x := o
				one(&x)
				other(&x)
				if mayBe(x) {
					isPut(t, x, said(x))
				} else {
					isArg(t, x)
				}
			}
		}
	}
}

// P18.1 Take

// isTaken asks that Take of b tells the object.
func isTaken(t *testing.T, b []byte, want api.Object) {
	t.Helper()
	if got, e := obj2.Take(b); !same(got, want) || e != api.OK {
		t.Fatalf("Take(%v): %s, %d, want %s", b, brief(got), e, brief(want))
	}
}

// isNo asks that Take of b tells the error, and an object that is its zero value.
func isNo(t *testing.T, b []byte, want api.Errno) {
	t.Helper()
	if got, e := obj2.Take(b); !same(got, api.Object{}) || e != want {
		t.Fatalf("Take of %d bytes that begin %v: %s, %d, want %d", len(b), b[:min(len(b), 80)], brief(got), e, want)
	}
}

func TestTakeOfAPort(t *testing.T) {
	isTaken(t, []byte{2, 4, 0, 0, 0, 0, 0, 0, 0, 67, 0, 0, 0, 0}, port(nil))
}

func TestTakesWrittenOut(t *testing.T) {
	for _, r := range written() {
		isTaken(t, r.text, r.o)
	}
}

func TestTakeOfEveryGoodObject(t *testing.T) {
	eachGood(func(o api.Object) { isTaken(t, said(o), o) })
}

func TestTakeReadsWhatPutWrote(t *testing.T) {
	for _, o := range some() {
		for _, s := range fewLabels() {
			for _, x := range litter(with(o, 67, s)) {
				b, e := obj2.Put(x)
				if e != api.OK {
					t.Fatalf("Put of %s: %d", brief(x), e)
				}
				isTaken(t, b, with(o, 67, s))
			}
		}
	}
}

func TestTakenAndPutAgainIsTheTextThatWasRead(t *testing.T) {
	eachGood(func(o api.Object) {
		b := said(o)
		got, e := obj2.Take(b)
		if again, no := obj2.Put(got); e != api.OK || no != api.OK || !bytes.Equal(again, b) {
			t.Fatalf("Take(%v), error %d, put again: %v, %d", b, e, again, no)
		}
	})
}

func TestEachObjectHasOneText(t *testing.T) {
	texts := map[string]api.Object{}
	eachGood(func(o api.Object) {
		b, _ := obj2.Put(o)
		if other, found := texts[string(b)]; found && !same(o, other) {
			t.Fatalf("%s and %s: one text", brief(o), brief(other))
		}
		texts[string(b)] = o
	})
}

func TestTakeOfSoManyCategoriesInEach(t *testing.T) {
	eachSpread(func(s api.Sets) {
		for _, o := range some() {
			x := with(o, 67, s)
			if mayBe(x) {
				isTaken(t, said(x), x)
			} else {
				isNo(t, said(x), api.ErrForm)
			}
		}
	})
}

func TestTakeOfNoBytesIsErrShort(t *testing.T) {
	isNo(t, nil, api.ErrShort)
	isNo(t, []byte{}, api.ErrShort)
	isNo(t, said(port(nil))[:0], api.ErrShort)
}

func TestTakeOfBytesCutOffIsErrShort(t *testing.T) {
	for _, o := range some() {
		for _, id := range []uint64{1, 0x1fffffffff} {
			for _, s := range fewLabels() {
				// Spare room behind the cut is not the text's.
				b := said(with(o, id, s))
				for cut := range len(b) {
					isNo(t, b[:cut], api.ErrShort)
				}
				isNo(t, slices.Clip(b[:len(b)-1]), api.ErrShort)
			}
		}
	}
	eachGood(func(o api.Object) {
		b := said(o)
		isNo(t, b[:len(b)-1], api.ErrShort)
		isNo(t, b[:len(b)/2], api.ErrShort)
	})
}

func TestTakeOfBytesBehindIsErrForm(t *testing.T) {
	eachGood(func(o api.Object) {
		for _, more := range [][]byte{{0}, {1}, {255, 255}} {
			isNo(t, append(said(o), more...), api.ErrForm)
		}
	})
	for _, o := range some() {
		for _, other := range some() {
			isNo(t, append(said(o), said(other)...), api.ErrForm)
		}
		isNo(t, append(said(o), make([]byte, 70000)...), api.ErrForm)
	}
}

func TestTakeOfAnotherVersionIsErrForm(t *testing.T) {
	for _, o := range some() {
		b := said(with(o, 67, both()))
		for v := range 256 {
			if v == 2 {
				continue
			}
			b[0] = byte(v)
			// It is met at once: what stands behind it, or does not, is not looked at.
			for cut := 1; cut <= len(b); cut++ {
				isNo(t, b[:cut], api.ErrForm)
			}
			isNo(t, append(slices.Clip(b), 0), api.ErrForm)
		}
	}
	isNo(t, []byte{1, 5}, api.ErrForm)
	isNo(t, []byte{0, 0, 0, 0}, api.ErrForm)
}

func TestTakeOfAnotherKindIsErrForm(t *testing.T) {
	for _, o := range some() {
		b := said(with(o, 67, both()))
		for v := range 256 {
			if 1 <= v && v <= 4 {
				continue
			}
			b[1] = byte(v)
			for cut := 2; cut <= len(b); cut++ {
				isNo(t, b[:cut], api.ErrForm)
			}
			isNo(t, b[:1], api.ErrShort)
			isNo(t, append(slices.Clip(b), 0), api.ErrForm)
		}
	}
}

func TestTakeOfWhatMayNotBeIsErrForm(t *testing.T) {
	for _, each := range []func(func(api.Object)){eachMet, eachLate} {
		each(func(o api.Object) {
			isNo(t, said(o), api.ErrForm)
			isNo(t, append(said(o), 0), api.ErrForm)
		})
	}
}

// What may not be is told when all is read: where the text is cut off it is short.
func TestTakeTellsErrShortAheadOfWhatMayNotBe(t *testing.T) {
	eachLate(func(o api.Object) {
		b := said(o)
		for cut := 0; cut < len(b); cut += 1 + len(b)/90 {
			isNo(t, b[:cut], api.ErrShort)
		}
		isNo(t, b[:len(b)-1], api.ErrShort)
	})
}

// foundAt answers how many bytes of said(o) must be there, its first byte another version at times, so that it is found to be none.
func foundAt(version byte, o api.Object) int {
	if version != 2 {
		return 1
	}
	if o.Kind < 1 || o.Kind > 4 {
		return 2
	}
	at := len(saidHead(o))
	for _, list := range [][]uint16{o.Sets.S, o.Sets.I, o.Sets.O} {
		at += len(saidList(list))
		if !maySet(list) {
			return at
		}
	}
	if !mayLabel(o.Sets) {
		return at
	}
	at = len(said(o))
	if mayBe(o) {
		// Nothing but a byte behind makes it none.
		at++
	}
	return at
}

// A part that another layer refuses is told where it is met: what stands behind it, or does not, is not looked at.
func TestTakeTellsErrorsOfPartsWhereTheyAreMet(t *testing.T) {
	eachMet(func(o api.Object) {
		b, at := said(o), foundAt(2, o)
		for cut := 0; cut <= len(b); cut += 1 + len(b)/200 {
			want := api.ErrShort
			if cut >= at {
				want = api.ErrForm
			}
			isNo(t, b[:cut], want)
		}
		isNo(t, b[:at-1], api.ErrShort)
		isNo(t, b[:at], api.ErrForm)
	})
}

// A label of a wrong form stands ahead of parts that are short, whatever they are.
func TestTakeTellsAWrongLabelAheadOfAShortPart(t *testing.T) {
	for _, o := range some() {
		for _, id := range []uint64{67, 0, 2} {
			for _, s := range badLabels() {
				b := append(saidHead(with(o, id, s)), saidLabel(s)...)
				for _, own := range [][]byte{nil, {0}, {255}, {0, 9}, {255, 255, 1}} {
					isNo(t, append(slices.Clip(b), own...), api.ErrForm)
				}
			}
		}
	}
}

// What is owned and a name that may not be stand ahead of parts that are of a wrong form, and of such as are short.
func TestTakeTellsWhatIsMetAheadOfWhatMayNotBe(t *testing.T) {
	var all []api.Object
	for _, list := range badLists() {
		all = append(all, gate(list))
	}
	for _, list := range badRings() {
		all = append(all, port(list))
	}
	for _, data := range longData() {
		all = append(all, seg(data))
	}
	for _, id := range []uint64{67, 2} {
		for _, s := range append(owning(), plain(), both()) {
			for _, o := range append(all, badBoxes()...) {
				b := said(with(o, id, s))
				isNo(t, b, api.ErrForm)
				isNo(t, b[:len(b)-1], api.ErrShort)
			}
		}
	}
}

// flaws turn an object into one that may not be (if it is of the kind), and that bytes can say.
func flaws() []func(o *api.Object) {
	return []func(o *api.Object){
		func(o *api.Object) {}, func(o *api.Object) { o.Kind = 0 }, func(o *api.Object) { o.Kind = 5 }, func(o *api.Object) { o.ID = 2 },
		func(o *api.Object) { o.Sets.S = l(3, 3) }, func(o *api.Object) { o.Sets.S = count(0, 1, 17) }, func(o *api.Object) { o.Sets.I = l(5, 4) }, func(o *api.Object) { o.Sets.I = count(40, 1, 17) },
		func(o *api.Object) { o.Sets.O = l(7, 6) }, func(o *api.Object) { o.Sets.O = count(80, 1, 17) }, func(o *api.Object) { o.Sets.O = l(8) }, func(o *api.Object) { o.Sets.S, o.Sets.I = l(9), l(9) },
		func(o *api.Object) { o.Sets.S, o.Sets.O = l(10), l(10) }, func(o *api.Object) { o.Sets.I, o.Sets.O = l(11), l(11) }, func(o *api.Object) { o.Sets.S, o.Sets.I = count(20, 1, 9), count(40, 1, 8) },
		func(o *api.Object) { o.Quota, o.Used = 2, 3 }, func(o *api.Object) { o.Quota = 401 }, func(o *api.Object) { o.Next = 65 }, func(o *api.Object) { o.Data = filled(0, 65) },
		func(o *api.Object) { o.Cats = l(3, 3) }, func(o *api.Object) { o.Ring = letters(17) }, func(o *api.Object) { o.Ring = letters(0, 0, 0, 0, 0) },
	}
}

// Each of two things that may not be beside each other one, in each version, cut off at each place and with bytes behind.
func TestTakeTellsTheFirstThatIsMet(t *testing.T) {
	for _, o := range []api.Object{box(300, 2, 64), seg([]byte("hi")), gate(l(9)), port(letters(1, 0))} {
		for _, one := range flaws() {
			for _, other := range flaws() {
				x := with(o, 67, both())
				one(&x)
				other(&x)
				for version := range byte(4) {
					isFound(t, version, x)
				}
			}
		}
	}
}

// isFound asks that the text of o, in that version, is told short as long as nothing is found, and then told no text.
func isFound(t *testing.T, version byte, o api.Object) {
	t.Helper()
	b, at := append(said(o), 7), foundAt(version, o)
	b[0] = version
	for cut := range len(b) + 1 {
		if cut >= at {
			isNo(t, b[:cut], api.ErrForm)
		} else if cut < len(b)-1 {
			isNo(t, b[:cut], api.ErrShort)
		} else {
			isTaken(t, b[:cut], owns(o))
		}
	}
}

func TestTakeOfALengthThatIsMoreThanThereIsIsErrShort(t *testing.T) {
	for _, size := range []int{1, 2, 64, 65, 255, 256, 65535} {
		b := said(seg(make([]byte, size)))
		for _, have := range []int{0, size / 2, size - 1} {
			isNo(t, b[:len(b)-size+have], api.ErrShort)
		}
	}
	for n := 1; n <= 255; n++ {
		for _, o := range []api.Object{gate(nil), port(nil)} {
			head := saidHead(o)
			for noughts := range 4 {
				b := append(append(slices.Clip(head), make([]byte, noughts)...), byte(n))
				isNo(t, b, api.ErrShort)
				isNo(t, append(b, 0), api.ErrShort)
			}
		}
	}
}

func TestTakeOfEveryNumberOfABox(t *testing.T) {
	for v := range 1 << 16 {
		for _, o := range []api.Object{box(v, min(v, 7), 3), box(400, v, 3), box(400, 9, v)} {
			if mayBe(o) {
				isTaken(t, said(o), o)
			} else {
				isNo(t, said(o), api.ErrForm)
			}
		}
	}
}

func TestTakeOfEveryName(t *testing.T) {
	for _, o := range some() {
		for n := range uint64(1 << 13) {
			x := with(o, n, o.Sets)
			if mayName(n) {
				isTaken(t, said(x), x)
			} else {
				isNo(t, said(x), api.ErrForm)
			}
		}
	}
}

// What follows: no record is one of both versions.

// old answers o, also with a label of the old kernel: such as may be there.
func old(o api.Object) []api.Object {
	var out []api.Object
	for _, level := range append(levels()[:2], api.Label{Default: api.L3, Pairs: []api.Pair{{Cat: 258, Level: api.L0}, {Cat: 513, Level: api.L1}}}) {
		o.Label = level
		out = append(out, o)
	}
	return out
}

// isOfOne asks that a text that one version's Take takes is refused by the other's.
func isOfOne(t *testing.T, b []byte) (taken bool) {
	t.Helper()
	first, e := obj1.Take(b)
	second, no := obj2.Take(b)
	if e == api.OK && no == api.OK {
		t.Fatalf("%v is of both versions: %s, %s", b, brief(first), brief(second))
	}
	return e == api.OK || no == api.OK
}

func TestWhatOnePutsTheOtherDoesNotTake(t *testing.T) {
	n := 0
	eachGood(func(o api.Object) {
		for _, x := range old(o) {
			first, e := obj1.Put(x)
			second, no := obj2.Put(x)
			if e != api.OK || no != api.OK {
				t.Fatalf("Put of %s: %d, %d", brief(x), e, no)
			}
			isNo(t, first, api.ErrForm)
			if got, e := obj1.Take(second); !same(got, api.Object{}) || e != api.ErrForm {
				t.Fatalf("obj1.Take(%v): %s, %d", second, brief(got), e)
			}
			if isOfOne(t, first) && isOfOne(t, second) {
				n++
			}
		}
	})
	if n < 9000 {
		t.Errorf("only %d objects", n)
	}
}

// The first byte alone tells whose text it is: with the other one, what stands behind it may still be one.
func TestNoTextIsOfBothVersions(t *testing.T) {
	taken := 0
	for _, o := range some() {
		for _, x := range old(with(o, 67, both())) {
			first, _ := obj1.Put(x)
			second, _ := obj2.Put(x)
			for _, b := range [][]byte{first, second} {
				for at := range b {
					was := b[at]
					for v := range 256 {
						b[at] = byte(v)
						for version := range byte(4) {
							changed := bytes.Clone(b)
							changed[0] = version
							if isOfOne(t, changed) {
								taken++
							}
						}
					}
					b[at] = was
				}
			}
		}
	}
	if taken < 10000 {
		t.Errorf("only %d texts were taken", taken)
	}
}

// R1, R4

// chance answers numbers that look like chance, and are the same each time.
type chance uint64

func (c *chance) next() uint64 {
	*c = *c*6364136223846793005 + 1442695040888963407
	return uint64(*c)
}

func (c *chance) below(n int) int {
	high, _ := bits.Mul64(c.next(), uint64(n))
	return int(high)
}

// mostly answers a number below n, at times one below far.
func (c *chance) mostly(n, far int) int {
	if c.below(12) == 0 {
		return c.below(far)
	}
	return c.below(n)
}

// bytes answers so many bytes of whatever kind.
func (c *chance) bytes(size int) []byte {
	out := make([]byte, size)
	for i := range out {
		out[i] = byte(c.next() >> 40)
	}
	return out
}

// id answers a name, or what is nearly one.
func (c *chance) id() uint64 {
	id := uint64(api.Root)
	for range c.mostly(7, 9) {
		id = id<<6 | uint64(1+c.mostly(63, 70))
	}
	if c.below(20) == 0 {
		id ^= 1 << c.below(64)
	}
	return id
}

// set answers a set of at most so many categories, or what is nearly one.
func (c *chance) set(most int) []uint16 {
	var out []uint16
	cat := c.below(4000)
	for range c.mostly(most+1, 20) {
		out = append(out, uint16(cat))
		cat += 1 + c.below(3000)
		if c.below(60) == 0 {
			cat -= 2000
		}
	}
	return out
}

// label answers a label with nothing in O, or what is nearly one.
func (c *chance) label() api.Sets {
	out := of(c.set(8), c.set(8), nil)
	if c.below(20) == 0 {
		out.O = c.set(2)
	}
	return out
}

// levels answers a label of the old kernel, or what is nearly one.
func (c *chance) levels() api.Label {
	out := api.Label{Default: uint8(c.below(6))}
	for _, cat := range c.set(3) {
		out.Pairs = append(out.Pairs, api.Pair{Cat: cat, Level: uint8(c.below(6))})
	}
	return out
}

// object answers an object, or what is nearly one; what stands in fields of other kinds is whatever it is.
func (c *chance) object() api.Object {
	o := api.Object{ID: c.id(), Kind: 1 + c.mostly(4, 6), Label: c.levels(), Sets: c.label()}
	o.Quota, o.Next = c.mostly(401, 500), 1+c.mostly(64, 70)-c.mostly(1, 3)
	o.Used = c.mostly(o.Quota+1, 500) - c.mostly(1, 3)
	o.Data = c.bytes(c.mostly(65, 70))
	o.Cats = c.set(16)
	for range c.mostly(5, 7) {
		o.Ring = append(o.Ring, c.bytes(c.mostly(17, 20)))
	}
	return o
}

// owns answers o with Label, and fields of other kinds, their zero value.
func owns(o api.Object) api.Object {
	return owned(api.Object{ID: o.ID, Kind: o.Kind, Sets: o.Sets}, o)
}

// reader reads bytes one by one, and tells whether they were all there.
type reader struct {
	b     []byte
	short bool
}

func (r *reader) number(width int) int {
	v := 0
	for range width {
		if len(r.b) == 0 {
			r.short = true
			return 0
		}
		v = v*256 + int(r.b[0])
		r.b = r.b[1:]
	}
	return v
}

func (r *reader) list(size int) []byte {
	if r.short || len(r.b) < size {
		r.short = true
		return nil
	}
	out := r.b[:size]
	r.b = r.b[size:]
	return out
}

// set reads a set, as far as it is there.
func (r *reader) set() []uint16 {
	var out []uint16
	for range r.number(1) {
		out = append(out, uint16(r.number(2)))
	}
	return out
}

// label reads a label, and tells whether another layer takes it: what is found of a set is found when all of it is there.
func (r *reader) label(s *api.Sets) bool {
	for _, list := range []*[]uint16{&s.S, &s.I, &s.O} {
		*list = r.set()
		if r.short || !maySet(*list) {
			return false
		}
	}
	return mayLabel(*s)
}

// own reads what only objects of o's kind have, and tells whether another layer takes it.
func (r *reader) own(o *api.Object) bool {
	switch o.Kind {
	case api.Box:
		o.Quota, o.Used, o.Next = r.number(2), r.number(2), r.number(2)
	case api.Seg:
		o.Data = r.list(r.number(2))
	case api.Gate:
		o.Cats = r.set()
		return maySet(o.Cats)
	case api.Port:
		for range r.number(1) {
			o.Ring = append(o.Ring, r.list(r.number(2)))
		}
		return mayWait(o.Ring)
	}
	return true
}

// read says of whatever bytes what P18.1 says of them.
func read(b []byte) (api.Object, api.Errno) {
	r := reader{b: b}
	var o api.Object
	met := r.number(1) == 2
	if r.short || !met {
		return api.Object{}, what(r.short)
	}
	o.Kind = r.number(1)
	if r.short || o.Kind < 1 || o.Kind > 4 {
		return api.Object{}, what(r.short)
	}
	o.ID = uint64(r.number(4))<<32 | uint64(r.number(4))
	met = r.label(&o.Sets)
	if r.short || !met {
		return api.Object{}, what(r.short)
	}
	met = r.own(&o)
	if r.short || !met || !mayBe(o) || len(r.b) > 0 {
		return api.Object{}, what(r.short)
	}
	return o, api.OK
}

// what answers which error it is.
func what(short bool) api.Errno {
	if short {
		return api.ErrShort
	}
	return api.ErrForm
}

// holdTake asks that Take of b tells what P18.1 says, and that Put of it is b.
func holdTake(t *testing.T, b []byte) (good bool) {
	t.Helper()
	o, e := read(b)
	isOfOne(t, b)
	if e != api.OK {
		isNo(t, b, e)
		return false
	}
	isTaken(t, b, o)
	isPut(t, o, b)
	return true
}

func TestTakeOfWhateverBytes(t *testing.T) {
	c := chance(1)
	for size := range 400 {
		b := c.bytes(size)
		holdTake(t, b)
		for first := range min(size, 1) * 256 {
			b[0] = byte(first)
			holdTake(t, b)
		}
		for second := range min(size/2, 1) * 256 {
			b[0], b[1] = 2, byte(second)
			holdTake(t, b)
		}
	}
}

// Small values of bytes behind a good head, so that many texts are objects, or miss being one by little.
func TestTakeOfEveryShortTextOfFewValues(t *testing.T) {
	for _, kind := range kinds() {
		for size := range 11 {
			many := 1
			for range size {
				many *= 3
			}
			for n := range many {
				b := []byte{2, byte(kind), 0, 0, 0, 0, 0, 0, 0, 65}
				for range size {
					b = append(b, byte(n%3))
					n /= 3
				}
				holdTake(t, b)
			}
		}
	}
}

func TestTakeOfTextsWithOneByteChanged(t *testing.T) {
	for _, o := range some() {
		for _, s := range []api.Sets{plain(), both(), of(l(255), l(256), nil)} {
			b := said(with(o, 4290, s))
			for at := range b {
				was := b[at]
				for v := range 256 {
					b[at] = byte(v)
					holdTake(t, b)
				}
				b[at] = was
			}
		}
	}
}

func TestTakeOfTextsWithBytesTakenOutAndPutIn(t *testing.T) {
	for _, o := range some() {
		for _, s := range []api.Sets{plain(), both(), of(l(255), l(256), nil)} {
			b := said(with(o, 4290, s))
			for at := range b {
				for n := 1; n <= 4 && at+n <= len(b); n++ {
					holdTake(t, slices.Delete(bytes.Clone(b), at, at+n))
				}
				for _, v := range []byte{0, 1, 2, 3, 4, 16, 17, 64, 65, 255} {
					holdTake(t, slices.Insert(bytes.Clone(b), at, v))
					holdTake(t, slices.Insert(bytes.Clone(b), at, v, v))
				}
			}
		}
	}
}

func TestObjectsDrawn(t *testing.T) {
	c := chance(3)
	good := 0
	for range 60000 {
		o := c.object()
		if !mayBe(o) {
			isArg(t, o)
			if 1 <= o.Kind && o.Kind <= 4 && o.Used >= 0 && o.Next >= 0 {
				holdTake(t, said(o))
			}
			continue
		}
		good++
		isPut(t, o, said(o))
		isTaken(t, said(o), owns(o))
		b := said(o)
		isNo(t, b[:c.below(len(b))], api.ErrShort)
		b[c.below(len(b))] = byte(c.mostly(6, 256))
		holdTake(t, b)
		holdTake(t, b[:c.below(len(b))])
	}
	if good < 10000 || good > 50000 {
		t.Errorf("%d of 60000 were good", good)
	}
}

func TestToldTheSameEachTime(t *testing.T) {
	for _, o := range some() {
		for _, x := range append(litter(o), o, with(o, 2, o.Sets), with(o, 67, both()), with(o, 67, of(nil, nil, l(3)))) {
			first, e := obj2.Put(x)
			again, no := obj2.Put(x)
			if !bytes.Equal(first, again) || e != no {
				t.Errorf("Put of %s: told two things", brief(x))
			}
		}
		b := said(o)
		for cut := range len(b) + 1 {
			first, e := obj2.Take(b[:cut])
			again, no := obj2.Take(b[:cut])
			if !same(first, again) || e != no {
				t.Errorf("Take of %v: told two things", b[:cut])
			}
		}
	}
}

// R3

// roomy answers list with spare room behind it, all of it filled, so that a write into it shows.
func roomy[T any](list []T, spare int, fill T) []T {
	all := append(slices.Clone(list), slices.Repeat([]T{fill}, spare)...)
	return all[:len(list):len(all)]
}

// roomyObject answers o with spare room behind each of its lists.
func roomyObject(o api.Object, spare int) api.Object {
	o.Label.Pairs = roomy(o.Label.Pairs, spare, api.Pair{Cat: 0xa5a5, Level: 0xa5})
	o.Sets = api.Sets{S: roomy(o.Sets.S, spare, 0xa5a5), I: roomy(o.Sets.I, spare, 0xa5a5), O: roomy(o.Sets.O, spare, 0xa5a5)}
	o.Data, o.Cats = roomy(o.Data, spare, 0xa5), roomy(o.Cats, spare, 0xa5a5)
	list := roomy(o.Ring, spare, []byte("spare"))
	for i := range list {
		list[i] = roomy(list[i], spare, 0xa5)
	}
	o.Ring = list
	return o
}

// lists calls with each list that o has, and each of its letters, spare room and all.
func lists(o api.Object, pairs func(l []api.Pair), small func(l []byte), great func(l []uint16)) {
	pairs(o.Label.Pairs[:cap(o.Label.Pairs)])
	small(o.Data[:cap(o.Data)])
	for _, l := range [][]uint16{o.Sets.S, o.Sets.I, o.Sets.O, o.Cats} {
		great(l[:cap(l)])
	}
	for _, letter := range o.Ring[:cap(o.Ring)] {
		small(letter[:cap(letter)])
	}
}

// whole answers all that o has, spare room and all, as a text.
func whole(o api.Object) string {
	out := fmt.Sprint(o.ID, o.Kind, o.Label.Default, o.Quota, o.Used, o.Next, len(o.Ring))
	lists(o, func(l []api.Pair) { out += fmt.Sprint(l) }, func(l []byte) { out += fmt.Sprintf(" %x", l) }, func(l []uint16) { out += fmt.Sprint(l) })
	return out
}

// spoil overwrites all lists of o, and their spare room.
func spoil(o api.Object) {
	lists(o, func(l []api.Pair) {
		for i := range l {
			l[i] = api.Pair{Cat: ^l[i].Cat, Level: ^l[i].Level}
		}
	}, scribble[byte], scribble[uint16])
	list := o.Ring[:cap(o.Ring)]
	for i := range list {
		list[i] = []byte("spoilt")
	}
}

// scribble overwrites list and its spare room.
func scribble[T byte | uint16](list []T) {
	list = list[:cap(list)]
	for i := range list {
		list[i] = ^list[i]
	}
}

// full answers o with something in every field: what it has not itself, and such as may not be in Label.
func full(o api.Object) api.Object {
	return owned(api.Object{ID: o.ID, Kind: o.Kind, Sets: o.Sets, Label: levels()[2], Quota: 5, Used: 4, Next: 3, Data: []byte("data"), Cats: []uint16{1, 2}, Ring: letters(1, 2)}, o)
}

// memoryObjects answers objects for which it is looked at what memory is theirs: such as may be, and others.
func memoryObjects() []api.Object {
	var out []api.Object
	for _, o := range some() {
		for _, s := range fewLabels()[1:] {
			x := full(with(o, 4290, s))
			out = append(out, with(o, 67, s), x)
		}
		x := full(with(o, 4290, both()))
		out = append(out, o, with(x, 2, both()), with(x, 67, of(l(3), l(5), l(7))), with(x, 67, of(l(5, 3), nil, nil)), with(x, 67, of(l(3), l(3), nil)))
	}
	return append(out, seg(filled(0, 65)), gate([]uint16{3, 3}), port(letters(17)), port(letters(1, 2, 3, 4, 5)))
}

func TestPutNeitherChangesNorKeeps(t *testing.T) {
	for _, o := range memoryObjects() {
		for _, spare := range []int{0, 1, 5, 90} {
			in := roomyObject(o, spare)
			was := whole(in)
			got, _ := obj2.Put(in)
			told := bytes.Clone(got)
			if whole(in) != was {
				t.Fatalf("%s, spare %d: changed", brief(o), spare)
			}
			scribble(got)
			if whole(in) != was {
				t.Fatalf("%s, spare %d: what is told shares memory", brief(o), spare)
			}
			scribble(got)
			spoil(in)
			if !bytes.Equal(got, told) {
				t.Fatalf("%s, spare %d: what is told hangs on what was handed in", brief(o), spare)
			}
		}
	}
}

func TestTakeNeitherChangesNorKeeps(t *testing.T) {
	for _, o := range memoryObjects() {
		for _, more := range [][]byte{nil, {7}} {
			for _, spare := range []int{0, 1, 5, 90} {
				b := roomy(append(said(o), more...), spare, 0xa5)
				was := bytes.Clone(b[:cap(b)])
				got, _ := obj2.Take(b)
				told := whole(got)
				if !bytes.Equal(b[:cap(b)], was) {
					t.Fatalf("%s, spare %d: changed", brief(o), spare)
				}
				scribble(b)
				if whole(got) != told {
					t.Fatalf("%s, spare %d: what is told hangs on what was handed in", brief(o), spare)
				}
				scribble(b)
				spoil(got)
				if !bytes.Equal(b[:cap(b)], was) {
					t.Fatalf("%s, spare %d: what is told shares memory", brief(o), spare)
				}
			}
		}
	}
}

func TestTellsNewMemoryEachTime(t *testing.T) {
	for _, o := range some() {
		for _, s := range fewLabels() {
			o := with(o, 4290, s)
			b := said(o)
			first, _ := obj2.Take(b)
			second, _ := obj2.Take(b)
			spoil(first)
			third, _ := obj2.Take(b)
			if !same(second, o) || !same(third, o) {
				t.Errorf("Take of %s: an answer is another one", brief(o))
			}
			put, _ := obj2.Put(o)
			again, _ := obj2.Put(o)
			scribble(put)
			if more, _ := obj2.Put(o); !bytes.Equal(again, b) || !bytes.Equal(more, b) {
				t.Errorf("Put of %s: an answer is another one", brief(o))
			}
		}
	}
}

// eachList answers texts of all lists of o but the one at the place skip, without their spare room, and calls with that one.
func eachList(o api.Object, skip int, with func(small []byte, great []uint16)) string {
	out, at := "", 0
	for _, list := range [][]uint16{o.Sets.S, o.Sets.I, o.Sets.O, o.Cats} {
		if at == skip {
			with(nil, list)
		} else {
			out += fmt.Sprint(list)
		}
		at++
	}
	for _, list := range append([][]byte{o.Data}, o.Ring...) {
		if at == skip {
			with(list, nil)
		} else {
			out += fmt.Sprint(list)
		}
		at++
	}
	return out
}

// No two lists of one answer share memory, their spare room neither.
func TestTakeTellsListsOfTheirOwn(t *testing.T) {
	all := some()
	for _, sizes := range [][]int{{0, 0}, {1, 2}, {0, 3}, {5, 0, 5}, {1, 1, 1, 1}} {
		all = append(all, port(letters(sizes...)))
	}
	for _, o := range all {
		for _, s := range fewLabels() {
			for at := range 4 + 1 + api.MaxRing {
				got, _ := obj2.Take(said(with(o, 67, s)))
				nothing := func([]byte, []uint16) {}
				was := eachList(got, at, nothing)
				eachList(got, at, func(small []byte, great []uint16) {
					scribble(small)
					scribble(great)
				})
				if now := eachList(got, at, nothing); now != was {
					t.Errorf("%s: list %d shares memory with another one", brief(with(o, 67, s)), at)
				}
			}
		}
	}
}

// What is handed in may share memory: it is read alone.
func TestPutOfListsThatShareMemory(t *testing.T) {
	b := filled(3, 16)
	isPut(t, port([][]byte{b, b, b[:7], b[7:]}), said(port([][]byte{bytes.Clone(b), bytes.Clone(b), bytes.Clone(b[:7]), bytes.Clone(b[7:])})))
	o := seg(b)
	o.Ring = [][]byte{b, b}
	isPut(t, o, said(seg(bytes.Clone(b))))
	list := count(3, 7, 16)
	for cut := range 17 {
		// The spare room of S is I, and the Cats are both.
		x := with(gate(list), 67, of(list[:cut], list[cut:], list[:0]))
		isPut(t, x, said(with(gate(slices.Clone(list)), 67, of(slices.Clone(list[:cut]), slices.Clone(list[cut:]), nil))))
	}
	if !slices.Equal(list, count(3, 7, 16)) {
		t.Errorf("changed: %v", list)
	}
}

func TestNilAndEmptyAreOne(t *testing.T) {
	for _, o := range some() {
		for _, s := range fewLabels() {
			x := with(o, 67, s)
			want := said(x)
			x.Label.Pairs = []api.Pair{}
			x.Sets = of(append([]uint16{}, s.S...), append([]uint16{}, s.I...), []uint16{})
			x.Data, x.Cats, x.Ring = append([]byte{}, x.Data...), append([]uint16{}, x.Cats...), append([][]byte{}, x.Ring...)
			for i := range x.Ring {
				x.Ring[i] = append([]byte{}, x.Ring[i]...)
			}
			isPut(t, x, want)
		}
	}
	isPut(t, port([][]byte{nil, {}}), said(port([][]byte{{}, nil})))
	// An empty list with spare room has nothing in it.
	isPut(t, with(seg(make([]byte, 0, 99)), 67, of(make([]uint16, 0, 9), make([]uint16, 0, 9), make([]uint16, 0, 9))), said(seg(nil)))
}

func TestWhatWasToldStaysAsItWasTold(t *testing.T) {
	o := with(port(letters(1, 0, 16)), 4290, both())
	put, _ := obj2.Put(o)
	taken, _ := obj2.Take(put)
	for _, other := range memoryObjects() {
		b, _ := obj2.Put(other)
		obj2.Take(b)
	}
	if !bytes.Equal(put, said(o)) || !same(taken, o) {
		t.Errorf("an earlier answer was changed: %v, %s", put, brief(taken))
	}
}

// What the tests lean on is what P14.1, P8.1, P4.1 and P16.1 say it is.
func TestPartsOfTheTests(t *testing.T) {
	for _, id := range names() {
		if !mayName(id) || !name.May(id) {
			t.Errorf("%d is no name", id)
		}
	}
	for _, id := range noNames() {
		if mayName(id) || name.May(id) {
			t.Errorf("%d is a name", id)
		}
	}
	for _, s := range slices.Concat(labels(), owning()) {
		if !mayLabel(s) || !sets.May(s) {
			t.Errorf("%v may not be", s)
		}
	}
	for _, s := range badLabels() {
		if mayLabel(s) || sets.May(s) {
			t.Errorf("%v may be", s)
		}
	}
	for _, list := range badLists() {
		if maySet(list) || cats.May(list) {
			t.Errorf("%v may be", list)
		}
	}
	for _, list := range badRings() {
		if mayWait(list) || ring.May(list) {
			t.Errorf("%d letters may be", len(list))
		}
	}
}
