package abi1_test

import (
	"bytes"
	"fmt"
	"math"
	"math/bits"
	"slices"
	"testing"

	"transom/abi1"
	"transom/api"
	"transom/cats"
	"transom/label"
	"transom/lcode"
	"transom/num"
)

// levels answers the label of a Default and of pairs: a category and a level each.
func levels(def uint8, l ...int) api.Label {
	out := api.Label{Default: def}
	for i := 0; i < len(l); i += 2 {
		out.Pairs = append(out.Pairs, api.Pair{Cat: uint16(l[i]), Level: uint8(l[i+1])})
	}
	return out
}

// plain is a label of no pairs.
func plain() api.Label { return levels(api.L1) }

// three is a label of three pairs, one of them a star.
func three() api.Label { return levels(api.L1, 3, api.L3, 255, api.Star, 256, api.L0) }

// row answers the label of so many pairs, of these levels by turns.
func row(def uint8, n int, l ...uint8) api.Label {
	out := api.Label{Default: def}
	for i := range n {
		out.Pairs = append(out.Pairs, api.Pair{Cat: uint16(250 + 3*i), Level: l[i%len(l)]})
	}
	return out
}

// count answers n categories, each so much above the one ahead of it.
func count(from, step, n int) []uint16 {
	var out []uint16
	for i := range n {
		out = append(out, uint16(from+step*i))
	}
	return out
}

// filled answers so many bytes that differ from their neighbours.
func filled(from, size int) []byte {
	out := make([]byte, size)
	for i := range out {
		out[i] = byte(from + i*7 + i/256)
	}
	return out
}

// names are numbers at both ends of eight bytes, at the ends of each of them, and such as objects have.
func names() []uint64 {
	out := []uint64{0, api.Root, 67, 258, 4290, 0x0102030405060708, 0xfffefdfcfbfaf9f8, math.MaxInt64, math.MaxUint64 - 1, math.MaxUint64}
	for shift := range 64 {
		out = append(out, 1<<shift)
	}
	return out
}

// smalls are numbers at both ends of two bytes, and on either side of what one says.
func smalls() []int {
	return []int{0, 1, 2, 127, 128, 255, 256, 257, 258, 32767, 32768, 65279, 65280, 65534, 65535}
}

// ends are numbers that two bytes do not say: those that come round to others, and the ends of int.
func ends() []int {
	out := []int{math.MinInt, math.MinInt + 1, math.MinInt32, math.MinInt32 - 1, -65537, -65536, -65535, -257, -256, -255, -2, -1}
	return append(out, 65536, 65537, 65791, 65792, 131071, 1<<24, 1<<24+300, math.MaxInt32, 1<<32, 1<<32+1, 1<<32+300, 1<<48+257, math.MaxInt-1, math.MaxInt)
}

// labels are such as a thread may have: of every Default, with none to as many pairs as may be, stars among them.
func labels() []api.Label {
	out := []api.Label{three()}
	for def := uint8(api.L0); def <= api.L3; def++ {
		out = append(out, levels(def))
		for lev := uint8(api.Star); lev <= api.L3; lev++ {
			if lev != def {
				out = append(out, levels(def, 3, int(lev)), levels(def, 0, int(lev), 65535, int(lev)), row(def, 15, lev), row(def, 16, lev))
			}
		}
	}
	for n := range api.MaxPairs + 1 {
		out = append(out, row(api.L1, n, api.L0, api.L2, api.Star, api.L3), row(api.L3, n, api.L0, api.L1, api.L2))
	}
	return out
}

// badLabels are such as may not be, each for one reason.
func badLabels() []api.Label {
	out := []api.Label{{}, levels(api.Star, 3, api.L1), levels(api.High), levels(6), levels(255), row(api.L1, 17, api.L3), row(api.L1, 18, api.L0, api.L2), row(api.L2, 255, api.L1)}
	for _, lev := range []int{api.High, 6, 128, 255, api.L1} {
		out = append(out, levels(api.L1, 3, lev), levels(api.L1, 1, api.L0, 3, lev), levels(api.L1, 3, lev, 5, api.L3))
	}
	return append(out, levels(api.L1, 5, api.L3, 3, api.L3), levels(api.L1, 3, api.L3, 3, api.L3), levels(api.L1, 3, api.L3, 3, api.L0), levels(api.L1, 1, api.L0, 256, api.L3, 255, api.L3), levels(api.L1, 65535, api.L3, 0, api.L3))
}

// sets are such as a Gate may have.
func sets() [][]uint16 {
	out := [][]uint16{nil, {0}, {9}, {255}, {256}, {65535}, {0, 65535}, {255, 256, 257}, count(65520, 1, 16)}
	for n := range api.MaxCats + 1 {
		out = append(out, count(0, 4369, n), count(250, 1, n))
	}
	return out
}

// badSets are lists of categories that may not be.
func badSets() [][]uint16 {
	return [][]uint16{{3, 3}, {5, 3}, {0, 0}, {256, 255}, {1, 2, 2}, {1, 3, 2, 4}, {65535, 0}, count(0, 1, 17), count(9, 100, 18), count(0, 1, 255), make([]uint16, 16)}
}

// datas are bytes: none, one, many, and as many as two bytes say.
func datas() [][]byte {
	var out [][]byte
	for _, size := range []int{0, 1, 2, 3, 63, 64, 65, 127, 128, 255, 256, 257, 300, 1000} {
		out = append(out, filled(5, size))
	}
	return append(out, []byte("hi"), make([]byte, 7), bytes.Repeat([]byte{255}, 300))
}

// Calls of which every field that they have is asked for.

func anew(kind int, id uint64, l api.Label) api.Call {
	return api.Call{Op: api.CallNew, Kind: kind, ID: id, Label: l}
}

func box(n int) api.Call {
	c := anew(api.Box, 258, three())
	c.N = n
	return c
}

func seg(data []byte) api.Call {
	c := anew(api.Seg, 258, three())
	c.Data = data
	return c
}

func gate(l []uint16) api.Call {
	c := anew(api.Gate, 258, three())
	c.Cats = l
	return c
}

// some answers calls of each Op, and of each Kind and of others, with little in them and with more.
func some() []api.Call {
	return []api.Call{
		{Op: api.CallCat}, {Op: api.CallLabel, Label: plain()}, {Op: api.CallLabel, Label: three()}, {Op: api.CallLabel, Label: row(api.L1, 16, api.L0, api.L2, api.L3)},
		box(0), box(300), box(65535), seg(nil), seg([]byte("hi")), seg(filled(3, 300)), gate(nil), gate([]uint16{9}), gate(count(0, 4369, 16)), anew(api.Port, 258, three()), anew(api.Port, 0, plain()),
		anew(0, 258, three()), anew(5, 67, plain()), anew(255, 258, three()), anew(api.Box, math.MaxUint64, plain()),
		{Op: api.CallRead}, {Op: api.CallRead, ID: 258, Off: 300, N: 515}, {Op: api.CallRead, ID: math.MaxUint64, Off: 65535, N: 65535}, {Op: api.CallWrite}, {Op: api.CallWrite, ID: 258, Off: 7, Data: []byte("hi")}, {Op: api.CallWrite, ID: 1, Off: 65535, Data: filled(9, 300)},
		{Op: api.CallDrop}, {Op: api.CallDrop, ID: 258}, {Op: api.CallEnter, ID: 258}, {Op: api.CallEnter, ID: 1 << 63}, {Op: api.CallSend}, {Op: api.CallSend, ID: 258, Data: []byte("hi")}, {Op: api.CallSend, ID: 67, Data: filled(9, 16)}, {Op: api.CallRecv, ID: 258}, {Op: api.CallRecv},
		{Op: api.CallCopy}, {Op: api.CallCopy, ID: 258, To: 1 << 56, N: 300}, {Op: api.CallCopy, ID: math.MaxUint64, To: math.MaxUint64, N: 65535}, {Op: api.CallStat, ID: 258}, {Op: api.CallStat}, {Op: api.CallSelf}, {Op: api.CallYield},
	}
}

// named answers calls of each Op that has an ID, with this one.
func named(id uint64) []api.Call {
	var out []api.Call
	for _, c := range some() {
		if c.Op >= api.CallNew && c.Op <= api.CallStat {
			c.ID = id
			out = append(out, c)
		}
	}
	return out
}

// labelled answers calls of each Op and Kind that has a label, with this one.
func labelled(l api.Label) []api.Call {
	out := []api.Call{{Op: api.CallLabel, Label: l}}
	for _, c := range some() {
		if c.Op == api.CallNew {
			c.Label = l
			out = append(out, c)
		}
	}
	return out
}

// filling answers calls of each Op and Kind that has Data, with this.
func filling(data []byte) []api.Call {
	return []api.Call{seg(data), {Op: api.CallWrite, ID: 258, Off: 300, Data: data}, {Op: api.CallSend, ID: 258, Data: data}}
}

// eachGood calls try with calls that fit, of each Op and Kind, with each field at both ends of what fits and in between.
func eachGood(try func(c api.Call)) {
	for _, c := range some() {
		try(c)
	}
	for _, id := range names() {
		for _, c := range named(id) {
			try(c)
		}
		for _, other := range names() {
			try(api.Call{Op: api.CallCopy, ID: id, To: other, N: 3})
		}
	}
	for _, l := range labels() {
		for _, c := range labelled(l) {
			try(c)
		}
	}
	for _, data := range datas() {
		for _, c := range filling(data) {
			try(c)
		}
	}
	for _, l := range sets() {
		try(gate(l))
	}
	for _, a := range smalls() {
		for _, c := range []api.Call{box(a), {Op: api.CallWrite, ID: 3, Off: a, Data: []byte("x")}, {Op: api.CallCopy, ID: 3, To: 4, N: a}} {
			try(c)
		}
		for _, b := range smalls() {
			try(api.Call{Op: api.CallRead, ID: 3, Off: a, N: b})
		}
	}
	for kind := range 256 {
		try(anew(kind, 258, three()))
	}
}

// litters answer c with something in every field: what it has stays where its Op and Kind name it.
func litters(c api.Call) []api.Call {
	var out []api.Call
	for _, junk := range []api.Call{
		{Kind: 1, ID: 5, To: 6, Off: 7, N: 8, Label: three(), Sets: api.Sets{S: []uint16{1}, I: []uint16{2}, O: []uint16{3}}, Data: []byte("junk"), Cats: []uint16{4}},
		{Kind: 2, ID: math.MaxUint64, To: math.MaxUint64, Off: math.MaxInt, N: math.MinInt, Sets: api.Sets{S: []uint16{3, 1}, I: []uint16{1}, O: make([]uint16, 40)}, Data: filled(1, 70000), Cats: []uint16{2, 2, 1}},
		{Kind: -1, Off: -1, N: -1, Label: row(9, 300, 200), Data: []byte{}, Cats: count(9, 0, 300)}, {Kind: 3, To: 1, Sets: api.Sets{O: []uint16{9}}}, {N: 1}, {Off: 1}, {Data: []byte{1}}, {Cats: []uint16{1}}, {Sets: api.Sets{S: []uint16{1}}},
	} {
		junk.Op = c.Op
		out = append(out, copied(junk, c))
	}
	return out
}

// copied answers to with the fields of c that c's Op and Kind name.
func copied(to, c api.Call) api.Call {
	switch c.Op {
	case 2:
		to.Label = c.Label
	case 3:
		to.Kind, to.ID, to.Label = c.Kind, c.ID, c.Label
		switch c.Kind {
		case 1:
			to.N = c.N
		case 2:
			to.Data = c.Data
		case 3:
			to.Cats = c.Cats
		}
	case 4:
		to.ID, to.Off, to.N = c.ID, c.Off, c.N
	case 5:
		to.ID, to.Off, to.Data = c.ID, c.Off, c.Data
	case 6, 7, 9, 11:
		to.ID = c.ID
	case 8:
		to.ID, to.Data = c.ID, c.Data
	case 10:
		to.ID, to.To, to.N = c.ID, c.To, c.N
	}
	return to
}

// owned answers c with its zero value in every field that its Op and Kind do not name.
func owned(c api.Call) api.Call { return copied(api.Call{Op: c.Op}, c) }

// mayLabel says what P5.1 says of a label.
func mayLabel(l api.Label) bool {
	ok := 1 <= l.Default && l.Default <= 4 && len(l.Pairs) <= 16
	for i, p := range l.Pairs {
		ok = ok && p.Level <= 4 && p.Level != l.Default && (i == 0 || l.Pairs[i-1].Cat < p.Cat)
	}
	return ok
}

// maySet says what P4.1 says of a set.
func maySet(l []uint16) bool {
	for i := range l {
		if i > 0 && l[i-1] >= l[i] {
			return false
		}
	}
	return len(l) <= 16
}

// two answers a number in two bytes.
func two(v int) []byte { return []byte{byte(v >> 8), byte(v)} }

// eight answers a number in eight bytes.
func eight(v uint64) []byte {
	var out []byte
	for shift := 56; shift >= 0; shift -= 8 {
		out = append(out, byte(v>>shift))
	}
	return out
}

// sized answers bytes behind how many they are.
func sized(b []byte) []byte { return append(two(len(b)), b...) }

// saidLabel answers a label's bytes, also of one that may not be.
func saidLabel(l api.Label) []byte {
	out := []byte{l.Default, byte(len(l.Pairs))}
	for _, p := range l.Pairs {
		out = append(append(out, two(int(p.Cat))...), p.Level)
	}
	return out
}

// saidSet answers a set's bytes, also of one that may not be.
func saidSet(l []uint16) []byte {
	out := []byte{byte(len(l))}
	for _, c := range l {
		out = append(out, two(int(c))...)
	}
	return out
}

// saidWith answers the text of a call as P20.1 says it, with these bytes for its Label, its Cats and its Data.
func saidWith(c api.Call, label, set, data []byte) []byte {
	head := []byte{byte(c.Op)}
	switch c.Op {
	case 2:
		return slices.Concat(head, label)
	case 3:
		head = slices.Concat(head, []byte{byte(c.Kind)}, eight(c.ID), label)
		switch c.Kind {
		case 1:
			return slices.Concat(head, two(c.N))
		case 2:
			return slices.Concat(head, data)
		case 3:
			return slices.Concat(head, set)
		}
	case 4:
		return slices.Concat(head, eight(c.ID), two(c.Off), two(c.N))
	case 5:
		return slices.Concat(head, eight(c.ID), two(c.Off), data)
	case 6, 7, 9, 11:
		return slices.Concat(head, eight(c.ID))
	case 8:
		return slices.Concat(head, eight(c.ID), data)
	case 10:
		return slices.Concat(head, eight(c.ID), eight(c.To), two(c.N))
	}
	return head
}

// said answers the text of a call, also of one whose parts may not be.
func said(c api.Call) []byte {
	return saidWith(c, saidLabel(c.Label), saidSet(c.Cats), sized(c.Data))
}

// putAs answers the text of a call whose parts are as their own layers put them.
func putAs(c api.Call) []byte {
	return saidWith(c, lcode.Put(nil, c.Label), cats.Put(nil, c.Cats), num.PutBytes(nil, c.Data))
}

// same tells whether two calls are the same, in all fields; nil and an empty list are one.
func same(a, b api.Call) bool {
	levels := a.Label.Default == b.Label.Default && slices.Equal(a.Label.Pairs, b.Label.Pairs)
	sets := slices.Equal(a.Sets.S, b.Sets.S) && slices.Equal(a.Sets.I, b.Sets.I) && slices.Equal(a.Sets.O, b.Sets.O)
	numbers := a.Op == b.Op && a.Kind == b.Kind && a.ID == b.ID && a.To == b.To && a.Off == b.Off && a.N == b.N
	return levels && sets && numbers && bytes.Equal(a.Data, b.Data) && slices.Equal(a.Cats, b.Cats)
}

// brief answers a call as a text that is not too long to read.
func brief(c api.Call) string {
	return fmt.Sprintf("op %d, kind %d, id %d, to %d, off %d, n %d, label %.200s, sets %.100s, %d bytes %.40x, cats %.200s",
		c.Op, c.Kind, c.ID, c.To, c.Off, c.N, fmt.Sprint(c.Label), fmt.Sprint(c.Sets), len(c.Data), c.Data, fmt.Sprint(c.Cats[:min(len(c.Cats), 40)]))
}

// isPut asks that Put of c tells b.
func isPut(t *testing.T, c api.Call, b []byte) {
	t.Helper()
	if got := abi1.Put(c); !bytes.Equal(got, b) {
		t.Errorf("Put of %s: %.200x, not %.200x", brief(c), got, b)
	}
}

// isTaken asks that Take of b tells c.
func isTaken(t *testing.T, b []byte, c api.Call) {
	t.Helper()
	if got, e := abi1.Take(b); !same(got, c) || e != api.OK {
		t.Errorf("Take of %.200x: %s, error %d, not %s", b, brief(got), e, brief(c))
	}
}

// isNo asks that Take of b tells an error, and nothing of a call.
func isNo(t *testing.T, b []byte, want api.Errno) {
	t.Helper()
	if got, e := abi1.Take(b); !same(got, api.Call{}) || e != want {
		t.Errorf("Take of %.200x: %s, error %d, not %d", b, brief(got), e, want)
	}
}

// holds asks that the texts of c are told both ways.
func holds(t *testing.T, c api.Call) {
	t.Helper()
	isPut(t, c, said(c))
	isTaken(t, said(c), c)
}

// P20.1, byte for byte

func TestExamples(t *testing.T) {
	id := []byte{0, 0, 0, 0, 0, 0, 1, 2}
	lab := []byte{2, 3, 0, 3, 4, 0, 255, 0, 1, 0, 1}
	for _, x := range []struct {
		c api.Call
		b []byte
	}{
		{api.Call{Op: api.CallCat}, []byte{1}},
		{api.Call{Op: api.CallLabel, Label: levels(api.L1)}, []byte{2, 2, 0}},
		{api.Call{Op: api.CallLabel, Label: three()}, append([]byte{2}, lab...)},
		{box(300), slices.Concat([]byte{3, 1}, id, lab, []byte{1, 44})},
		{seg([]byte("hi")), slices.Concat([]byte{3, 2}, id, lab, []byte{0, 2, 'h', 'i'})},
		{seg(nil), slices.Concat([]byte{3, 2}, id, lab, []byte{0, 0})},
		{gate([]uint16{7, 258}), slices.Concat([]byte{3, 3}, id, lab, []byte{2, 0, 7, 1, 2})},
		{gate(nil), slices.Concat([]byte{3, 3}, id, lab, []byte{0})},
		{anew(api.Port, 258, three()), slices.Concat([]byte{3, 4}, id, lab)},
		{anew(0, 258, three()), slices.Concat([]byte{3, 0}, id, lab)},
		{anew(5, 258, three()), slices.Concat([]byte{3, 5}, id, lab)},
		{anew(255, 258, three()), slices.Concat([]byte{3, 255}, id, lab)},
		{api.Call{Op: api.CallRead, ID: 258, Off: 772, N: 1286}, slices.Concat([]byte{4}, id, []byte{3, 4, 5, 6})},
		{api.Call{Op: api.CallWrite, ID: 258, Off: 772, Data: []byte("xyz")}, slices.Concat([]byte{5}, id, []byte{3, 4, 0, 3, 'x', 'y', 'z'})},
		{api.Call{Op: api.CallDrop, ID: 258}, slices.Concat([]byte{6}, id)},
		{api.Call{Op: api.CallEnter, ID: 258}, slices.Concat([]byte{7}, id)},
		{api.Call{Op: api.CallSend, ID: 258, Data: []byte{9}}, slices.Concat([]byte{8}, id, []byte{0, 1, 9})},
		{api.Call{Op: api.CallRecv, ID: 258}, slices.Concat([]byte{9}, id)},
		{api.Call{Op: api.CallCopy, ID: 258, To: 0x0304050607080910, N: 4370}, slices.Concat([]byte{10}, id, []byte{3, 4, 5, 6, 7, 8, 9, 16, 17, 18})},
		{api.Call{Op: api.CallStat, ID: 258}, slices.Concat([]byte{11}, id)},
		{api.Call{Op: api.CallSelf}, []byte{12}},
		{api.Call{Op: api.CallYield}, []byte{13}},
	} {
		isPut(t, x.c, x.b)
		isTaken(t, x.b, x.c)
	}
}

func TestCallsThatFitBothWays(t *testing.T) { eachGood(func(c api.Call) { holds(t, c) }) }

func TestEveryNumberOfTwoBytes(t *testing.T) {
	for v := range 1 << 16 {
		holds(t, box(v))
		holds(t, api.Call{Op: api.CallRead, ID: 3, Off: v, N: 65535 - v})
		holds(t, api.Call{Op: api.CallWrite, ID: 3, Off: v, Data: []byte("x")})
		holds(t, api.Call{Op: api.CallCopy, ID: 3, To: 4, N: v})
	}
}

func TestDataAsLongAsTwoBytesSay(t *testing.T) {
	for _, size := range []int{32767, 32768, 65279, 65280, 65534, 65535} {
		for _, c := range filling(filled(size, size)) {
			holds(t, c)
			b := said(c)
			isNo(t, b[:len(b)-1], api.ErrShort)
			isNo(t, append(b, 0), api.ErrForm)
		}
	}
}

func TestEveryLengthOfData(t *testing.T) {
	for size := range 600 {
		for _, c := range filling(filled(size, size)) {
			holds(t, c)
		}
	}
}

func TestEveryCategory(t *testing.T) {
	for cat := range 1 << 16 {
		holds(t, gate([]uint16{uint16(cat)}))
		holds(t, api.Call{Op: api.CallLabel, Label: levels(api.L2, cat, api.Star)})
	}
}

// Each call has one text: no two calls that differ, of those that fit, have the same.
func TestNoTwoCallsOfOneText(t *testing.T) {
	found := map[string]api.Call{}
	eachGood(func(c api.Call) {
		text := string(abi1.Put(c))
		if other, is := found[text]; is && !same(c, other) {
			t.Errorf("%s and %s have one text", brief(c), brief(other))
		}
		found[text] = c
	})
}

// P20.1 Take: errors

func TestTakeOfNoBytes(t *testing.T) {
	isNo(t, nil, api.ErrShort)
	isNo(t, []byte{}, api.ErrShort)
	isNo(t, []byte{1}[:0], api.ErrShort)
}

func TestTakeOfTextsThatAreCutOff(t *testing.T) {
	eachGood(func(c api.Call) {
		b := said(c)
		for cut := range b {
			if cut < 60 || cut > len(b)-4 || cut%64 == 0 {
				isNo(t, b[:cut], api.ErrShort)
			}
		}
	})
}

func TestTakeOfTextsThatAreCutOffEverywhere(t *testing.T) {
	for _, c := range some() {
		b := said(c)
		for cut := range b {
			isNo(t, b[:cut], api.ErrShort)
			isNo(t, bytes.Clone(b[:cut]), api.ErrShort)
		}
	}
}

func TestTakeOfAnOpThatIsNone(t *testing.T) {
	for op := range 256 {
		if op >= 1 && op <= 13 {
			continue
		}
		isNo(t, []byte{byte(op)}, api.ErrForm)
		for _, c := range some() {
			b := said(c)
			isNo(t, append([]byte{byte(op)}, b...), api.ErrForm)
			b[0] = byte(op)
			for cut := 1; cut <= len(b); cut++ {
				isNo(t, b[:cut], api.ErrForm)
			}
		}
	}
}

func TestTakeOfBytesBehind(t *testing.T) {
	eachGood(func(c api.Call) {
		b := said(c)
		for _, more := range [][]byte{{0}, {13}, {255}, {0, 0}, filled(1, 300)} {
			isNo(t, append(slices.Clip(b), more...), api.ErrForm)
		}
	})
	for _, c := range some() {
		b := said(c)
		for v := range 256 {
			isNo(t, append(slices.Clip(b), byte(v)), api.ErrForm)
		}
		isNo(t, append(slices.Clip(b), b...), api.ErrForm)
		isNo(t, append(slices.Clip(b), make([]byte, 70000)...), api.ErrForm)
	}
}

// Of another Kind nothing stands behind the label, also not what one of the four would have.
func TestTakeOfOtherKinds(t *testing.T) {
	for kind := range 256 {
		if kind >= 1 && kind <= 3 {
			continue
		}
		c := anew(kind, 258, three())
		holds(t, c)
		for _, own := range [][]byte{{0}, {1}, {1, 44}, {0, 0}, {0, 2, 'h', 'i'}, {1, 0, 7}} {
			isNo(t, append(said(c), own...), api.ErrForm)
		}
	}
}

// What one Kind has is not what another one has.
func TestTakeOfWhatOtherKindsHave(t *testing.T) {
	id := eight(258)
	for _, x := range []struct {
		kind byte
		own  []byte
		e    api.Errno
	}{
		{1, nil, api.ErrShort}, {1, []byte{0}, api.ErrShort}, {1, []byte{0, 1, 9}, api.ErrForm}, {2, nil, api.ErrShort}, {2, []byte{0}, api.ErrShort}, {2, []byte{1, 44}, api.ErrShort}, {2, []byte{0, 0, 0}, api.ErrForm}, {3, nil, api.ErrShort}, {3, []byte{1, 44}, api.ErrShort}, {3, []byte{0, 0}, api.ErrForm}, {4, []byte{0}, api.ErrForm}, {4, []byte{0, 0}, api.ErrForm}, {4, nil, api.OK},
	} {
		b := slices.Concat([]byte{3, x.kind}, id, saidLabel(plain()), x.own)
		if _, e := abi1.Take(b); e != x.e {
			t.Errorf("kind %d, %v: error %d, not %d", x.kind, x.own, e, x.e)
		}
	}
}

func TestTakeOfLabelsThatMayNotBe(t *testing.T) {
	for _, l := range badLabels() {
		if label.May(l) {
			t.Fatalf("%v may be", l)
		}
		for _, c := range labelled(l) {
			b := said(c)
			isNo(t, b, api.ErrForm)
			isNo(t, append(slices.Clip(b), 0), api.ErrForm)
			// What is met first is told: the label, once it is all there.
			end := len(saidWith(owned(api.Call{Op: c.Op, Kind: 9, Label: l}), saidLabel(l), nil, nil))
			for cut := range b {
				want := api.ErrForm
				if cut < end {
					want = api.ErrShort
				}
				isNo(t, b[:cut], want)
			}
		}
	}
}

func TestTakeOfCatsThatMayNotBe(t *testing.T) {
	for _, l := range badSets() {
		if cats.May(l) {
			t.Fatalf("%v may be", l)
		}
		b := said(gate(l))
		isNo(t, b, api.ErrForm)
		isNo(t, append(slices.Clip(b), 0), api.ErrForm)
		for cut := range b {
			isNo(t, b[:cut], api.ErrShort)
		}
	}
}

// Where a text has two errors, that of the part that is met first is told.
func TestTakeTellsWhatIsMetFirst(t *testing.T) {
	bad, id := saidLabel(levels(api.L1, 3, api.L1)), eight(258)
	good := saidLabel(three())
	for _, x := range []struct {
		b []byte
		e api.Errno
	}{
		{slices.Concat([]byte{3, 1}, id, bad, []byte{0}), api.ErrForm},            // and too few bytes of N
		{slices.Concat([]byte{3, 1}, id, bad), api.ErrForm},                       // and no N
		{slices.Concat([]byte{3, 2}, id, bad, []byte{0, 9, 1}), api.ErrForm},      // and too few bytes of Data
		{slices.Concat([]byte{3, 3}, id, bad, []byte{2, 0, 1, 0}), api.ErrForm},   // and too few bytes of Cats
		{slices.Concat([]byte{3, 4}, id, bad, []byte{7}), api.ErrForm},            // and a byte behind
		{slices.Concat([]byte{3, 1}, id, bad[:len(bad)-1]), api.ErrShort},         // cut off ahead of what may not be
		{slices.Concat([]byte{3, 3}, id, good, []byte{2, 0, 3, 0}), api.ErrShort}, // Cats that could not rise, if they were all there
		{slices.Concat([]byte{3, 3}, id, good, []byte{17, 0, 3, 0, 4}), api.ErrShort},
		{slices.Concat([]byte{3, 3}, id, good, []byte{2, 0, 3, 0, 3, 9}), api.ErrForm},
		{slices.Concat([]byte{3, 3}, id, good[:4]), api.ErrShort},
		{slices.Concat([]byte{3, 200}, id, bad), api.ErrForm},
		{slices.Concat([]byte{3, 200}, id[:7]), api.ErrShort},
		{slices.Concat([]byte{2}, bad), api.ErrForm},
		{slices.Concat([]byte{2}, bad, []byte{1, 2, 3}), api.ErrForm},
		{[]byte{0, 2, 1}, api.ErrForm},
		{[]byte{14}, api.ErrForm},
		{[]byte{3}, api.ErrShort},
		{[]byte{3, 9}, api.ErrShort},
		{[]byte{2, 9}, api.ErrShort},
		{[]byte{2, 9, 0}, api.ErrForm},
		{[]byte{2, 9, 1, 0, 0}, api.ErrShort},
		{slices.Concat([]byte{4}, id, []byte{0, 1, 2}), api.ErrShort},
		{slices.Concat([]byte{5}, id, []byte{0, 1, 0, 2, 9}), api.ErrShort},
		{slices.Concat([]byte{8}, id, []byte{255, 255, 9}), api.ErrShort},
		{slices.Concat([]byte{10}, id, id, []byte{9}), api.ErrShort},
	} {
		isNo(t, x.b, x.e)
	}
}

// P20.1 Put: what does not fit

func TestPutOfNumbersThatDoNotFit(t *testing.T) {
	for _, v := range append(ends(), smalls()...) {
		fit := ((v % 65536) + 65536) % 65536
		for _, x := range [][2]api.Call{
			{box(v), box(fit)},
			{api.Call{Op: api.CallRead, ID: 258, Off: v, N: 7}, api.Call{Op: api.CallRead, ID: 258, Off: fit, N: 7}},
			{api.Call{Op: api.CallRead, ID: 258, Off: 7, N: v}, api.Call{Op: api.CallRead, ID: 258, Off: 7, N: fit}},
			{api.Call{Op: api.CallWrite, ID: 258, Off: v, Data: []byte("x")}, api.Call{Op: api.CallWrite, ID: 258, Off: fit, Data: []byte("x")}},
			{api.Call{Op: api.CallCopy, ID: 258, To: 3, N: v}, api.Call{Op: api.CallCopy, ID: 258, To: 3, N: fit}},
		} {
			isPut(t, x[0], said(x[1]))
			isTaken(t, abi1.Put(x[0]), x[1])
		}
	}
}

// beside answers numbers that come round to v in a byte.
func beside(v int) []int {
	return []int{v + 256, v - 256, v + 512, v + 65536, v - 65536, v + 1<<32, v - 1<<32, v + 1<<62, v - 1<<62, v + math.MinInt}
}

// What stands behind an Op hangs on it as it is: behind one that is none nothing does.
func TestPutOfAnOpThatIsNone(t *testing.T) {
	for _, c := range some() {
		for _, op := range beside(c.Op) {
			x := c
			x.Op = op
			isPut(t, x, []byte{byte(c.Op)})
			for _, y := range litters(x) {
				isPut(t, y, []byte{byte(c.Op)})
			}
		}
		for _, op := range append(ends(), 0, 14, 15, 100, 127, 128, 255, 256, 257, 268, 269, 270) {
			x := c
			x.Op = op
			isPut(t, x, []byte{byte(op)})
		}
	}
}

// What stands behind a Kind hangs on it as it is: nothing stands there of a Kind that only comes round to one of the four.
func TestPutOfAKindThatDoesNotFit(t *testing.T) {
	for _, c := range some() {
		if c.Op != api.CallNew {
			continue
		}
		for _, kind := range append(beside(c.Kind), append(ends(), 0, 4, 5, 6, 100, 127, 128, 255)...) {
			x := c
			x.Kind = kind
			want := slices.Concat([]byte{3, byte(kind)}, eight(c.ID), saidLabel(c.Label))
			isPut(t, x, want)
			for _, y := range litters(x) {
				isPut(t, y, want)
			}
		}
	}
}

func TestPutOfLabelsThatMayNotBe(t *testing.T) {
	for _, l := range badLabels() {
		for _, c := range labelled(l) {
			isPut(t, c, putAs(c))
		}
	}
}

func TestPutOfCatsThatMayNotBe(t *testing.T) {
	for _, l := range badSets() {
		isPut(t, gate(l), putAs(gate(l)))
		for _, lab := range badLabels() {
			c := gate(l)
			c.Label = lab
			isPut(t, c, putAs(c))
		}
	}
}

func TestPutOfDataThatIsTooLong(t *testing.T) {
	for _, size := range []int{65536, 65537, 70000} {
		for _, c := range filling(filled(1, size)) {
			isPut(t, c, putAs(c))
		}
	}
}

// Fields that an Op or a Kind does not name are neither asked nor written.
func TestPutOfFieldsThatAreNotNamed(t *testing.T) {
	for _, c := range some() {
		for _, x := range litters(c) {
			isPut(t, x, said(c))
			isTaken(t, abi1.Put(x), c)
			if !same(owned(x), owned(c)) {
				t.Fatalf("%s is littered where it is named", brief(c))
			}
		}
	}
}

func TestPutOfNothing(t *testing.T) {
	isPut(t, api.Call{}, []byte{0})
	isPut(t, api.Call{Op: api.CallNew}, append([]byte{3, 0}, append(eight(0), lcode.Put(nil, api.Label{})...)...))
	isPut(t, api.Call{Op: api.CallLabel}, append([]byte{2}, lcode.Put(nil, api.Label{})...))
}

// R1, R4

// chance answers numbers that look like chance, and are the same each time.
type chance uint64

func (c *chance) next() uint64 {
	*c = *c*6364136223846793005 + 1442695040888963407
	return uint64(*c)
}

func (c *chance) below(n int) int {
	high, _ := bits.Mul64(c.next(), uint64(n))
	return int(high)
}

// mostly answers a number below n, at times one below far.
func (c *chance) mostly(n, far int) int {
	if c.below(12) == 0 {
		return c.below(far)
	}
	return c.below(n)
}

// bytes answers so many bytes of whatever kind.
func (c *chance) bytes(size int) []byte {
	out := make([]byte, size)
	for i := range out {
		out[i] = byte(c.next() >> 40)
	}
	return out
}

// set answers a set, or what is nearly one.
func (c *chance) set() []uint16 {
	var out []uint16
	cat := c.below(4000)
	for range c.mostly(17, 20) {
		out = append(out, uint16(cat))
		cat += 1 + c.below(3000)
		if c.below(60) == 0 {
			cat -= 2000
		}
	}
	return out
}

// label answers a label, or what is nearly one.
func (c *chance) label() api.Label {
	l := api.Label{Default: uint8(1 + c.mostly(4, 6))}
	for _, cat := range c.set() {
		lev := uint8((int(l.Default) + 1 + c.below(4)) % 5)
		if c.below(40) == 0 {
			lev = uint8(c.below(7))
		}
		l.Pairs = append(l.Pairs, api.Pair{Cat: cat, Level: lev})
	}
	return l
}

// number answers one that two bytes say, at times any.
func (c *chance) number() int {
	if c.below(12) == 0 {
		return int(c.next()) >> c.below(64)
	}
	return c.below(1 << 16)
}

// call answers a call of any Op and Kind, or what is nearly one, with whatever in all of its fields.
func (c *chance) call() api.Call {
	x := api.Call{Op: 1 + c.mostly(13, 400) - c.mostly(1, 200), Kind: 1 + c.mostly(4, 600) - c.mostly(1, 300)}
	x.ID, x.To, x.Off, x.N = c.next()>>c.below(64), c.next()>>c.below(64), c.number(), c.number()
	x.Label, x.Cats, x.Data = c.label(), c.set(), c.bytes(c.mostly(70, 400))
	x.Sets = api.Sets{S: c.set(), I: c.set(), O: c.set()}
	return x
}

// fits tells whether two bytes say v.
func fits(v int) bool { return 0 <= v && v <= 65535 }

// fitting tells whether what is put of c is taken as c, but for fields that are not named.
func fitting(c api.Call) bool {
	switch c.Op {
	case 2:
		return mayLabel(c.Label)
	case 3:
		own := c.Kind != 1 || fits(c.N)
		return own && (c.Kind != 3 || maySet(c.Cats)) && 0 <= c.Kind && c.Kind <= 255 && mayLabel(c.Label)
	case 4:
		return fits(c.Off) && fits(c.N)
	case 5:
		return fits(c.Off)
	case 10:
		return fits(c.N)
	}
	return 1 <= c.Op && c.Op <= 13
}

// reader reads a text from its front, and tells the first error that it met.
type reader struct {
	b []byte
	e api.Errno
}

// many answers the next so many bytes.
func (r *reader) many(size int) []byte {
	if r.e == api.OK && len(r.b) < size {
		r.e = api.ErrShort
	}
	if r.e != api.OK {
		return nil
	}
	out := r.b[:size]
	r.b = r.b[size:]
	return out
}

func (r *reader) number(width int) int {
	v := 0
	for _, x := range r.many(width) {
		v = v<<8 | int(x)
	}
	return v
}

func (r *reader) name() uint64 { return uint64(r.number(4))<<32 | uint64(r.number(4)) }

func (r *reader) data() []byte { return r.many(r.number(2)) }

// ask makes ErrForm of what may not be, once it is all there.
func (r *reader) ask(ok bool) {
	if r.e == api.OK && !ok {
		r.e = api.ErrForm
	}
}

func (r *reader) label() (l api.Label) {
	l.Default = uint8(r.number(1))
	for range r.number(1) {
		l.Pairs = append(l.Pairs, api.Pair{Cat: uint16(r.number(2)), Level: uint8(r.number(1))})
	}
	r.ask(mayLabel(l))
	return l
}

func (r *reader) set() (l []uint16) {
	for range r.number(1) {
		l = append(l, uint16(r.number(2)))
	}
	r.ask(maySet(l))
	return l
}

// anew reads what stands behind the Op of CallNew.
func (r *reader) anew(c *api.Call) {
	c.Kind, c.ID, c.Label = r.number(1), r.name(), r.label()
	switch c.Kind {
	case 1:
		c.N = r.number(2)
	case 2:
		c.Data = r.data()
	case 3:
		c.Cats = r.set()
	}
}

// read says of whatever bytes what P20.1 says of them.
func read(b []byte) (api.Call, api.Errno) {
	r := reader{b: b}
	c := api.Call{Op: r.number(1)}
	r.ask(1 <= c.Op && c.Op <= 13)
	switch c.Op {
	case 2:
		c.Label = r.label()
	case 3:
		r.anew(&c)
	case 4:
		c.ID, c.Off, c.N = r.name(), r.number(2), r.number(2)
	case 5:
		c.ID, c.Off, c.Data = r.name(), r.number(2), r.data()
	case 6, 7, 9, 11:
		c.ID = r.name()
	case 8:
		c.ID, c.Data = r.name(), r.data()
	case 10:
		c.ID, c.To, c.N = r.name(), r.name(), r.number(2)
	}
	r.ask(len(r.b) == 0)
	if r.e != api.OK {
		return api.Call{}, r.e
	}
	return c, api.OK
}

// holdTake asks that Take of b tells what P20.1 says, and that Put of it is b.
func holdTake(t *testing.T, b []byte) (good bool) {
	t.Helper()
	c, e := read(b)
	if e != api.OK {
		isNo(t, b, e)
		return false
	}
	isTaken(t, b, c)
	isPut(t, c, b)
	return true
}

func TestTakeOfEveryTextOfTwoBytes(t *testing.T) {
	for v := range 1 << 16 {
		holdTake(t, two(v))
		holdTake(t, append(two(v), 0))
		holdTake(t, append([]byte{2}, two(v)...))
	}
}

func TestTakeOfWhateverBytes(t *testing.T) {
	c := chance(1)
	for size := 1; size < 120; size++ {
		for range 10 {
			b := c.bytes(size)
			for op := range 256 {
				b[0] = byte(op)
				holdTake(t, b)
			}
			for op := 1; op <= 13; op++ {
				b[0] = byte(op)
				for cut := range b {
					holdTake(t, b[:cut])
				}
			}
		}
	}
}

// Small values of bytes behind a good head, so that many texts are calls, or miss being one by little.
func TestTakeOfEveryShortTextOfFewValues(t *testing.T) {
	good := 0
	heads := [][]byte{{2}, append([]byte{4}, eight(67)...), append([]byte{5}, eight(67)...), append([]byte{8}, eight(67)...), append([]byte{10}, eight(67)...)}
	for kind := range 6 {
		heads = append(heads, append([]byte{3, byte(kind)}, eight(67)...))
	}
	for _, head := range heads {
		for size := range 9 {
			for n := range 1 << (2 * size) {
				b := bytes.Clone(head)
				for range size {
					b = append(b, byte(n%4))
					n /= 4
				}
				if holdTake(t, b) {
					good++
				}
			}
		}
	}
	if good < 500 {
		t.Errorf("only %d were good", good)
	}
}

func TestTakeOfTextsWithOneByteTurned(t *testing.T) {
	for _, c := range some() {
		b := said(c)
		for at := range b {
			was := b[at]
			for v := range 256 {
				b[at] = byte(v)
				holdTake(t, b)
			}
			b[at] = was
		}
	}
}

func TestTakeOfTextsWithBytesTakenOutAndPutIn(t *testing.T) {
	for _, c := range some() {
		b := said(c)
		for at := range b[:min(len(b), 80)] {
			for n := 1; n <= 4 && at+n <= len(b); n++ {
				holdTake(t, slices.Delete(bytes.Clone(b), at, at+n))
			}
			for _, v := range []byte{0, 1, 2, 3, 4, 5, 13, 14, 16, 17, 255} {
				holdTake(t, slices.Insert(bytes.Clone(b), at, v))
				holdTake(t, slices.Insert(bytes.Clone(b), at, v, v))
			}
		}
	}
}

func TestCallsDrawn(t *testing.T) {
	c := chance(3)
	good := 0
	for range 60000 {
		x := c.call()
		isPut(t, x, putAs(x))
		if !fitting(x) {
			holdTake(t, abi1.Put(x))
			holdTake(t, said(x))
			continue
		}
		good++
		isPut(t, x, said(x))
		isPut(t, owned(x), said(x))
		isTaken(t, said(x), owned(x))
		b := said(x)
		isNo(t, b[:c.below(len(b))], api.ErrShort)
		isNo(t, append(slices.Clip(b), c.bytes(1+c.below(40))...), api.ErrForm)
		for range 4 {
			b[c.below(len(b))] = byte(c.mostly(6, 256))
			holdTake(t, b)
			holdTake(t, b[:c.below(len(b))])
		}
	}
	if good < 20000 || good > 55000 {
		t.Errorf("%d of 60000 were good", good)
	}
}

func TestToldTheSameEachTime(t *testing.T) {
	for _, c := range some() {
		for _, x := range append(litters(c), c) {
			if !bytes.Equal(abi1.Put(x), abi1.Put(x)) {
				t.Errorf("Put of %s: told two things", brief(x))
			}
		}
		b := append(said(c), 0)
		for cut := range len(b) + 1 {
			first, e := abi1.Take(b[:cut])
			again, no := abi1.Take(b[:cut])
			if !same(first, again) || e != no {
				t.Errorf("Take of %v: told two things", b[:cut])
			}
		}
	}
}

// R3

// roomy answers list with spare room behind it, all of it filled, so that a write into it shows.
func roomy[T any](list []T, spare int, fill T) []T {
	all := append(slices.Clone(list), slices.Repeat([]T{fill}, spare)...)
	return all[:len(list):len(all)]
}

// roomyCall answers c with spare room behind each of its lists.
func roomyCall(c api.Call, spare int) api.Call {
	c.Label.Pairs = roomy(c.Label.Pairs, spare, api.Pair{Cat: 0xa5a5, Level: 0xa5})
	c.Sets = api.Sets{S: roomy(c.Sets.S, spare, 0xa5a5), I: roomy(c.Sets.I, spare, 0xa5a5), O: roomy(c.Sets.O, spare, 0xa5a5)}
	c.Data, c.Cats = roomy(c.Data, spare, 0xa5), roomy(c.Cats, spare, 0xa5a5)
	return c
}

// lists calls with each list that c has, spare room and all.
func lists(c api.Call, pairs func(l []api.Pair), small func(l []byte), great func(l []uint16)) {
	pairs(c.Label.Pairs[:cap(c.Label.Pairs)])
	small(c.Data[:cap(c.Data)])
	for _, l := range [][]uint16{c.Sets.S, c.Sets.I, c.Sets.O, c.Cats} {
		great(l[:cap(l)])
	}
}

// whole answers all that c has, spare room and all, as a text.
func whole(c api.Call) string {
	out := fmt.Sprint(c.Op, c.Kind, c.ID, c.To, c.Off, c.N, c.Label.Default)
	lists(c, func(l []api.Pair) { out += fmt.Sprint(l) }, func(l []byte) { out += fmt.Sprintf(" %x", l) }, func(l []uint16) { out += fmt.Sprint(l) })
	return out
}

// spoil overwrites all lists of c, and their spare room.
func spoil(c api.Call) {
	lists(c, func(l []api.Pair) {
		for i := range l {
			l[i] = api.Pair{Cat: ^l[i].Cat, Level: ^l[i].Level}
		}
	}, scribble[byte], scribble[uint16])
}

// scribble overwrites list and its spare room.
func scribble[T byte | uint16](list []T) {
	list = list[:cap(list)]
	for i := range list {
		list[i] = ^list[i]
	}
}

// memoryCalls answers calls for which it is looked at what memory is theirs: such as may be, and others.
func memoryCalls() []api.Call {
	var out []api.Call
	for _, c := range some() {
		out = append(append(out, c), litters(c)[:1]...)
	}
	return append(out, api.Call{}, api.Call{Op: 300, Data: []byte("hi"), Cats: []uint16{1}}, gate([]uint16{3, 3}), gate(count(0, 1, 17)), anew(4, 5, levels(api.L1, 5, api.L3, 3, api.L3)), box(-1))
}

func TestPutNeitherChangesNorKeeps(t *testing.T) {
	for _, c := range memoryCalls() {
		for _, spare := range []int{0, 1, 5, 90} {
			in := roomyCall(c, spare)
			was := whole(in)
			got := abi1.Put(in)
			told := bytes.Clone(got)
			if whole(in) != was {
				t.Fatalf("%s, spare %d: changed", brief(c), spare)
			}
			scribble(got)
			if whole(in) != was {
				t.Fatalf("%s, spare %d: what is told shares memory", brief(c), spare)
			}
			scribble(got)
			spoil(in)
			if !bytes.Equal(got, told) {
				t.Fatalf("%s, spare %d: what is told hangs on what was handed in", brief(c), spare)
			}
		}
	}
}

func TestTakeNeitherChangesNorKeeps(t *testing.T) {
	for _, c := range memoryCalls() {
		for _, more := range [][]byte{nil, {7}} {
			for _, spare := range []int{0, 1, 5, 90} {
				b := roomy(append(said(c), more...), spare, 0xa5)
				was := bytes.Clone(b[:cap(b)])
				got, _ := abi1.Take(b)
				told := whole(got)
				if !bytes.Equal(b[:cap(b)], was) {
					t.Fatalf("%s, spare %d: changed", brief(c), spare)
				}
				scribble(b)
				if whole(got) != told {
					t.Fatalf("%s, spare %d: what is told hangs on what was handed in", brief(c), spare)
				}
				scribble(b)
				spoil(got)
				if !bytes.Equal(b[:cap(b)], was) {
					t.Fatalf("%s, spare %d: what is told shares memory", brief(c), spare)
				}
			}
		}
	}
}

func TestTellsNewMemoryEachTime(t *testing.T) {
	for _, c := range some() {
		b := said(c)
		first, _ := abi1.Take(b)
		second, _ := abi1.Take(b)
		spoil(first)
		third, _ := abi1.Take(b)
		if !same(second, c) || !same(third, c) {
			t.Errorf("Take of %s: an answer is another one", brief(c))
		}
		put, again := abi1.Put(c), abi1.Put(c)
		scribble(put)
		if !bytes.Equal(again, b) || !bytes.Equal(abi1.Put(c), b) {
			t.Errorf("Put of %s: an answer is another one", brief(c))
		}
	}
}

// No two lists of one answer share memory, their spare room neither.
func TestTakeTellsListsOfTheirOwn(t *testing.T) {
	for _, c := range some() {
		got, _ := abi1.Take(said(c))
		scribble(got.Data)
		scribble(got.Cats)
		if !slices.Equal(got.Label.Pairs, c.Label.Pairs) {
			t.Errorf("%s: its label shares memory", brief(c))
		}
	}
}

func TestNilAndEmptyAreOne(t *testing.T) {
	for _, c := range some() {
		x := c
		x.Label.Pairs = append([]api.Pair{}, x.Label.Pairs...)
		x.Sets = api.Sets{S: []uint16{}, I: []uint16{}, O: []uint16{}}
		x.Data, x.Cats = append([]byte{}, x.Data...), append([]uint16{}, x.Cats...)
		isPut(t, x, said(c))
	}
}

func TestWhatWasToldStaysAsItWasTold(t *testing.T) {
	for _, c := range []api.Call{seg(filled(1, 40)), gate(count(1, 5, 9))} {
		put := abi1.Put(c)
		taken, _ := abi1.Take(put)
		for _, other := range memoryCalls() {
			abi1.Take(abi1.Put(other))
		}
		if !bytes.Equal(put, said(c)) || !same(taken, c) {
			t.Errorf("an earlier answer was changed: %v, %s", put, brief(taken))
		}
	}
}

// What the tests say of labels and sets is what their own layers say.
func TestPartsOfTheTests(t *testing.T) {
	for _, l := range append(labels(), badLabels()...) {
		if mayLabel(l) != label.May(l) {
			t.Errorf("%v: whether it may be", l)
		}
	}
	for _, l := range append(sets(), badSets()...) {
		if maySet(l) != cats.May(l) {
			t.Errorf("%v: whether it may be", l)
		}
	}
}
