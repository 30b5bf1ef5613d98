package ring_test

import (
	"bytes"
	"fmt"
	"math/bits"
	"slices"
	"testing"

	"transom/api"
	"transom/num"
	"transom/ring"
)

// words answers a letter of each text.
func words(l ...string) [][]byte {
	var out [][]byte
	for _, s := range l {
		out = append(out, []byte(s))
	}
	return out
}

// same tells whether the lists have the same letters; nil and an empty letter are one.
func same(a, b [][]byte) bool { return slices.EqualFunc(a, b, bytes.Equal) }

// letter answers so many bytes that differ from their neighbours, and from those of a letter at another place.
func letter(place, size int) []byte {
	out := make([]byte, size)
	for i := range out {
		out[i] = byte(place*61 + i*7 + i/256 + 1)
	}
	return out
}

// sized answers a letter of each length.
func sized(sizes ...int) [][]byte {
	var out [][]byte
	for i, size := range sizes {
		out = append(out, letter(i, size))
	}
	return out
}

// many answers n letters of one length.
func many(n, size int) [][]byte { return sized(slices.Repeat([]int{size}, n)...) }

// lengths answers every length that a letter may have.
func lengths() []int {
	var out []int
	for size := range api.MaxLetter + 1 {
		out = append(out, size)
	}
	return out
}

// edges answers lengths at the ends of what a letter may have.
func edges() []int { return []int{0, 1, 2, api.MaxLetter - 1, api.MaxLetter} }

// tooLong answers lengths that no letter may have, such as come round to one that it may among them.
func tooLong() []int {
	var out []int
	for size := api.MaxLetter + 1; size < 600; size++ {
		out = append(out, size)
	}
	return append(out, 1<<12, 1<<15, 1<<15+3, 65534, 65535, 65536, 65537, 65536+api.MaxLetter, 65536+api.MaxLetter+1, 1<<17)
}

// tooMany answers numbers of letters that no list may have, such as come round to one that it may among them.
func tooMany() []int {
	var out []int
	for n := api.MaxRing + 1; n < 300; n++ {
		out = append(out, n)
	}
	return append(out, 511, 512, 516, 1<<12, 65535, 65536, 65536+api.MaxRing, 65536+api.MaxRing+1)
}

// eachList calls try with every list of none to so many letters of these lengths.
func eachList(most int, sizes []int, try func(l [][]byte)) {
	var from func(l [][]byte)
	from = func(l [][]byte) {
		try(l)
		if len(l) == most {
			return
		}
		for _, size := range sizes {
			from(append(slices.Clip(l), letter(len(l), size)))
		}
	}
	from(nil)
}

// mayBe says by counting what P16.1 says of a list.
func mayBe(l [][]byte) bool {
	left := 4
	for _, b := range l {
		left--
		if left < 0 || len(b) >= 17 {
			return false
		}
	}
	return true
}

// said answers the bytes of a list as P16.2 says them, also of a list that Put need not take.
func said(l [][]byte) []byte {
	out := []byte{byte(len(l))}
	for _, b := range l {
		out = append(out, byte(len(b)/256), byte(len(b)%256))
		out = append(out, b...)
	}
	return out
}

// brief answers a list as a text that is not too long to read.
func brief(l [][]byte) string {
	if mayBe(l) {
		return fmt.Sprint(l)
	}
	var sizes []int
	for _, b := range l[:min(len(l), 9)] {
		sizes = append(sizes, len(b))
	}
	return fmt.Sprint(len(l), " letters of lengths ", sizes)
}

// P16.1 May

// isMay asks what May tells of the list.
func isMay(t *testing.T, l [][]byte, want bool) {
	t.Helper()
	if got := ring.May(l); got != want {
		t.Errorf("May of %s: %v", brief(l), got)
	}
}

func TestMayOfNoLetters(t *testing.T) {
	isMay(t, nil, true)
	isMay(t, [][]byte{}, true)
	isMay(t, many(9, 99)[:0], true)
}

func TestMayOfListsWrittenOut(t *testing.T) {
	for _, l := range [][][]byte{
		{nil}, {{}}, {nil, nil, nil, nil}, {{}, {}, {}, {}}, words("a"), words("a", ""), words("", "a"), words("1", "2", "3", "4"),
		words("abcdefghijklmnop"), words("", "", "", "abcdefghijklmnop"), many(4, 16),
	} {
		isMay(t, l, true)
	}
	for _, l := range [][][]byte{
		{nil, nil, nil, nil, nil}, words("1", "2", "3", "4", "5"), words("abcdefghijklmnopq"), words("", "abcdefghijklmnopq"), many(5, 16), many(4, 17), many(5, 17),
	} {
		isMay(t, l, false)
	}
}

func TestMayOfAtMostMaxRingLetters(t *testing.T) {
	for n := range 3 * api.MaxRing {
		isMay(t, make([][]byte, n), n <= 4)
		for _, size := range lengths() {
			isMay(t, many(n, size), n <= 4)
		}
	}
	for _, n := range tooMany() {
		isMay(t, make([][]byte, n), false)
		isMay(t, many(n, 1), false)
	}
}

func TestMayOfEveryLengthAtEachPlace(t *testing.T) {
	for n := 1; n <= api.MaxRing; n++ {
		for at := range n {
			for _, other := range edges() {
				l := many(n, other)
				for _, size := range lengths() {
					l[at] = letter(at, size)
					isMay(t, l, true)
				}
				for _, size := range tooLong() {
					l[at] = make([]byte, size)
					isMay(t, l, false)
				}
			}
		}
	}
}

func TestMayOfEveryListAroundTheEdges(t *testing.T) {
	eachList(api.MaxRing+2, []int{0, 1, 16, 17}, func(l [][]byte) { isMay(t, l, mayBe(l)) })
}

func TestMayDoesNotLookAtRoom(t *testing.T) {
	l := many(99, 999)
	for i := range l {
		l[i] = l[i][:16]
	}
	isMay(t, l[:4], true)
	isMay(t, l[:5], false)
}

// P16.1 Push

// isPushed asks that Push of b answers the letters and b behind them.
func isPushed(t *testing.T, l [][]byte, b []byte) {
	t.Helper()
	want := append(slices.Clip(l), b)
	if got, e := ring.Push(l, b); !same(got, want) || e != api.OK {
		t.Fatalf("Push(%s, %v): %s, %d", brief(l), b, brief(got), e)
	}
}

// isRefused asks that Push tells the error alone.
func isRefused(t *testing.T, l [][]byte, b []byte, want api.Errno) {
	t.Helper()
	if got, e := ring.Push(l, b); len(got) != 0 || e != want {
		t.Fatalf("Push of %d bytes to %s: %s, %d, want nothing, %d", len(b), brief(l), brief(got), e, want)
	}
}

func TestPushToFourIsErrFull(t *testing.T) {
	isRefused(t, words("1", "2", "3", "4"), []byte("5"), api.ErrFull)
}

func TestPushesWrittenOut(t *testing.T) {
	for _, x := range []struct {
		l    [][]byte
		b    string
		want [][]byte
	}{
		{nil, "", words("")},
		{nil, "a", words("a")},
		{[][]byte{}, "abcdefghijklmnop", words("abcdefghijklmnop")},
		{words("a"), "a", words("a", "a")},
		{words("b"), "a", words("b", "a")},
		{words(""), "", words("", "")},
		{words("a", "b"), "cd", words("a", "b", "cd")},
		{words("c", "", "a"), "b", words("c", "", "a", "b")},
		{words("", "", ""), "", words("", "", "", "")},
	} {
		if got, e := ring.Push(x.l, []byte(x.b)); !same(got, x.want) || e != api.OK {
			t.Errorf("Push(%q, %q): %q, %d", x.l, x.b, got, e)
		}
	}
}

func TestPushOfEveryLetterToEveryList(t *testing.T) {
	eachList(api.MaxRing-1, lengths(), func(l [][]byte) {
		isPushed(t, l, nil)
		for _, size := range lengths() {
			isPushed(t, l, letter(9, size))
		}
	})
}

func TestPushOfALetterThatIsThereAlready(t *testing.T) {
	eachList(api.MaxRing-1, edges(), func(l [][]byte) {
		for _, b := range l {
			isPushed(t, l, b)
		}
	})
}

func TestPushOfALetterThatIsTooLongIsErrLong(t *testing.T) {
	eachList(api.MaxRing-1, []int{0, 1, 16}, func(l [][]byte) {
		for _, size := range tooLong() {
			isRefused(t, l, make([]byte, size), api.ErrLong)
		}
	})
}

func TestPushToMaxRingLettersIsErrFull(t *testing.T) {
	eachList(api.MaxRing, edges(), func(l [][]byte) {
		if len(l) < api.MaxRing {
			return
		}
		isRefused(t, l, nil, api.ErrFull)
		for _, size := range lengths() {
			isRefused(t, l, letter(9, size), api.ErrFull)
		}
	})
}

func TestPushToMoreThanMaxRingLettersIsErrFull(t *testing.T) {
	for _, n := range tooMany() {
		for _, l := range [][][]byte{make([][]byte, n), many(n, 1)} {
			isRefused(t, l, nil, api.ErrFull)
			isRefused(t, l, letter(9, 1), api.ErrFull)
			isRefused(t, l, letter(9, api.MaxLetter), api.ErrFull)
		}
	}
}

func TestPushTellsErrLongAheadOfErrFull(t *testing.T) {
	for _, n := range append([]int{api.MaxRing}, tooMany()...) {
		l := many(n, 1)
		for _, size := range []int{17, 18, 256, 272, 65535, 65536} {
			isRefused(t, l, make([]byte, size), api.ErrLong)
		}
	}
	for _, size := range tooLong() {
		isRefused(t, many(4, 16), make([]byte, size), api.ErrLong)
	}
}

func TestPushDoesNotLookAtRoom(t *testing.T) {
	b := letter(9, 999)[:16]
	isPushed(t, many(99, 3)[:3], b)
	isPushed(t, many(99, 3)[:0], b)
	isRefused(t, many(99, 3)[:4], b, api.ErrFull)
}

// P16.1 Pop

// isPopped asks that Pop answers the first letter and the others.
func isPopped(t *testing.T, l [][]byte) {
	t.Helper()
	if b, rest, is := ring.Pop(l); !bytes.Equal(b, l[0]) || !same(rest, l[1:]) || !is {
		t.Fatalf("Pop(%s): %v, %s, %v", brief(l), b, brief(rest), is)
	}
}

func TestPopOfNoneIsNo(t *testing.T) {
	for _, l := range [][][]byte{nil, {}, many(4, 3)[:0], many(1, 16)[1:]} {
		if b, rest, is := ring.Pop(l); len(b) != 0 || len(rest) != 0 || is {
			t.Errorf("Pop of none: %v, %v, %v", b, rest, is)
		}
	}
}

func TestPopsWrittenOut(t *testing.T) {
	for _, x := range []struct {
		l    [][]byte
		b    string
		rest [][]byte
	}{
		{words("a"), "a", nil},
		{words(""), "", nil},
		{[][]byte{nil}, "", nil},
		{words("a", "b", "cd"), "a", words("b", "cd")},
		{words("cd", "b", "a"), "cd", words("b", "a")},
		{words("", "a"), "", words("a")},
		{words("a", ""), "a", words("")},
		{words("", "", "", ""), "", words("", "", "")},
		{words("a", "a", "a", "a"), "a", words("a", "a", "a")},
		{words("abcdefghijklmnop", "2", "3", "4"), "abcdefghijklmnop", words("2", "3", "4")},
	} {
		if b, rest, is := ring.Pop(x.l); string(b) != x.b || !same(rest, x.rest) || !is {
			t.Errorf("Pop(%q): %q, %q, %v", x.l, b, rest, is)
		}
	}
}

func TestPopOfEveryList(t *testing.T) {
	eachList(api.MaxRing, lengths(), func(l [][]byte) {
		if len(l) > 0 {
			isPopped(t, l)
		}
	})
}

func TestPopOfMoreThanMaxRingLetters(t *testing.T) {
	for _, n := range tooMany() {
		isPopped(t, many(n, 2))
		isPopped(t, make([][]byte, n))
	}
}

func TestPopTakesWhatPushPutFirst(t *testing.T) {
	eachList(api.MaxRing, edges(), func(want [][]byte) {
		var l [][]byte
		for _, b := range want {
			l, _ = ring.Push(l, b)
		}
		for i := range want {
			b, rest, is := ring.Pop(l)
			if !bytes.Equal(b, want[i]) || !is {
				t.Fatalf("%v: letter %d: %v, %v", want, i, b, is)
			}
			l = rest
		}
		if _, _, is := ring.Pop(l); is {
			t.Fatalf("%v: one more", want)
		}
	})
}

// P16.2 Put

// isPut asks that Put answers b, and behind it what the promise says of the list.
func isPut(t *testing.T, b []byte, l [][]byte) {
	t.Helper()
	want := append(bytes.Clone(b), said(l)...)
	if got := ring.Put(b, l); !bytes.Equal(got, want) {
		t.Fatalf("Put of %v behind %v: %v, want %v", l, b, got, want)
	}
}

func TestPutsWrittenOut(t *testing.T) {
	for _, x := range []struct {
		b    []byte
		l    [][]byte
		want []byte
	}{
		{nil, nil, []byte{0}},
		{[]byte{}, [][]byte{}, []byte{0}},
		{[]byte{7}, nil, []byte{7, 0}},
		{[]byte{0, 0}, nil, []byte{0, 0, 0}},
		{nil, [][]byte{nil}, []byte{1, 0, 0}},
		{nil, words(""), []byte{1, 0, 0}},
		{nil, words("a"), []byte{1, 0, 1, 'a'}},
		{[]byte{9}, words("ab", ""), []byte{9, 2, 0, 2, 'a', 'b', 0, 0}},
		{[]byte{9}, words("", "ab"), []byte{9, 2, 0, 0, 0, 2, 'a', 'b'}},
		{nil, [][]byte{{0}, {255, 0}, {1, 2, 3}}, []byte{3, 0, 1, 0, 0, 2, 255, 0, 0, 3, 1, 2, 3}},
		{[]byte{1, 2, 3}, words("", "", "", ""), []byte{1, 2, 3, 4, 0, 0, 0, 0, 0, 0, 0, 0}},
		{nil, words("abcdefghijklmnop"), append([]byte{1, 0, 16}, "abcdefghijklmnop"...)},
	} {
		if got := ring.Put(x.b, x.l); !bytes.Equal(got, x.want) {
			t.Errorf("Put(%v, %q): %v, want %v", x.b, x.l, got, x.want)
		}
	}
}

// fronts answers bytes to stand behind, such as look like a list's among them, and such as have room that a list fits in.
func fronts() [][]byte {
	return [][]byte{nil, {}, {0}, {9}, {1, 0, 0}, {4, 0, 2}, {255, 255, 255}, letter(7, 300), roomy(letter(7, 0), 0xa5)[:0], roomy(letter(7, 5), 0xa5)}
}

func TestPutOfEveryList(t *testing.T) {
	eachList(api.MaxRing, lengths(), func(l [][]byte) { isPut(t, []byte{5, 6}, l) })
}

func TestPutBehindWhateverBytes(t *testing.T) {
	eachList(api.MaxRing, edges(), func(l [][]byte) {
		for _, b := range fronts() {
			isPut(t, b, l)
		}
	})
}

func TestPutLaysEachLetterAsNumDoes(t *testing.T) {
	eachList(api.MaxRing, edges(), func(l [][]byte) {
		want := num.Put([]byte{3}, uint64(len(l)), 1)
		for _, b := range l {
			want = num.PutBytes(want, b)
		}
		if got := ring.Put([]byte{3}, l); !bytes.Equal(got, want) {
			t.Fatalf("Put of %v: %v, want %v", l, got, want)
		}
	})
}

func TestEachListHasOneText(t *testing.T) {
	texts := map[string][][]byte{}
	eachList(api.MaxRing, lengths(), func(l [][]byte) {
		text := string(ring.Put(nil, l))
		if other, found := texts[text]; found {
			t.Fatalf("%v and %v: one text", l, other)
		}
		texts[text] = l
	})
}

// badLists answers lists that may not be: too many, too long at each place, and both.
func badLists() [][][]byte {
	var out [][][]byte
	for n := api.MaxRing + 1; n <= 255; n++ {
		out = append(out, make([][]byte, n), many(n, 1+n%api.MaxLetter), many(n, 17+n%5))
	}
	for n := 1; n <= api.MaxRing; n++ {
		for at := range n {
			for _, size := range []int{17, 18, 32, 255, 256, 257, 272, 300, 4096, 65535} {
				l := many(n, at)
				l[at] = letter(at, size)
				out = append(out, l)
			}
		}
	}
	return out
}

// The document promises nothing of such a list but that the call ends; it must not leave bytes that are read as a list.
func TestPutOfListsThatMayNotBeTellsTheBytesAlone(t *testing.T) {
	every := append(badLists(), many(1, 65536), many(1, 65537), many(1, 65552), many(256, 1), many(260, 1), make([][]byte, 65536))
	for _, l := range every {
		for _, b := range fronts() {
			if got := ring.Put(b, l); !bytes.Equal(got, b) {
				t.Fatalf("Put of %s behind %v: %d bytes", brief(l), b, len(got))
			}
		}
	}
}

// P16.2 Take

// isTaken asks that Take of b tells the list, from so many bytes.
func isTaken(t *testing.T, b []byte, l [][]byte, size int) {
	t.Helper()
	if got, n, e := ring.Take(b); !same(got, l) || n != size || e != api.OK {
		t.Fatalf("Take(%v): %s, read %d, error %d, want %v, read %d", b, brief(got), n, e, l, size)
	}
}

// isNo asks that Take of b tells the error alone.
func isNo(t *testing.T, b []byte, want api.Errno) {
	t.Helper()
	if l, n, e := ring.Take(b); len(l) != 0 || n != 0 || e != want {
		t.Fatalf("Take of %d bytes that begin %v: %s, read %d, error %d, want %d", len(b), b[:min(len(b), 24)], brief(l), n, e, want)
	}
}

func TestTakesWrittenOut(t *testing.T) {
	isTaken(t, []byte{0}, nil, 1)
	isTaken(t, []byte{0, 1, 2, 3}, nil, 1)
	isTaken(t, []byte{1, 0, 0}, words(""), 3)
	isTaken(t, []byte{1, 0, 0, 0, 9}, words(""), 3)
	isTaken(t, []byte{1, 0, 1, 'a'}, words("a"), 4)
	isTaken(t, []byte{2, 0, 2, 'a', 'b', 0, 0, 1}, words("ab", ""), 7)
	isTaken(t, []byte{2, 0, 0, 0, 2, 'a', 'b'}, words("", "ab"), 7)
	isTaken(t, []byte{3, 0, 1, 0, 0, 2, 255, 0, 0, 3, 1, 2, 3, 4}, [][]byte{{0}, {255, 0}, {1, 2, 3}}, 13)
	isTaken(t, []byte{4, 0, 0, 0, 0, 0, 0, 0, 0}, words("", "", "", ""), 9)
	isTaken(t, append([]byte{1, 0, 16}, "abcdefghijklmnopq"...), words("abcdefghijklmnop"), 19)
}

// room answers how many bytes a list takes.
func room(l [][]byte) int {
	n := 1
	for _, b := range l {
		n += 2 + len(b)
	}
	return n
}

func TestTakeReadsWhatPutWrote(t *testing.T) {
	eachList(api.MaxRing, lengths(), func(l [][]byte) {
		b := ring.Put([]byte{3, 4}, l)
		isTaken(t, b[2:], l, len(b)-2)
		isTaken(t, append(b, 0, 77)[2:], l, room(l))
	})
}

func TestTakeDoesNotReadWhatIsBehind(t *testing.T) {
	eachList(api.MaxRing, edges(), func(l [][]byte) {
		for _, more := range [][]byte{nil, {0}, {77}, {0, 0}, {0, 1, 'a'}, {255, 255, 255, 255}, letter(7, 300)} {
			isTaken(t, append(said(l), more...), l, room(l))
		}
	})
}

func TestTakeReadsListsOneBehindAnother(t *testing.T) {
	var b []byte
	var all [][][]byte
	eachList(api.MaxRing, []int{0, 3, 16}, func(l [][]byte) {
		b = ring.Put(b, l)
		all = append(all, l)
	})
	for _, l := range all {
		isTaken(t, b, l, room(l))
		b = b[room(l):]
	}
	if len(b) != 0 {
		t.Errorf("%d bytes are left", len(b))
	}
}

func TestTakenAndPutAgainIsTheTextThatWasRead(t *testing.T) {
	eachList(api.MaxRing, edges(), func(l [][]byte) {
		b := append(said(l), 2, 0, 1)
		got, n, e := ring.Take(b)
		if again := ring.Put([]byte{6}, got); e != api.OK || !bytes.Equal(again[1:], b[:n]) {
			t.Fatalf("Take(%v), error %d, put again: %v", b, e, again)
		}
	})
}

func TestTakeOfNoBytesIsErrShort(t *testing.T) {
	isNo(t, nil, api.ErrShort)
	isNo(t, []byte{}, api.ErrShort)
	isNo(t, []byte{0, 0, 0}[:0], api.ErrShort)
}

func TestTakeOfBytesCutOffIsErrShort(t *testing.T) {
	eachList(api.MaxRing, []int{0, 1, 2, 7, 15, 16}, func(l [][]byte) {
		// Spare room behind the cut is not the text's.
		b := said(l)
		for cut := range len(b) {
			isNo(t, b[:cut], api.ErrShort)
			isNo(t, slices.Clip(b[:cut]), api.ErrShort)
		}
	})
}

func TestTakeOfALengthThatIsMoreThanThereIsIsErrShort(t *testing.T) {
	eachList(api.MaxRing-1, edges(), func(l [][]byte) {
		head := said(l)
		head[0]++
		for _, size := range []int{1, 2, 16, 17, 255, 256, 257, 65535} {
			b := append(bytes.Clone(head), byte(size/256), byte(size%256))
			isNo(t, b, api.ErrShort)
			isNo(t, append(b, make([]byte, size-1)...), api.ErrShort)
			isNo(t, append(b, make([]byte, size/2)...), api.ErrShort)
		}
	})
}

func TestTakeTellsErrShortAheadOfErrForm(t *testing.T) {
	isNo(t, []byte{5, 0, 0}, api.ErrShort)
	isNo(t, []byte{1, 0, 17}, api.ErrShort)
	isNo(t, []byte{1, 255, 255}, api.ErrShort)
	isNo(t, append([]byte{2, 0, 17}, make([]byte, 17)...), api.ErrShort)
	for n := 1; n <= 255; n++ {
		isNo(t, []byte{byte(n)}, api.ErrShort)
	}
	for _, l := range badLists() {
		b := said(l)
		for cut := 0; cut < len(b); cut += 1 + len(b)/60 {
			isNo(t, b[:cut], api.ErrShort)
		}
		isNo(t, b[:len(b)-1], api.ErrShort)
	}
}

// isForm asks that Take of the list's bytes, alone and with bytes behind, tells ErrForm.
func isForm(t *testing.T, l [][]byte) {
	t.Helper()
	isNo(t, said(l), api.ErrForm)
	isNo(t, append(said(l), 2, 0, 1), api.ErrForm)
}

func TestTakeOfMoreThanMaxRingIsErrForm(t *testing.T) {
	for n := api.MaxRing + 1; n <= 255; n++ {
		isForm(t, make([][]byte, n))
		for _, size := range lengths() {
			isForm(t, many(n, size))
		}
	}
}

func TestTakeOfALetterThatIsTooLongIsErrForm(t *testing.T) {
	for n := 1; n <= api.MaxRing; n++ {
		for at := range n {
			for _, other := range []int{0, 1, 16} {
				l := many(n, other)
				for _, size := range tooLong() {
					if size <= 65535 {
						l[at] = letter(at, size)
						isForm(t, l)
					}
				}
			}
		}
	}
}

func TestTakeOfTooManyAndTooLongIsErrForm(t *testing.T) {
	for _, l := range badLists() {
		isForm(t, l)
	}
	isForm(t, many(255, 65535))
}

// R1, R4

// chance answers numbers that look like chance, and are the same each time.
type chance uint64

func (c *chance) next() uint64 {
	*c = *c*6364136223846793005 + 1442695040888963407
	return uint64(*c)
}

func (c *chance) below(n int) int {
	high, _ := bits.Mul64(c.next(), uint64(n))
	return int(high)
}

// bytes answers so many bytes of whatever kind, or nil of none at times.
func (c *chance) bytes(size int) []byte {
	if size == 0 && c.below(2) == 0 {
		return nil
	}
	out := make([]byte, size)
	for i := range out {
		out[i] = byte(c.next() >> 40)
	}
	return out
}

// size answers the length of a letter: mostly one that may be.
func (c *chance) size() int {
	if c.below(12) == 0 {
		return api.MaxLetter - 1 + c.below(4)
	}
	if c.below(60) == 0 {
		return c.below(700)
	}
	return c.below(api.MaxLetter + 1)
}

// list answers whatever letters: mostly no more than may be.
func (c *chance) list() [][]byte {
	n := c.below(api.MaxRing + 1)
	if c.below(12) == 0 {
		n = c.below(300)
	}
	var out [][]byte
	for range n {
		out = append(out, c.bytes(c.size()))
	}
	return out
}

// read says of whatever bytes what P16.2 says of them.
func read(b []byte) (l [][]byte, n int, e api.Errno) {
	if len(b) == 0 {
		return nil, 0, api.ErrShort
	}
	left := b[1:]
	for i := 0; i < int(b[0]); i++ {
		if len(left) < 2 || len(left)-2 < int(left[0])*256+int(left[1]) {
			return nil, 0, api.ErrShort
		}
		size := int(left[0])*256 + int(left[1])
		l = append(l, left[2:2+size])
		left = left[2+size:]
	}
	if !mayBe(l) {
		return nil, 0, api.ErrForm
	}
	return l, len(b) - len(left), api.OK
}

// holdTake asks that Take of b tells what P16.2 says, and that Put of it is what was read.
func holdTake(t *testing.T, b []byte) {
	t.Helper()
	l, n, e := read(b)
	if e != api.OK {
		isNo(t, b, e)
		return
	}
	isTaken(t, b, l, n)
	if got := ring.Put(nil, l); !bytes.Equal(got, b[:n]) {
		t.Fatalf("Take of %v, put again: %v", b, got)
	}
}

func TestTakeOfWhateverBytes(t *testing.T) {
	c := chance(1)
	for size := range 500 {
		b := c.bytes(size)
		holdTake(t, b)
		for first := range min(size, 1) * 256 {
			b[0] = byte(first)
			holdTake(t, b)
		}
	}
}

func TestTakeOfBytesThatAreNearlyAList(t *testing.T) {
	c := chance(2)
	for range 100000 {
		b := said(c.list())
		switch c.below(4) {
		case 0:
			b = b[:c.below(len(b)+1)]
		case 1:
			b[c.below(len(b))] = byte(c.next() >> 40)
		case 2:
			b = append(b, c.bytes(c.below(20))...)
		}
		holdTake(t, b)
	}
}

func TestTakeOfTextsWithOneByteChanged(t *testing.T) {
	for _, l := range [][][]byte{nil, words(""), words("ab", ""), words("", "abc", "d"), many(4, 3), many(4, 16)} {
		for at := range said(l) {
			for v := range 256 {
				b := append(said(l), 0, 0, 0, 0)
				b[at] = byte(v)
				holdTake(t, b)
			}
		}
	}
}

func TestTakeOfEveryShortText(t *testing.T) {
	for first := range 7 {
		for second := range 3 {
			for third := range 20 {
				for size := range 40 {
					holdTake(t, append([]byte{byte(first), byte(second), byte(third)}, make([]byte, size)...))
				}
			}
		}
	}
}

// told answers all that the calls say of these, as one text.
func told(l [][]byte, b []byte) string {
	pushed, e1 := ring.Push(l, b)
	first, rest, is := ring.Pop(l)
	taken, n, e2 := ring.Take(b)
	return fmt.Sprint(ring.May(l), pushed, e1, first, rest, is, ring.Put(b, l), taken, n, e2)
}

func TestTheSameCallIsToldTheSame(t *testing.T) {
	c := chance(3)
	type call struct {
		l [][]byte
		b []byte
	}
	var all []call
	var first []string
	for range 3000 {
		x := call{c.list(), c.bytes(c.size())}
		if c.below(2) == 0 {
			x.b = said(c.list())
		}
		all = append(all, x)
		first = append(first, told(x.l, x.b))
	}
	// In another order, so that what was asked ahead is another.
	for i := len(all) - 1; i >= 0; i-- {
		if got := told(all[i].l, all[i].b); got != first[i] {
			t.Fatalf("%s and %v: %s, ahead of it %s", brief(all[i].l), all[i].b, got, first[i])
		}
	}
}

// What the calls make of letters that may not be is not promised, but for what stands beside an error.
func TestCallsOfWhateverListsEnd(t *testing.T) {
	c := chance(4)
	for range 30000 {
		l, b := c.list(), c.bytes(c.size())
		if got := ring.May(l); got != mayBe(l) {
			t.Fatalf("May of %s: %v", brief(l), got)
		}
		if got, e := ring.Push(l, b); e != api.OK && len(got) != 0 {
			t.Fatalf("Push of %d bytes to %s: %s beside %d", len(b), brief(l), brief(got), e)
		}
		ring.Pop(l)
		ring.Put(b, l)
	}
	for _, l := range badLists() {
		told(l, letter(9, 3))
		told(l, letter(9, 30))
	}
}

// R3

// roomy answers l with spare room behind it, all of it filled, so that a write into it shows.
func roomy[T any](l []T, fill T) []T {
	whole := append(slices.Clone(l), slices.Repeat([]T{fill}, 20)...)
	return whole[:len(l)]
}

// roomyList answers the letters with spare room behind each, and behind them all.
func roomyList(l [][]byte) [][]byte {
	out := roomy(l, roomy([]byte{0xa6}, 0xa7))
	for i := range out {
		out[i] = roomy(l[i], 0xa5)
	}
	return out
}

// shown answers all that stands in a list, spare room too, as one text.
func shown(l [][]byte) string {
	var all [][]byte
	for _, b := range l[:cap(l)] {
		all = append(all, b[:cap(b)])
	}
	return fmt.Sprintf("%x of %x", l, all)
}

// scribble overwrites b and its spare room.
func scribble(b []byte) {
	b = b[:cap(b)]
	for i := range b {
		b[i] ^= 0xff
	}
}

// spoil answers functions that each write over one thing of a list: where its letters stand, or a letter's bytes, spare room too.
func spoil(l [][]byte) []func() {
	out := []func(){func() {
		all := l[:cap(l)]
		for i := range all {
			all[i] = []byte{99}
		}
	}}
	for _, b := range slices.Clone(l[:cap(l)]) {
		out = append(out, func() { scribble(b) })
	}
	return out
}

// memoryLists answers lists for which it is looked at what memory is theirs: such as may be, and others.
func memoryLists() [][][]byte {
	one := []byte("abcdefgh")
	return [][][]byte{
		{}, {nil}, {{}}, words("a"), words("ab", "", "cde"), words("", "", "", ""), many(3, 16), many(4, 16), many(4, 1), many(2, 8),
		{one, one, one}, {one[:4], one[2:6], one}, {one[:0], one[8:], one[:8]},
		many(1, 17), many(4, 17), many(5, 2), many(20, 3),
	}
}

// calls answers what each call tells of a list, a letter and bytes, as one list of letters.
func calls() map[string]func(l [][]byte, b []byte) [][]byte {
	return map[string]func(l [][]byte, b []byte) [][]byte{
		"Push": func(l [][]byte, b []byte) [][]byte {
			got, _ := ring.Push(l, b)
			return got
		},
		"Pop, the rest": func(l [][]byte, b []byte) [][]byte {
			_, rest, _ := ring.Pop(l)
			return rest
		},
		"Pop": func(l [][]byte, b []byte) [][]byte {
			first, rest, _ := ring.Pop(l)
			return append(rest, first)
		},
		"Put": func(l [][]byte, b []byte) [][]byte { return [][]byte{ring.Put(b, l)} },
		"Take": func(l [][]byte, b []byte) [][]byte {
			got, _, _ := ring.Take(b)
			return got
		},
		"May": func(l [][]byte, b []byte) [][]byte { return [][]byte{{byte(len(fmt.Sprint(ring.May(l))))}} },
	}
}

// eachCall calls try with each call, each list and some bytes; hand makes what is handed in, new each time.
func eachCall(try func(name string, call func(l [][]byte, b []byte) [][]byte, hand func() ([][]byte, []byte))) {
	for name, call := range calls() {
		for _, l := range memoryLists() {
			texts := [][]byte{{}, []byte("xyz"), letter(9, 16), letter(9, 17), said(l), append(said(l), 7, 7)}
			for _, b := range texts {
				try(name, call, func() ([][]byte, []byte) { return roomyList(l), roomy(b, 0xa5) })
			}
		}
	}
}

func TestWhatIsHandedInIsNotChanged(t *testing.T) {
	eachCall(func(name string, call func(l [][]byte, b []byte) [][]byte, hand func() ([][]byte, []byte)) {
		l, b := hand()
		wasL, wasB := shown(l), shown([][]byte{b})
		call(l, b)
		if shown(l) != wasL || shown([][]byte{b}) != wasB {
			t.Fatalf("%s of %s and %v: changed: %s and %v", name, wasL, wasB, shown(l), shown([][]byte{b}))
		}
	})
}

func TestWhatIsToldIsNewMemory(t *testing.T) {
	eachCall(func(name string, call func(l [][]byte, b []byte) [][]byte, hand func() ([][]byte, []byte)) {
		count := len(spoil(call(hand())))
		for i := range count {
			l, b := hand()
			wasL, wasB := shown(l), shown([][]byte{b})
			spoil(call(l, b))[i]()
			if shown(l) != wasL || shown([][]byte{b}) != wasB {
				t.Fatalf("%s of %s and %v: an answer is what was handed in", name, wasL, wasB)
			}
		}
	})
}

func TestWhatIsHandedInIsNotKept(t *testing.T) {
	eachCall(func(name string, call func(l [][]byte, b []byte) [][]byte, hand func() ([][]byte, []byte)) {
		l, _ := hand()
		for i := range len(spoil(l)) + 1 {
			l, b := hand()
			got := call(l, b)
			want := fmt.Sprintf("%x", got)
			append(spoil(l), func() { scribble(b) })[i]()
			if now := fmt.Sprintf("%x", got); now != want {
				t.Fatalf("%s of %s: %s, when what was handed in was written over: %s", name, brief(l), want, now)
			}
		}
	})
}

func TestNoTwoAnswersShareMemory(t *testing.T) {
	eachCall(func(name string, call func(l [][]byte, b []byte) [][]byte, hand func() ([][]byte, []byte)) {
		for i := range len(spoil(call(hand()))) {
			l, b := hand()
			first, second := call(l, b), call(l, b)
			want := fmt.Sprintf("%x", second)
			spoil(first)[i]()
			if now, again := fmt.Sprintf("%x", second), fmt.Sprintf("%x", call(l, b)); now != want || again != want {
				t.Fatalf("%s of %s: %s, when another answer was written over: %s, and %s", name, brief(l), want, now, again)
			}
		}
	})
}

func TestNoTwoLettersOfAnAnswerShareMemory(t *testing.T) {
	eachCall(func(name string, call func(l [][]byte, b []byte) [][]byte, hand func() ([][]byte, []byte)) {
		for i := range len(call(hand())) {
			l, b := hand()
			got := call(l, b)
			fresh := call(l, b)
			scribble(got[i])
			for j := range got {
				if j != i && !bytes.Equal(got[j], fresh[j]) {
					t.Fatalf("%s of %s: letter %d was written over with letter %d", name, brief(l), j, i)
				}
			}
		}
	})
}

func TestPushOfALetterOfTheListSharesNone(t *testing.T) {
	l := roomyList(words("abc", "de"))
	got, e := ring.Push(l, l[0])
	scribble(got[0])
	scribble(l[0])
	if !same(got[1:], words("de", "abc")) || e != api.OK {
		t.Errorf("written over with the first one: %q, %d", got, e)
	}
}

func TestNilAndEmptyAreOne(t *testing.T) {
	for _, b := range [][]byte{nil, letter(9, 3), letter(9, 17), said(words("a", ""))} {
		if told(nil, b) != told([][]byte{}, b) {
			t.Errorf("of none and %v: nil and empty differ", b)
		}
	}
	for n := range 2 * api.MaxRing {
		for at := range n {
			none, empty := many(n, 2), many(n, 2)
			none[at], empty[at] = nil, []byte{}
			if told(none, nil) != told(empty, []byte{}) {
				t.Errorf("%d letters, of which %d has no bytes: nil and empty differ", n, at)
			}
		}
	}
}

// What follows: first come, first served

// plain is a list of letters as nobody could do it simpler.
type plain struct {
	waits []string
}

func (p *plain) push(b []byte) api.Errno {
	if len(b) > 16 {
		return api.ErrLong
	}
	if len(p.waits) == 4 {
		return api.ErrFull
	}
	p.waits = append(p.waits, string(b))
	return api.OK
}

func (p *plain) pop() (string, bool) {
	if len(p.waits) == 0 {
		return "", false
	}
	first := p.waits[0]
	p.waits = p.waits[1:]
	return first, true
}

func TestLongRunsAgainstAPlainList(t *testing.T) {
	for seed := range chance(40) {
		c := seed
		var p plain
		var l [][]byte
		greed := 2 + c.below(5) // so that some runs are mostly full, and others mostly empty
		for range 3000 {
			if c.below(8) < greed {
				b := c.bytes(c.size())
				got, e := ring.Push(l, b)
				if want := p.push(b); e != want {
					t.Fatalf("Push of %d bytes to %s: %d, want %d", len(b), brief(l), e, want)
				}
				if e == api.OK {
					l = got
				}
			} else {
				b, rest, is := ring.Pop(l)
				if want, any := p.pop(); string(b) != want || is != any {
					t.Fatalf("Pop of %s: %q, %v, want %q, %v", brief(l), b, is, want, any)
				}
				l = rest
			}
			if !same(l, words(p.waits...)) || !ring.May(l) {
				t.Fatalf("%s, want %q", brief(l), p.waits)
			}
			if c.below(10) == 0 {
				isPut(t, []byte{1}, l)
				l, _, _ = ring.Take(ring.Put(nil, l))
			}
		}
	}
}

func TestWhoIsPutFirstIsTakenFirst(t *testing.T) {
	c := chance(5)
	var l [][]byte
	put, taken := 0, 0
	for range 50000 {
		if c.below(2) == 0 {
			if got, e := ring.Push(l, num.Put(nil, uint64(put), 4)); e == api.OK {
				l = got
				put++
			}
			continue
		}
		b, rest, is := ring.Pop(l)
		if is != (taken < put) {
			t.Fatalf("%d were put, %d taken: %v", put, taken, is)
		}
		if !is {
			continue
		}
		if v, e := num.Take(b, 4); e != api.OK || v != uint64(taken) {
			t.Fatalf("letter %d is taken as letter %d", v, taken)
		}
		l = rest
		taken++
	}
	if put-taken != len(l) || taken < 10000 {
		t.Errorf("%d were put, %d taken, %d wait", put, taken, len(l))
	}
}
