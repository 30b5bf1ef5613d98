package name_test

import (
	"fmt"
	"math"
	"math/bits"
	"slices"
	"strconv"
	"strings"
	"testing"

	"transom/api"
	"transom/name"
)

// numbers is a name as the tests have it: the number of each box on its path below Root, and its own.
type numbers []int

// id answers the name, by the chapter's words: that of its box times 64, and its number.
func (l numbers) id() uint64 {
	if len(l) == 0 {
		return api.Root
	}
	return l.box().id()*64 + uint64(l[len(l)-1])
}

// box answers the list of the box that it is in.
func (l numbers) box() numbers { return l[:len(l)-1] }

// with answers the list and one number more.
func (l numbers) with(n int) numbers { return append(slices.Clone(l), n) }

// within tells whether box stands on the path of l.
func (l numbers) within(box numbers) bool {
	return len(box) <= len(l) && slices.Equal(l[:len(box)], box)
}

// read answers the numbers of an id, and whether it is a name, by the text of it: a 1, and two octal digits for each number.
func read(id uint64) (numbers, bool) {
	rest, ok := strings.CutPrefix(strconv.FormatUint(id, 8), "1")
	if !ok || len(rest)%2 != 0 || len(rest) > 2*api.MaxDepth {
		return nil, false
	}
	var l numbers
	for ; rest != ""; rest = rest[2:] {
		n, err := strconv.ParseInt(rest[:2], 8, 32)
		if err != nil || n == 0 {
			return nil, false
		}
		l = append(l, int(n))
	}
	return l, true
}

// says asks for all that can be told of the name.
func (l numbers) says(t *testing.T) {
	t.Helper()
	id := l.id()
	if !name.May(id) {
		t.Fatalf("May of %v: no", l)
	}
	if got := name.Depth(id); got != len(l) {
		t.Fatalf("Depth of %v: %d", l, got)
	}
	parent, number := uint64(0), 0
	if len(l) > 0 {
		parent, number = l.box().id(), l[len(l)-1]
	}
	if got := name.Parent(id); got != parent {
		t.Fatalf("Parent of %v: %d, want %d", l, got, parent)
	}
	if got := name.Number(id); got != number {
		t.Fatalf("Number of %v: %d, want %d", l, got, number)
	}
	if got := name.Path(id); !slices.Equal(got, l.path()) {
		t.Fatalf("Path of %v: %d, want %d", l, got, l.path())
	}
}

// path answers the names from Root on down to it.
func (l numbers) path() []uint64 {
	var out []uint64
	for i := range len(l) + 1 {
		out = append(out, l[:i].id())
	}
	return out
}

// isNone asks that nothing is told of an id that may not be.
func isNone(t *testing.T, id uint64) {
	t.Helper()
	if name.May(id) {
		t.Fatalf("May of %d (%o): yes", id, id)
	}
	if d, n, p := name.Depth(id), name.Number(id), name.Parent(id); d != 0 || n != 0 || p != 0 {
		t.Fatalf("%d (%o) may not be: Depth %d, Number %d, Parent %d", id, id, d, n, p)
	}
	if p := name.Path(id); len(p) != 0 {
		t.Fatalf("%d (%o) may not be: Path %d", id, id, p)
	}
	for _, box := range []uint64{id, 0, api.Root, id >> 6, id >> 12, id & 63, 67} {
		if name.Within(id, box) {
			t.Fatalf("%d (%o) may not be: Within %d", id, id, box)
		}
		if name.Within(box, id) {
			t.Fatalf("%d within %d (%o), which may not be", box, id, id)
		}
	}
	for _, n := range []int{1, 3, api.MaxNumber} {
		isRefused(t, id, n, api.ErrArg)
	}
}

// isRefused asks that Of tells the error, and nothing else.
func isRefused(t *testing.T, box uint64, n int, want api.Errno) {
	t.Helper()
	if id, e := name.Of(box, n); id != 0 || e != want {
		t.Fatalf("Of(%d, %d): %d, %d, want 0, %d", box, n, id, e, want)
	}
}

// asked asks for all that can be told of any id, as its text has it.
func asked(t *testing.T, id uint64) {
	t.Helper()
	l, ok := read(id)
	if !ok {
		isNone(t, id)
		return
	}
	if l.id() != id {
		t.Fatalf("the test reads %d as %v", id, l)
	}
	l.says(t)
}

// edges answers numbers at the edges.
func edges() []int { return []int{1, 2, 31, 32, 33, api.MaxNumber - 1, api.MaxNumber} }

// lists answers names of each depth: of one number throughout, with each number at each place, and with two edges at each two places.
func lists() []numbers {
	out := []numbers{nil}
	for depth := 1; depth <= api.MaxDepth; depth++ {
		for _, all := range edges() {
			out = append(out, slices.Repeat(numbers{all}, depth))
		}
		for place := range depth {
			for n := 1; n <= api.MaxNumber; n++ {
				out = append(out, changed(slices.Repeat(numbers{5}, depth), place, n))
			}
			for other := range place {
				for _, a := range edges() {
					for _, b := range edges() {
						out = append(out, changed(changed(slices.Repeat(numbers{17}, depth), place, a), other, b))
					}
				}
			}
		}
		out = append(out, numbers{10, 20, 30, 40, 50, 60}[:depth], numbers{1, 63, 1, 63, 1, 63}[:depth], numbers{63, 1, 63, 1, 63, 1}[:depth])
	}
	return out
}

// changed answers the list with another number at the place.
func changed(l numbers, place, n int) numbers {
	l = slices.Clone(l)
	l[place] = n
	return l
}

// few answers some names of each depth.
func few() []numbers {
	out := []numbers{nil}
	for depth := 1; depth <= api.MaxDepth; depth++ {
		for _, l := range []numbers{{1, 1, 1, 1, 1, 1}, {63, 63, 63, 63, 63, 63}, {10, 20, 30, 40, 50, 60}, {63, 1, 63, 1, 63, 1}, {1, 2, 1, 2, 1, 2}, {32, 33, 31, 48, 16, 1}} {
			out = append(out, l[:depth])
		}
	}
	return out
}

// wrongNumbers answers numbers that no name has: beside those from 1 to MaxNumber, at the ends of int, and such as come in among them where they are cut short or wrap round.
func wrongNumbers() []int {
	out := []int{math.MinInt, math.MinInt + 1, math.MinInt + 63, -129, -128, -127, -65, -64, -63, -62, -3, -2, -1, 0, 64, 65, 66, 67, 127, 128, 129, 4096, 4097, math.MaxInt - 63, math.MaxInt - 62, math.MaxInt - 1, math.MaxInt}
	for shift := 8; shift < bits.UintSize-1; shift++ {
		out = append(out, 1<<shift, 1<<shift+1, 1<<shift+63, -1<<shift, -1<<shift+1, -1<<shift+63)
	}
	return out
}

// chance answers numbers that look like chance, and are the same each time.
type chance uint64

func (c *chance) next() uint64 {
	*c = *c*6364136223846793005 + 1442695040888963407
	return uint64(*c)
}

func (c *chance) below(n int) int { return int(c.next() >> 32 * uint64(n) >> 32) }

// list answers a name of a depth from 0 to MaxDepth.
func (c *chance) list() numbers {
	var l numbers
	for range c.below(api.MaxDepth + 1) {
		l = append(l, 1+c.below(api.MaxNumber))
	}
	return l
}

// The example

func TestOfTheExample(t *testing.T) {
	if id, e := name.Of(1, 3); id != 67 || e != api.OK {
		t.Errorf("Of(1, 3): %d, %d", id, e)
	}
}

// May, and what is told of names

func TestRoot(t *testing.T) {
	if !name.May(api.Root) {
		t.Error("May of Root: no")
	}
	if p, n, d := name.Parent(api.Root), name.Number(api.Root), name.Depth(api.Root); p != 0 || n != 0 || d != 0 {
		t.Errorf("Root: Parent %d, Number %d, Depth %d", p, n, d)
	}
	if got := name.Path(api.Root); !slices.Equal(got, []uint64{1}) {
		t.Errorf("Path of Root: %d", got)
	}
}

func TestNamesWrittenOut(t *testing.T) {
	for _, x := range []struct {
		id, parent    uint64
		number, depth int
		path          []uint64
	}{
		{65, 1, 1, 1, []uint64{1, 65}},
		{67, 1, 3, 1, []uint64{1, 67}},
		{127, 1, 63, 1, []uint64{1, 127}},
		{4161, 65, 1, 2, []uint64{1, 65, 4161}},
		{4290, 67, 2, 2, []uint64{1, 67, 4290}},
		{8191, 127, 63, 2, []uint64{1, 127, 8191}},
		{0o1_01_02_03, 0o1_01_02, 3, 3, []uint64{1, 0o1_01, 0o1_01_02, 0o1_01_02_03}},
		{0o1_77_01_77_01, 0o1_77_01_77, 1, 4, []uint64{1, 0o1_77, 0o1_77_01, 0o1_77_01_77, 0o1_77_01_77_01}},
		{0o1_10_20_30_40_50, 0o1_10_20_30_40, 40, 5, []uint64{1, 0o1_10, 0o1_10_20, 0o1_10_20_30, 0o1_10_20_30_40, 0o1_10_20_30_40_50}},
		{0o1_77_77_77_77_77_77, 0o1_77_77_77_77_77, 63, 6, []uint64{1, 127, 8191, 524287, 33554431, 2147483647, 137438953471}},
		{0o1_01_01_01_01_01_01, 0o1_01_01_01_01_01, 1, 6, []uint64{1, 65, 4161, 266305, 17043521, 1090785345, 69810262081}},
	} {
		if !name.May(x.id) {
			t.Errorf("May of %d: no", x.id)
		}
		if p, n, d := name.Parent(x.id), name.Number(x.id), name.Depth(x.id); p != x.parent || n != x.number || d != x.depth {
			t.Errorf("%d: Parent %d, Number %d, Depth %d, want %d, %d, %d", x.id, p, n, d, x.parent, x.number, x.depth)
		}
		if got := name.Path(x.id); !slices.Equal(got, x.path) {
			t.Errorf("Path of %d: %d, want %d", x.id, got, x.path)
		}
		if id, e := name.Of(x.parent, x.number); id != x.id || e != api.OK {
			t.Errorf("Of(%d, %d): %d, %d, want %d", x.parent, x.number, id, e, x.id)
		}
	}
}

func TestNamesOfEachDepth(t *testing.T) {
	for _, l := range lists() {
		l.says(t)
	}
}

func TestEveryIdOfFewBits(t *testing.T) {
	// All names of at most two numbers, all ids between them, and beyond.
	for id := range uint64(1 << 14) {
		asked(t, id)
	}
}

func TestEveryNameOfThreeNumbers(t *testing.T) {
	for id := range uint64(1 << 19) {
		_, ok := read(id)
		if name.May(id) != ok {
			t.Fatalf("May of %d (%o): %v", id, id, !ok)
		}
		if !ok {
			continue
		}
		if got, e := name.Of(name.Parent(id), name.Number(id)); id != api.Root && (got != id || e != api.OK) {
			t.Fatalf("Of of the Parent and the Number of %d: %d, %d", id, got, e)
		}
	}
}

func TestOfOfParentAndNumberIsTheName(t *testing.T) {
	for _, l := range lists()[1:] {
		id := l.id()
		if got, e := name.Of(name.Parent(id), name.Number(id)); got != id || e != api.OK {
			t.Fatalf("Of(%d, %d), of the name %v: %d, %d", name.Parent(id), name.Number(id), l, got, e)
		}
	}
}

func TestDepthIsHowManyParents(t *testing.T) {
	for _, l := range lists() {
		parents := 0
		for id := l.id(); name.Parent(id) != 0; id = name.Parent(id) {
			parents++
		}
		if got := name.Depth(l.id()); got != parents {
			t.Fatalf("Depth of %v: %d, want %d", l, got, parents)
		}
	}
}

func TestPathGoesFromParentToChild(t *testing.T) {
	for _, l := range lists() {
		id := l.id()
		path := name.Path(id)
		if len(path) != name.Depth(id)+1 || path[0] != api.Root || path[len(path)-1] != id {
			t.Fatalf("Path of %v: %d", l, path)
		}
		for i := 1; i < len(path); i++ {
			if name.Parent(path[i]) != path[i-1] || name.Depth(path[i]) != i {
				t.Fatalf("Path of %v: %d: %d is not in %d", l, path, path[i], path[i-1])
			}
		}
	}
}

// Ids that are none

func TestNoughtIsNone(t *testing.T) {
	isNone(t, 0)
}

func TestIdsThatBeginWithAnotherNumberThanRootAreNone(t *testing.T) {
	for _, l := range few() {
		below := uint64(1) << (6 * len(l))
		rest := l.id() - below // the numbers without Root
		for first := uint64(0); first < 64; first++ {
			if first != api.Root {
				asked(t, first*below+rest) // of the first 0 it may be a lesser name's end, and a name
			}
			if first > api.Root {
				isNone(t, first*below+rest)
			}
		}
	}
}

func TestIdsWithANumberNoughtAreNone(t *testing.T) {
	for _, l := range lists() {
		for place := range l {
			isNone(t, changed(l, place, 0).id())
		}
	}
	for depth := 1; depth <= 10; depth++ {
		first := uint64(1) << (6 * depth)
		isNone(t, first) // noughts throughout
		if depth > 1 {
			isNone(t, first+63)            // but for the last number
			isNone(t, first+63*(first>>6)) // but for the first one
		}
	}
}

func TestIdsOfTooManyNumbersAreNone(t *testing.T) {
	for _, l := range lists() {
		// Root and ten numbers are what 64 bits can say.
		for _, n := range edges() {
			for more := l.with(n); len(more) <= 10; more = more.with(n) {
				if len(more) > api.MaxDepth {
					isNone(t, more.id())
				}
			}
		}
	}
}

func TestIdsBesideNames(t *testing.T) {
	for _, l := range lists() {
		id := l.id()
		for _, by := range []uint64{1, 2, 3, 5, 62, 63, 64, 65, 127, 128, 4095, 4096, 4097} {
			asked(t, id+by)
			asked(t, id-by)
		}
		asked(t, ^id)
		asked(t, -id)
	}
}

func TestIdsOneBitBesideNames(t *testing.T) {
	for _, l := range lists() {
		for bit := range 64 {
			asked(t, l.id()^1<<bit)
		}
	}
}

func TestIdsThatComeInAmongNamesWhereTheyAreCutShortOrWrapRound(t *testing.T) {
	for _, l := range few() {
		id := l.id()
		// Above the greatest name's bits each bit makes it another id, and none.
		for bit := 37; bit < 64; bit++ {
			for _, high := range []uint64{1, 3, 65, math.MaxUint64} {
				if more := high<<bit | id; more != id {
					isNone(t, more)
				}
			}
		}
		// Times a power of two, so that bits are lost or so that they would come round.
		for bit := 1; bit < 64; bit++ {
			asked(t, id<<bit)
			asked(t, id>>bit)
			asked(t, bits.RotateLeft64(id, bit))
		}
	}
	for depth := 0; depth <= api.MaxDepth; depth++ {
		rest := uint64(0)
		for range depth {
			rest = rest*64 + 7
		}
		for bit := range 64 {
			asked(t, 1<<bit|rest)
			asked(t, math.MaxUint64<<bit|rest)
		}
	}
}

func TestIdsAtTheEndsOfUint64AreNone(t *testing.T) {
	for by := range uint64(5000) {
		isNone(t, math.MaxUint64-by)
		isNone(t, 1<<63+by)
		isNone(t, 1<<63-1-by)
		isNone(t, 1<<60+by)
	}
	// Those that a number with a sign would say to be below nought.
	for bit := range 64 {
		isNone(t, math.MaxUint64-1<<bit)
		isNone(t, uint64(math.MaxUint64)<<bit&^1)
	}
}

// Of

func TestOfOfEachBoxAndNumber(t *testing.T) {
	for _, l := range lists() {
		if len(l) == api.MaxDepth {
			continue
		}
		for n := 1; n <= api.MaxNumber; n++ {
			if id, e := name.Of(l.id(), n); id != l.with(n).id() || e != api.OK {
				t.Fatalf("Of of %v and %d: %d, %d", l, n, id, e)
			}
		}
	}
}

func TestOfTellsNoTwoTheSame(t *testing.T) {
	seen := map[uint64]string{}
	for _, l := range few() {
		if len(l) == api.MaxDepth || seen[l.id()*64+1] != "" {
			continue
		}
		for n := 1; n <= api.MaxNumber; n++ {
			id, e := name.Of(l.id(), n)
			if e != api.OK || seen[id] != "" {
				t.Fatalf("Of of %v and %d: %d, %d, as of %s", l, n, id, e, seen[id])
			}
			seen[id] = fmt.Sprint(l, n)
		}
	}
}

func TestOfOfAWrongNumberIsErrArg(t *testing.T) {
	for _, l := range few() {
		for _, n := range wrongNumbers() {
			isRefused(t, l.id(), n, api.ErrArg) // also of the deepest boxes: ErrDeep comes behind it
		}
	}
	for _, l := range lists() {
		for _, n := range []int{math.MinInt, -1, 0, api.MaxNumber + 1, math.MaxInt} {
			isRefused(t, l.id(), n, api.ErrArg)
		}
	}
}

func TestOfOfABoxThatMayNotBeIsErrArg(t *testing.T) {
	boxes := []uint64{0, 2, 3, 63, 64, 128, 129, 4096, 4160, 1 << 36, 1 << 63, math.MaxUint64, math.MaxUint64 - 62}
	for _, l := range few() {
		boxes = append(boxes, l.id()*64, l.id()|1<<42, l.id()|1<<58, l.id()|1<<63)
		if len(l) == api.MaxDepth {
			boxes = append(boxes, l.id()*64+1, l.id()*64*64+65) // too deep itself: it may not be
		}
	}
	for _, box := range boxes {
		for n := 1; n <= api.MaxNumber; n++ {
			isRefused(t, box, n, api.ErrArg)
		}
		for _, n := range wrongNumbers() {
			isRefused(t, box, n, api.ErrArg)
		}
	}
}

func TestOfOfADeepestBoxIsErrDeep(t *testing.T) {
	for _, l := range lists() {
		if len(l) != api.MaxDepth {
			continue
		}
		for n := 1; n <= api.MaxNumber; n++ {
			isRefused(t, l.id(), n, api.ErrDeep)
		}
	}
}

func TestOfGoesDownToMaxDepthAndNoFurther(t *testing.T) {
	for _, n := range edges() {
		id := uint64(api.Root)
		for depth := 1; depth <= api.MaxDepth; depth++ {
			down, e := name.Of(id, n)
			if e != api.OK || name.Depth(down) != depth || name.Parent(down) != id || name.Number(down) != n {
				t.Fatalf("Of(%d, %d): %d, %d", id, n, down, e)
			}
			id = down
		}
		isRefused(t, id, n, api.ErrDeep)
	}
}

// Path is new memory

func TestPathIsNewMemory(t *testing.T) {
	for _, l := range few() {
		id := l.id()
		first, second := name.Path(id), name.Path(id)
		for i := range first {
			first[i] = 99
		}
		first = append(first[:cap(first)], 98)
		if !slices.Equal(second, l.path()) {
			t.Fatalf("Path of %v shares memory with another: %d", l, second)
		}
		if got := name.Path(id); !slices.Equal(got, l.path()) {
			t.Fatalf("Path of %v, when another was written over: %d", l, got)
		}
	}
}

// Within

func TestWithinOfThePath(t *testing.T) {
	for _, l := range lists() {
		id := l.id()
		for _, box := range name.Path(id) {
			if !name.Within(id, box) {
				t.Fatalf("%v within %d: no", l, box)
			}
		}
		if !name.Within(id, id) || !name.Within(id, api.Root) {
			t.Fatalf("%v within itself, and within Root: no", l)
		}
	}
}

func TestWithinIsNoOfWhatStandsBelow(t *testing.T) {
	for _, l := range lists() {
		path := l.path()
		for _, box := range path[:len(path)-1] {
			if name.Within(box, l.id()) {
				t.Fatalf("%d within %v, which is in it", box, l)
			}
		}
	}
}

func TestWithinIsNoBesideThePath(t *testing.T) {
	for _, l := range few() {
		for place := range l {
			for n := 1; n <= api.MaxNumber; n++ {
				if n == l[place] {
					continue
				}
				other := changed(l, place, n)
				for to := place + 1; to <= len(l); to++ {
					if name.Within(l.id(), other[:to].id()) {
						t.Fatalf("%v within %v", l, other[:to])
					}
				}
			}
		}
	}
}

func TestWithinOfEveryTwo(t *testing.T) {
	all := few()
	for _, l := range few() {
		if len(l) < api.MaxDepth {
			all = append(all, l.with(1), l.with(63))
		}
	}
	for _, l := range all {
		for _, box := range all {
			if got := name.Within(l.id(), box.id()); got != l.within(box) {
				t.Fatalf("%v within %v: %v", l, box, got)
			}
		}
	}
}

func TestWithinOfEveryTwoOfFewBits(t *testing.T) {
	var all []uint64
	for id := range uint64(300) {
		all = append(all, id)
	}
	all = append(all, 4161, 4162, 4224, 4225, 4290, 8191, 8192, 0o1_01_01_01, 0o1_01_01_02, 0o1_77_77_77)
	for _, id := range all {
		for _, box := range all {
			l, ok := read(id)
			m, may := read(box)
			if got, want := name.Within(id, box), ok && may && l.within(m); got != want {
				t.Fatalf("%d within %d: %v", id, box, got)
			}
		}
	}
}

func TestWithinIsNoWhereEitherMayNotBe(t *testing.T) {
	for _, l := range lists() {
		id := l.id()
		wrong := []uint64{0, 2, 63, 64, 1 << 63, math.MaxUint64, id * 64, id | 1<<43, id | 1<<63, id - 1<<(6*len(l)), id + 1<<(6*len(l)), ^id}
		for bit := range 37 {
			wrong = append(wrong, id>>bit, id<<bit)
		}
		for _, w := range wrong {
			if _, ok := read(w); ok {
				continue
			}
			for _, box := range append(l.path(), w) {
				if name.Within(w, box) || name.Within(box, w) {
					t.Fatalf("%d and %d: Within, though one of them may not be", w, box)
				}
			}
		}
	}
}

// All of it

func TestLongRunsAgainstLists(t *testing.T) {
	for seed := range chance(20) {
		c := seed
		here := numbers(nil)
		for range 3000 {
			switch c.below(8) {
			case 0, 1, 2, 3:
				n := c.below(66) - 1
				id, e := name.Of(here.id(), n)
				switch {
				case n < 1 || n > api.MaxNumber:
					isRefused(t, here.id(), n, api.ErrArg)
				case len(here) == api.MaxDepth:
					isRefused(t, here.id(), n, api.ErrDeep)
				default:
					here = here.with(n)
					if id != here.id() || e != api.OK {
						t.Fatalf("Of of %v: %d, %d", here, id, e)
					}
				}
			case 4, 5:
				if len(here) > 0 {
					here = here.box()
				}
			case 6:
				here = c.list()
			case 7:
				box := c.list()
				if len(box) < len(here) && c.below(2) == 0 {
					copy(box, here)
				}
				if got := name.Within(here.id(), box.id()); got != here.within(box) {
					t.Fatalf("%v within %v: %v", here, box, got)
				}
			}
			here.says(t)
		}
	}
}

func TestCallsOfWhateverNumbers(t *testing.T) {
	c := chance(7)
	for range 100000 {
		id, box := c.next(), c.next()
		id >>= c.below(64)
		box >>= c.below(64)
		n := int(c.next()) >> c.below(bits.UintSize)
		asked(t, id)
		l, ok := read(id)
		m, may := read(box)
		if got, want := name.Within(id, box), ok && may && l.within(m); got != want {
			t.Fatalf("%d within %d: %v", id, box, got)
		}
		if n >= 1 && n <= api.MaxNumber && may && len(m) < api.MaxDepth {
			if got, e := name.Of(box, n); got != m.with(n).id() || e != api.OK {
				t.Fatalf("Of(%d, %d): %d, %d", box, n, got, e)
			}
		} else if n < 1 || n > api.MaxNumber || !may {
			isRefused(t, box, n, api.ErrArg)
		} else {
			isRefused(t, box, n, api.ErrDeep)
		}
	}
}

// told answers all that the calls say of these, as one text.
func told(id, box uint64, n int) string {
	of, e := name.Of(box, n)
	return fmt.Sprint(name.May(id), of, e, name.Parent(id), name.Number(id), name.Depth(id), name.Path(id), name.Within(id, box))
}

func TestTheSameCallIsToldTheSame(t *testing.T) {
	c := chance(11)
	type call struct {
		id, box uint64
		n       int
	}
	var calls []call
	var first []string
	for range 2000 {
		x := call{c.list().id(), c.list().id(), c.below(66)}
		if c.below(3) == 0 {
			x.id = c.next()
		}
		calls = append(calls, x)
		first = append(first, told(x.id, x.box, x.n))
	}
	// In another order, so that what was asked ahead is another.
	for i := len(calls) - 1; i >= 0; i-- {
		x := calls[i]
		if got := told(x.id, x.box, x.n); got != first[i] {
			t.Fatalf("%v: %s, ahead of it %s", x, got, first[i])
		}
	}
}
