package frame_test

import (
	"math"
	"math/bits"
	"slices"
	"testing"

	"transom/api"
	"transom/frame"
)

// both is a memory, and what P12.1 says of it.
type both struct {
	m    *frame.Memory
	n    int                     // how many frames there are
	held map[int][api.Frame]byte // what stands in each that is taken
}

// began answers a memory of n frames, from 0 to MaxFrames, none of which is taken.
func began(n int) *both {
	return &both{m: frame.New(n), n: n, held: map[int][api.Frame]byte{}}
}

// full answers a memory of n frames that are all taken, with a byte of its own kind at each place.
func full(t *testing.T, n int) *both {
	t.Helper()
	b := began(n)
	for f := range n {
		b.take(t)
		b.fill(t, f)
	}
	return b
}

// mark answers the byte that fill stores at off of f: never 0, and another one at the places beside it and in the frames beside it.
func mark(f, off int) byte { return byte(1 + (f*37+off*11)%255) }

// fill stores at each place of f.
func (b *both) fill(t *testing.T, f int) {
	t.Helper()
	for off := range api.Frame {
		b.store(t, f, off, mark(f, off))
	}
}

// least answers the frame that Take is to take, and ErrFull where there is none.
func (b *both) least() (int, api.Errno) {
	for f := range b.n {
		if _, ok := b.held[f]; !ok {
			return f, api.OK
		}
	}
	return 0, api.ErrFull
}

// why answers what Load and Store are to tell of these.
func (b *both) why(f, off int) api.Errno {
	if _, ok := b.held[f]; !ok {
		return api.ErrNone
	}
	if off < 0 || off >= api.Frame {
		return api.ErrRange
	}
	return api.OK
}

// used asks for Used.
func (b *both) used(t *testing.T) {
	t.Helper()
	if got := b.m.Used(); got != len(b.held) {
		t.Fatalf("Used: %d, want %d", got, len(b.held))
	}
}

// take asks for Take, and Used behind it.
func (b *both) take(t *testing.T) {
	t.Helper()
	want, why := b.least()
	if f, e := b.m.Take(); f != want || e != why {
		t.Fatalf("Take of %d frames, %d taken: %d, %d, want %d, %d", b.n, len(b.held), f, e, want, why)
	}
	if why == api.OK {
		b.held[want] = [api.Frame]byte{}
	}
	b.used(t)
}

// free asks for Free, and Used behind it.
func (b *both) free(t *testing.T, f int) {
	t.Helper()
	why := b.why(f, 0)
	if e := b.m.Free(f); e != why {
		t.Fatalf("Free(%d) of %d frames: %d, want %d", f, b.n, e, why)
	}
	delete(b.held, f)
	b.used(t)
}

// load asks for Load.
func (b *both) load(t *testing.T, f, off int) {
	t.Helper()
	why := b.why(f, off)
	var want byte
	if why == api.OK {
		want = b.held[f][off]
	}
	if got, e := b.m.Load(f, off); got != want || e != why {
		t.Fatalf("Load(%d, %d) of %d frames: %d, %d, want %d, %d", f, off, b.n, got, e, want, why)
	}
}

// store asks for Store, and Used behind it.
func (b *both) store(t *testing.T, f, off int, x byte) {
	t.Helper()
	why := b.why(f, off)
	if e := b.m.Store(f, off, x); e != why {
		t.Fatalf("Store(%d, %d, %d) of %d frames: %d, want %d", f, off, x, b.n, e, why)
	}
	if why == api.OK {
		bytes := b.held[f]
		bytes[off] = x
		b.held[f] = bytes
	}
	b.used(t)
}

// says asks for all that can be told of the memory and changes nothing: which frames are taken, and what stands at each place.
func (b *both) says(t *testing.T) {
	t.Helper()
	b.used(t)
	for f := -1; f <= b.n; f++ {
		for off := -1; off <= api.Frame; off++ {
			b.load(t, f, off)
		}
	}
}

// outside answers numbers that are not from 0 to n - 1: beside them, at the ends of int, and such as come in among them where they are cut short or wrap round.
func outside(n int) []int {
	const half = 1 << (bits.UintSize / 2)
	const most = math.MaxInt/api.Frame + 1 // times Frame it is no int any more
	all := []int{
		math.MinInt, math.MinInt + 1, -2 * most, -most, -half, -half + 1, -api.MaxFrames - 1, -api.MaxFrames, -256, -255, -api.Frame, -n - 1, -n, -2, -1,
		n, n + 1, 2*n + 1, api.Frame, api.Frame + 1, 256, 257, api.MaxFrames - 1, api.MaxFrames, api.MaxFrames + 1, half, half + 1, most, 2 * most, 2*most + 1, math.MaxInt - 1, math.MaxInt,
	}
	return slices.DeleteFunc(all, func(x int) bool { return 0 <= x && x < n })
}

// sizes answers numbers of frames: none, few, about as many as a frame has bytes, and the most.
func sizes() []int {
	return []int{0, 1, 2, 3, 7, api.Frame - 1, api.Frame, api.Frame + 1, 255, 256, 257, api.MaxFrames - 1, api.MaxFrames}
}

// orders answers the numbers from 0 to n - 1 rising, falling, and from both ends to the middle.
func orders(n int) [][]int {
	var up, ends []int
	for f := range n {
		up = append(up, f)
	}
	for low, high := 0, n-1; low <= high; low, high = low+1, high-1 {
		ends = append(ends, high)
		if low < high {
			ends = append(ends, low)
		}
	}
	down := slices.Clone(up)
	slices.Reverse(down)
	return [][]int{up, down, ends}
}

// New

func TestNewHasSoManyFrames(t *testing.T) {
	for _, x := range []struct{ n, want int }{
		{math.MinInt, 0}, {math.MinInt + 1, 0}, {math.MinInt + 5, 0}, {-api.MaxFrames - 1, 0}, {-api.MaxFrames, 0}, {-3, 0}, {-1, 0},
		{0, 0}, {1, 1}, {2, 2}, {3, 3}, {api.Frame, api.Frame}, {255, 255}, {256, 256}, {257, 257},
		{api.MaxFrames - 1, api.MaxFrames - 1}, {api.MaxFrames, api.MaxFrames}, {api.MaxFrames + 1, api.MaxFrames}, {api.MaxFrames + 9, api.MaxFrames}, {2 * api.MaxFrames, api.MaxFrames},
		{1 << (bits.UintSize / 2), api.MaxFrames}, {math.MaxInt/api.Frame + 1, api.MaxFrames}, {math.MaxInt - 1, api.MaxFrames}, {math.MaxInt, api.MaxFrames},
	} {
		m := frame.New(x.n)
		if m == nil {
			t.Fatalf("New(%d): nil", x.n)
		}
		b := both{m: m, n: x.want, held: map[int][api.Frame]byte{}}
		b.says(t) // none is taken at first
		for f := range x.want {
			if got, e := m.Take(); got != f || e != api.OK || m.Used() != f+1 {
				t.Fatalf("New(%d): Take: %d, %d, and %d used, want %d", x.n, got, e, m.Used(), f)
			}
		}
		for range 3 {
			if got, e := m.Take(); got != 0 || e != api.ErrFull || m.Used() != x.want {
				t.Fatalf("New(%d): Take when all are taken: %d, %d, and %d used", x.n, got, e, m.Used())
			}
		}
	}
}

func TestNewHasNoFrameThatIsTaken(t *testing.T) {
	for _, n := range sizes() {
		b := began(n)
		for f := range n {
			b.free(t, f)
			b.store(t, f, 0, 9)
		}
		b.says(t)
	}
}

// Take

func TestTakeOfTheExample(t *testing.T) {
	m := frame.New(1)
	if f, e := m.Take(); f != 0 || e != api.OK {
		t.Errorf("Take: %d, %d", f, e)
	}
	if f, e := m.Take(); f != 0 || e != api.ErrFull {
		t.Errorf("Take again: %d, %d", f, e)
	}
}

func TestTakeGoesFromTheFirstToTheLast(t *testing.T) {
	for _, n := range sizes() {
		b := began(n)
		for f := range n {
			if want, _ := b.least(); want != f {
				t.Fatalf("the least of %d: %d", f, want)
			}
			b.take(t)
			b.fill(t, f)
		}
		b.says(t)
	}
}

func TestTakeBehindFreesOfAnySixFrames(t *testing.T) {
	const n = 6
	for some := range 1 << n {
		for _, order := range orders(n) {
			b := full(t, n)
			var freed []int
			for _, f := range order {
				if some>>f&1 != 0 {
					b.free(t, f)
					freed = append(freed, f)
				}
			}
			b.says(t)
			slices.Sort(freed)
			for _, want := range freed {
				if f, e := b.least(); f != want || e != api.OK {
					t.Fatalf("the least of %v: %d, %d", freed, f, e)
				}
				b.take(t)
			}
			b.take(t)
			b.says(t)
		}
	}
}

func TestTakeBehindFreesAtEitherEndAndBetween(t *testing.T) {
	const last = api.MaxFrames - 1
	for _, freed := range [][]int{{0}, {last}, {0, last}, {last, 0}, {1}, {last - 1}, {255, 256}, {256, 255}, {300, 20, 411, 19, 21}, {last, last - 1, 0, 1, 200}} {
		b := full(t, api.MaxFrames)
		for _, f := range freed {
			b.free(t, f)
		}
		for range freed {
			b.take(t)
		}
		b.take(t)
		b.says(t)
	}
}

func TestTakeBehindFreesOfAll(t *testing.T) {
	for _, n := range sizes() {
		for _, order := range orders(n) {
			b := full(t, n)
			for _, f := range order {
				b.free(t, f)
			}
			b.says(t)
			for range n + 1 {
				b.take(t)
			}
			b.says(t)
		}
	}
}

func TestTakeGoesBackToWhatWasFreedAheadOfWhatNeverWasTaken(t *testing.T) {
	m := frame.New(5)
	for range 3 {
		m.Take()
	}
	m.Free(1)
	for _, want := range []int{1, 3} {
		if f, e := m.Take(); f != want || e != api.OK {
			t.Errorf("Take: %d, %d, want %d", f, e, want)
		}
	}
	m.Free(3)
	m.Free(0)
	m.Free(2)
	for _, want := range []int{0, 2, 3, 4} {
		if f, e := m.Take(); f != want || e != api.OK {
			t.Errorf("Take: %d, %d, want %d", f, e, want)
		}
	}
}

func TestTakeBetweenFrees(t *testing.T) {
	b := full(t, 4)
	for _, f := range []int{3, 1, 2, 0, 3, 0, 1} {
		// One is free already from the second on: the lesser of both is taken.
		b.free(t, f)
		b.free(t, (f+1)%4)
		b.take(t)
		b.says(t)
	}
}

func TestTakeOfAFullMemoryChangesNothing(t *testing.T) {
	for _, n := range sizes() {
		b := full(t, n)
		for range 3 {
			if f, e := b.m.Take(); f != 0 || e != api.ErrFull {
				t.Errorf("Take of %d frames, all taken: %d, %d", n, f, e)
			}
			b.says(t)
		}
		if n > 0 {
			// And it is not full for good.
			b.free(t, n/2)
			b.take(t)
			b.take(t)
			b.says(t)
		}
	}
}

// holdNoughts asks that each place of f is 0.
func holdNoughts(t *testing.T, m *frame.Memory, f int) {
	t.Helper()
	for off := range api.Frame {
		if x, e := m.Load(f, off); x != 0 || e != api.OK {
			t.Errorf("Load(%d, %d) of a frame that is taken anew: %d, %d", f, off, x, e)
		}
	}
}

func TestAFrameIsNoughtsWhenItIsTaken(t *testing.T) {
	for _, n := range sizes() {
		b := began(n)
		for f := range n {
			b.take(t)
			holdNoughts(t, b.m, f)
		}
	}
}

func TestAFrameIsNoughtsWhenItIsTakenAnew(t *testing.T) {
	for _, n := range []int{1, 2, 5, api.MaxFrames} {
		for _, f := range []int{0, n / 2, n - 1} {
			b := full(t, n)
			for range 3 {
				b.fill(t, f)
				b.free(t, f)
				b.take(t)
				holdNoughts(t, b.m, f)
				b.says(t) // the frames beside it are as they were
			}
		}
	}
}

func TestAFrameIsNoughtsWhereOnePlaceAloneWasStoredInto(t *testing.T) {
	for off := range api.Frame {
		for _, x := range []byte{1, 128, 255} {
			b := began(3)
			b.take(t)
			b.take(t)
			b.store(t, 1, off, x)
			b.free(t, 1)
			b.take(t)
			holdNoughts(t, b.m, 1)
		}
	}
}

func TestAStoreIntoAFreedFrameIsNotFoundInItLater(t *testing.T) {
	b := full(t, 3)
	b.free(t, 1)
	for off := range api.Frame {
		b.store(t, 1, off, 200)
	}
	b.take(t)
	holdNoughts(t, b.m, 1)
	b.says(t)
}

// Free

func TestFreeOfATakenFrame(t *testing.T) {
	for _, n := range sizes() {
		for _, order := range orders(n) {
			b := full(t, n)
			for _, f := range order {
				if e := b.m.Free(f); e != api.OK || b.m.Used() != len(b.held)-1 {
					t.Fatalf("Free(%d) of %d frames: %d, and %d used", f, n, e, b.m.Used())
				}
				delete(b.held, f)
			}
			b.says(t)
		}
	}
}

func TestFreeOfAFrameThatIsFreeIsErrNone(t *testing.T) {
	m := frame.New(3)
	m.Take()
	for _, f := range []int{1, 2} {
		if e := m.Free(f); e != api.ErrNone || m.Used() != 1 {
			t.Errorf("Free(%d), which never was taken: %d, and %d used", f, e, m.Used())
		}
	}
	m.Free(0)
	for range 3 {
		if e := m.Free(0); e != api.ErrNone || m.Used() != 0 {
			t.Errorf("Free(0), which is freed already: %d, and %d used", e, m.Used())
		}
	}
}

func TestFreeOfAFrameThatIsFreedAlreadyChangesNothing(t *testing.T) {
	for f := range 5 {
		b := full(t, 5)
		b.free(t, f)
		for range 3 {
			b.free(t, f)
			b.says(t)
		}
		for range 2 {
			b.take(t)
		}
		b.says(t)
	}
}

func TestFreeOfAFrameThatThereIsNotChangesNothing(t *testing.T) {
	for _, n := range sizes() {
		b := full(t, n)
		if n > 1 {
			b.free(t, n/2)
		}
		for _, f := range outside(n) {
			if e := b.m.Free(f); e != api.ErrNone {
				t.Errorf("Free(%d) of %d frames: %d", f, n, e)
			}
			b.used(t)
		}
		b.says(t)
	}
}

// Load and Store

func TestLoadAndStoreAtEachPlace(t *testing.T) {
	for _, n := range sizes() {
		for f := range n {
			if f > 2 && f < n-2 && f != 255 && f != 256 {
				continue
			}
			b := full(t, n)
			for off := range api.Frame {
				x := ^mark(f, off)
				if e := b.m.Store(f, off, x); e != api.OK {
					t.Fatalf("Store(%d, %d) of %d frames: %d", f, off, n, e)
				}
				if got, e := b.m.Load(f, off); got != x || e != api.OK {
					t.Fatalf("Load(%d, %d) of %d frames: %d, %d, want %d", f, off, n, got, e, x)
				}
				b.store(t, f, off, x)
			}
			b.says(t)
		}
	}
}

func TestEachByteIsLoadedAsItWasStored(t *testing.T) {
	b := full(t, 3)
	for x := range 256 {
		for _, off := range []int{0, 7, api.Frame - 1} {
			b.store(t, 1, off, byte(x))
			b.load(t, 1, off)
			b.load(t, 1, off) // a load takes nothing away
		}
	}
	b.says(t)
}

func TestLoadAndStoreAtAPlaceThatThereIsNotIsErrRange(t *testing.T) {
	for _, n := range []int{1, 2, 3, api.MaxFrames} {
		b := full(t, n)
		for _, f := range []int{0, n / 2, n - 1} {
			for _, off := range outside(api.Frame) {
				if x, e := b.m.Load(f, off); x != 0 || e != api.ErrRange {
					t.Errorf("Load(%d, %d) of %d frames: %d, %d", f, off, n, x, e)
				}
				if e := b.m.Store(f, off, 77); e != api.ErrRange {
					t.Errorf("Store(%d, %d) of %d frames: %d", f, off, n, e)
				}
			}
		}
		b.says(t)
	}
}

// places answers places that there are, and such as there are not.
func places() []int {
	return slices.Concat(orders(api.Frame)[0], outside(api.Frame))
}

// holdNone asks that Load and Store of f are ErrNone, whatever the place.
func holdNone(t *testing.T, m *frame.Memory, f int) {
	t.Helper()
	for _, off := range places() {
		if x, e := m.Load(f, off); x != 0 || e != api.ErrNone {
			t.Errorf("Load(%d, %d), which is none that is taken: %d, %d", f, off, x, e)
		}
		if e := m.Store(f, off, 77); e != api.ErrNone {
			t.Errorf("Store(%d, %d), which is none that is taken: %d", f, off, e)
		}
	}
}

func TestLoadAndStoreOfAFrameThatIsFreeIsErrNone(t *testing.T) {
	for _, n := range []int{1, 2, 5, api.MaxFrames} {
		for _, f := range []int{0, n / 2, n - 1} {
			holdNone(t, frame.New(n), f) // never taken
			b := full(t, n)
			b.free(t, f)
			holdNone(t, b.m, f)
			b.says(t)
		}
	}
}

func TestLoadAndStoreOfAFrameThatThereIsNotIsErrNone(t *testing.T) {
	for _, n := range sizes() {
		b := full(t, n)
		for _, f := range outside(n) {
			holdNone(t, b.m, f)
		}
		b.says(t)
	}
}

func TestWhatIsStoredStandsAtItsPlaceAlone(t *testing.T) {
	const n = 3
	for f := range n {
		for off := range api.Frame {
			b := began(n)
			for range n {
				b.take(t)
			}
			b.store(t, f, off, 9)
			for other := range n {
				for at := range api.Frame {
					want := byte(0)
					if other == f && at == off {
						want = 9
					}
					if x, e := b.m.Load(other, at); x != want || e != api.OK {
						t.Errorf("Store(%d, %d, 9), then Load(%d, %d): %d, %d", f, off, other, at, x, e)
					}
				}
			}
		}
	}
}

func TestEachFrameHasBytesOfItsOwn(t *testing.T) {
	for _, n := range sizes() {
		for _, order := range orders(n) {
			b := began(n)
			for range n {
				b.take(t)
			}
			for _, f := range order {
				b.fill(t, f)
			}
			b.says(t)
		}
	}
}

func TestAFreeLeavesTheOtherFramesAsTheyWere(t *testing.T) {
	for f := range 5 {
		b := full(t, 5)
		b.free(t, f)
		b.says(t)
		b.take(t)
		b.says(t)
		b.fill(t, f)
		b.says(t)
	}
}

// Used

func TestUsed(t *testing.T) {
	m := frame.New(3)
	hold := func(want int) {
		t.Helper()
		for range 2 {
			if got := m.Used(); got != want {
				t.Errorf("Used: %d, want %d", got, want)
			}
		}
	}
	hold(0)
	m.Take()
	hold(1)
	m.Take()
	m.Take()
	hold(3)
	m.Take() // ErrFull
	hold(3)
	m.Free(1)
	hold(2)
	m.Free(1) // ErrNone
	m.Free(3)
	m.Free(-1)
	hold(2)
	m.Store(0, 0, 5)
	m.Store(1, 0, 5)
	m.Load(0, 0)
	m.Load(2, 99)
	hold(2)
	m.Free(2)
	m.Free(0)
	hold(0)
	m.Take()
	hold(1)
}

// A nil Memory

func TestANilMemoryIsErrArg(t *testing.T) {
	var m *frame.Memory
	if f, e := m.Take(); f != 0 || e != api.ErrArg {
		t.Errorf("Take: %d, %d", f, e)
	}
	if n := m.Used(); n != 0 {
		t.Errorf("Used: %d", n)
	}
	// Ahead of ErrNone and ErrRange, whatever the numbers.
	for _, f := range append(outside(0), 0, 1) {
		if e := m.Free(f); e != api.ErrArg {
			t.Errorf("Free(%d): %d", f, e)
		}
		for _, off := range places() {
			if x, e := m.Load(f, off); x != 0 || e != api.ErrArg {
				t.Errorf("Load(%d, %d): %d, %d", f, off, x, e)
			}
			if e := m.Store(f, off, 5); e != api.ErrArg {
				t.Errorf("Store(%d, %d): %d", f, off, e)
			}
		}
	}
	if f, e := m.Take(); f != 0 || e != api.ErrArg || m.Used() != 0 {
		t.Errorf("Take again: %d, %d", f, e)
	}
}

// Two memories

func TestTwoMemoriesShareNothing(t *testing.T) {
	for _, n := range sizes() {
		a, b := began(n), full(t, n)
		a.says(t)
		c := full(t, n)
		for f := range n {
			a.take(t)
			holdNoughts(t, a.m, f)
			for off := range api.Frame {
				a.store(t, f, off, ^mark(f, off))
			}
		}
		b.says(t)
		c.says(t)
		for f := range n {
			b.free(t, f)
		}
		a.says(t)
		b.says(t)
		c.says(t)
	}
}

func TestTwoMemoriesOfOtherSizesShareNothing(t *testing.T) {
	small, great := began(2), began(9)
	for range 10 {
		small.take(t)
		great.take(t)
		small.says(t)
		great.says(t)
	}
	small.free(t, 1)
	great.free(t, 8)
	great.fill(t, 1)
	small.says(t)
	great.says(t)
	small.take(t)
	holdNoughts(t, small.m, 1)
	great.says(t)
}

// Long runs

// chance answers numbers that look like chance, and are the same in each run.
type chance uint32

func (c *chance) below(n int) int {
	*c = *c*1664525 + 1013904223
	return int(*c>>8) % n
}

// near answers a number from -1 to n, and at times one that is far from there.
func (c *chance) near(n int) int {
	if far := outside(n); c.below(20) == 0 {
		return far[c.below(len(far))]
	}
	return c.below(n+2) - 1
}

// step makes one call of the memory: the more takes, the oftener one is Take, and not Free.
func (b *both) step(t *testing.T, c *chance, takes int) {
	t.Helper()
	switch k := c.below(20); {
	case k < takes:
		b.take(t)
	case k < 10:
		b.free(t, c.near(b.n))
	case k < 17:
		b.store(t, c.near(b.n), c.near(api.Frame), byte(c.below(256)))
	default:
		b.load(t, c.near(b.n), c.near(api.Frame))
	}
}

func TestLongRunsOfAllTheCalls(t *testing.T) {
	for _, n := range []int{0, 1, 2, 3, 5, 9} {
		for _, seed := range []chance{1, 12, 123} {
			a, b := began(n), began(n+1)
			for i := range 1500 {
				// By turns it fills up, and empties.
				takes := []int{9, 1}[i/60%2]
				a.step(t, &seed, takes)
				b.step(t, &seed, 10-takes)
				a.says(t)
				b.says(t)
			}
		}
	}
}

func TestLongRunsOfAllTheCallsOfTheGreatestMemory(t *testing.T) {
	seed := chance(7)
	b := began(api.MaxFrames)
	for i := range 60000 {
		// The turns are long enough for it to fill up.
		b.step(t, &seed, []int{9, 1}[i/6000%2])
		if i%500 == 0 {
			b.says(t)
		}
	}
	b.says(t)
}

func TestTheSameCallsAreToldTheSame(t *testing.T) {
	one, two := chance(5), chance(5)
	a, b := frame.New(6), frame.New(6)
	run := func(m *frame.Memory, c *chance) []int {
		f, e := m.Take()
		out := []int{f, int(e), int(m.Free(c.near(6))), int(m.Store(c.near(6), c.near(api.Frame), byte(c.below(256))))}
		x, e := m.Load(c.near(6), c.near(api.Frame))
		return append(out, int(x), int(e), m.Used())
	}
	for range 3000 {
		if x, y := run(a, &one), run(b, &two); !slices.Equal(x, y) {
			t.Fatalf("the same calls: %v, then %v", x, y)
		}
	}
}

// R1

func TestWhateverNumbersCallsEnd(t *testing.T) {
	var none *frame.Memory
	memories := []*frame.Memory{none, {}, new(frame.Memory)}
	for _, n := range append(outside(0), 0, 1, 5) {
		empty, some := frame.New(n), frame.New(n)
		some.Take()
		some.Take()
		memories = append(memories, empty, some)
	}
	numbers := append(outside(0), 0, 1, 5, 15)
	for _, m := range memories {
		for _, f := range numbers {
			for _, off := range numbers {
				m.Load(f, off)
				m.Store(f, off, byte(off))
			}
			m.Take()
			m.Free(f)
			m.Used()
		}
	}
}

// It was given no frames.
func TestAMemoryThatNewDidNotMakeHasNoFrames(t *testing.T) {
	b := &both{m: &frame.Memory{}, held: map[int][api.Frame]byte{}}
	b.take(t)
	b.free(t, 0)
	b.store(t, 0, 0, 5)
	b.says(t)
}
