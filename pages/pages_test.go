package pages_test

import (
	"bytes"
	"fmt"
	"math"
	"math/bits"
	"slices"
	"testing"

	"transom/api"
	"transom/pages"
)

// both is a space, and what P13.1 says of it.
type both struct {
	s      *pages.Space
	frames int
	held   map[uint64][]byte // what stands in each id that is mapped
}

// began answers a space of so many frames, from 0 to MaxFrames, with no id mapped.
func began(frames int) *both {
	return &both{s: pages.New(frames), frames: frames, held: map[uint64][]byte{}}
}

// need answers how many frames n bytes need, counted one by one.
func need(n int) int {
	frames := 0
	for room := 0; room < n; room += api.Frame {
		frames++
	}
	return frames
}

// free answers what Free is to tell.
func (b *both) free() int {
	n := b.frames
	for _, data := range b.held {
		n -= need(len(data))
	}
	return n
}

// saysFree asks for Free.
func (b *both) saysFree(t *testing.T) {
	t.Helper()
	if got := b.s.Free(); got != b.free() {
		t.Fatalf("Free of %d frames: %d, want %d", b.frames, got, b.free())
	}
}

// whyMap answers what Map is to tell of these.
func (b *both) whyMap(id uint64, n int) api.Errno {
	if _, ok := b.held[id]; ok || n < 0 || n > api.MaxData {
		return api.ErrArg
	}
	if need(n) > b.free() {
		return api.ErrFull
	}
	return api.OK
}

// tryMap asks for Map, and Free behind it.
func (b *both) tryMap(t *testing.T, id uint64, n int) {
	t.Helper()
	why := b.whyMap(id, n)
	if e := b.s.Map(id, n); e != why {
		t.Fatalf("Map(%d, %d), %d frames free: %d, want %d", id, n, b.free(), e, why)
	}
	if why == api.OK {
		b.held[id] = make([]byte, n)
	}
	b.saysFree(t)
}

// mapped asks for Map, which is to be fine.
func (b *both) mapped(t *testing.T, id uint64, n int) {
	t.Helper()
	if why := b.whyMap(id, n); why != api.OK {
		t.Fatalf("the test maps %d bytes to %d: %d", n, id, why)
	}
	b.tryMap(t, id, n)
}

// unmap asks for Unmap, and Free behind it.
func (b *both) unmap(t *testing.T, id uint64) {
	t.Helper()
	why := b.why(id, 0, 0)
	if e := b.s.Unmap(id); e != why {
		t.Fatalf("Unmap(%d): %d, want %d", id, e, why)
	}
	delete(b.held, id)
	b.saysFree(t)
}

// why answers what Read and Write are to tell of these.
func (b *both) why(id uint64, off, n int) api.Errno {
	data, ok := b.held[id]
	if !ok {
		return api.ErrNone
	}
	// Whether there are such off + n bytes is asked of numbers that wrap round nowhere.
	if off < 0 || n < 0 || uint64(off)+uint64(n) > uint64(len(data)) {
		return api.ErrRange
	}
	return api.OK
}

// read asks for Read.
func (b *both) read(t *testing.T, id uint64, off, n int) {
	t.Helper()
	why := b.why(id, off, n)
	var want []byte
	if why == api.OK {
		want = b.held[id][off : off+n]
	}
	if got, e := b.s.Read(id, off, n); !bytes.Equal(got, want) || e != why {
		t.Fatalf("Read(%d, %d, %d) of %d bytes: %v, %d, want %v, %d", id, off, n, len(b.held[id]), got, e, want, why)
	}
}

// write asks for Write, and Free behind it.
func (b *both) write(t *testing.T, id uint64, off int, data []byte) {
	t.Helper()
	why := b.why(id, off, len(data))
	if e := b.s.Write(id, off, data); e != why {
		t.Fatalf("Write(%d, %d, %v) of %d bytes: %d, want %d", id, off, data, len(b.held[id]), e, why)
	}
	if why == api.OK {
		copy(b.held[id][off:], data)
	}
	b.saysFree(t)
}

// length asks for Len.
func (b *both) length(t *testing.T, id uint64) {
	t.Helper()
	if n, e := b.s.Len(id); n != len(b.held[id]) || e != b.why(id, 0, 0) {
		t.Fatalf("Len(%d): %d, %d, want %d, %d", id, n, e, len(b.held[id]), b.why(id, 0, 0))
	}
}

// says asks for all that can be told of the ids that are mapped, and of such as are not, and changes nothing.
func (b *both) says(t *testing.T) {
	t.Helper()
	b.saysFree(t)
	for id, data := range b.held {
		b.length(t, id)
		b.read(t, id, 0, len(data))
		b.read(t, id, 0, len(data)+1)
		for _, beside := range []uint64{id - 1, id + 1, ^id} {
			b.length(t, beside)
			b.read(t, beside, 0, len(b.held[beside]))
		}
	}
}

// mark answers n bytes of id's own kind: none 0, and each another one than those beside it and than those of the ids beside it.
func mark(id uint64, n int) []byte {
	out := make([]byte, n)
	for i := range out {
		out[i] = byte(1 + (id*83+uint64(i)*11)%255)
	}
	return out
}

// fill writes each byte of id.
func (b *both) fill(t *testing.T, id uint64) {
	t.Helper()
	b.write(t, id, 0, mark(id, len(b.held[id])))
}

// dirty answers a space of so many frames, each of which was written all over, and all of which are free again.
func dirty(t *testing.T, frames int) *both {
	t.Helper()
	b := began(frames)
	for id := range uint64(frames) {
		b.mapped(t, id, api.Frame)
		b.fill(t, id)
	}
	for id := range uint64(frames) {
		b.unmap(t, id)
	}
	return b
}

// lengths answers numbers of bytes at the edges: of none, of a frame, of a few, and of the most.
func lengths() []int {
	return []int{0, 1, 2, api.Frame - 1, api.Frame, api.Frame + 1, 2*api.Frame - 1, 2 * api.Frame, 2*api.Frame + 1, api.MaxData - api.Frame, api.MaxData - 1, api.MaxData}
}

// sizes answers numbers of frames: none, few, what MaxData bytes need and what they nearly do, and the most.
func sizes() []int {
	return []int{0, 1, 2, 3, 4, 5, 7, 15, 16, 17, 255, 256, 257, api.MaxFrames - 1, api.MaxFrames}
}

// outside answers numbers that are not from 0 to n: beside them, at the ends of int, and such as come in among them where they are cut short or wrap round.
func outside(n int) []int {
	const half = 1 << (bits.UintSize / 2)
	const most = math.MaxInt/api.Frame + 1 // times Frame it is no int any more
	all := []int{
		math.MinInt, math.MinInt + 1, math.MinInt + api.Frame, -2 * most, -most, -half, -half + 1, -api.MaxFrames, -256, -255, -api.MaxData - 1, -api.MaxData, -api.Frame - 1, -api.Frame, -api.Frame + 1, -n - 1, -n, -2, -1,
		n + 1, n + 2, 2*n + 1, n + api.Frame, api.MaxData + 1, api.MaxData + api.Frame, 256, 257, api.MaxFrames, api.MaxFrames + 1, half, half + 1, most, most + 1, 2 * most, 2*most + 1,
		math.MaxInt - n, math.MaxInt - api.MaxData, math.MaxInt - api.Frame, math.MaxInt - api.Frame + 1, math.MaxInt - 1, math.MaxInt,
	}
	return slices.DeleteFunc(all, func(x int) bool { return 0 <= x && x <= n })
}

// ids answers ids at the edges, among them such as are the same one where they are cut short.
func ids() []uint64 {
	out := []uint64{0, 1, 2, 63, 64, 255, 1<<15 + 1}
	for _, shift := range []int{8, 16, 31, 32, 48, 52, 53, 62, 63} {
		out = append(out, 1<<shift-1, 1<<shift, 1<<shift+1)
	}
	out = append(out, math.MaxUint64-1, math.MaxUint64)
	slices.Sort(out)
	return slices.Compact(out)
}

// New

func TestNewHasSoManyFrames(t *testing.T) {
	for _, x := range []struct{ frames, want int }{
		{math.MinInt, 0}, {math.MinInt + 1, 0}, {-api.MaxFrames - 1, 0}, {-api.MaxFrames, 0}, {-3, 0}, {-1, 0},
		{0, 0}, {1, 1}, {2, 2}, {3, 3}, {4, 4}, {5, 5}, {api.Frame, api.Frame}, {255, 255}, {256, 256}, {257, 257},
		{api.MaxFrames - 1, api.MaxFrames - 1}, {api.MaxFrames, api.MaxFrames}, {api.MaxFrames + 1, api.MaxFrames}, {api.MaxFrames + 9, api.MaxFrames}, {2 * api.MaxFrames, api.MaxFrames},
		{1 << (bits.UintSize / 2), api.MaxFrames}, {math.MaxInt/api.Frame + 1, api.MaxFrames}, {math.MaxInt - 1, api.MaxFrames}, {math.MaxInt, api.MaxFrames},
	} {
		s := pages.New(x.frames)
		if s == nil {
			t.Fatalf("New(%d): nil", x.frames)
		}
		if got := s.Free(); got != x.want {
			t.Errorf("New(%d): %d frames free, want %d", x.frames, got, x.want)
		}
		b := &both{s: s, frames: x.want, held: map[uint64][]byte{}}
		for id := range uint64(x.want) {
			b.mapped(t, id, 1)
		}
		for range 3 {
			if e := s.Map(9000, 1); e != api.ErrFull || s.Free() != 0 {
				t.Fatalf("New(%d): Map when none is free: %d, %d free", x.frames, e, s.Free())
			}
		}
	}
}

func TestNewHasNoIdMapped(t *testing.T) {
	for _, frames := range sizes() {
		b := began(frames)
		for _, id := range ids() {
			b.length(t, id)
			b.read(t, id, 0, 0)
			b.write(t, id, 0, nil)
			b.unmap(t, id)
		}
	}
}

// Map

func TestMapOfTheExample(t *testing.T) {
	s := pages.New(7)
	if e := s.Map(5, 20); e != api.OK || s.Free() != 5 {
		t.Errorf("Map(5, 20): %d, and %d of 7 frames free", e, s.Free())
	}
}

func TestMapTakesAsManyFramesAsTheBytesNeed(t *testing.T) {
	want := 0
	for n := range api.MaxData + 1 {
		if n%api.Frame == 1 {
			want++
		}
		for _, frames := range []int{want, want + 1, 9, api.MaxFrames} {
			s := pages.New(frames)
			if e := s.Map(3, n); e != api.OK || s.Free() != frames-want {
				t.Errorf("Map of %d bytes, %d frames free: %d, then %d free, want %d", n, frames, e, s.Free(), frames-want)
			}
			if got, e := s.Len(3); got != n || e != api.OK {
				t.Errorf("Len of %d bytes: %d, %d", n, got, e)
			}
		}
	}
}

// holdNoughts asks that id has n bytes of noughts, read at once and one by one.
func holdNoughts(t *testing.T, s *pages.Space, id uint64, n int) {
	t.Helper()
	if got, e := s.Read(id, 0, n); !bytes.Equal(got, make([]byte, n)) || e != api.OK {
		t.Errorf("%d bytes that are new: %v, %d", n, got, e)
	}
	for off := range n {
		if got, e := s.Read(id, off, 1); len(got) != 1 || got[0] != 0 || e != api.OK {
			t.Errorf("byte %d of %d that are new: %v, %d", off, n, got, e)
		}
	}
}

func TestMapGivesNoughts(t *testing.T) {
	for n := range api.MaxData + 1 {
		b := began(4)
		b.mapped(t, 1, n)
		holdNoughts(t, b.s, 1, n)
	}
}

func TestMapGivesNoughtsWhereFramesWereWrittenAhead(t *testing.T) {
	for n := range api.MaxData + 1 {
		for _, frames := range []int{need(n), need(n) + 1, 9} {
			b := dirty(t, frames)
			for range 3 {
				b.mapped(t, 1, n)
				holdNoughts(t, b.s, 1, n)
				b.fill(t, 1)
				b.says(t)
				b.unmap(t, 1)
			}
		}
	}
}

func TestMapGivesNoughtsBesideOthers(t *testing.T) {
	for n := range api.MaxData + 1 {
		b := dirty(t, 16)
		for id := range uint64(8) {
			b.mapped(t, id, 17)
			b.fill(t, id)
		}
		// Every other one goes: what comes in its place stands in frames that are apart.
		for id := uint64(0); id < 8; id += 2 {
			b.unmap(t, id)
		}
		b.mapped(t, 100, n)
		holdNoughts(t, b.s, 100, n)
		b.fill(t, 100)
		b.says(t)
	}
}

func TestMapGivesNoughtsWhereOneByteAloneWasWritten(t *testing.T) {
	for off := range api.MaxData {
		b := began(4)
		b.mapped(t, 1, api.MaxData)
		b.write(t, 1, off, []byte{200})
		b.unmap(t, 1)
		b.mapped(t, 2, api.MaxData)
		holdNoughts(t, b.s, 2, api.MaxData)
	}
}

func TestMapOfTooFewOrTooManyBytesIsErrArg(t *testing.T) {
	for _, frames := range sizes() {
		b := began(frames)
		for _, n := range outside(api.MaxData) {
			if e := b.s.Map(1, n); e != api.ErrArg {
				t.Errorf("Map of %d bytes, %d frames free: %d", n, frames, e)
			}
			b.length(t, 1)
			b.saysFree(t)
		}
		// Nor is anything mapped for it.
		b.tryMap(t, 1, 1)
		b.says(t)
	}
}

func TestMapOfAnIdThatIsMappedIsErrArg(t *testing.T) {
	for _, had := range lengths() {
		for _, more := range []int{0, 1, 3, 4, 9} {
			b := began(need(had) + more)
			b.mapped(t, 8, had)
			b.fill(t, 8)
			for _, n := range append(lengths(), outside(api.MaxData)...) {
				// Also where more frames are needed than are free: ErrFull comes behind it.
				if e := b.s.Map(8, n); e != api.ErrArg {
					t.Errorf("Map of %d bytes to an id that has %d, %d frames free: %d", n, had, more, e)
				}
				b.says(t)
			}
		}
	}
}

func TestMapOfAnIdThatIsUnmapped(t *testing.T) {
	b := began(4)
	for _, had := range lengths() {
		for _, n := range lengths() {
			b.mapped(t, 8, had)
			b.fill(t, 8)
			b.unmap(t, 8)
			b.mapped(t, 8, n)
			holdNoughts(t, b.s, 8, n)
			b.says(t)
			b.unmap(t, 8)
		}
	}
}

func TestMapIsErrFullWhereTooFewFramesAreFree(t *testing.T) {
	for free := range 6 {
		for _, others := range []int{0, 1, 5, api.MaxFrames - 6} {
			for n := range api.MaxData + 1 {
				b := began(others + free)
				for id := range others {
					b.mapped(t, uint64(id), api.Frame)
				}
				want := api.OK
				if n > free*api.Frame {
					want = api.ErrFull
				}
				if e := b.s.Map(9000, n); e != want {
					t.Fatalf("Map of %d bytes, %d frames free: %d, want %d", n, free, e, want)
				}
			}
		}
	}
}

func TestMapThatIsErrFullChangesNothing(t *testing.T) {
	for free := range 4 {
		for n := free*api.Frame + 1; n <= api.MaxData; n++ {
			b := dirty(t, free+6)
			for id := range uint64(3) {
				b.mapped(t, id, 20)
				b.fill(t, id)
			}
			for range 3 {
				if e := b.s.Map(9, n); e != api.ErrFull {
					t.Fatalf("Map of %d bytes, %d frames free: %d", n, free, e)
				}
				b.length(t, 9)
				b.unmap(t, 9)
				b.says(t)
			}
			// What is free is all there for less.
			b.mapped(t, 9, free*api.Frame)
			holdNoughts(t, b.s, 9, free*api.Frame)
			b.says(t)
		}
	}
}

func TestMapIsNotFullForGood(t *testing.T) {
	b := began(5)
	b.mapped(t, 1, 64)
	b.tryMap(t, 2, 17) // ErrFull: one too few
	b.tryMap(t, 2, 64)
	b.unmap(t, 1)
	b.mapped(t, 2, 64)
	b.mapped(t, 3, 16)
	b.tryMap(t, 4, 1) // ErrFull
	b.mapped(t, 4, 0)
	b.unmap(t, 3)
	b.mapped(t, 5, 1)
	b.says(t)
}

func TestMapOfNoBytesNeedsNoFrame(t *testing.T) {
	for _, frames := range sizes() {
		b := began(frames)
		for id := range uint64(frames) {
			b.mapped(t, id, 3)
		}
		for id := uint64(9000); id < 9040; id++ {
			b.mapped(t, id, 0)
			b.tryMap(t, id, 0) // ErrArg: it is mapped
			b.tryMap(t, id, 1) // and so it is here, though there is no room
		}
		b.says(t)
		for id := uint64(9000); id < 9040; id++ {
			b.unmap(t, id)
		}
		b.says(t)
	}
}

func TestMapOfIdsAtTheEdges(t *testing.T) {
	b := began(api.MaxFrames)
	for i, id := range ids() {
		b.mapped(t, id, lengths()[i%len(lengths())])
		b.fill(t, id)
	}
	b.says(t)
	for _, id := range ids() {
		b.tryMap(t, id, 1) // ErrArg
		b.unmap(t, id)
		b.says(t)
	}
}

func TestMapOfIdsInOtherOrders(t *testing.T) {
	all := ids()
	falling := slices.Clone(all)
	slices.Reverse(falling)
	for _, order := range [][]uint64{all, falling} {
		b := began(api.MaxFrames)
		for _, id := range order {
			b.mapped(t, id, 33)
			b.fill(t, id)
		}
		b.says(t)
		for i := range all {
			b.unmap(t, all[(i*7+3)%len(all)])
			b.tryMap(t, all[(i*5)%len(all)], 64)
			b.says(t)
		}
	}
}

func TestMapOfASpaceToTheBrim(t *testing.T) {
	for _, n := range []int{1, 15, 16, 17, 32, 48, 49, 64} {
		b := began(api.MaxFrames)
		id := uint64(0)
		for b.free() >= need(n) {
			b.mapped(t, id, n)
			b.fill(t, id)
			id++
		}
		b.tryMap(t, id, n)
		b.says(t)
		for id > 0 {
			id--
			b.unmap(t, id)
		}
		b.says(t)
	}
}

// Unmap

func TestUnmapOfNoneIsErrNone(t *testing.T) {
	b := began(8)
	b.mapped(t, 5, 20)
	b.mapped(t, 6, 0)
	b.fill(t, 5)
	for _, id := range ids() {
		if e := b.s.Unmap(id); e != api.ErrNone {
			t.Errorf("Unmap(%d): %d", id, e)
		}
		b.says(t)
	}
	for _, id := range []uint64{5, 6} {
		if e := b.s.Unmap(id); e != api.OK {
			t.Errorf("Unmap(%d): %d", id, e)
		}
		delete(b.held, id)
		for range 3 {
			if e := b.s.Unmap(id); e != api.ErrNone {
				t.Errorf("Unmap(%d) again: %d", id, e)
			}
			b.says(t)
			b.length(t, id)
		}
	}
}

func TestUnmapGivesTheFramesBack(t *testing.T) {
	for _, n := range lengths() {
		for _, frames := range []int{need(n), need(n) + 1, 9, api.MaxFrames} {
			s := pages.New(frames)
			for range 3 * (api.MaxFrames + 1) {
				if e := s.Map(7, n); e != api.OK {
					t.Fatalf("Map of %d bytes: %d", n, e)
				}
				if e := s.Unmap(7); e != api.OK || s.Free() != frames {
					t.Fatalf("Unmap of %d bytes: %d, %d of %d frames free", n, e, s.Free(), frames)
				}
			}
		}
	}
}

func TestUnmapLeavesTheOthersAsTheyWere(t *testing.T) {
	for gone := range 1 << 6 {
		b := began(18)
		for id := range uint64(6) {
			b.mapped(t, id, int(id)*9+1)
			b.fill(t, id)
		}
		for id := range uint64(6) {
			if gone>>id&1 != 0 {
				b.unmap(t, id)
				b.says(t)
				for _, off := range []int{0, 1} {
					b.read(t, id, 0, off) // ErrNone
					b.write(t, id, 0, make([]byte, off))
				}
			}
		}
		// What comes in their place changes nothing of the others either.
		for id := uint64(20); b.free() > 0; id++ {
			b.mapped(t, id, min(b.free()*api.Frame, 40))
			b.fill(t, id)
			b.says(t)
		}
	}
}

// Read and Write

func TestReadAtEveryPlace(t *testing.T) {
	for n := range api.MaxData + 1 {
		b := began(6)
		b.mapped(t, 1, 16)
		b.mapped(t, 2, n)
		b.fill(t, 1)
		b.fill(t, 2)
		for off := -1; off <= n+1; off++ {
			for m := -1; m <= n+2; m++ {
				b.read(t, 2, off, m)
			}
		}
		b.says(t)
	}
}

func TestReadTellsTheBytesInTheirOrder(t *testing.T) {
	const all = "abcdefghijklmnopqrstuvwxyzABCDEFGHIJKLMNOPQRSTUVWXYZ0123456789+-"
	s := pages.New(4)
	s.Map(1, len(all))
	if e := s.Write(1, 0, []byte(all)); e != api.OK {
		t.Fatalf("Write: %d", e)
	}
	for _, x := range []struct {
		off  int
		want string
	}{
		{0, all}, {0, "a"}, {0, ""}, {64, ""}, {63, "-"}, {15, "pq"}, {14, "opq"}, {15, "pqr"}, {16, "q"}, {15, "p"},
		{0, "abcdefghijklmnop"}, {16, "qrstuvwxyzABCDEF"}, {1, "bcdefghijklmnopq"}, {31, "FGHIJKLMNOPQRSTUVW"}, {47, "VW"}, {30, all[30:]},
	} {
		if got, e := s.Read(1, x.off, len(x.want)); string(got) != x.want || e != api.OK {
			t.Errorf("Read from %d: %q, %d, want %q", x.off, got, e, x.want)
		}
	}
}

func TestReadAndWriteOfNoBytes(t *testing.T) {
	for _, n := range lengths() {
		b := began(4)
		b.mapped(t, 1, n)
		b.fill(t, 1)
		for off := range n + 1 { // also at the very end
			got, e := b.s.Read(1, off, 0)
			if len(got) != 0 || e != api.OK {
				t.Errorf("Read of no bytes at %d of %d: %v, %d", off, n, got, e)
			}
			for _, none := range [][]byte{nil, {}} {
				if e := b.s.Write(1, off, none); e != api.OK {
					t.Errorf("Write of no bytes at %d of %d: %d", off, n, e)
				}
			}
			b.says(t)
		}
		if got, e := b.s.Read(1, n+1, 0); len(got) != 0 || e != api.ErrRange {
			t.Errorf("Read of no bytes behind the end of %d: %v, %d", n, got, e)
		}
		if e := b.s.Write(1, n+1, nil); e != api.ErrRange {
			t.Errorf("Write of no bytes behind the end of %d: %d", n, e)
		}
	}
}

func TestWriteAtEveryPlace(t *testing.T) {
	for _, n := range lengths() {
		for off := -1; off <= n+1; off++ {
			for m := range n + 3 {
				b := began(7)
				b.mapped(t, 1, 16)
				b.mapped(t, 2, n)
				b.mapped(t, 3, 16)
				b.write(t, 2, off, mark(77, m))
				b.says(t)
				b.fill(t, 1)
				b.fill(t, 2)
				b.fill(t, 3)
				b.write(t, 2, off, mark(99, m))
				b.says(t)
			}
		}
	}
}

func TestWriteOfEachByte(t *testing.T) {
	b := began(4)
	b.mapped(t, 1, api.MaxData)
	for x := range 256 {
		for off := range api.MaxData {
			b.write(t, 1, off, []byte{byte(x + off)})
		}
		b.says(t)
	}
}

func TestWritesOneOverTheOther(t *testing.T) {
	b := began(4)
	b.mapped(t, 1, 40)
	b.write(t, 1, 0, mark(1, 40))
	b.write(t, 1, 10, mark(2, 12))
	b.write(t, 1, 15, mark(3, 2))
	b.write(t, 1, 39, mark(4, 1))
	b.write(t, 1, 0, make([]byte, 17)) // noughts are bytes too
	b.says(t)
	b.write(t, 1, 30, mark(5, 11)) // ErrRange
	b.says(t)
}

// holdErrRange asks that a read and a write at off of n bytes (as many as can be had) of b's id 2 are ErrRange and change nothing.
func holdErrRange(t *testing.T, b *both, off, n int) {
	t.Helper()
	if got, e := b.s.Read(2, off, n); len(got) != 0 || e != api.ErrRange {
		t.Errorf("Read at %d of %d bytes, of %d: %v, %d", off, n, len(b.held[2]), got, e)
	}
	if 0 <= n && n <= 1000 {
		if e := b.s.Write(2, off, mark(55, n)); e != api.ErrRange {
			t.Errorf("Write at %d of %d bytes, of %d: %d", off, n, len(b.held[2]), e)
		}
	}
	b.says(t)
}

func TestReadAndWriteOfWhatIsNotThereAreErrRange(t *testing.T) {
	for _, size := range lengths() {
		b := began(7)
		b.mapped(t, 1, 16)
		b.mapped(t, 2, size)
		b.mapped(t, 3, 16)
		b.fill(t, 1)
		b.fill(t, 2)
		b.fill(t, 3)
		for _, off := range outside(size) {
			for _, n := range append(outside(size), 0, 1, size) {
				holdErrRange(t, b, off, n)
			}
		}
		for off := range size + 1 {
			for _, n := range append(outside(size-off), size-off+1) {
				holdErrRange(t, b, off, n)
			}
		}
	}
}

func TestReadAndWriteWhoseSumIsNoIntAreErrRange(t *testing.T) {
	b := began(4)
	b.mapped(t, 2, 20)
	b.fill(t, 2)
	for _, x := range [][2]int{
		{1, math.MaxInt}, {math.MaxInt, 1}, {20, math.MaxInt}, {2, math.MaxInt - 1}, {math.MaxInt, math.MaxInt}, {math.MaxInt - 5, 30}, {math.MaxInt - 5, 6},
		{math.MinInt, math.MinInt}, {math.MinInt, math.MinInt + 20}, {-1, math.MinInt}, {math.MinInt, -1}, {-5, 10}, {10, -5}, {-5, 5}, {20, -20}, {-20, 40},
	} {
		holdErrRange(t, b, x[0], x[1])
	}
}

func TestAWriteThatDoesNotFitWholeWritesNoByte(t *testing.T) {
	for _, size := range lengths() {
		for off := range size + 1 {
			b := began(4)
			b.mapped(t, 2, size)
			b.write(t, 2, off, mark(9, size-off+1))
			holdNoughts(t, b.s, 2, size)
			b.write(t, 2, off-1, mark(9, size-off+2))
			holdNoughts(t, b.s, 2, size)
			b.write(t, 2, -1, mark(9, size))
			holdNoughts(t, b.s, 2, size)
		}
	}
}

func TestErrNoneIsToldAheadOfErrRange(t *testing.T) {
	b := began(6)
	b.mapped(t, 2, 40)
	b.mapped(t, 4, 30)
	b.unmap(t, 4)
	b.fill(t, 2)
	numbers := append(outside(40), 0, 1, 30, 40)
	for _, id := range []uint64{1, 3, 4, math.MaxUint64} {
		for _, off := range numbers {
			for _, n := range numbers {
				if got, e := b.s.Read(id, off, n); len(got) != 0 || e != api.ErrNone {
					t.Fatalf("Read(%d, %d, %d): %v, %d", id, off, n, got, e)
				}
			}
			for n := range 70 {
				if e := b.s.Write(id, off, make([]byte, n)); e != api.ErrNone {
					t.Fatalf("Write(%d, %d) of %d bytes: %d", id, off, n, e)
				}
			}
		}
	}
	b.says(t)
}

// Len

func TestLen(t *testing.T) {
	b := began(api.MaxFrames)
	for n := range api.MaxData + 1 {
		b.mapped(t, uint64(n), n)
		if got, e := b.s.Len(uint64(n)); got != n || e != api.OK {
			t.Errorf("Len of %d bytes: %d, %d", n, got, e)
		}
	}
	for _, id := range []uint64{api.MaxData + 1, 1 << 32, 1<<32 + 5, math.MaxUint64} {
		if got, e := b.s.Len(id); got != 0 || e != api.ErrNone {
			t.Errorf("Len(%d): %d, %d", id, got, e)
		}
	}
	for id := range uint64(api.MaxData + 1) {
		b.fill(t, id)
		b.length(t, id) // writes make it no longer
		b.unmap(t, id)
		if got, e := b.s.Len(id); got != 0 || e != api.ErrNone {
			t.Errorf("Len(%d) of an id that is unmapped: %d, %d", id, got, e)
		}
	}
}

// Free

func TestFree(t *testing.T) {
	s := pages.New(9)
	hold := func(want int) {
		t.Helper()
		for range 2 {
			if got := s.Free(); got != want {
				t.Errorf("Free: %d, want %d", got, want)
			}
		}
	}
	hold(9)
	s.Map(1, 33)
	hold(6)
	s.Map(2, 0)
	hold(6)
	s.Map(1, 5)  // ErrArg
	s.Map(3, 65) // ErrArg
	s.Map(3, -1) // ErrArg
	hold(6)
	s.Map(3, 64)
	hold(2)
	s.Map(4, 33) // ErrFull
	hold(2)
	s.Write(1, 0, []byte("abc"))
	s.Write(1, 32, []byte("abc")) // ErrRange
	s.Read(3, 0, 64)
	s.Len(3)
	hold(2)
	s.Unmap(1)
	hold(5)
	s.Unmap(1) // ErrNone
	s.Unmap(2)
	s.Unmap(99) // ErrNone
	hold(5)
	s.Unmap(3)
	hold(9)
}

// A nil Space

func TestANilSpaceIsErrArg(t *testing.T) {
	var s *pages.Space
	// Ahead of all other errors, whatever the numbers.
	numbers := append(outside(api.MaxData), 0, 1, 16, api.MaxData)
	for _, id := range ids() {
		for _, n := range numbers {
			if e := s.Map(id, n); e != api.ErrArg {
				t.Errorf("Map(%d, %d): %d", id, n, e)
			}
			for _, off := range numbers {
				if b, e := s.Read(id, off, n); len(b) != 0 || e != api.ErrArg {
					t.Errorf("Read(%d, %d, %d): %v, %d", id, off, n, b, e)
				}
			}
			for _, b := range [][]byte{nil, {}, {1, 2}} {
				if e := s.Write(id, n, b); e != api.ErrArg {
					t.Errorf("Write(%d, %d, %v): %d", id, n, b, e)
				}
			}
		}
		if e := s.Unmap(id); e != api.ErrArg {
			t.Errorf("Unmap(%d): %d", id, e)
		}
		if n, e := s.Len(id); n != 0 || e != api.ErrArg {
			t.Errorf("Len(%d): %d, %d", id, n, e)
		}
		if n := s.Free(); n != 0 {
			t.Errorf("Free: %d", n)
		}
	}
}

// R3

func TestWhatReadTellsIsNewMemory(t *testing.T) {
	for _, n := range lengths() {
		b := began(6)
		b.mapped(t, 1, 16)
		b.mapped(t, 2, n)
		b.mapped(t, 3, 3)
		b.fill(t, 1)
		b.fill(t, 2)
		b.fill(t, 3)
		for off := range n + 1 {
			for m := range n - off + 1 {
				one, _ := b.s.Read(2, off, m)
				two, _ := b.s.Read(2, off, m)
				for i := range one[:cap(one)] { // its spare room too
					one[:cap(one)][i] = 0xEE
				}
				one = append(one, 0xEE)
				if !bytes.Equal(two, b.held[2][off:off+m]) {
					t.Fatalf("Read at %d of %d bytes: %v behind changes of another one's answer", off, m, two)
				}
				b.says(t)
				if len(one) != m+1 {
					t.Fatal("the answer grew otherwise")
				}
			}
		}
	}
}

func TestWhatReadToldStaysAsItWasTold(t *testing.T) {
	b := began(4)
	b.mapped(t, 1, 40)
	b.fill(t, 1)
	told, _ := b.s.Read(1, 5, 30)
	want := bytes.Clone(told)
	b.write(t, 1, 0, make([]byte, 40))
	b.unmap(t, 1)
	b.mapped(t, 2, 64)
	b.fill(t, 2)
	if !bytes.Equal(told, want) {
		t.Errorf("what Read told is %v later, was %v", told, want)
	}
}

func TestWhatWriteIsHandedIsNeitherKeptNorChanged(t *testing.T) {
	for _, n := range lengths() {
		for off := -1; off <= n+1; off++ {
			b := began(5)
			b.mapped(t, 2, n)
			b.fill(t, 2)
			roomy := mark(9, n+40)
			was := bytes.Clone(roomy)
			b.write(t, 2, off, roomy[8:n+8])
			b.write(t, 2, off, roomy[8:8+max(n-off, 0)])
			b.write(t, 3, off, roomy[8:n+8]) // ErrNone
			if !bytes.Equal(roomy, was) {
				t.Fatalf("Write at %d of %d bytes changed what it was handed", off, n)
			}
			for i := range roomy {
				roomy[i] = 0xEE
			}
			b.says(t)
		}
	}
}

func TestWriteOfWhatReadTold(t *testing.T) {
	b := began(8)
	b.mapped(t, 1, 50)
	b.mapped(t, 2, 50)
	b.fill(t, 1)
	told, _ := b.s.Read(1, 7, 40)
	b.write(t, 2, 3, told)
	b.write(t, 1, 9, told) // over where it came from
	for i := range told {
		told[i] = 0xEE
	}
	b.says(t)
}

// What follows

func TestWhatOneIdWritesNoOtherReads(t *testing.T) {
	for _, n := range lengths() {
		for _, m := range lengths() {
			b := began(8)
			b.mapped(t, 1, n)
			b.mapped(t, 2, m)
			b.fill(t, 1)
			holdNoughts(t, b.s, 2, m)
			b.fill(t, 2)
			b.says(t)
			b.write(t, 1, 0, make([]byte, n))
			b.says(t)
			b.unmap(t, 1)
			b.says(t)
			b.mapped(t, 3, n)
			holdNoughts(t, b.s, 3, n)
			b.fill(t, 3)
			b.says(t)
		}
	}
}

func TestWhatIdsAtTheEdgesWriteNoOtherReads(t *testing.T) {
	b := began(api.MaxFrames)
	for _, id := range ids() {
		b.mapped(t, id, 40)
	}
	for _, id := range ids() {
		b.fill(t, id)
		b.says(t)
	}
}

// Two spaces

func TestTwoSpacesShareNothing(t *testing.T) {
	a, b := began(4), began(9)
	for id := range uint64(4) {
		a.mapped(t, id, 16)
		b.says(t)
		b.mapped(t, id, 20)
		a.fill(t, id)
		holdNoughts(t, b.s, id, 20)
	}
	a.tryMap(t, 9, 1) // ErrFull
	b.tryMap(t, 9, 1)
	a.says(t)
	b.says(t)
	for id := range uint64(4) {
		a.unmap(t, id)
		b.says(t)
	}
	c := began(4)
	c.mapped(t, 0, 64)
	holdNoughts(t, c.s, 0, 64)
	c.fill(t, 0)
	a.says(t)
	b.says(t)
}

// Long runs

// chance answers numbers that look like chance, and are the same in each run.
type chance uint32

func (c *chance) below(n int) int {
	*c = *c*1664525 + 1013904223
	return int(uint64(*c) * uint64(n) >> 32) // by its high bits: the low ones come round too soon
}

// near answers a number from -1 to n + 1, and at times one that is far from there.
func (c *chance) near(n int) int {
	if far := outside(n); c.below(20) == 0 {
		return far[c.below(len(far))]
	}
	return c.below(n+3) - 1
}

// id answers one of a few ids, which are far apart.
func (c *chance) id(few int) uint64 {
	all := ids()
	few = min(few, len(all))
	return all[c.below(few)*len(all)/few]
}

// bytes answers some bytes, of mostly as few as fit into n.
func (c *chance) bytes(n int) []byte {
	out := make([]byte, min(max(c.near(n), 0), 100))
	for i := range out {
		out[i] = byte(c.below(256))
	}
	return out
}

// step makes one call of the space, of id: the more maps, the oftener one is Map, and not Unmap.
func (b *both) step(t *testing.T, c *chance, id uint64, maps int) {
	t.Helper()
	size := len(b.held[id])
	switch k := c.below(20); {
	case k < maps:
		b.tryMap(t, id, c.near(api.MaxData))
	case k < 6:
		b.unmap(t, id)
	case k < 13:
		off := c.near(size)
		b.write(t, id, off, c.bytes(max(0, min(size-off, size))))
	case k < 18:
		off := c.near(size)
		b.read(t, id, off, c.near(max(0, min(size-off, size))))
	default:
		b.length(t, id)
	}
}

func TestLongRunsOfAllTheCalls(t *testing.T) {
	for _, frames := range []int{0, 1, 2, 4, 5, 9, 20} {
		for _, seed := range []chance{1, 12, 123} {
			a, b := began(frames), began(frames+1)
			for i := range 2000 {
				// By turns it fills up, and empties.
				maps := []int{5, 1}[i/60%2]
				a.step(t, &seed, seed.id(8), maps)
				b.step(t, &seed, seed.id(8), 6-maps)
				a.says(t)
				b.says(t)
			}
		}
	}
}

func TestLongRunsOfAllTheCallsOfTheGreatestSpace(t *testing.T) {
	seed := chance(7)
	b := began(api.MaxFrames)
	var most, least = 0, api.MaxFrames
	for i := range 40000 {
		// More ids than ids answers: so many that the frames don't do.
		id := seed.id(40) + uint64(seed.below(12))<<40
		b.step(t, &seed, id, []int{5, 1}[i/5000%2])
		most, least = max(most, b.s.Free()), min(least, b.s.Free())
		if i%400 == 0 {
			b.says(t)
		}
	}
	b.says(t)
	if least > 3 || most < api.MaxFrames {
		t.Errorf("the run had from %d to %d frames free", least, most)
	}
}

func TestTheSameCallsAreToldTheSame(t *testing.T) {
	one, two := chance(5), chance(5)
	a, b := pages.New(6), pages.New(6)
	run := func(s *pages.Space, c *chance) string {
		m, u := s.Map(c.id(5), c.near(api.MaxData)), s.Unmap(c.id(5))
		w := s.Write(c.id(5), c.near(40), c.bytes(30))
		data, e := s.Read(c.id(5), c.near(40), c.near(30))
		n, l := s.Len(c.id(5))
		return fmt.Sprint(m, u, w, data, e, n, l, s.Free())
	}
	for range 3000 {
		if x, y := run(a, &one), run(b, &two); x != y {
			t.Fatalf("the same calls: %v, then %v", x, y)
		}
	}
}

// R1

func TestWhateverNumbersCallsEnd(t *testing.T) {
	var none *pages.Space
	spaces := []*pages.Space{none, {}, new(pages.Space)}
	for _, frames := range append(outside(0), 0, 1, 5) {
		some := pages.New(frames)
		some.Map(1, 20)
		some.Map(math.MaxUint64, 0)
		spaces = append(spaces, pages.New(frames), some)
	}
	numbers := append(outside(api.MaxData), 0, 1, 5, 15, 64)
	for _, s := range spaces {
		for _, id := range []uint64{0, 1, 2, 1 << 63, math.MaxUint64} {
			for _, off := range numbers {
				for _, n := range numbers {
					s.Read(id, off, n)
				}
				s.Write(id, off, nil)
				s.Write(id, off, make([]byte, 3))
				s.Write(id, off, make([]byte, 1000))
				s.Map(id, off)
				s.Len(id)
				s.Free()
			}
			s.Unmap(id)
		}
	}
}

// It was given no frames.
func TestASpaceThatNewDidNotMakeHasNoFrames(t *testing.T) {
	b := &both{s: &pages.Space{}, held: map[uint64][]byte{}}
	b.saysFree(t)
	b.length(t, 1)
	b.unmap(t, 1)
	b.read(t, 1, 0, 0)
	b.write(t, 1, 0, nil)
	b.tryMap(t, 1, 1)
	b.tryMap(t, 1, 65)
	b.tryMap(t, 1, 0)
	b.tryMap(t, 1, 0)
	b.says(t)
	b.unmap(t, 1)
	b.says(t)
}
