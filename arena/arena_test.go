package arena_test

import (
	"bytes"
	"fmt"
	"math"
	"math/bits"
	"slices"
	"sync"
	"testing"

	"transom/api"
	"transom/arena"
	"transom/num"
)

// row is an id, and its record.
type row struct {
	id  uint64
	rec []byte
}

// both is an arena, and what P19.1 says of it: a plain list of ids and records.
type both struct {
	a       *arena.Arena
	version byte
	rows    []row // in whatever order
}

// began answers an arena without records.
func began(version byte) *both {
	return &both{a: arena.New(version), version: version}
}

// find tells where id's row is: -1 if there is none.
func (b *both) find(id uint64) int {
	return slices.IndexFunc(b.rows, func(r row) bool { return r.id == id })
}

// ids answers what IDs is to tell.
func (b *both) ids() []uint64 {
	var out []uint64
	for _, r := range b.rows {
		out = append(out, r.id)
	}
	slices.Sort(out)
	return out
}

// rec answers the record of an id that has one.
func (b *both) rec(id uint64) []byte { return b.rows[b.find(id)].rec }

// size answers what Size is to tell.
func (b *both) size() int {
	n := 0
	for _, r := range b.rows {
		n += len(r.rec)
	}
	return n
}

// bytes answers what Bytes is to tell, byte by byte.
func (b *both) bytes() []byte {
	var out []byte
	for _, id := range b.ids() {
		rec := b.rec(id)
		out = append(out, byte(id>>56), byte(id>>48), byte(id>>40), byte(id>>32), byte(id>>24), byte(id>>16), byte(id>>8), byte(id))
		out = append(out, byte(len(rec)>>8), byte(len(rec)))
		out = append(out, rec...)
	}
	return out
}

// brief tells a record: of a long one how it begins.
func brief(rec []byte) string {
	if len(rec) <= 40 {
		return fmt.Sprint(rec)
	}
	return fmt.Sprintf("%d bytes, from %v", len(rec), rec[:16])
}

// get asks for Get.
func (b *both) get(t *testing.T, id uint64) {
	t.Helper()
	var want []byte
	why := api.ErrNone
	if b.find(id) >= 0 {
		want, why = b.rec(id), api.OK
	}
	if got, e := b.a.Get(id); !bytes.Equal(got, want) || e != why {
		t.Fatalf("Get(%d): %s, %d, want %s, %d", id, brief(got), e, brief(want), why)
	}
}

// says asks for IDs, Size and Bytes, and for Get of each id that has a record.
func (b *both) says(t *testing.T) {
	t.Helper()
	ids := b.ids()
	if got := b.a.IDs(); !slices.Equal(got, ids) {
		t.Fatalf("IDs: %v, want %v", got, ids)
	}
	if got := b.a.Size(); got != b.size() {
		t.Fatalf("Size: %d, want %d", got, b.size())
	}
	if got := b.a.Bytes(); !bytes.Equal(got, b.bytes()) {
		t.Fatalf("Bytes: %s, want %s", brief(got), brief(b.bytes()))
	}
	for _, id := range ids {
		b.get(t, id)
	}
}

// saysOf asks for all, and for Get of these ids too.
func (b *both) saysOf(t *testing.T, ids []uint64) {
	t.Helper()
	b.says(t)
	for _, id := range ids {
		b.get(t, id)
	}
}

// put asks for Put.
func (b *both) put(t *testing.T, id uint64, rec []byte) {
	t.Helper()
	why := api.OK
	if len(rec) == 0 || rec[0] != b.version {
		why = api.ErrArg
	}
	if e := b.a.Put(id, rec); e != why {
		t.Fatalf("Put(%d, %s) of version %d: %d, want %d", id, brief(rec), b.version, e, why)
	}
	if why != api.OK {
		return
	}
	if i := b.find(id); i >= 0 {
		b.rows[i].rec = bytes.Clone(rec)
	} else {
		b.rows = append(b.rows, row{id: id, rec: bytes.Clone(rec)})
	}
}

// drop asks for Drop.
func (b *both) drop(t *testing.T, id uint64) {
	t.Helper()
	why := api.ErrNone
	i := b.find(id)
	if i >= 0 {
		why = api.OK
	}
	if e := b.a.Drop(id); e != why {
		t.Fatalf("Drop(%d): %d, want %d", id, e, why)
	}
	if i >= 0 {
		b.rows = slices.Delete(b.rows, i, i+1)
	}
}

// copied asks for Copy.
func (b *both) copied(t *testing.T) *both {
	t.Helper()
	c := b.a.Copy()
	if c == nil || c == b.a {
		t.Fatalf("Copy: %p of %p", c, b.a)
	}
	return &both{a: c, version: b.version, rows: slices.Clone(b.rows)}
}

// of answers a record of so many bytes, which differ from their neighbours and from those of another mark.
func of(version byte, mark, size int) []byte {
	out := make([]byte, size)
	for i := range out {
		out[i] = byte(mark*37 + i*7 + i/256)
	}
	out[0] = version
	return out
}

// fill puts a record for each of these ids: of another length each.
func (b *both) fill(t *testing.T, ids []uint64) {
	t.Helper()
	for i, id := range ids {
		b.put(t, id, of(b.version, i, 1+i%9))
	}
}

// count answers n ids, from 1 on, each so much above the one ahead of it.
func count(n, step int) []uint64 {
	var out []uint64
	for i := range n {
		out = append(out, uint64(1+i*step))
	}
	return out
}

// names are names of objects.
func names() []uint64 {
	return []uint64{api.Root, 65, 67, 127, 65<<6 | 1, 65<<6 | 63, 67<<6 | 2, 127<<6 | 63, 1<<36 | 0x41041041, 1<<42 - 1, 1<<42 - 1<<41 - 1}
}

// noNames are ids that are no names of objects.
func noNames() []uint64 {
	return []uint64{0, 2, 3, 63, 64, 128, 255, 256, 257, 4096, 65535, 65536, 1<<32 - 1, 1 << 32, 1<<32 | 65, 1 << 42, 1<<48 | 65, 1<<63 - 1, 1 << 63, 1<<63 | 1, math.MaxUint64 - 1, math.MaxUint64, 0x0102030405060708}
}

// edges are ids of both kinds.
func edges() []uint64 { return slices.Concat(names(), noNames()) }

// lengths are those of records, on either side of what a byte says, and at both ends.
func lengths() []int {
	return []int{1, 2, 3, 15, 16, 17, 64, 255, 256, 257, 511, 512, 4096, 65534, 65535}
}

// versions are some of them, those at both ends among them.
func versions() []byte { return []byte{0, 1, 2, 127, 128, 254, 255} }

// mixed answers the list in an order that is neither rising nor falling, and the same each time.
func mixed(ids []uint64, seed uint64) []uint64 {
	out := slices.Clone(ids)
	c := chance(seed)
	for i := range out {
		j := i + c.below(len(out)-i)
		out[i], out[j] = out[j], out[i]
	}
	return out
}

// fallen answers the list the other way round.
func fallen(ids []uint64) []uint64 {
	out := slices.Clone(ids)
	slices.Reverse(out)
	return out
}

// orders answers the list in some orders.
func orders(ids []uint64) [][]uint64 {
	rising := slices.Clone(ids)
	slices.Sort(rising)
	return [][]uint64{rising, fallen(rising), mixed(rising, 1), mixed(rising, 2), ids}
}

// New

func TestNewOfEachVersionHasNoRecord(t *testing.T) {
	for v := range 256 {
		b := began(byte(v))
		if b.a == nil {
			t.Fatalf("New(%d): nil", v)
		}
		b.saysOf(t, edges())
		for _, id := range edges() {
			b.drop(t, id)
		}
		b.saysOf(t, edges())
	}
}

func TestNewOfEachVersionTakesRecordsOfIt(t *testing.T) {
	for v := range 256 {
		b := began(byte(v))
		for other := range 256 {
			b.put(t, 7, []byte{byte(other)})
			b.put(t, uint64(1000+other), []byte{byte(other), byte(v)})
		}
		b.saysOf(t, []uint64{6, 7, 8, 999, 1000, 1255})
		if len(b.rows) != 2 {
			t.Fatalf("version %d: %d records of one version", v, len(b.rows))
		}
	}
}

func TestTwoArenasShareNothing(t *testing.T) {
	for _, v := range []byte{1, 2} {
		a, b := began(1), began(v)
		a.fill(t, count(40, 3))
		b.says(t)
		b.fill(t, count(70, 2))
		a.says(t)
		for _, id := range count(40, 3) {
			b.drop(t, id)
		}
		a.says(t)
		b.says(t)
		a.drop(t, 4)
		b.saysOf(t, []uint64{4})
		a.saysOf(t, []uint64{4})
	}
}

// Put

func TestPutOfTheExample(t *testing.T) {
	a := arena.New(1)
	if e := a.Put(5, []byte{2}); e != api.ErrArg {
		t.Errorf("Put(5, {2}): %d", e)
	}
	if rec, e := a.Get(5); len(rec) != 0 || e != api.ErrNone {
		t.Errorf("Get(5): %v, %d", rec, e)
	}
	if len(a.IDs())+a.Size()+len(a.Bytes()) != 0 {
		t.Errorf("%v, %d, %v", a.IDs(), a.Size(), a.Bytes())
	}
}

func TestPutWrittenOut(t *testing.T) {
	a := arena.New(9)
	if a.Put(0x0102, []byte{9, 8}) != api.OK || a.Put(3, []byte{9}) != api.OK {
		t.Error("Put")
	}
	if rec, e := a.Get(0x0102); !bytes.Equal(rec, []byte{9, 8}) || e != api.OK {
		t.Errorf("Get: %v, %d", rec, e)
	}
	if rec, e := a.Get(3); !bytes.Equal(rec, []byte{9}) || e != api.OK {
		t.Errorf("Get: %v, %d", rec, e)
	}
	if !slices.Equal(a.IDs(), []uint64{3, 258}) || a.Size() != 3 {
		t.Errorf("%v, %d", a.IDs(), a.Size())
	}
	if b := a.Bytes(); !bytes.Equal(b, []byte{0, 0, 0, 0, 0, 0, 0, 3, 0, 1, 9, 0, 0, 0, 0, 0, 0, 1, 2, 0, 2, 9, 8}) {
		t.Errorf("Bytes: %v", b)
	}
}

func TestPutOfEveryIdByItself(t *testing.T) {
	for _, id := range edges() {
		b := began(1)
		b.put(t, id, of(1, 3, 4))
		b.saysOf(t, edges())
		b.drop(t, id)
		b.saysOf(t, edges())
	}
}

func TestPutOfIdsBesideEachOther(t *testing.T) {
	for _, ids := range orders(edges()) {
		b := began(1)
		for i, id := range ids {
			b.put(t, id, of(1, i, 1+i))
			b.saysOf(t, edges())
		}
	}
}

// Ids that differ in one bit alone.
func TestPutOfIdsOfOneBit(t *testing.T) {
	for _, base := range []uint64{0, 65, math.MaxUint64} {
		b := began(2)
		b.put(t, base, of(2, 100, 3))
		for bit := range 64 {
			id := base ^ 1<<bit
			b.get(t, id)
			b.put(t, id, of(2, bit, 2))
			b.saysOf(t, []uint64{base, base ^ 3<<bit, id})
		}
	}
}

func TestPutOfRecordsOfEachLength(t *testing.T) {
	for _, v := range versions() {
		all := began(v)
		for i, n := range lengths() {
			b := began(v)
			b.put(t, 67, of(v, i, n))
			b.says(t)
			all.put(t, uint64(1000-i), of(v, i, n))
		}
		all.says(t)
	}
}

func TestPutOfRecordsOfEveryShortLength(t *testing.T) {
	b := began(1)
	for n := 1; n <= 600; n++ {
		b.put(t, 5, of(1, n, n))
		if b.a.Size() != n {
			t.Fatalf("Size of %d bytes: %d", n, b.a.Size())
		}
		b.says(t)
	}
}

// Behind the first byte stands whatever there is.
func TestPutOfRecordsOfWhateverBytes(t *testing.T) {
	b := began(7)
	for x := range 256 {
		b.put(t, 5, []byte{7, byte(x)})
		b.get(t, 5)
		b.put(t, uint64(10+x), []byte{7, byte(x), 7, byte(255 - x)})
	}
	b.put(t, 4, slices.Repeat([]byte{7}, 300))
	b.put(t, 6, append([]byte{7}, make([]byte, 300)...))
	b.says(t)
}

func TestPutTakesTheOtherRecordsPlace(t *testing.T) {
	sizes := []int{1, 2, 3, 16, 17, 255, 256, 300, 65535}
	for _, first := range sizes {
		for _, second := range sizes {
			b := began(1)
			b.fill(t, []uint64{4, 6})
			b.put(t, 5, of(1, 1, first))
			b.says(t)
			b.put(t, 5, of(1, 2, second))
			b.saysOf(t, []uint64{3, 7})
			b.put(t, 5, of(1, 1, first))
			b.says(t)
		}
	}
}

func TestPutOfTheSameRecordChangesNothing(t *testing.T) {
	b := began(1)
	b.fill(t, count(5, 1))
	for range 3 {
		b.fill(t, count(5, 1))
		b.saysOf(t, []uint64{0, 6})
	}
}

// Each id of many, also where there is no room left of what was made at once.
func TestPutChangesNoOtherId(t *testing.T) {
	for _, n := range []int{1, 2, 3, 31, 32, 33, 63, 64, 65, 130} {
		b := began(1)
		ids := count(n, 5)
		b.fill(t, ids)
		for i, id := range mixed(ids, uint64(n)) {
			b.put(t, id, of(1, 50+i, 1+i*3%11))
			b.saysOf(t, []uint64{id - 1, id + 1})
		}
	}
}

// notTaken are records that no arena of this version takes.
func notTaken(version byte) [][]byte {
	out := [][]byte{nil, {}, make([]byte, 0, 8), []byte{version, 1}[:0]}
	for other := range 256 {
		if x := byte(other); x != version {
			out = append(out, []byte{x}, []byte{x, version}, []byte{x, version, version, 3})
		}
	}
	return append(out, of(version+1, 1, 65535), of(version^0x80, 2, 300))
}

func TestPutOfWhatMayNotBeIsErrArg(t *testing.T) {
	for _, v := range versions() {
		for _, ids := range [][]uint64{nil, {5}, {4, 6}, {4, 5, 6}} {
			b := began(v)
			b.fill(t, ids)
			for _, rec := range notTaken(v) {
				b.put(t, 5, rec)
				b.get(t, 5)
				if len(b.a.IDs()) != len(ids) || b.a.Size() != b.size() {
					t.Fatalf("Put(5, %s): %v, %d", brief(rec), b.a.IDs(), b.a.Size())
				}
			}
			b.saysOf(t, []uint64{3, 5, 7})
		}
	}
}

func TestPutOfWhatMayNotBeChangesNothing(t *testing.T) {
	b := began(3)
	ids := edges()
	b.fill(t, ids)
	for _, id := range ids[:len(ids)/2] {
		b.drop(t, id)
	}
	for _, id := range append(ids, 9, 10, 11) {
		for _, rec := range [][]byte{nil, {}, {2}, {4, 3}, {0}} {
			b.put(t, id, rec)
			b.saysOf(t, ids)
		}
	}
	c := b.copied(t)
	c.put(t, 9, []byte{4})
	c.put(t, 9, nil)
	c.saysOf(t, ids)
}

// What is refused takes no room, and what is taken behind it stands by itself.
func TestPutBehindWhatMayNotBe(t *testing.T) {
	b := began(1)
	for i, id := range mixed(count(100, 3), 5) {
		b.put(t, id, []byte{2, 1})
		b.put(t, id, nil)
		b.get(t, id)
		b.put(t, id, of(1, i, 1+i%5))
		b.put(t, id, []byte{0})
		b.saysOf(t, []uint64{id - 1, id + 1})
	}
}

// Get

func TestGetTellsTheRecordThatWasPutLast(t *testing.T) {
	b := began(1)
	for i := range 200 {
		b.put(t, 8, of(1, i, 1+i*13%40))
		b.get(t, 8)
		b.get(t, 8)
	}
}

func TestGetOfNoneIsErrNone(t *testing.T) {
	b := began(1)
	for _, id := range edges() {
		b.get(t, id)
	}
	b.fill(t, []uint64{10, 20, 30})
	for id := range uint64(41) {
		b.get(t, id)
	}
	b.drop(t, 20)
	for id := range uint64(41) {
		b.get(t, id)
	}
	got, e := b.a.Get(20)
	if len(got) != 0 || e != api.ErrNone {
		t.Errorf("Get(20): %v, %d", got, e)
	}
}

func TestGetChangesNothing(t *testing.T) {
	b := began(1)
	b.fill(t, []uint64{5, 9, 7})
	for range 5 {
		for id := range uint64(12) {
			b.get(t, id)
		}
		b.says(t)
	}
	b.drop(t, 7)
	b.get(t, 7)
	b.put(t, 7, []byte{1, 2})
	b.says(t)
}

// Drop

func TestDropOfEachOfSome(t *testing.T) {
	for _, n := range []int{1, 2, 3, 5, 32, 33, 64, 65, 70} {
		ids := count(n, 2)
		for _, id := range ids {
			b := began(1)
			b.fill(t, ids)
			b.drop(t, id)
			b.saysOf(t, []uint64{id})
			b.drop(t, id)
			b.saysOf(t, []uint64{id})
		}
	}
}

func TestDropOfNoneIsErrNone(t *testing.T) {
	b := began(1)
	for _, id := range edges() {
		b.drop(t, id)
	}
	b.saysOf(t, edges())
	b.fill(t, []uint64{10, 20, 30})
	for id := range uint64(41) {
		if id%10 != 0 || id == 0 || id == 40 {
			b.drop(t, id)
			b.saysOf(t, []uint64{id})
		}
	}
	b.drop(t, math.MaxUint64)
	b.drop(t, 20)
	for range 3 {
		b.drop(t, 20)
		b.saysOf(t, []uint64{20})
	}
}

func TestDropOfAllInEachOrder(t *testing.T) {
	for _, ids := range [][]uint64{edges(), count(33, 1), count(100, 7)} {
		for i, order := range orders(ids) {
			b := began(1)
			b.fill(t, mixed(ids, uint64(i)))
			for _, id := range order {
				b.drop(t, id)
				b.saysOf(t, ids)
			}
			for _, id := range order {
				b.drop(t, id)
			}
			b.saysOf(t, ids)
		}
	}
}

func TestWhatWasDroppedIsPutAnew(t *testing.T) {
	for _, n := range []int{1, 2, 3, 20} {
		ids := count(n, 4)
		for _, sizes := range [][2]int{{9, 3}, {3, 9}, {5, 5}, {1, 400}, {400, 1}} {
			b := began(1)
			for i, id := range ids {
				b.put(t, id, of(1, i, sizes[0]))
			}
			for i, id := range ids {
				b.drop(t, id)
				b.saysOf(t, ids)
				b.put(t, id, of(1, 100+i, sizes[1]))
				b.saysOf(t, ids)
			}
		}
	}
}

// Room that one id had, and then another one, and then again the first.
func TestRoomThatIsUsedAnewShowsNothing(t *testing.T) {
	b := began(1)
	ids := []uint64{1, 2, 3, 4}
	for i := range 200 {
		id := ids[i%4]
		b.put(t, id, of(1, i, 1+i*7%23))
		b.saysOf(t, ids)
		b.drop(t, id)
		b.saysOf(t, ids)
		b.put(t, ids[(i+1)%4], of(1, i+1, 1+i*11%19))
		b.saysOf(t, ids)
		b.drop(t, id)
		b.put(t, ids[(i+2)%4], []byte{1})
		b.saysOf(t, ids)
		b.drop(t, ids[(i+1+i%2)%4])
		b.saysOf(t, ids)
	}
}

// Ids that were dropped are none, however often others take their room.
func TestWhatWasDroppedStaysDropped(t *testing.T) {
	for _, n := range []int{1, 2, 31, 32, 33, 64, 65} {
		b := began(1)
		old, kept := count(n, 2), count(n+5, 1000)[5:]
		all := slices.Concat(old, kept)
		b.fill(t, all)
		for _, id := range mixed(old, 3) {
			b.drop(t, id)
		}
		for round := range 4 {
			others := count(n, 2+round)
			for i := range others {
				others[i] += uint64(100000 * (round + 1))
			}
			for i, id := range others {
				b.put(t, id, of(1, round+i, 3))
				b.get(t, old[i])
			}
			b.saysOf(t, all)
			for _, id := range mixed(others, 4) {
				b.drop(t, id)
			}
			b.saysOf(t, slices.Concat(all, others))
		}
		b.fill(t, mixed(old, 5))
		b.saysOf(t, all)
	}
}

// Every run of so many calls of three ids.
func TestEveryShortRun(t *testing.T) {
	ids := []uint64{3, 5, 4}
	calls := []func(b *both, i int){}
	for _, id := range ids {
		calls = append(calls, func(b *both, _ int) { b.drop(t, id) })
		calls = append(calls, func(b *both, i int) { b.put(t, id, of(1, i, 1+i*3%5)) })
	}
	const long = 6
	runs := 1
	for range long {
		runs *= len(calls)
	}
	for run := range runs {
		b := began(1)
		for i, left := 0, run; i < long; i++ {
			calls[left%len(calls)](b, i)
			left /= len(calls)
			// Each beginning of a run is the whole of another one, but for what stands behind it.
			if i+1 == long || left == 0 {
				b.saysOf(t, ids)
			}
		}
	}
}

// IDs

// permuted calls try with each order of the list.
func permuted(ids []uint64, try func(ids []uint64)) {
	var turn func(k int)
	turn = func(k int) {
		if k == len(ids) {
			try(ids)
			return
		}
		for i := k; i < len(ids); i++ {
			ids[k], ids[i] = ids[i], ids[k]
			turn(k + 1)
			ids[k], ids[i] = ids[i], ids[k]
		}
	}
	turn(0)
}

func TestIDsRiseInWhateverOrderTheyWerePut(t *testing.T) {
	ids := []uint64{0, 1, 67, 1 << 32, 1 << 63, math.MaxUint64}
	permuted(ids, func(ids []uint64) {
		a := arena.New(1)
		for i, id := range ids {
			a.Put(id, []byte{1})
			a.Put(ids[i/2], []byte{1, 2})
		}
		if got := a.IDs(); !slices.Equal(got, []uint64{0, 1, 67, 1 << 32, 1 << 63, math.MaxUint64}) {
			t.Fatalf("IDs of %v: %v", ids, got)
		}
	})
}

func TestIDsTellsEachOnce(t *testing.T) {
	b := began(1)
	for i := range 30 {
		b.put(t, 5, of(1, i, 2))
		b.put(t, 3, of(1, i, 3))
		if got := b.a.IDs(); !slices.Equal(got, []uint64{3, 5}) {
			t.Fatalf("IDs: %v", got)
		}
		b.drop(t, 5)
		b.put(t, 5, of(1, i, 1))
		if got := b.a.IDs(); !slices.Equal(got, []uint64{3, 5}) {
			t.Fatalf("IDs: %v", got)
		}
		b.drop(t, 3)
		if got := b.a.IDs(); !slices.Equal(got, []uint64{5}) {
			t.Fatalf("IDs: %v", got)
		}
	}
}

func TestIDsOfMany(t *testing.T) {
	ids := count(3000, 977)
	for seed := range uint64(3) {
		a := arena.New(1)
		for _, id := range mixed(ids, seed) {
			a.Put(id, []byte{1, 1})
		}
		if !slices.Equal(a.IDs(), ids) || a.Size() != 6000 {
			t.Fatalf("%d ids, %d bytes", len(a.IDs()), a.Size())
		}
		for i, id := range ids {
			if i%3 != 0 {
				a.Drop(id)
			}
		}
		if got := a.IDs(); len(got) != 1000 || !slices.IsSorted(got) || a.Size() != 2000 {
			t.Fatalf("%d ids, %d bytes", len(got), a.Size())
		}
	}
}

// Size

func TestSizeWrittenOut(t *testing.T) {
	a := arena.New(1)
	said := func(want int) {
		t.Helper()
		if got := a.Size(); got != want {
			t.Errorf("Size: %d, want %d", got, want)
		}
	}
	said(0)
	a.Put(7, of(1, 0, 10))
	said(10)
	a.Put(3, of(1, 0, 5))
	said(15)
	a.Put(7, of(1, 0, 12)) // a longer one
	said(17)
	a.Put(7, of(1, 0, 1)) // a shorter one
	said(6)
	a.Put(7, of(1, 0, 1)) // the same
	said(6)
	a.Put(7, of(2, 0, 9)) // refused
	a.Put(8, nil)
	said(6)
	a.Drop(3)
	said(1)
	a.Drop(3)
	said(1)
	a.Put(3, of(1, 0, 65535))
	said(65536)
	a.Drop(7)
	said(65535)
	a.Drop(3)
	said(0)
}

func TestSizeOfManyLongRecords(t *testing.T) {
	b := began(1)
	for i := range 40 {
		b.put(t, uint64(i*i), of(1, i, 65535))
		if b.a.Size() != 65535*(i+1) {
			t.Fatalf("Size of %d: %d", i+1, b.a.Size())
		}
	}
	b.says(t)
}

// Bytes

func TestBytesWrittenOut(t *testing.T) {
	a := arena.New(200)
	a.Put(math.MaxUint64, []byte{200, 0})
	a.Put(0x0102030405060708, []byte{200})
	a.Put(0, []byte{200, 1, 2, 3})
	want := []byte{
		0, 0, 0, 0, 0, 0, 0, 0, 0, 4, 200, 1, 2, 3,
		1, 2, 3, 4, 5, 6, 7, 8, 0, 1, 200,
		255, 255, 255, 255, 255, 255, 255, 255, 0, 2, 200, 0,
	}
	if got := a.Bytes(); !bytes.Equal(got, want) {
		t.Errorf("Bytes: %v, want %v", got, want)
	}
	a.Drop(0x0102030405060708)
	if got := a.Bytes(); !bytes.Equal(got, slices.Concat(want[:14], want[25:])) {
		t.Errorf("Bytes: %v", got)
	}
}

func TestBytesOfLongRecordsWrittenOut(t *testing.T) {
	for _, c := range []struct {
		size      int
		high, low byte
	}{{1, 0, 1}, {255, 0, 255}, {256, 1, 0}, {257, 1, 1}, {0x1234, 0x12, 0x34}, {65535, 255, 255}} {
		a := arena.New(1)
		a.Put(67, of(1, 9, c.size))
		want := append([]byte{0, 0, 0, 0, 0, 0, 0, 67, c.high, c.low}, of(1, 9, c.size)...)
		if got := a.Bytes(); !bytes.Equal(got, want) {
			t.Errorf("Bytes of %d: %s", c.size, brief(got))
		}
	}
}

// As num has the parts, and told as they were put when they are read by num again.
func TestBytesAreAsNumHasThem(t *testing.T) {
	b := began(5)
	b.fill(t, edges())
	for i, n := range lengths() {
		b.put(t, uint64(5000+i), of(5, i, n))
	}
	var want []byte
	for _, id := range b.ids() {
		want = num.PutBytes(num.Put(want, id, 8), b.rec(id))
	}
	got := b.a.Bytes()
	if !bytes.Equal(got, want) {
		t.Fatalf("Bytes: %s, want %s", brief(got), brief(want))
	}
	for _, id := range b.a.IDs() {
		said, _ := num.Take(got, 8)
		rec, n, e := num.TakeBytes(got[8:])
		if said != id || !bytes.Equal(rec, b.rec(id)) || e != api.OK {
			t.Fatalf("%d: %d, %s, %d", id, said, brief(rec), e)
		}
		got = got[8+n:]
	}
	if len(got) != 0 {
		t.Errorf("%d bytes behind", len(got))
	}
}

// Histories that end with the same ids and records.

// filled answers an arena of these rows, put in their order.
func filled(version byte, rows []row) *arena.Arena {
	a := arena.New(version)
	for _, r := range rows {
		a.Put(r.id, r.rec)
	}
	return a
}

// histories answers arenas that hold these rows at last, come by in other ways.
func histories(version byte, rows []row) []*arena.Arena {
	other := slices.Clone(rows)
	slices.Reverse(other)
	out := []*arena.Arena{filled(version, rows), filled(version, other), filled(version, slices.Concat(rows, other))}
	// With others that are gone, each row put twice, and each one dropped in between.
	busy := arena.New(version)
	for i, r := range other {
		busy.Put(r.id^1<<50, of(version, i, 30))
		busy.Put(r.id, of(version, i, 9))
		busy.Put(r.id^1<<51, of(version, i, 20))
		busy.Drop(r.id ^ 1<<50)
	}
	for i, r := range rows {
		if i%2 == 0 {
			busy.Drop(r.id)
		}
		busy.Drop(r.id ^ 1<<51)
		busy.Put(r.id, r.rec)
	}
	out = append(out, busy)
	return append(out, busy.Copy(), out[0].Copy(), out[1].Copy().Copy())
}

func TestTheOrderOfPutsIsNotToBeSeen(t *testing.T) {
	for _, n := range []int{0, 1, 2, 3, 10, 32, 33, 64, 65, 150} {
		var rows []row
		for i, id := range mixed(count(n, 11), uint64(n)) {
			rows = append(rows, row{id: id, rec: of(4, i, 1+i*5%13)})
		}
		for i, a := range histories(4, rows) {
			t.Run(fmt.Sprintf("history %d of %d", i, n), func(t *testing.T) {
				b := &both{a: a, version: 4, rows: rows}
				b.saysOf(t, []uint64{0, 2, 13, 1 << 50, 1<<50 | 1, 1<<51 | 1})
			})
		}
	}
}

// Copy

func TestCopySaysTheSame(t *testing.T) {
	for _, v := range versions() {
		for _, n := range []int{0, 1, 2, 31, 32, 33, 100} {
			b := began(v)
			ids := count(n, 3)
			b.fill(t, mixed(ids, 9))
			b.copied(t).saysOf(t, edges())
			for i, id := range ids {
				if i%3 == 0 {
					b.drop(t, id)
				}
			}
			c := b.copied(t)
			c.saysOf(t, ids)
			c.copied(t).saysOf(t, ids)
			b.saysOf(t, ids)
		}
	}
}

func TestCopyIsOfTheSameVersion(t *testing.T) {
	for v := range 256 {
		b := began(byte(v))
		c := b.copied(t)
		b.fill(t, []uint64{5})
		for _, d := range []*both{c, b.copied(t), c.copied(t).copied(t)} {
			for other := range 256 {
				d.put(t, uint64(other), []byte{byte(other)})
			}
			d.says(t)
		}
	}
}

// turned does one of everything to b.
func turned(t *testing.T, b *both, mark int) {
	t.Helper()
	b.put(t, 100, of(b.version, mark, 4))   // a new one
	b.put(t, 1, of(b.version, mark, 7))     // one that there is
	b.drop(t, 4)                            // one that there is
	b.put(t, 101, of(b.version, mark+1, 2)) // in the room of the one that is gone
	b.drop(t, 7)                            // and put anew
	b.put(t, 7, of(b.version, mark+2, 30))  // a longer one
	b.put(t, 10, of(b.version+1, mark, 3))  // refused
	b.drop(t, uint64(200+mark))             // none
	b.put(t, uint64(300+mark), []byte{b.version})
}

func TestACopyGoesOnByItself(t *testing.T) {
	ids := count(40, 3)
	all := slices.Concat(ids, []uint64{100, 101, 200, 201, 300, 301, 302, 303, 304})
	b := began(1)
	b.fill(t, ids)
	c := b.copied(t)
	turned(t, b, 0)
	c.saysOf(t, all)
	b.saysOf(t, all)
	turned(t, c, 1)
	b.saysOf(t, all)
	c.saysOf(t, all)
	d := c.copied(t)
	turned(t, c, 2)
	turned(t, d, 3)
	for _, x := range []*both{b, c, d} {
		x.saysOf(t, all)
	}
	for _, id := range ids {
		d.drop(t, id)
	}
	turned(t, b, 4)
	for _, x := range []*both{b, c, d} {
		x.saysOf(t, all)
	}
}

// Each call alone, on the one and on the other.
func TestEachCallChangesTheOneAlone(t *testing.T) {
	calls := []func(b *both){
		func(b *both) { b.put(t, 5, of(1, 9, 3)) },
		func(b *both) { b.put(t, 5, of(1, 9, 30)) },
		func(b *both) { b.put(t, 5, []byte{1}) },
		func(b *both) { b.put(t, 6, of(1, 9, 3)) },
		func(b *both) { b.put(t, 2, of(1, 9, 3)) },
		func(b *both) { b.drop(t, 5) },
		func(b *both) { b.drop(t, 3) },
		func(b *both) { b.drop(t, 3); b.put(t, 3, of(1, 8, 4)) },
		func(b *both) { b.drop(t, 3); b.put(t, 4, of(1, 8, 4)) },
		func(b *both) { b.drop(t, 3); b.drop(t, 5); b.drop(t, 9) },
		func(b *both) { b.put(t, 9, nil) },
		func(b *both) { b.put(t, 9, []byte{2}) },
		func(b *both) { b.drop(t, 8) },
	}
	for _, call := range calls {
		for i := range 4 {
			b := began(1)
			b.fill(t, []uint64{3, 4, 5, 9})
			b.drop(t, 4)
			x := b.copied(t)
			y := x.copied(t)
			all := []*both{b, x, y, b.copied(t)}
			call(all[i])
			for _, z := range all {
				z.saysOf(t, []uint64{2, 3, 4, 5, 6, 8, 9})
			}
		}
	}
}

// A chain of copies, each of which goes on for a while.
func TestCopiesOfCopies(t *testing.T) {
	c := chance(3)
	all := []*both{began(1)}
	ids := count(12, 1)
	for i := range 60 {
		b := all[c.below(len(all))].copied(t)
		for range 6 {
			id := ids[c.below(len(ids))]
			if c.below(2) == 0 {
				b.drop(t, id)
			} else {
				b.put(t, id, of(1, i, 1+c.below(9)))
			}
		}
		all = append(all, b)
	}
	for _, b := range all {
		b.saysOf(t, ids)
	}
}

// A nil Arena

func TestANilArena(t *testing.T) {
	var none *arena.Arena
	for _, id := range edges() {
		for _, rec := range [][]byte{nil, {}, {0}, {1}, {1, 2, 3}, {255}, of(7, 1, 65535)} {
			if e := none.Put(id, rec); e != api.ErrArg {
				t.Errorf("Put(%d, %s): %d", id, brief(rec), e)
			}
		}
		if rec, e := none.Get(id); len(rec) != 0 || e != api.ErrArg {
			t.Errorf("Get(%d): %v, %d", id, rec, e)
		}
		if e := none.Drop(id); e != api.ErrArg {
			t.Errorf("Drop(%d): %d", id, e)
		}
	}
	for range 2 {
		if ids := none.IDs(); len(ids) != 0 {
			t.Errorf("IDs: %v", ids)
		}
		if n := none.Size(); n != 0 {
			t.Errorf("Size: %d", n)
		}
		if b := none.Bytes(); len(b) != 0 {
			t.Errorf("Bytes: %v", b)
		}
		if c := none.Copy(); c != nil {
			t.Errorf("Copy: %v", c)
		}
	}
}

func TestWhatANilArenaIsHandedIsAsItWas(t *testing.T) {
	var none *arena.Arena
	rec := roomy([]byte{1, 2, 3}, 5)
	none.Put(5, rec)
	if !bytes.Equal(rec[:cap(rec)], roomy([]byte{1, 2, 3}, 5)[:8]) {
		t.Errorf("%v", rec[:cap(rec)])
	}
}

// Nobody said which version it is of: that of the zero value.
func TestAnArenaThatNewDidNotMake(t *testing.T) {
	for _, a := range []*arena.Arena{{}, new(arena.Arena)} {
		b := &both{a: a}
		b.saysOf(t, edges())
		b.drop(t, 5)
		b.put(t, 5, []byte{1})
		b.put(t, 5, []byte{0, 1})
		b.put(t, 4, []byte{0})
		b.drop(t, 5)
		b.copied(t).says(t)
		b.saysOf(t, edges())
	}
}

// Long runs

// chance answers numbers that look like chance, and are the same each time.
type chance uint64

func (c *chance) next() uint64 {
	*c = *c*6364136223846793005 + 1442695040888963407
	return uint64(*c)
}

func (c *chance) below(n int) int {
	high, _ := bits.Mul64(c.next(), uint64(n))
	return int(high)
}

// id answers one of a few ids, at times one of those at the edges.
func (c *chance) id(few int) uint64 {
	if c.below(15) == 0 {
		return edges()[c.below(len(edges()))]
	}
	return uint64(50 + c.below(few)*9)
}

// rec answers a record: mostly a short one of this version.
func (c *chance) rec(version byte) []byte {
	switch c.below(20) {
	case 0:
		return nil
	case 1:
		return []byte{}
	case 2:
		return []byte{byte(c.below(256))}
	}
	size := 1 + c.below(12)
	if c.below(40) == 0 {
		size = lengths()[c.below(len(lengths())-2)]
	}
	out := make([]byte, size)
	for i := range out {
		out[i] = byte(c.next() >> 40)
	}
	if c.below(15) != 0 {
		out[0] = version
	}
	return out
}

// step makes one call of the arena, of one of a few ids: so many of a hundred are puts, the others drops.
func (b *both) step(t *testing.T, c *chance, few, puts int) uint64 {
	t.Helper()
	id := c.id(few)
	if c.below(100) < puts {
		b.put(t, id, c.rec(b.version))
	} else {
		b.drop(t, id)
	}
	return id
}

func TestLongRunsOfAllTheCalls(t *testing.T) {
	for seed := range 60 {
		c := chance(seed)
		b := began(byte(seed * 51))
		few := []int{1, 2, 3, 8, 30, 80}[seed%6]
		for i := range 600 {
			// By turns it grows and shrinks, so that much is dropped and put anew.
			id := b.step(t, &c, few, []int{80, 30}[i/60%2])
			b.saysOf(t, []uint64{id, id - 1, id + 1, c.id(few), c.id(few), 0, math.MaxUint64})
		}
	}
}

func TestALongRunOfFewIds(t *testing.T) {
	c := chance(77)
	b := began(1)
	ids := append(edges(), 50, 59, 68, 77, 86)
	for range 10000 {
		b.step(t, &c, 5, 55)
		b.saysOf(t, ids[:1+c.below(3)])
	}
	b.saysOf(t, ids)
}

// Up to many hundreds of ids, down to none, and up again.
func TestALongRunOfManyIds(t *testing.T) {
	c := chance(78)
	b := began(1)
	for i := range 6000 {
		id := b.step(t, &c, 900, []int{97, 20, 75}[i/2000])
		b.get(t, id)
		b.get(t, c.id(900))
		if i%40 == 0 {
			b.says(t)
		}
	}
	b.says(t)
	for _, id := range b.ids() {
		b.drop(t, id)
	}
	b.saysOf(t, edges())
	for range 200 {
		b.step(t, &c, 900, 90)
	}
	b.says(t)
}

// Copies are made now and then, and it goes on with either of the two.
func TestLongRunsWithCopies(t *testing.T) {
	for seed := range 12 {
		c := chance(seed + 1000)
		b := began(byte(seed))
		var others []*both
		for i := range 300 {
			b.step(t, &c, 12, 60)
			if c.below(12) == 0 {
				other := b.copied(t)
				if c.below(2) == 0 {
					b, other = other, b
				}
				others = append(others, other)
			}
			b.saysOf(t, []uint64{c.id(12)})
			if len(others) > 0 {
				o := others[c.below(len(others))]
				if i%3 == 0 {
					o.step(t, &c, 12, 40)
				}
				o.saysOf(t, []uint64{c.id(12)})
			}
		}
		for _, o := range append(others, b) {
			o.saysOf(t, edges())
		}
	}
}

// What follows

func TestNoArenaHoldsRecordsOfTwoVersions(t *testing.T) {
	for seed := range 8 {
		c := chance(seed + 2000)
		version := byte(c.below(256))
		a := arena.New(version)
		taken := 0
		for range 2000 {
			id, rec := uint64(c.below(20)), c.rec(version)
			if c.below(2) == 0 && len(rec) > 0 {
				rec[0] = byte(c.below(256))
			}
			if a.Put(id, rec) == api.OK {
				taken++
			}
			if c.below(50) == 0 {
				a = a.Copy()
			}
			if c.below(4) == 0 {
				a.Drop(uint64(c.below(20)))
			}
			for _, id := range a.IDs() {
				if rec, _ := a.Get(id); len(rec) == 0 || rec[0] != version {
					t.Fatalf("version %d: %d has %s", version, id, brief(rec))
				}
			}
		}
		if taken < 500 {
			t.Errorf("only %d records were taken", taken)
		}
	}
}

// R3

// roomy answers list with spare room behind it, all of it filled, so that a write into it shows.
func roomy(list []byte, spare int) []byte {
	all := append(bytes.Clone(list), slices.Repeat([]byte{0xa5}, spare)...)
	return all[:len(list):len(all)]
}

// scribble writes over all of a list, spare room too.
func scribble[T byte | uint64](list []T) {
	all := list[:cap(list)]
	for i := range all {
		all[i] = ^all[i]
	}
}

func TestPutNeitherChangesNorKeepsTheRecord(t *testing.T) {
	for _, n := range []int{1, 2, 8, 31, 32, 33, 300, 65535} {
		for _, spare := range []int{0, 1, 7, 64} {
			b := began(1)
			b.put(t, 4, of(1, 1, 5))
			want := of(1, 2, n)
			rec := roomy(want, spare)
			b.put(t, 5, rec)
			if !bytes.Equal(rec[:cap(rec)], roomy(want, spare)[:n+spare]) {
				t.Fatalf("Put changed %s", brief(rec[:cap(rec)]))
			}
			c := b.copied(t)
			scribble(rec)
			b.says(t)
			c.says(t)
			b.put(t, 5, of(1, 3, n+1))
			b.put(t, 6, of(1, 4, n))
			b.drop(t, 5)
			b.put(t, 7, of(1, 5, 2))
			for i := range rec {
				if rec[i] != ^want[i] {
					t.Fatalf("a call behind Put changed %s", brief(rec))
				}
			}
			for _, x := range rec[n:cap(rec)] {
				if x != 0x5a {
					t.Fatalf("a call behind Put wrote %d into spare room", x)
				}
			}
			b.says(t)
			c.says(t)
		}
	}
}

func TestPutThatIsRefusedNeitherChangesNorKeepsTheRecord(t *testing.T) {
	for _, list := range [][]byte{nil, {2, 3, 4}, {0}} {
		b := began(1)
		b.fill(t, []uint64{4, 5})
		rec := roomy(list, 6)
		b.put(t, 5, rec)
		b.put(t, 9, rec)
		if !bytes.Equal(rec[:cap(rec)], roomy(list, 6)[:len(list)+6]) {
			t.Fatalf("Put changed %v", rec[:cap(rec)])
		}
		scribble(rec)
		b.saysOf(t, []uint64{9})
	}
}

// One text in several ids, and pieces of one text.
func TestPutOfRecordsThatShareMemory(t *testing.T) {
	b := began(1)
	text := slices.Repeat([]byte{1, 2, 3, 1, 5}, 20)
	b.put(t, 5, text)
	b.put(t, 6, text)
	b.put(t, 7, text[:4])
	b.put(t, 8, text[3:9])
	b.put(t, 9, text[5:6])
	b.says(t)
	b.put(t, 7, text[:1])
	b.says(t)
	b.drop(t, 5)
	b.put(t, 6, of(1, 9, 100))
	b.says(t)
	scribble(text)
	b.says(t)
}

func TestPutOfWhatGetTold(t *testing.T) {
	b := began(1)
	b.fill(t, []uint64{5, 6, 7})
	b.put(t, 5, of(1, 4, 50))
	got, _ := b.a.Get(5)
	b.put(t, 6, got)
	b.put(t, 5, got)
	b.put(t, 7, got[:20])
	b.says(t)
	scribble(got)
	b.says(t)
	again, _ := b.a.Get(6)
	b.drop(t, 6)
	b.put(t, 8, again)
	scribble(again)
	b.saysOf(t, []uint64{6})
}

func TestWhatIsToldIsNewMemory(t *testing.T) {
	for _, n := range []int{1, 2, 5, 33, 70} {
		b := began(1)
		b.fill(t, mixed(count(n, 3), 2))
		b.put(t, 1, of(1, 3, 100))
		c := b.copied(t)
		d := c.copied(t)
		for _, x := range []*both{b, c, d} {
			for _, id := range x.ids() {
				rec, _ := x.a.Get(id)
				scribble(rec)
			}
			scribble(x.a.IDs())
			scribble(x.a.Bytes())
			for _, y := range []*both{b, c, d} {
				y.says(t)
			}
		}
		// What the arena goes on to do rests on nothing of it, either.
		b.drop(t, 1)
		b.put(t, 1, of(1, 5, 3))
		b.put(t, 2, of(1, 6, 3))
		b.saysOf(t, []uint64{3})
	}
}

func TestTwoAnswersShareNoMemory(t *testing.T) {
	b := began(1)
	b.fill(t, count(9, 2))
	one, _ := b.a.Get(5)
	two, _ := b.a.Get(5)
	other, _ := b.a.Get(7)
	scribble(one)
	if !bytes.Equal(two, b.rec(5)) || !bytes.Equal(other, b.rec(7)) {
		t.Errorf("Get: %v, %v", two, other)
	}
	ids, more := b.a.IDs(), b.a.IDs()
	scribble(ids)
	if !slices.Equal(more, b.ids()) {
		t.Errorf("IDs: %v", more)
	}
	text, again := b.a.Bytes(), b.a.Bytes()
	scribble(text)
	if !bytes.Equal(again, b.bytes()) {
		t.Errorf("Bytes: %v", again)
	}
}

func TestWhatWasToldStaysAsItWasTold(t *testing.T) {
	b := began(1)
	ids := count(40, 3)
	b.fill(t, ids)
	said, text := b.a.IDs(), b.a.Bytes()
	wantIDs, wantText := slices.Clone(said), bytes.Clone(text)
	var recs, want [][]byte
	for _, id := range ids {
		rec, _ := b.a.Get(id)
		recs, want = append(recs, rec), append(want, bytes.Clone(rec))
	}
	for i, id := range ids {
		switch i % 4 {
		case 0:
			b.put(t, id, of(1, 90, 2))
		case 1:
			b.drop(t, id)
		case 2:
			b.drop(t, id)
			b.put(t, id, of(1, 91, 8))
		}
		b.put(t, id+1, of(1, 92, 5))
	}
	if !slices.Equal(said, wantIDs) || !bytes.Equal(text, wantText) {
		t.Errorf("IDs, Bytes: %v, %v", said, text)
	}
	for i := range recs {
		if !bytes.Equal(recs[i], want[i]) {
			t.Errorf("Get(%d): %v, want %v", ids[i], recs[i], want[i])
		}
	}
	b.says(t)
}

// Long runs in which all that was handed in and told is written over.
func TestLongRunsInWhichAllIsWrittenOver(t *testing.T) {
	for seed := range 10 {
		c := chance(seed + 3000)
		b := began(1)
		twin := b.copied(t)
		for i := range 300 {
			id := c.id(10)
			rec := roomy(c.rec(1), c.below(9))
			b.put(t, id, rec)
			scribble(rec)
			got, _ := b.a.Get(c.id(10))
			scribble(got)
			if i%3 == 0 {
				b.drop(t, c.id(10))
			}
			if i%50 == 0 {
				twin = b.copied(t)
			}
			scribble(b.a.IDs())
			scribble(b.a.Bytes())
			b.says(t)
			twin.says(t)
		}
	}
}

func TestNilAndEmptyAreOne(t *testing.T) {
	for _, ids := range [][]uint64{nil, {5}} {
		for _, rec := range [][]byte{nil, {}, make([]byte, 0, 9), []byte{1, 1}[:0]} {
			b := began(1)
			b.fill(t, ids)
			b.put(t, 5, rec)
			b.put(t, 0, rec)
			b.saysOf(t, []uint64{0, 5})
		}
	}
}

// R4

// transcript answers all that an arena tells in a run of calls drawn from a seed, from each call the next one told.
func transcript(seed int) func() string {
	c := chance(seed)
	a := arena.New(3)
	return func() string {
		id, rec := c.id(9), c.rec(3)
		switch c.below(6) {
		case 0, 1, 2:
			return fmt.Sprint("Put ", id, a.Put(id, rec))
		case 3:
			return fmt.Sprint("Drop ", id, a.Drop(id))
		case 4:
			a = a.Copy()
		}
		rec, e := a.Get(id)
		return fmt.Sprint("Get ", id, rec, e, a.IDs(), a.Size(), a.Bytes())
	}
}

func TestTheSameCallsAreToldTheSame(t *testing.T) {
	for seed := range 10 {
		one, two := transcript(seed), transcript(seed)
		for i := range 300 {
			if x, y := one(), two(); x != y {
				t.Fatalf("call %d of run %d: %s, then %s", i, seed, x, y)
			}
		}
	}
}

// Asked a second time, it says the same: no answer changes anything.
func TestAskedAgainItSaysTheSame(t *testing.T) {
	b := began(1)
	b.fill(t, mixed(count(70, 3), 6))
	for _, id := range count(20, 6) {
		b.drop(t, id)
	}
	for range 4 {
		b.saysOf(t, count(140, 2))
		b.copied(t).says(t)
	}
}

// Those that only ask may do so at the same time: what they ask for changes nothing that others read.
func TestAskedByManyAtATime(t *testing.T) {
	b := began(1)
	b.fill(t, mixed(count(70, 3), 7))
	for _, id := range count(20, 6) {
		b.drop(t, id)
	}
	want := b.bytes()
	var all sync.WaitGroup
	for range 8 {
		all.Go(func() {
			for id := range uint64(30) {
				rec, e := b.a.Get(id)
				if (e == api.OK) != (len(rec) > 0) {
					t.Errorf("Get(%d): %v, %d", id, rec, e)
				}
			}
			if !bytes.Equal(b.a.Bytes(), want) || !bytes.Equal(b.a.Copy().Bytes(), want) || b.a.Size() != b.size() || !slices.Equal(b.a.IDs(), b.ids()) {
				t.Error("asked at the same time")
			}
		})
	}
	all.Wait()
	b.says(t)
}

// R1

func TestWhateverIsHandedInCallsEnd(t *testing.T) {
	long := of(1, 1, 65536)
	longer := of(1, 2, 200000)
	for _, rec := range [][]byte{long, longer, make([]byte, 70000)} {
		a := arena.New(1)
		a.Put(5, []byte{1})
		a.Put(6, rec)
		a.Put(5, rec)
		for _, x := range []*arena.Arena{a, a.Copy()} {
			x.Get(5)
			x.IDs()
			x.Size()
			x.Bytes()
			x.Drop(6)
			x.Put(6, []byte{1, 1})
			x.Drop(5)
		}
		if rec, e := a.Get(6); !bytes.Equal(rec, []byte{1, 1}) || e != api.OK {
			t.Errorf("Get: %v, %d", rec, e)
		}
	}
}

// The parts of the tests

func TestPartsOfTheTests(t *testing.T) {
	b := &both{version: 1, rows: []row{{id: 258, rec: []byte{1, 7}}, {id: 5, rec: []byte{1}}}}
	if !slices.Equal(b.ids(), []uint64{5, 258}) || b.size() != 3 || b.find(258) != 0 || b.find(6) != -1 {
		t.Errorf("%v, %d", b.ids(), b.size())
	}
	if got := b.bytes(); !bytes.Equal(got, []byte{0, 0, 0, 0, 0, 0, 0, 5, 0, 1, 1, 0, 0, 0, 0, 0, 0, 1, 2, 0, 2, 1, 7}) {
		t.Errorf("%v", got)
	}
	if got := of(4, 1, 3); !bytes.Equal(got, []byte{4, 44, 51}) {
		t.Errorf("%v", got)
	}
	if got := mixed(count(40, 1), 3); slices.IsSorted(got) || slices.Equal(got, mixed(count(40, 1), 4)) {
		t.Errorf("%v", got)
	}
	all := slices.Clone(edges())
	slices.Sort(all)
	if len(slices.Compact(all)) != len(edges()) {
		t.Errorf("an id twice in %v", edges())
	}
	n := 0
	permuted(count(4, 1), func([]uint64) { n++ })
	if n != 24 {
		t.Errorf("%d orders of 4", n)
	}
	l := roomy([]byte{1}, 2)
	scribble(l)
	if !bytes.Equal(l[:3], []byte{254, 0x5a, 0x5a}) {
		t.Errorf("%v", l[:3])
	}
}
