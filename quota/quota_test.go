package quota_test

import (
	"fmt"
	"math"
	"math/bits"
	"slices"
	"testing"

	"transom/api"
	"transom/quota"
)

// roomy answers the list with spare room behind it, which has marks in it.
func roomy[T any](mark T, l ...T) []T {
	n := len(l)
	return append(slices.Clone(l), mark, mark, mark)[:n]
}

// full answers a box of which each field is filled, also those that a box has no use for, each list with spare room.
func full(most, used int) api.Object {
	return api.Object{
		ID: 67, Kind: api.Box, Quota: most, Used: used, Next: 5,
		Label: api.Label{Default: api.L2, Pairs: roomy(api.Pair{Cat: 77, Level: 7}, api.Pair{Cat: 3, Level: api.L3}, api.Pair{Cat: 9})},
		Sets:  api.Sets{S: roomy[uint16](77, 3, 258), I: roomy[uint16](77, 4), O: roomy[uint16](77, 5, 6, 7)},
		Data:  roomy(byte(77), 'a', 'b', 'c'),
		Cats:  roomy[uint16](77, 1001, 1002),
		Ring:  roomy([]byte{77}, roomy(byte(77), 'd', 'e'), nil, roomy(byte(77), 'f')),
	}
}

// bare answers a box without lists, such as a kernel makes.
func bare(most, used int) api.Object {
	return api.Object{ID: 4290, Kind: api.Box, Label: api.Label{Default: api.L1}, Quota: most, Used: used, Next: 1}
}

// same tells whether the objects are one in each field; nil and an empty list are one.
func same(a, b api.Object) bool {
	return a.ID == b.ID && a.Kind == b.Kind && a.Quota == b.Quota && a.Used == b.Used && a.Next == b.Next &&
		a.Label.Default == b.Label.Default && slices.Equal(a.Label.Pairs, b.Label.Pairs) &&
		slices.Equal(a.Sets.S, b.Sets.S) && slices.Equal(a.Sets.I, b.Sets.I) && slices.Equal(a.Sets.O, b.Sets.O) &&
		slices.Equal(a.Data, b.Data) && slices.Equal(a.Cats, b.Cats) && slices.EqualFunc(a.Ring, b.Ring, slices.Equal)
}

// using answers the box with another Used, and all else as it is.
func using(box api.Object, used int) api.Object {
	box.Used = used
	return box
}

// isAdded asks that Add of the cost is fine, and answers the box with so much used.
func isAdded(t *testing.T, box api.Object, cost, used int) {
	t.Helper()
	got, e := quota.Add(box, cost)
	if e != api.OK || !same(got, using(box, used)) {
		t.Fatalf("Add of %d to %+v: %+v, %d, want %d used", cost, box, got, e, used)
	}
}

// isRefused asks that Add tells the error, and nothing else.
func isRefused(t *testing.T, box api.Object, cost int, want api.Errno) {
	t.Helper()
	got, e := quota.Add(box, cost)
	if e != want || !same(got, api.Object{}) {
		t.Fatalf("Add of %d to %+v: %+v, %d, want nothing, %d", cost, box, got, e, want)
	}
}

// isSubbed asks that Sub answers the box with so much used.
func isSubbed(t *testing.T, box api.Object, cost, used int) {
	t.Helper()
	if got := quota.Sub(box, cost); !same(got, using(box, used)) {
		t.Fatalf("Sub of %d from %+v: %+v, want %d used", cost, box, got, used)
	}
}

// adds asks of one cost what the promise says, by a sum that no two ints can make wrap round.
func adds(t *testing.T, box api.Object, cost int) {
	t.Helper()
	sum := uint64(box.Used) + uint64(cost)
	switch {
	case cost < 0:
		isRefused(t, box, cost, api.ErrArg)
	case sum > uint64(box.Quota):
		isRefused(t, box, cost, api.ErrQuota)
	default:
		isAdded(t, box, cost, int(sum))
	}
}

// subs asks of one cost what the promise says, by counting down.
func subs(t *testing.T, box api.Object, cost int) {
	t.Helper()
	used := box.Used
	for i := 0; i < cost && used > 0; i++ {
		used--
	}
	isSubbed(t, box, cost, used)
}

// ends answers numbers below 0, and numbers far above all quotas, to the ends of int.
func ends() []int {
	out := []int{math.MinInt, math.MinInt + 1, math.MinInt + api.MaxQuota, -1 << 32, -401, -400, -2, -1, 1000, 65535, 65536, 1 << 31, 1 << 32, math.MaxInt - 1, math.MaxInt}
	for by := 0; by <= api.MaxQuota; by += 25 {
		out = append(out, math.MaxInt-by, math.MinInt+by, (math.MaxInt-by)/2, -by)
	}
	for shift := 9; shift < bits.UintSize-1; shift++ {
		out = append(out, 1<<shift, 1<<shift+1, -1<<shift, -1<<shift+1)
	}
	return out
}

// chance answers numbers that look like chance, and are the same each time.
type chance uint64

func (c *chance) next() uint64 {
	*c = *c*6364136223846793005 + 1442695040888963407
	return uint64(*c)
}

func (c *chance) below(n int) int { return int(c.next() >> 32 * uint64(n) >> 32) }

// number answers a small number, or whatever number there is.
func (c *chance) number() int {
	switch c.below(4) {
	case 0:
		return int(c.next())
	case 1:
		return int(c.next()) >> c.below(bits.UintSize)
	}
	return c.below(api.MaxQuota+10) - 5
}

// cats answers a list of whatever categories.
func (c *chance) cats() []uint16 {
	l := make([]uint16, c.below(4))
	for i := range l {
		l[i] = uint16(c.next() >> 40)
	}
	return l
}

// bytes answers a list of whatever bytes, sometimes nil.
func (c *chance) bytes() []byte {
	if c.below(3) == 0 {
		return nil
	}
	l := make([]byte, c.below(api.MaxData+5))
	for i := range l {
		l[i] = byte(c.next() >> 40)
	}
	return l
}

// object answers an object of whatever fields, such as may not be among them.
func (c *chance) object() api.Object {
	o := api.Object{
		ID: c.next(), Kind: c.below(7) - 1, Quota: c.number(), Used: c.number(), Next: c.number(),
		Label: api.Label{Default: uint8(c.below(8))},
		Sets:  api.Sets{S: c.cats(), I: c.cats(), O: c.cats()},
		Data:  c.bytes(), Cats: c.cats(),
	}
	for range c.below(4) {
		o.Label.Pairs = append(o.Label.Pairs, api.Pair{Cat: uint16(c.next() >> 40), Level: uint8(c.below(8))})
		o.Ring = append(o.Ring, c.bytes())
	}
	if c.below(10) == 0 {
		o.Kind = c.number()
	}
	return o
}

// Cost

func isCost(t *testing.T, o api.Object, want int) {
	t.Helper()
	if got := quota.Cost(o); got != want {
		t.Fatalf("Cost of %+v: %d, want %d", o, got, want)
	}
}

// otherwise answers objects of each field but Kind filled, Quota and Data as they are told: of the kinds that cost the same, whatever they have.
func otherwise(kind, most int, data []byte) []api.Object {
	var out []api.Object
	for n := range 70 {
		o := full(most, n)
		o.Kind, o.Data = kind, data
		out = append(out, o)
		o = api.Object{Kind: kind, Quota: most, Data: data, Cats: make([]uint16, n), Ring: make([][]byte, n)}
		for i := range o.Ring {
			o.Ring[i] = make([]byte, i)
		}
		out = append(out, o)
	}
	return append(out, api.Object{Kind: kind, Quota: most, Data: data})
}

func TestCostOfTheExample(t *testing.T) {
	isCost(t, api.Object{Kind: api.Seg, Data: []byte{1, 2, 3}}, 4)
}

func TestCostsWrittenOut(t *testing.T) {
	for _, x := range []struct {
		o    api.Object
		want int
	}{
		{api.Object{Kind: api.Box}, 1},
		{api.Object{Kind: api.Box, Quota: 1}, 2},
		{api.Object{Kind: api.Box, Quota: 9, Used: 5}, 10},
		{api.Object{Kind: api.Box, Quota: 400, Used: 400}, 401},
		{api.Object{Kind: api.Seg}, 1},
		{api.Object{Kind: api.Seg, Data: []byte{}}, 1},
		{api.Object{Kind: api.Seg, Data: []byte{0}}, 2},
		{api.Object{Kind: api.Seg, Data: make([]byte, api.MaxData)}, 65},
		{api.Object{Kind: api.Gate}, 2},
		{api.Object{Kind: api.Gate, Cats: []uint16{1, 2, 3}}, 2},
		{api.Object{Kind: api.Port}, 8},
		{api.Object{Kind: api.Port, Ring: [][]byte{{1}, {2, 3}}}, 8},
		{api.Object{}, 0},
	} {
		isCost(t, x.o, x.want)
	}
}

func TestCostOfABoxIsOneAndItsQuota(t *testing.T) {
	for most := 0; most <= api.MaxQuota; most++ {
		for used := 0; used <= most; used++ {
			isCost(t, bare(most, used), 1+most)
		}
		for _, used := range []int{0, most / 2, most} {
			isCost(t, full(most, used), 1+most)
		}
		for _, data := range [][]byte{nil, {}, {1}, make([]byte, 64), make([]byte, 500)} {
			isCost(t, api.Object{Kind: api.Box, Quota: most, Data: data}, 1+most)
		}
	}
}

func TestCostOfASegIsOneAndItsBytes(t *testing.T) {
	isCost(t, api.Object{Kind: api.Seg, Data: nil}, 1)
	isCost(t, api.Object{Kind: api.Seg, Data: []byte{}}, 1)
	for n := range 700 {
		data := make([]byte, n, n+n%7) // spare room costs nothing
		for i := range data {
			data[i] = byte(i)
		}
		isCost(t, api.Object{Kind: api.Seg, Data: data}, 1+n)
		for _, most := range []int{0, 1, api.MaxQuota} {
			o := full(most, most)
			o.Kind, o.Data = api.Seg, data
			isCost(t, o, 1+n)
		}
	}
	isCost(t, api.Object{Kind: api.Seg, Data: make([]byte, 1<<20)}, 1+1<<20)
}

func TestCostOfAGateIsTwoWhateverItHas(t *testing.T) {
	for _, most := range []int{0, 1, 8, api.MaxQuota} {
		for _, data := range [][]byte{nil, {}, {1, 2, 3}, make([]byte, 64)} {
			for _, o := range otherwise(api.Gate, most, data) {
				isCost(t, o, 2)
			}
		}
	}
}

func TestCostOfAPortIsEightWhateverItHas(t *testing.T) {
	for _, most := range []int{0, 1, 8, api.MaxQuota} {
		for _, data := range [][]byte{nil, {}, {1, 2, 3}, make([]byte, 64)} {
			for _, o := range otherwise(api.Port, most, data) {
				isCost(t, o, 8)
			}
		}
	}
}

func TestCostOfAnotherKindIsNought(t *testing.T) {
	kinds := []int{0, 5, 6, 7, 8, 100, -1, -2, -3, -4, -5, 255, 256, 65536, math.MinInt, math.MinInt + 1, math.MaxInt - 1, math.MaxInt}
	for kind := api.Box; kind <= api.Port; kind++ {
		// Such as come in among the four where they are cut short or lose a sign.
		kinds = append(kinds, -kind, math.MinInt+kind, ^kind)
		for shift := 3; shift < bits.UintSize-1; shift++ {
			kinds = append(kinds, kind+1<<shift, kind-1<<shift)
		}
	}
	for _, kind := range kinds {
		for _, most := range []int{0, 3, api.MaxQuota} {
			for _, data := range [][]byte{nil, {1, 2, 3}} {
				isCost(t, api.Object{Kind: kind, Quota: most, Data: data}, 0)
			}
			o := full(most, most)
			o.Kind = kind
			isCost(t, o, 0)
		}
	}
	for _, o := range otherwise(5, 3, []byte{1, 2}) {
		isCost(t, o, 0)
	}
}

func TestCostLeavesTheObjectAsItWas(t *testing.T) {
	for kind := range 6 {
		o := full(9, 5)
		o.Kind = kind
		before := said(o)
		quota.Cost(o)
		if got := said(o); got != before {
			t.Fatalf("of kind %d: %s, ahead of it %s", kind, got, before)
		}
	}
}

// Add

func TestAddsWrittenOut(t *testing.T) {
	for _, x := range []struct{ most, used, cost, want int }{
		{10, 4, 0, 4}, {10, 4, 1, 5}, {10, 4, 5, 9}, {10, 4, 6, 10},
		{10, 0, 10, 10}, {10, 10, 0, 10}, {0, 0, 0, 0},
		{400, 0, 400, 400}, {400, 399, 1, 400}, {400, 200, 65, 265},
	} {
		isAdded(t, full(x.most, x.used), x.cost, x.want)
		isAdded(t, bare(x.most, x.used), x.cost, x.want)
	}
	for _, x := range []struct {
		most, used, cost int
		want             api.Errno
	}{
		{10, 4, 7, api.ErrQuota}, {10, 10, 1, api.ErrQuota}, {0, 0, 1, api.ErrQuota}, {400, 0, 401, api.ErrQuota},
		{400, 400, 1, api.ErrQuota}, {10, 4, math.MaxInt, api.ErrQuota}, {10, 4, math.MaxInt - 3, api.ErrQuota},
		{10, 4, -1, api.ErrArg}, {10, 4, -4, api.ErrArg}, {10, 0, -1, api.ErrArg}, {10, 10, math.MinInt, api.ErrArg},
	} {
		isRefused(t, full(x.most, x.used), x.cost, x.want)
		isRefused(t, bare(x.most, x.used), x.cost, x.want)
	}
}

func TestAddOfEveryQuotaAndUsed(t *testing.T) {
	for most := 0; most <= api.MaxQuota; most++ {
		for used := 0; used <= most; used++ {
			free := most - used
			for by := -2; by <= 2; by++ {
				adds(t, bare(most, used), by)
				adds(t, bare(most, used), free+by)
				adds(t, bare(most, used), most+by)
			}
		}
	}
}

func TestAddOfEveryCostToSmallBoxes(t *testing.T) {
	for most := 0; most <= 30; most++ {
		for used := 0; used <= most; used++ {
			for cost := -40; cost <= 80; cost++ {
				adds(t, full(most, used), cost)
			}
		}
	}
}

func TestAddOfEveryCostToTheGreatestBox(t *testing.T) {
	for used := 0; used <= api.MaxQuota; used += 8 {
		for cost := -api.MaxQuota - 2; cost <= api.MaxQuota+2; cost++ {
			adds(t, bare(api.MaxQuota, used), cost)
		}
	}
}

func TestAddOfCostsToTheEndsOfInt(t *testing.T) {
	all := ends()
	for most := 0; most <= api.MaxQuota; most += 20 {
		for used := 0; used <= most; used += 10 {
			for _, cost := range all {
				adds(t, bare(most, used), cost)
			}
			// Around where the sum is no int any more, and where it would come round to 0 and to Quota.
			for by := -3; by <= 3; by++ {
				adds(t, bare(most, used), math.MaxInt-max(used, 3)+by)
				adds(t, bare(most, used), math.MinInt+max(used, 3)+by)
				adds(t, bare(most, used), math.MinInt+max(most-used, 3)+by)
			}
		}
	}
	for _, cost := range all {
		adds(t, full(10, 4), cost)
	}
}

func TestAddKeepsEachOtherField(t *testing.T) {
	for most := 0; most <= api.MaxQuota; most += 16 {
		for used := 0; used <= most; used += 8 {
			isAdded(t, full(most, used), 0, used)
			isAdded(t, full(most, used), most-used, most)
		}
	}
	c := chance(3)
	for range 3000 {
		box := c.object()
		box.Quota = c.below(api.MaxQuota + 1)
		box.Used = c.below(box.Quota + 1)
		cost := c.below(box.Quota - box.Used + 1)
		isAdded(t, box, cost, box.Used+cost)
	}
}

func TestAddOfACostBelowNoughtIsErrArgAheadOfErrQuota(t *testing.T) {
	for _, cost := range []int{-1, -2, -400, -401, math.MinInt, math.MinInt + 1, math.MinInt + 400} {
		for most := 0; most <= api.MaxQuota; most++ {
			for _, used := range []int{0, most / 2, most} {
				isRefused(t, bare(most, used), cost, api.ErrArg)
			}
			// More is used than may be: also with the cost it would be above Quota.
			for _, used := range []int{most + 1, most + 1000, math.MaxInt} {
				isRefused(t, bare(most, used), cost, api.ErrArg)
			}
		}
	}
}

func TestAddOfNoughtLeavesTheBox(t *testing.T) {
	for most := 0; most <= api.MaxQuota; most++ {
		for used := 0; used <= most; used += 1 + most/9 {
			isAdded(t, full(most, used), 0, used)
		}
	}
}

// Sub

func TestSubsWrittenOut(t *testing.T) {
	for _, x := range []struct{ most, used, cost, want int }{
		{10, 4, 0, 4}, {10, 4, 1, 3}, {10, 4, 3, 1}, {10, 4, 4, 0}, {10, 4, 5, 0}, {10, 4, 9, 0}, {10, 4, 11, 0},
		{10, 10, 10, 0}, {10, 0, 0, 0}, {10, 0, 1, 0}, {0, 0, 0, 0}, {0, 0, 1, 0}, {400, 400, 1, 399}, {400, 400, 400, 0},
		{10, 4, math.MaxInt, 0}, {10, 4, -1, 4}, {10, 4, -4, 4}, {10, 4, -7, 4}, {10, 10, -1, 10}, {10, 0, -1, 0}, {10, 4, math.MinInt, 4},
	} {
		isSubbed(t, full(x.most, x.used), x.cost, x.want)
		isSubbed(t, bare(x.most, x.used), x.cost, x.want)
	}
}

func TestSubOfEveryQuotaAndUsed(t *testing.T) {
	for most := 0; most <= api.MaxQuota; most++ {
		for used := 0; used <= most; used++ {
			for _, cost := range []int{0, 1, 2, used - 2, used - 1, used, used + 1, used + 2, most, most + 1, api.MaxQuota + 1, -1, -used, -used - 1} {
				isSubbed(t, bare(most, used), cost, used-min(used, max(cost, 0)))
			}
		}
	}
}

func TestSubOfEveryCost(t *testing.T) {
	for used := 0; used <= api.MaxQuota; used += 5 {
		for cost := -20; cost <= used+20; cost++ {
			subs(t, bare(api.MaxQuota, used), cost)
			subs(t, bare(used, used), cost)
		}
	}
	for most := 0; most <= 30; most++ {
		for used := 0; used <= most; used++ {
			for cost := -40; cost <= 80; cost++ {
				subs(t, full(most, used), cost)
			}
		}
	}
}

func TestSubOfCostsToTheEndsOfInt(t *testing.T) {
	all := ends()
	for most := 0; most <= api.MaxQuota; most += 20 {
		for used := 0; used <= most; used += 10 {
			for _, cost := range all {
				subs(t, bare(most, used), cost)
			}
			for by := -3; by <= 3; by++ {
				subs(t, bare(most, used), math.MaxInt-max(used, 3)+by)
				subs(t, bare(most, used), math.MinInt+max(used, 3)+by)
			}
		}
	}
	for _, cost := range all {
		subs(t, full(10, 4), cost)
	}
}

func TestSubKeepsEachOtherField(t *testing.T) {
	for most := 0; most <= api.MaxQuota; most += 16 {
		for used := 0; used <= most; used += 8 {
			for _, cost := range []int{-1, 0, used, used + 1} {
				subs(t, full(most, used), cost)
			}
		}
	}
	c := chance(4)
	for range 3000 {
		box := c.object()
		box.Quota = c.below(api.MaxQuota + 1)
		box.Used = c.below(box.Quota + 1)
		subs(t, box, c.number())
	}
}

// What memory is whose

// widened answers the object with each list as long as its room, spare room and all.
func widened(o api.Object) api.Object {
	o.Label.Pairs = o.Label.Pairs[:cap(o.Label.Pairs)]
	o.Sets.S, o.Sets.I, o.Sets.O = o.Sets.S[:cap(o.Sets.S)], o.Sets.I[:cap(o.Sets.I)], o.Sets.O[:cap(o.Sets.O)]
	o.Data, o.Cats = o.Data[:cap(o.Data)], o.Cats[:cap(o.Cats)]
	ring := slices.Clone(o.Ring[:cap(o.Ring)])
	for i, letter := range ring {
		ring[i] = letter[:cap(letter)]
	}
	o.Ring = ring
	return o
}

// said answers all of the object, spare room too, as one text.
func said(o api.Object) string { return fmt.Sprintf("%+v of %+v", o, widened(o)) }

// spoil answers functions that each write over one list, and its spare room.
func spoil(o api.Object) []func() {
	out := []func(){func() {
		l := o.Label.Pairs[:cap(o.Label.Pairs)]
		for i := range l {
			l[i] = api.Pair{Cat: 99, Level: 99}
		}
	}, func() {
		l := o.Ring[:cap(o.Ring)]
		for i := range l {
			l[i] = []byte{99}
		}
	}}
	for _, l := range [][]uint16{o.Sets.S, o.Sets.I, o.Sets.O, o.Cats} {
		out = append(out, func() { fill(l, 99) })
	}
	for _, l := range append(slices.Clone(o.Ring), o.Data) {
		out = append(out, func() { fill(l, 99) })
	}
	return out
}

func fill[T any](l []T, with T) {
	l = l[:cap(l)]
	for i := range l {
		l[i] = with
	}
}

// calls answers the calls that answer boxes, of costs from below nought to above what is used.
func calls() map[string]func(api.Object) api.Object {
	out := map[string]func(api.Object) api.Object{}
	for _, cost := range []int{0, 1, 6} {
		out[fmt.Sprint("Add of ", cost)] = func(box api.Object) api.Object {
			got, _ := quota.Add(box, cost)
			return got
		}
	}
	for _, cost := range []int{math.MinInt, -1, 0, 1, 4, 5, math.MaxInt} {
		out[fmt.Sprint("Sub of ", cost)] = func(box api.Object) api.Object { return quota.Sub(box, cost) }
	}
	return out
}

func TestTheBoxIsAsItWas(t *testing.T) {
	for _, cost := range []int{math.MinInt, -1, 0, 1, 4, 5, 6, 7, 11, math.MaxInt} {
		box := full(10, 4)
		before := said(box)
		quota.Add(box, cost)
		if got := said(box); got != before {
			t.Fatalf("behind Add of %d: %s, ahead of it %s", cost, got, before)
		}
		quota.Sub(box, cost)
		if got := said(box); got != before {
			t.Fatalf("behind Sub of %d: %s, ahead of it %s", cost, got, before)
		}
	}
}

func TestTheAnswerIsNewMemory(t *testing.T) {
	for call, do := range calls() {
		for i := range spoil(full(10, 4)) {
			box := full(10, 4)
			before := said(box)
			spoil(do(box))[i]()
			if got := said(box); got != before {
				t.Fatalf("%s: the box, when list %d of the answer was written over: %s, ahead of it %s", call, i, got, before)
			}
		}
	}
}

func TestTheBoxIsNotKept(t *testing.T) {
	for call, do := range calls() {
		for i := range spoil(full(10, 4)) {
			box := full(10, 4)
			got := do(box)
			want := said(got)
			spoil(box)[i]()
			if now := said(got); now != want {
				t.Fatalf("%s: the answer, when list %d of the box was written over: %s, ahead of it %s", call, i, now, want)
			}
		}
	}
}

func TestNoTwoAnswersShareMemory(t *testing.T) {
	for call, do := range calls() {
		for i := range spoil(full(10, 4)) {
			box := full(10, 4)
			first, second := do(box), do(box)
			want := said(second)
			spoil(first)[i]()
			if got := said(second); got != want {
				t.Fatalf("%s: the answer, when list %d of another was written over: %s, ahead of it %s", call, i, got, want)
			}
		}
	}
}

// shared answers a box whose lists lie in the same memory.
func shared() api.Object {
	box := full(10, 4)
	cats, bytes := []uint16{1, 2, 3, 4}, []byte{1, 2, 3, 4}
	box.Sets = api.Sets{S: cats[:2], I: cats[1:3], O: cats}
	box.Cats, box.Data = cats[:3], bytes[:3]
	box.Ring = [][]byte{bytes, bytes[:2], bytes, bytes[2:]}
	return box
}

func TestNoTwoListsOfAnAnswerShareMemory(t *testing.T) {
	for call, do := range calls() {
		for i := range spoil(shared()) {
			got, fresh := do(shared()), do(shared())
			if !same(got, using(shared(), got.Used)) {
				t.Fatalf("%s: %+v", call, got)
			}
			spoil(got)[i]()
			// The list alone may be another now: all others are as in an answer that nobody wrote to.
			if n := differ(got, fresh); n > 1 {
				t.Fatalf("%s: %d lists were written over with list %d: %+v", call, n, i, got)
			}
		}
	}
}

// differ answers how many lists of the two are not one; the ring is one list, and each letter that is in both another.
func differ(a, b api.Object) int {
	n := 0
	for _, ok := range []bool{
		slices.Equal(a.Label.Pairs, b.Label.Pairs), slices.Equal(a.Sets.S, b.Sets.S), slices.Equal(a.Sets.I, b.Sets.I), slices.Equal(a.Sets.O, b.Sets.O),
		slices.Equal(a.Data, b.Data), slices.Equal(a.Cats, b.Cats),
	} {
		if !ok {
			n++
		}
	}
	if len(a.Ring) > 0 && !slices.ContainsFunc(a.Ring, func(l []byte) bool { return !slices.Equal(l, []byte{99}) }) {
		return n + 1 // all of the ring was written over, as one list
	}
	for i := range a.Ring {
		if !slices.Equal(a.Ring[i], b.Ring[i]) {
			n++
		}
	}
	return n
}

func TestNilAndEmptyListsAreOne(t *testing.T) {
	empty := bare(10, 4)
	empty.Label.Pairs = []api.Pair{}
	empty.Sets = api.Sets{S: []uint16{}, I: []uint16{}, O: []uint16{}}
	empty.Data, empty.Cats, empty.Ring = []byte{}, []uint16{}, [][]byte{}
	for call, do := range calls() {
		if a, b := do(bare(10, 4)), do(empty); !same(a, b) {
			t.Fatalf("%s: %+v of nil lists, %+v of empty ones", call, a, b)
		}
	}
	// An empty list at the beginning of a longer one: the spare room is not the answer's.
	roomy := full(10, 4)
	roomy.Label.Pairs = roomy.Label.Pairs[:0]
	roomy.Sets = api.Sets{S: roomy.Sets.S[:0], I: roomy.Sets.I[:0], O: roomy.Sets.O[:0]}
	roomy.Data, roomy.Cats, roomy.Ring[0] = roomy.Data[:0], roomy.Cats[:0], roomy.Ring[0][:0]
	before := said(roomy)
	for call, do := range calls() {
		got := do(roomy)
		if !same(got, using(roomy, got.Used)) {
			t.Fatalf("%s: %+v of %+v", call, got, roomy)
		}
		for _, over := range spoil(got) {
			over()
		}
		if now := said(roomy); now != before {
			t.Fatalf("%s: the box, when the answer was written over: %s, ahead of it %s", call, now, before)
		}
	}
}

// What follows: what goes in and out leaves what there was

func TestWhatGoesInAndOutLeavesWhatThereWas(t *testing.T) {
	for most := 0; most <= api.MaxQuota; most += 4 {
		for used := 0; used <= most; used += 3 {
			for cost := 0; cost <= most-used; cost += 1 + most/8 {
				box := bare(most, used)
				in, e := quota.Add(box, cost)
				if out := quota.Sub(in, cost); e != api.OK || !same(out, box) {
					t.Fatalf("%d in and out of %+v: %+v, %d", cost, box, out, e)
				}
			}
		}
	}
	box := full(10, 4)
	for cost := 0; cost <= 6; cost++ {
		in, e := quota.Add(box, cost)
		if out := quota.Sub(in, cost); e != api.OK || !same(out, full(10, 4)) {
			t.Fatalf("%d in and out of %+v: %+v, %d", cost, box, out, e)
		}
	}
}

// thing answers an object that may be, of a cost that the test knows by itself.
func (c *chance) thing() (api.Object, int) {
	switch c.below(4) {
	case 0:
		n := c.below(30)
		return api.Object{Kind: api.Box, Quota: n, Used: c.below(n + 1), Next: 1}, n + 1
	case 1:
		n := c.below(api.MaxData + 1)
		return api.Object{Kind: api.Seg, Data: make([]byte, n)}, n + 1
	case 2:
		return api.Object{Kind: api.Gate, Cats: make([]uint16, c.below(3))}, 2
	}
	return api.Object{Kind: api.Port, Ring: make([][]byte, c.below(api.MaxRing+1))}, 8
}

func TestObjectsThatGoInAndOutOfABox(t *testing.T) {
	for seed := range chance(30) {
		c := seed
		box := full(c.below(api.MaxQuota+1), 0)
		first := said(box)
		var within []int
		sum := 0
		for range 400 {
			if len(within) > 0 && c.below(5) < 2 {
				i := c.below(len(within))
				box = quota.Sub(box, within[i])
				sum -= within[i]
				within = slices.Delete(within, i, i+1)
			} else {
				o, cost := c.thing()
				isCost(t, o, cost)
				in, e := quota.Add(box, quota.Cost(o))
				if sum+cost > box.Quota {
					isRefused(t, box, cost, api.ErrQuota)
				} else {
					if e != api.OK {
						t.Fatalf("Add of %d to %+v: %d", cost, box, e)
					}
					box = in
					sum += cost
					within = append(within, cost)
				}
			}
			if !same(box, full(box.Quota, sum)) {
				t.Fatalf("%d in the box: %+v", sum, box)
			}
		}
		for _, cost := range within {
			box = quota.Sub(box, cost)
		}
		if !same(box, full(box.Quota, 0)) {
			t.Fatalf("when all is out: %+v, ahead of all %s", box, first)
		}
	}
}

func TestLongRunsAgainstAPlainCount(t *testing.T) {
	for seed := range chance(30) {
		c := seed
		most := c.below(api.MaxQuota + 1)
		used := 0
		box := full(most, used)
		for range 3000 {
			cost := c.number()
			if c.below(2) == 0 {
				cost = c.below(20)
			}
			if c.below(2) == 0 {
				adds(t, box, cost)
				if in, e := quota.Add(box, cost); e == api.OK {
					box = in
					used += cost
				}
			} else {
				box = quota.Sub(box, cost)
				for i := 0; i < cost && used > 0; i++ {
					used--
				}
			}
			if !same(box, full(most, used)) {
				t.Fatalf("behind a cost of %d, %d used: %+v", cost, used, box)
			}
		}
	}
}

// Whatever is handed in

func TestCallsOfWhateverObjectsEnd(t *testing.T) {
	c := chance(7)
	for range 50000 {
		o, cost := c.object(), c.number()
		before := said(o)
		quota.Cost(o)
		if got, e := quota.Add(o, cost); e != api.OK && !same(got, api.Object{}) {
			t.Fatalf("Add of %d to %+v: %+v beside %d", cost, o, got, e)
		}
		quota.Sub(o, cost)
		if got := said(o); got != before {
			t.Fatalf("behind calls of cost %d: %s, ahead of them %s", cost, got, before)
		}
	}
	for _, most := range ends() {
		for _, used := range ends() {
			for _, cost := range []int{math.MinInt, -1, 0, 1, math.MaxInt} {
				box := bare(most, used)
				quota.Cost(box)
				quota.Add(box, cost)
				quota.Sub(box, cost)
			}
		}
	}
}

// told answers all that the calls say of these, as one text.
func told(o api.Object, cost int) string {
	in, e := quota.Add(o, cost)
	return fmt.Sprint(quota.Cost(o), in, e, quota.Sub(o, cost))
}

func TestTheSameCallIsToldTheSame(t *testing.T) {
	c := chance(11)
	type call struct {
		o    api.Object
		cost int
	}
	var all []call
	var first []string
	for range 2000 {
		x := call{c.object(), c.number()}
		all = append(all, x)
		first = append(first, told(x.o, x.cost))
	}
	// In another order, so that what was asked ahead is another.
	for i := len(all) - 1; i >= 0; i-- {
		x := all[i]
		if got := told(x.o, x.cost); got != first[i] {
			t.Fatalf("%+v: %s, ahead of it %s", x, got, first[i])
		}
	}
}
