package num_test

import (
	"bytes"
	"math"
	"math/big"
	"testing"

	"transom/api"
	"transom/num"
)

// roomy answers s with spare room behind it, all of it filled, so that a write into it shows.
func roomy(s []byte, spare int) []byte {
	whole := append(bytes.Clone(s), bytes.Repeat([]byte{0xa5}, spare)...)
	return whole[:len(s):len(whole)]
}

// whole answers a copy of b and of its spare room.
func whole(b []byte) []byte { return bytes.Clone(b[:cap(b)]) }

// scribble overwrites b and its spare room.
func scribble(b []byte) {
	b = b[:cap(b)]
	for i := range b {
		b[i] ^= 0xff
	}
}

// numbers answers edges of all widths: powers of two, one beside them, and bytes that all differ.
func numbers() []uint64 {
	out := []uint64{0, 1, 258, 0x1ff, 0x0102030405060708, 0xfedcba9876543210, math.MaxUint64}
	for i := range 64 {
		out = append(out, 1<<i, 1<<i-1, 1<<i+1)
	}
	return out
}

// wrongWidths answers numbers of bytes that are not from 0 to 8.
func wrongWidths() []int {
	return []int{-1, 9, -8, 10, 16, 64, 256, 264, -256, 1 << 32, math.MaxInt, math.MinInt, math.MinInt + 8}
}

// lowBytes says by division what P1.1 says of v: n bytes, the highest first, of v modulo 2^(8 n).
func lowBytes(v uint64, n int) []byte {
	out := make([]byte, n)
	for i := n - 1; i >= 0; i-- {
		out[i] = byte(v % 256)
		v /= 256
	}
	return out
}

// list answers n bytes that differ from their neighbours.
func list(n int) []byte {
	out := make([]byte, n)
	for i := range out {
		out[i] = byte(i*7 + i/256 + 1)
	}
	return out
}

// P1.1

func TestPutTellsTheExample(t *testing.T) {
	if got := num.Put(nil, 258, 2); !bytes.Equal(got, []byte{1, 2}) {
		t.Errorf("Put(nil, 258, 2): %v", got)
	}
}

func TestPutLaysTheHighestByteFirst(t *testing.T) {
	for n := 0; n <= 8; n++ {
		want := []byte{1, 2, 3, 4, 5, 6, 7, 8}[8-n:]
		if got := num.Put(nil, 0x0102030405060708, n); !bytes.Equal(got, want) {
			t.Errorf("n %d: %v, want %v", n, got, want)
		}
	}
}

func TestPutLaysTheNumberModuloItsWidth(t *testing.T) {
	for _, b := range [][]byte{nil, {}, {9}, {0, 7, 255}, list(300)} {
		for _, v := range numbers() {
			for n := 0; n <= 8; n++ {
				want := append(bytes.Clone(b), lowBytes(v, n)...)
				if got := num.Put(b, v, n); !bytes.Equal(got, want) {
					t.Fatalf("Put(%v, %#x, %d): %v, want %v", b, v, n, got, want)
				}
			}
		}
	}
}

func TestPutOfAnotherWidthTellsTheBytesAlone(t *testing.T) {
	for _, b := range [][]byte{nil, {}, {9}, {0, 7, 255}} {
		for _, n := range wrongWidths() {
			if got := num.Put(b, 0x0102030405060708, n); !bytes.Equal(got, b) {
				t.Errorf("Put(%v, .., %d): %v", b, n, got)
			}
		}
	}
}

func TestTakeReadsTheFirstBytes(t *testing.T) {
	b := []byte{1, 2, 3, 4, 5, 6, 7, 8, 9, 10}
	for n := 0; n <= 8; n++ {
		want := new(big.Int).SetBytes(b[:n]).Uint64()
		if v, e := num.Take(b, n); v != want || e != api.OK {
			t.Errorf("n %d: %#x %d, want %#x", n, v, e, want)
		}
		if v, e := num.Take(b[:n], n); v != want || e != api.OK {
			t.Errorf("n %d, no byte more: %#x %d, want %#x", n, v, e, want)
		}
	}
}

func TestTakeReadsTheGreatestNumbers(t *testing.T) {
	b := bytes.Repeat([]byte{255}, 8)
	for n := 1; n <= 8; n++ {
		want := uint64(math.MaxUint64) >> (64 - 8*n)
		if v, e := num.Take(b, n); v != want || e != api.OK {
			t.Errorf("n %d: %#x %d, want %#x", n, v, e, want)
		}
	}
}

func TestTakeOfNoBytes(t *testing.T) {
	for _, b := range [][]byte{nil, {}, {255}} {
		if v, e := num.Take(b, 0); v != 0 || e != api.OK {
			t.Errorf("Take(%v, 0): %d %d", b, v, e)
		}
	}
}

func TestTakeOfAnotherWidthIsErrArg(t *testing.T) {
	// Also where the bytes are too few: ErrArg is named first.
	for _, b := range [][]byte{nil, {}, {1}, list(8), list(300)} {
		for _, n := range wrongWidths() {
			if v, e := num.Take(b, n); v != 0 || e != api.ErrArg {
				t.Errorf("Take of %d bytes, n %d: %d %d", len(b), n, v, e)
			}
		}
	}
}

func TestTakeOfBytesCutOffIsErrShort(t *testing.T) {
	// Spare room behind the cut is not the list's.
	b := []byte{1, 2, 3, 4, 5, 6, 7, 8}
	for n := 1; n <= 8; n++ {
		for cut := range n {
			if v, e := num.Take(b[:cut], n); v != 0 || e != api.ErrShort {
				t.Errorf("n %d, cut off at %d: %d %d", n, cut, v, e)
			}
		}
	}
	if v, e := num.Take(nil, 1); v != 0 || e != api.ErrShort {
		t.Errorf("of nil: %d %d", v, e)
	}
}

func TestNumbersPutAreTaken(t *testing.T) {
	for _, v := range numbers() {
		for n := 0; n <= 8; n++ {
			want := v
			if n < 8 {
				want = v % (1 << (8 * n))
			}
			b := append(num.Put([]byte{3, 4}, v, n), 77)
			if got, e := num.Take(b[2:], n); got != want || e != api.OK {
				t.Fatalf("%#x in %d bytes: %#x %d, want %#x", v, n, got, e, want)
			}
		}
	}
}

// P1.2

// sizes answers lengths of lists: none, one, either side of what one byte says, and the most that two bytes say.
func sizes() []int { return []int{0, 1, 2, 3, 255, 256, 257, 511, 4096, 32767, 32768, 65534, 65535} }

func TestPutBytesLaysLengthAndBytes(t *testing.T) {
	for _, b := range [][]byte{nil, {}, {9}, list(300)} {
		for _, n := range sizes() {
			s := list(n)
			want := append(bytes.Clone(b), byte(n/256), byte(n%256))
			want = append(want, s...)
			if got := num.PutBytes(b, s); !bytes.Equal(got, want) {
				t.Errorf("%d bytes behind %d: %d bytes that differ", n, len(b), len(got))
			}
		}
	}
}

func TestPutBytesOfNoBytes(t *testing.T) {
	for _, s := range [][]byte{nil, {}} {
		if got := num.PutBytes(nil, s); !bytes.Equal(got, []byte{0, 0}) {
			t.Errorf("%v", got)
		}
	}
}

func TestTakeBytesReadsThem(t *testing.T) {
	for _, x := range []struct {
		b, s []byte
		n    int
	}{
		{[]byte{0, 0}, nil, 2},
		{[]byte{0, 0, 5, 6}, nil, 2},
		{[]byte{0, 1, 7}, []byte{7}, 3},
		{[]byte{0, 3, 'a', 'b', 'c', 'z'}, []byte("abc"), 5},
		{append([]byte{1, 0}, list(300)...), list(300)[:256], 258},
		{append([]byte{255, 255}, list(65535)...), list(65535), 65537},
	} {
		if s, n, e := num.TakeBytes(x.b); !bytes.Equal(s, x.s) || n != x.n || e != api.OK {
			t.Errorf("of %d bytes: %d bytes, read %d, error %d; want %d, %d", len(x.b), len(s), n, e, len(x.s), x.n)
		}
	}
}

func TestTakeBytesCutOffIsErrShort(t *testing.T) {
	for _, n := range []int{0, 1, 2, 3, 255, 256, 300, 65535} {
		b := num.PutBytes(nil, list(n))
		for cut := range len(b) {
			if s, k, e := num.TakeBytes(b[:cut]); len(s) != 0 || k != 0 || e != api.ErrShort {
				t.Fatalf("%d bytes, cut off at %d: %d bytes, read %d, error %d", n, cut, len(s), k, e)
			}
		}
	}
	if s, n, e := num.TakeBytes(nil); len(s) != 0 || n != 0 || e != api.ErrShort {
		t.Errorf("of nil: %d bytes, read %d, error %d", len(s), n, e)
	}
}

func TestBytesPutAreTaken(t *testing.T) {
	for _, n := range sizes() {
		s := list(n)
		b := append(num.PutBytes([]byte{3, 4}, s), 77)
		if got, k, e := num.TakeBytes(b[2:]); !bytes.Equal(got, s) || k != 2+n || e != api.OK {
			t.Errorf("%d bytes: %d bytes, read %d, error %d", n, len(got), k, e)
		}
	}
}

func TestListsPutOneBehindAnotherAreTaken(t *testing.T) {
	lists := [][]byte{list(3), nil, list(256), {0, 0}, list(1)}
	var b []byte
	for _, s := range lists {
		b = num.PutBytes(b, s)
	}
	for i, want := range lists {
		s, n, e := num.TakeBytes(b)
		if !bytes.Equal(s, want) || n != 2+len(want) || e != api.OK {
			t.Fatalf("list %d: %v, read %d, error %d", i, s, n, e)
		}
		b = b[n:]
	}
	if len(b) != 0 {
		t.Errorf("%d bytes are left", len(b))
	}
}

// The document promises nothing of so long a list but that the call ends; it must not leave bytes that are read as another list.
func TestPutBytesOfTooManyTellsTheBytesAlone(t *testing.T) {
	for _, n := range []int{65536, 65537, 1 << 17, 1 << 20} {
		if got := num.PutBytes([]byte{9}, list(n)); !bytes.Equal(got, []byte{9}) {
			t.Errorf("%d bytes: %d bytes", n, len(got))
		}
	}
}

// R3: what is handed in is neither changed nor kept, what is told is new memory.

func TestPutNeitherChangesNorKeeps(t *testing.T) {
	for _, spare := range []int{0, 1, 8, 20} {
		for _, n := range append(wrongWidths(), 0, 1, 2, 8) {
			b := roomy([]byte{1, 2, 3}, spare)
			before := whole(b)
			got := num.Put(b, 0x0102030405060708, n)
			told := bytes.Clone(got)
			if !bytes.Equal(whole(b), before) {
				t.Errorf("n %d, spare %d: changed", n, spare)
			}
			scribble(got)
			if !bytes.Equal(whole(b), before) {
				t.Errorf("n %d, spare %d: what is told shares memory", n, spare)
			}
			scribble(b)
			scribble(got)
			if !bytes.Equal(got, told) {
				t.Errorf("n %d, spare %d: what is told hangs on what was handed in", n, spare)
			}
		}
	}
}

func TestPutBytesNeitherChangesNorKeeps(t *testing.T) {
	for _, spare := range []int{0, 1, 2, 5, 400} {
		for _, n := range []int{0, 1, 3, 300, 65535, 65536} {
			b, s := roomy([]byte{1, 2, 3}, spare), roomy(list(n), spare)
			before, before2 := whole(b), whole(s)
			got := num.PutBytes(b, s)
			told := bytes.Clone(got)
			if !bytes.Equal(whole(b), before) || !bytes.Equal(whole(s), before2) {
				t.Errorf("%d bytes, spare %d: changed", n, spare)
			}
			scribble(got)
			if !bytes.Equal(whole(b), before) || !bytes.Equal(whole(s), before2) {
				t.Errorf("%d bytes, spare %d: what is told shares memory", n, spare)
			}
			scribble(b)
			scribble(s)
			scribble(got)
			if !bytes.Equal(got, told) {
				t.Errorf("%d bytes, spare %d: what is told hangs on what was handed in", n, spare)
			}
		}
	}
}

func TestPutBytesOfBytesThatStandInTheSpareRoom(t *testing.T) {
	room := []byte{1, 2, 3, 4, 5, 6, 7, 8}
	want := []byte{1, 2, 0, 3, 3, 4, 5}
	if got := num.PutBytes(room[:2], room[2:5]); !bytes.Equal(got, want) {
		t.Errorf("%v, want %v", got, want)
	}
	if got := num.PutBytes(room[:2], room[:2]); !bytes.Equal(got, []byte{1, 2, 0, 2, 1, 2}) {
		t.Errorf("b twice: %v", got)
	}
	if !bytes.Equal(room, []byte{1, 2, 3, 4, 5, 6, 7, 8}) {
		t.Errorf("changed: %v", room)
	}
}

func TestTakeChangesNothing(t *testing.T) {
	b := roomy(list(8), 8)
	before := whole(b)
	for _, n := range append(wrongWidths(), 0, 1, 7, 8) {
		num.Take(b, n)
		num.Take(b[:1], n)
	}
	if !bytes.Equal(whole(b), before) {
		t.Error("changed")
	}
}

func TestTakeBytesNeitherChangesNorKeeps(t *testing.T) {
	for _, n := range []int{0, 1, 3, 300, 65535} {
		want := list(n)
		b := roomy(append(num.PutBytes(nil, want), 77, 78), 8)
		before := whole(b)
		s, _, _ := num.TakeBytes(b)
		if !bytes.Equal(whole(b), before) {
			t.Errorf("%d bytes: changed", n)
		}
		scribble(s)
		if !bytes.Equal(whole(b), before) {
			t.Errorf("%d bytes: what is told shares memory", n)
		}
		scribble(s)
		scribble(b)
		if !bytes.Equal(s, want) {
			t.Errorf("%d bytes: what is told hangs on what was handed in", n)
		}
	}
}

// R4: a call hangs on what it is handed alone; what it told before is left as it was told.
func TestCallsAskedAgainTellTheSame(t *testing.T) {
	b, s := []byte{0, 2, 5, 6}, list(40)
	put, putBytes := num.Put(b, 258, 3), num.PutBytes(b, s)
	taken, _, _ := num.TakeBytes(b)
	num.Put([]byte{1}, 99, 8)
	num.PutBytes([]byte{1}, list(50))
	num.TakeBytes([]byte{0, 3, 1, 1, 1})
	again, _, _ := num.TakeBytes(b)
	if !bytes.Equal(put, num.Put(b, 258, 3)) || !bytes.Equal(putBytes, num.PutBytes(b, s)) || !bytes.Equal(taken, again) {
		t.Error("another answer")
	}
	if !bytes.Equal(put, []byte{0, 2, 5, 6, 0, 1, 2}) || !bytes.Equal(taken, []byte{5, 6}) {
		t.Error("an earlier answer was changed")
	}
}
