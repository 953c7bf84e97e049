package code

import (
	"bytes"
	"math"
	"math/bits"
	"slices"
	"strconv"
	"testing"

	"tessera/api"
)

// legal is all legal k and r.
func legal() [][2]int {
	var all [][2]int
	for k := 1; k <= 14; k++ {
		for r := 2; k+r <= 16; r++ {
			all = append(all, [2]int{k, r})
		}
	}
	return all
}

// illegal is k and r that aren't legal; the sums of some run over, and some have legal numbers in their low bits.
func illegal() [][2]int {
	var all [][2]int
	for k := -2; k <= 18; k++ {
		for r := -2; r <= 18; r++ {
			if k < 1 || r < 2 || k+r > 16 {
				all = append(all, [2]int{k, r})
			}
		}
	}
	for _, far := range []int{math.MinInt, math.MinInt + 3, -1 << 32, 256 + 4, 1<<32 + 2, 1<<63 - 8, math.MaxInt} {
		all = append(all, [2]int{far, 3}, [2]int{4, far}, [2]int{far, far})
	}
	return all
}

// outside is numbers that aren't 0 to n - 1, with n itself, and some whose low bits, doubles or sums are.
func outside(n int) []int {
	return []int{
		math.MinInt, math.MinInt + 1, math.MinInt / 2, math.MinInt/2 + 1, -1 << 32, -256, -n, -2, -1,
		n, n + 1, 2 * n, 64, 256, 256 + 1, 1 << 16, 1 << 32, 1<<32 + 1,
		math.MaxInt / 2, math.MaxInt/2 + 1, math.MaxInt/2 + 2, math.MaxInt - 1, math.MaxInt,
	}
}

// tooSmall and tooGreat are sizes that no stripe of k data shards has.
func tooSmall() []int { return []int{math.MinInt, math.MinInt + 1, -1<<32 + 5, -256, -2, -1, 0} }

func tooGreat(k int) []int {
	return []int{2*k*64 + 1, 2*k*64 + 2, 2 * k * 65, 4096 + 1, 1<<32 + 5, math.MaxInt/2 + 2, math.MaxInt - 27, math.MaxInt}
}

// someSizes is sizes of stripes of k data shards: the edges of the halves' sizes, and some between.
func someSizes(k int) []int {
	sizes := []int{1, 2*k - 1, 2 * k, 2*k + 1, 4*k - 1, 2*k*31 + k, 2*k*63 + 1, 2*k*64 - 1, 2 * k * 64}
	slices.Sort(sizes)
	return slices.Compact(sizes)
}

// product is the product of polynomials modulo 285, bit by bit.
func product(a, b byte) byte {
	result := 0
	for bit := range 8 {
		result ^= int(b) >> bit & 1 * (int(a) << bit)
	}
	for bit := 15; bit >= 8; bit-- {
		result ^= result >> bit & 1 * (285 << (bit - 8))
	}
	return byte(result)
}

// inverse is the element whose product with a is 1, looked for among all.
func inverse(a byte) byte {
	for b := range 256 {
		if product(a, byte(b)) == 1 {
			return byte(b)
		}
	}
	return 0
}

// addTimes adds c times a list onto another one.
func addTimes(onto []byte, c byte, list []byte) {
	for i, x := range list {
		onto[i] ^= product(c, x)
	}
}

// slowParities is the halves of the parities by DOC.md's words, of the halves of the data shards.
func slowParities(k, r int, halves [][]byte) [][]byte {
	g := 0
	for g*(r-1) < k {
		g++
	}
	var list [][]byte
	for i := range r {
		first, second := make([]byte, len(halves[0])), make([]byte, len(halves[0]))
		for j := range k {
			factor := inverse(byte((k + i) ^ j))
			addTimes(first, factor, halves[2*j])
			addTimes(second, factor, halves[2*j+1])
			if i >= 1 && j/g == i-1 {
				addTimes(second, 1, halves[2*j])
			}
		}
		list = append(list, first, second)
	}
	return list
}

// slowHalves is all halves of a stripe: its bytes are cut into the least halves that hold them, and the rest is noughts.
func slowHalves(k, r int, data []byte) [][]byte {
	h := 1
	for 2*k*h < len(data) {
		h++
	}
	filled := append(bytes.Clone(data), make([]byte, 2*k*h-len(data))...)
	halves := slices.Collect(slices.Chunk(filled, h))
	return append(halves, slowParities(k, r, halves)...)
}

// slowShards is all shards of a stripe.
func slowShards(k, r int, data []byte) []api.Shard {
	halves := slowHalves(k, r, data)
	var list []api.Shard
	for number := range k + r {
		list = append(list, api.Shard{Number: number, First: halves[2*number], Second: halves[2*number+1]})
	}
	return list
}

// bytesOf is so many bytes, of another mixture for each seed.
func bytesOf(size, seed int) []byte {
	data := make([]byte, size)
	state := uint32(seed)*2654435761 + 12345
	for i := range data {
		state = state*1664525 + 1013904223
		data[i] = byte(state >> 24)
	}
	return data
}

// halvesOfSize is so many halves of h bytes.
func halvesOfSize(count, h int) [][]byte {
	halves := make([][]byte, count)
	for i := range halves {
		halves[i] = bytesOf(h, i)
	}
	return halves
}

// shardsOfSize is shards of these numbers, with halves of h bytes.
func shardsOfSize(numbers []int, h int) []api.Shard {
	list := make([]api.Shard, len(numbers))
	for i, number := range numbers {
		list[i] = api.Shard{Number: number, First: bytesOf(h, 2*i), Second: bytesOf(h, 2*i+1)}
	}
	return list
}

// upTo is the numbers 0 to n - 1.
func upTo(n int) []int {
	numbers := make([]int, n)
	for i := range numbers {
		numbers[i] = i
	}
	return numbers
}

func sameLists(a, b [][]byte) bool { return slices.EqualFunc(a, b, bytes.Equal) }

func sameShards(a, b []api.Shard) bool {
	return slices.EqualFunc(a, b, func(x, y api.Shard) bool {
		return x.Number == y.Number && bytes.Equal(x.First, y.First) && bytes.Equal(x.Second, y.Second)
	})
}

func cloneLists(lists [][]byte) [][]byte {
	var all [][]byte
	for _, list := range lists {
		all = append(all, bytes.Clone(list))
	}
	return all
}

func cloneShards(list []api.Shard) []api.Shard {
	var all []api.Shard
	for _, shard := range list {
		all = append(all, api.Shard{Number: shard.Number, First: bytes.Clone(shard.First), Second: bytes.Clone(shard.Second)})
	}
	return all
}

// wantEncode asks Encode for halves or an error.
func wantEncode(t *testing.T, k, r int, data []byte, want [][]byte, wantErr error) {
	t.Helper()
	if halves, err := Encode(k, r, data); !sameLists(halves, want) || err != wantErr {
		t.Error("Encode", k, r, data, "is", halves, err, "not", want, wantErr)
	}
}

// wantShards asks Shards for shards or an error.
func wantShards(t *testing.T, k, r int, data []byte, want []api.Shard, wantErr error) {
	t.Helper()
	if list, err := Shards(k, r, data); !sameShards(list, want) || err != wantErr {
		t.Error("Shards", k, r, data, "is", list, err, "not", want, wantErr)
	}
}

// wantDecode asks Decode for bytes or an error.
func wantDecode(t *testing.T, k, r, size int, list []api.Shard, want []byte, wantErr error) {
	t.Helper()
	if data, err := Decode(k, r, size, list); !bytes.Equal(data, want) || err != wantErr {
		t.Error("Decode", k, r, size, list, "is", data, err, "not", want, wantErr)
	}
}

// wantFits asks Fits for its answer or an error.
func wantFits(t *testing.T, k, r int, halves [][]byte, want bool, wantErr error) {
	t.Helper()
	if ok, err := Fits(k, r, halves); ok != want || err != wantErr {
		t.Error("Fits", k, r, halves, "is", ok, err, "not", want, wantErr)
	}
}

func TestP7_1Examples(t *testing.T) {
	halves := [][]byte{{5}, {7}, {5}, {7}, {140}, {136}}
	list := []api.Shard{
		{Number: 0, First: []byte{5}, Second: []byte{7}},
		{Number: 1, First: []byte{5}, Second: []byte{7}},
		{Number: 2, First: []byte{140}, Second: []byte{136}},
	}
	wantEncode(t, 1, 2, []byte{5, 7}, halves, nil)
	wantShards(t, 1, 2, []byte{5, 7}, list, nil)
	wantFits(t, 1, 2, halves, true, nil)
	for i := range list {
		wantDecode(t, 1, 2, 2, list[i:i+1], []byte{5, 7}, nil)
		wantDecode(t, 1, 2, 1, list[i:i+1], []byte{5}, nil)
	}
	wantDecode(t, 1, 2, 2, list[:2], nil, api.ErrHalf)
	// With k 4 and r 3 parity 1 carries data shards 0 and 1: its part 1 less the sum of the b's is a_0 and a_1.
	more, err := Encode(4, 3, bytesOf(8*5, 1))
	if err != nil {
		t.Fatal(err)
	}
	carried := bytes.Clone(more[11])
	for j := range 4 {
		addTimes(carried, inverse(byte(5^j)), more[2*j+1])
	}
	addTimes(carried, 1, more[0])
	if !bytes.Equal(carried, more[2]) {
		t.Error("p1b", more, carried)
	}
}

// TestP7_1Legal: Encode, Shards and Fits at all legal k and r, held against sums made by DOC.md's words.
func TestP7_1Legal(t *testing.T) {
	for _, x := range legal() {
		k, r := x[0], x[1]
		for _, size := range someSizes(k) {
			data := bytesOf(size, size+r)
			halves, list := slowHalves(k, r, data), slowShards(k, r, data)
			wantEncode(t, k, r, data, halves, nil)
			wantShards(t, k, r, data, list, nil)
			wantFits(t, k, r, halves, true, nil)
			wantDecode(t, k, r, size, list[r:], data, nil)
		}
	}
}

// TestP7_1Noughts: bytes that are all 0 are bytes as well.
func TestP7_1Noughts(t *testing.T) {
	for _, x := range legal() {
		k, r := x[0], x[1]
		for _, h := range []int{1, 64} {
			halves := make([][]byte, 2*(k+r))
			for i := range halves {
				halves[i] = make([]byte, h)
			}
			wantEncode(t, k, r, make([]byte, 2*k*h), halves, nil)
			wantFits(t, k, r, halves, true, nil)
		}
	}
}

// TestP7_1AnyShards: any k shards are those of one stripe, whatever stands in them, and each size of these halves is answered its bytes.
func TestP7_1AnyShards(t *testing.T) {
	for _, x := range legal() {
		k, r := x[0], x[1]
		numbers := upTo(k + r)
		for turn := range k + r {
			list := shardsOfSize(slices.Concat(numbers[turn:], numbers[:turn])[:k], 3)
			data, err := Decode(k, r, 2*k*3, list)
			if err != nil || len(data) != 2*k*3 {
				t.Fatal("Decode", k, r, list, data, err)
			}
			made := slowShards(k, r, data)
			for _, shard := range list {
				if !sameShards([]api.Shard{shard}, made[shard.Number:shard.Number+1]) {
					t.Error("Decode", k, r, list, data, "has another shard", shard.Number)
				}
			}
			for size := 2*k*2 + 1; size < 2*k*3; size++ {
				wantDecode(t, k, r, size, list, data[:size], nil)
			}
		}
	}
}

// TestP7_1Params: ErrParams is answered whatever stands behind k and r, right or wrong.
func TestP7_1Params(t *testing.T) {
	for _, x := range illegal() {
		k, r := x[0], x[1]
		for _, size := range []int{0, 1, 2, 5, 128, 1793} {
			wantEncode(t, k, r, bytesOf(size, 1), nil, api.ErrParams)
			wantShards(t, k, r, bytesOf(size, 1), nil, api.ErrParams)
		}
		for _, size := range slices.Concat(tooSmall(), tooGreat(4), []int{1, 2, 5, 128}) {
			for _, list := range [][]api.Shard{nil, shardsOfSize([]int{0}, 1), shardsOfSize(upTo(4), 2), shardsOfSize([]int{-1, 99}, 0)} {
				wantDecode(t, k, r, size, list, nil, api.ErrParams)
			}
		}
		for _, halves := range [][][]byte{nil, {nil}, halvesOfSize(6, 1), halvesOfSize(14, 64), halvesOfSize(32, 65)} {
			wantFits(t, k, r, halves, false, api.ErrParams)
		}
	}
}

// TestP7_1Sizes: sizes that are too small or too great, whatever the shards are.
func TestP7_1Sizes(t *testing.T) {
	for _, x := range legal() {
		k, r := x[0], x[1]
		lists := [][]api.Shard{nil, shardsOfSize(upTo(k), 64), shardsOfSize(upTo(k), 0), shardsOfSize(upTo(k+1), 65), shardsOfSize(make([]int, k), 1), shardsOfSize([]int{-1}, 1)}
		for _, list := range lists {
			for _, size := range tooSmall() {
				wantDecode(t, k, r, size, list, nil, api.ErrNumber)
			}
			for _, size := range tooGreat(k) {
				wantDecode(t, k, r, size, list, nil, api.ErrLarge)
			}
		}
		for _, data := range [][]byte{nil, {}, bytesOf(9, 1)[:0]} {
			wantEncode(t, k, r, data, nil, api.ErrNumber)
			wantShards(t, k, r, data, nil, api.ErrNumber)
		}
		for _, size := range []int{2*k*64 + 1, 2*k*64 + 2, 2 * k * 65, 1 << 16} {
			wantEncode(t, k, r, bytesOf(size, 1), nil, api.ErrLarge)
			wantShards(t, k, r, bytesOf(size, 1), nil, api.ErrLarge)
		}
	}
}

// TestP7_1Counts: more or fewer than k shards are refused, also if they are all there, and also if their halves are wrong.
func TestP7_1Counts(t *testing.T) {
	for _, x := range legal() {
		k, r := x[0], x[1]
		data := bytesOf(2*k*2, k)
		list := slowShards(k, r, data)
		for count := range k + r + 1 {
			if count != k {
				wantDecode(t, k, r, len(data), list[:count], nil, api.ErrHalf)
				wantDecode(t, k, r, len(data), shardsOfSize(upTo(count), 0), nil, api.ErrHalf)
			}
		}
		wantDecode(t, k, r, len(data), nil, nil, api.ErrHalf)
		wantDecode(t, k, r, len(data), make([]api.Shard, 1<<16), nil, api.ErrHalf)
	}
}

// TestP7_1Numbers: a number that no shard has, and one that two have, anywhere in the list, also if halves are wrong.
func TestP7_1Numbers(t *testing.T) {
	for _, x := range legal() {
		k, r := x[0], x[1]
		data := bytesOf(2*k*2, k)
		for at := range k {
			for _, number := range outside(k + r) {
				if 0 <= number && number < k+r {
					continue // a wide stripe has it
				}
				list := slowShards(k, r, data)[r:]
				list[at].Number = number
				wantDecode(t, k, r, len(data), list, nil, api.ErrHalf)
				list[0].First = nil
				wantDecode(t, k, r, len(data), list, nil, api.ErrHalf)
			}
			for other := range at {
				list := slowShards(k, r, data)[:k]
				list[other] = list[at]
				wantDecode(t, k, r, len(data), list, nil, api.ErrHalf)
				list = slowShards(k, r, data)[r:]
				list[at].Number = list[other].Number
				wantDecode(t, k, r, len(data), list, nil, api.ErrHalf)
				list[0].Second = bytesOf(3, 1)
				wantDecode(t, k, r, len(data), list, nil, api.ErrHalf)
			}
		}
	}
}

// TestP7_1Data: halves of another size than the stripe's, one of them or all.
func TestP7_1Data(t *testing.T) {
	for _, x := range legal() {
		k, r := x[0], x[1]
		for _, h := range []int{1, 2, 64} {
			data := bytesOf(2*k*h, k)
			for _, wrong := range []int{0, h - 1, h + 1, 2 * h, 64 + h, 256 + h} {
				wantDecode(t, k, r, len(data), shardsOfSize(upTo(k), wrong), nil, api.ErrData)
				for at := range k {
					list := slowShards(k, r, data)[r:]
					list[at].First = bytesOf(wrong, 1)
					wantDecode(t, k, r, len(data), list, nil, api.ErrData)
					list = slowShards(k, r, data)[r:]
					list[at].Second = bytesOf(wrong, 1)
					wantDecode(t, k, r, len(data), list, nil, api.ErrData)
				}
			}
		}
		// As many bytes as there should be, but cut elsewhere.
		list := slowShards(k, r, bytesOf(2*k*2, k))[r:]
		list[0].First, list[0].Second = bytesOf(3, 1), bytesOf(1, 1)
		wantDecode(t, k, r, 2*k*2, list, nil, api.ErrData)
	}
	// One byte more than fits into halves of one byte, or one fewer.
	wantDecode(t, 2, 2, 5, shardsOfSize(upTo(2), 1), nil, api.ErrData)
	wantDecode(t, 2, 2, 4, shardsOfSize(upTo(2), 2), nil, api.ErrData)
}

// TestP7_1FitsRefused: halves that are too many, too few, or not of one size of 1 to 64.
func TestP7_1FitsRefused(t *testing.T) {
	for _, x := range legal() {
		k, r := x[0], x[1]
		n := 2 * (k + r)
		for _, h := range []int{1, 2, 64} {
			halves := slowHalves(k, r, bytesOf(2*k*h, k))
			for _, count := range []int{0, 1, 2 * k, k + r, n - 1} {
				wantFits(t, k, r, halves[:count], false, api.ErrData)
			}
			wantFits(t, k, r, append(slices.Clone(halves), halves[0]), false, api.ErrData)
			wantFits(t, k, r, slices.Concat(halves, halves), false, api.ErrData)
			for at := range n {
				for _, wrong := range []int{0, h - 1, h + 1, 2 * h, 256 + h} {
					changed := slices.Clone(halves)
					changed[at] = bytesOf(wrong, 1)
					wantFits(t, k, r, changed, false, api.ErrData)
				}
			}
		}
		wantFits(t, k, r, nil, false, api.ErrData)
		wantFits(t, k, r, make([][]byte, n), false, api.ErrData)
		for _, h := range []int{0, 65, 128, 256 + 1} {
			wantFits(t, k, r, halvesOfSize(n, h), false, api.ErrData)
			wantFits(t, k, r, slices.Repeat([][]byte{make([]byte, h)}, n), false, api.ErrData)
		}
	}
}

// TestP7_1FitsAny: any data halves fit with the parities that are theirs, and with no others.
func TestP7_1FitsAny(t *testing.T) {
	for _, x := range legal() {
		k, r := x[0], x[1]
		for _, h := range []int{1, 5, 64} {
			halves := halvesOfSize(2*k, h)
			fitting := append(slices.Clone(halves), slowParities(k, r, halves)...)
			wantFits(t, k, r, fitting, true, nil)
			for i := 2 * k; i < len(fitting); i++ {
				changed := slices.Clone(fitting)
				changed[i] = bytes.Clone(changed[i])
				changed[i][h-1]++
				wantFits(t, k, r, changed, false, nil)
			}
		}
		// Without what parities carry the halves don't fit.
		halves := slowHalves(k, r, bytes.Repeat([]byte{9}, 2*k))
		for j := range k {
			g := (k + r - 2) / (r - 1)
			plain := cloneLists(halves)
			addTimes(plain[2*(k+j/g+1)+1], 1, halves[2*j])
			wantFits(t, k, r, plain, false, nil)
		}
	}
}

// TestP7_1Given: what is handed in is neither changed nor kept, and what lies behind its length not read (rule 4).
func TestP7_1Given(t *testing.T) {
	for _, x := range [][2]int{{1, 2}, {4, 3}, {2, 6}, {14, 2}} {
		k, r := x[0], x[1]
		room := bytesOf(2*k*64, 1)
		size := 2*k*3 - 1
		kept := bytes.Clone(room)
		halves, err := Encode(k, r, room[:size])
		list, listErr := Shards(k, r, room[:size])
		if err != nil || listErr != nil || !bytes.Equal(room, kept) {
			t.Error("Encode or Shards changes what it was given", err, listErr)
		}
		clear(room)
		if !sameLists(halves, slowHalves(k, r, kept[:size])) || !sameShards(list, slowShards(k, r, kept[:size])) {
			t.Error("Encode or Shards keeps what it was given", k, r)
		}

		// Each half and the lists have room, in which something stands.
		for i := range list {
			list[i].First = append(bytes.Clone(list[i].First), 77, 78)[:3]
			list[i].Second = append(bytes.Clone(list[i].Second), 79, 80)[:3]
			halves[2*i], halves[2*i+1] = list[i].First, list[i].Second
		}
		before := cloneShards(list)
		data, err := Decode(k, r, size, list[r:])
		shorter, shorterErr := Decode(k, r, size, list[:k])
		if err != nil || shorterErr != nil || !bytes.Equal(data, kept[:size]) || !bytes.Equal(shorter, kept[:size]) || !sameShards(list, before) {
			t.Error("Decode", k, r, data, shorter, err, shorterErr)
		}
		wantFits(t, k, r, append(slices.Clone(halves), []byte{1})[:2*(k+r)], true, nil)
		for i, shard := range list {
			if !slices.Equal(shard.First[:5][3:], []byte{77, 78}) || !slices.Equal(shard.Second[:5][3:], []byte{79, 80}) || !sameShards(list[i:i+1], before[i:i+1]) {
				t.Error("Decode or Fits writes into what it was given", k, r, i)
			}
			clear(shard.First)
			clear(shard.Second)
		}
		if !bytes.Equal(data, kept[:size]) || !bytes.Equal(shorter, kept[:size]) {
			t.Error("Decode keeps what it was given", k, r)
		}
	}
}

// TestP7_1OneListTwice: one list may stand in the place of several.
func TestP7_1OneListTwice(t *testing.T) {
	half := []byte{7, 8}
	list := []api.Shard{{Number: 1, First: half, Second: half}, {Number: 0, First: half, Second: half}}
	wantDecode(t, 2, 2, 7, list, []byte{7, 8, 7, 8, 7, 8, 7}, nil)
	wantFits(t, 2, 2, slices.Repeat([][]byte{{0, 0}}, 8), true, nil)
	wantFits(t, 2, 2, slices.Repeat([][]byte{half}, 8), false, nil)
}

// wantApart asks that changing one of the lists, with its room, changes none of the others.
func wantApart(t *testing.T, what string, lists [][]byte) {
	t.Helper()
	before := cloneLists(lists)
	for i, list := range lists {
		for j, b := range list[:cap(list)][len(list):] {
			if b != 0 {
				t.Error(what, "hands out behind the length of list", i, j, b)
			}
		}
		room := list[:cap(list)]
		for j := range room {
			room[j] ^= 85
		}
		for other := range lists {
			if other != i && !bytes.Equal(lists[other], before[other]) {
				t.Error(what, "shares memory of the lists", i, other)
			}
		}
		copy(list, before[i])
	}
}

// TestP7_1Memory: answers are new memory, and no two lists of one share any (rule 4).
func TestP7_1Memory(t *testing.T) {
	for _, x := range [][2]int{{1, 2}, {3, 4}, {14, 2}} {
		k, r := x[0], x[1]
		data := bytesOf(2*k*3-1, 1)
		halves, err := Encode(k, r, data)
		if err != nil {
			t.Fatal(err)
		}
		wantApart(t, "Encode", append(halves, data))
		list, err := Shards(k, r, data)
		if err != nil {
			t.Fatal(err)
		}
		lists := [][]byte{data}
		for _, shard := range list {
			lists = append(lists, shard.First, shard.Second)
		}
		decoded, err := Decode(k, r, len(data), list[:k])
		if err != nil {
			t.Fatal(err)
		}
		wantApart(t, "Shards or Decode", append(lists, decoded))
		// What was done to the answers is in no later one.
		for _, one := range append(lists[1:], halves...) {
			clear(one)
		}
		clear(decoded)
		wantEncode(t, k, r, data, slowHalves(k, r, data), nil)
		wantShards(t, k, r, data, slowShards(k, r, data), nil)
		wantDecode(t, k, r, len(data), slowShards(k, r, data)[r:], data, nil)
	}
}

// chosen is the shards whose bits are set in choice, in their order.
func chosen(list []api.Shard, choice uint) []api.Shard {
	var some []api.Shard
	for number, shard := range list {
		if choice>>number&1 == 1 {
			some = append(some, shard)
		}
	}
	return some
}

// TestP7_2Choices: each choice of k shards gives the bytes back, of all legal k and r, in an order that changes with the choice.
func TestP7_2Choices(t *testing.T) {
	for _, x := range legal() {
		k, r := x[0], x[1]
		t.Run(strconv.Itoa(k)+"_"+strconv.Itoa(r), func(t *testing.T) {
			t.Parallel()
			data := bytesOf(2*k*2-1, 16*k+r)
			list, err := Shards(k, r, data)
			if err != nil {
				t.Fatal(err)
			}
			for choice := range uint(1) << (k + r) {
				if bits.OnesCount(choice) == k {
					some := chosen(list, choice)
					turn := int(choice) % k
					wantDecode(t, k, r, len(data), slices.Concat(some[turn:], some[:turn]), data, nil)
				}
			}
		})
	}
}

// orders calls f with the list in each of its orders.
func orders(list []api.Shard, from int, f func()) {
	if from == len(list) {
		f()
	}
	for i := from; i < len(list); i++ {
		list[from], list[i] = list[i], list[from]
		orders(list, from+1, f)
		list[from], list[i] = list[i], list[from]
	}
}

// TestP7_2Orders: each order of each choice gives the bytes back.
func TestP7_2Orders(t *testing.T) {
	for _, x := range [][2]int{{1, 3}, {2, 3}, {3, 3}, {4, 2}} {
		k, r := x[0], x[1]
		data := bytesOf(2*k*3-1, k)
		list, err := Shards(k, r, data)
		if err != nil {
			t.Fatal(err)
		}
		for choice := range uint(1) << (k + r) {
			if some := chosen(list, choice); len(some) == k {
				orders(some, 0, func() { wantDecode(t, k, r, len(data), some, data, nil) })
			}
		}
	}
}

// TestP7_2Sizes: each size that a stripe can have, of the data shards, of the last shards, and of every other one.
func TestP7_2Sizes(t *testing.T) {
	for _, x := range [][2]int{{1, 2}, {2, 2}, {3, 5}, {5, 6}} {
		k, r := x[0], x[1]
		for size := 1; size <= 2*k*64; size++ {
			data := bytesOf(size, size)
			list, err := Shards(k, r, data)
			if err != nil {
				t.Fatal(err)
			}
			var others []api.Shard
			for i := range k {
				others = append(others, list[(2*i+1)%(k+r)])
			}
			for _, some := range [][]api.Shard{list[:k], list[r:], others} {
				wantDecode(t, k, r, size, some, data, nil)
			}
		}
	}
}

// TestP7_2Bytes: each byte at each place of a small stripe.
func TestP7_2Bytes(t *testing.T) {
	for b := range 256 {
		for at := range 8 {
			data := make([]byte, 8)
			data[at] = byte(b)
			list, err := Shards(2, 3, data)
			if err != nil {
				t.Fatal(err)
			}
			for choice := range uint(1) << 5 {
				if bits.OnesCount(choice) == 2 {
					wantDecode(t, 2, 3, 8, chosen(list, choice), data, nil)
				}
			}
		}
	}
}

// TestP7_3Linear: the halves of two stripes, summed, are those of the sums of their bytes; those of a multiple are the multiples.
func TestP7_3Linear(t *testing.T) {
	for _, x := range legal() {
		k, r := x[0], x[1]
		for _, size := range someSizes(k) {
			a, b := bytesOf(size, 1), bytesOf(size, 2)
			sum := bytes.Clone(a)
			addTimes(sum, 1, b)
			first, err := Encode(k, r, a)
			second, secondErr := Encode(k, r, b)
			if err != nil || secondErr != nil || len(first) != len(second) {
				t.Fatal("Encode", k, r, size, err, secondErr)
			}
			multiples := cloneLists(second)
			for i := range first {
				addTimes(first[i], 1, second[i])
				addTimes(multiples[i], 2, second[i])
			}
			wantEncode(t, k, r, sum, first, nil)
			addTimes(b, 2, b)
			wantEncode(t, k, r, b, multiples, nil)
		}
	}
}

// TestP7_3Changed: what Encode makes fits, and with one byte of one half changed it doesn't.
func TestP7_3Changed(t *testing.T) {
	for _, x := range legal() {
		k, r := x[0], x[1]
		halves, err := Encode(k, r, bytesOf(2*k*3-1, k))
		if err != nil {
			t.Fatal(err)
		}
		wantFits(t, k, r, halves, true, nil)
		for i, list := range halves {
			for at := range list {
				for _, change := range []byte{1, 128, 255} {
					list[at] ^= change
					wantFits(t, k, r, halves, false, nil)
					list[at] ^= change
				}
			}
			if i == 0 {
				wantFits(t, k, r, halves, true, nil)
			}
		}
	}
	// Each change of a byte, at the least stripe.
	halves, err := Encode(1, 2, []byte{5, 7})
	if err != nil {
		t.Fatal(err)
	}
	for _, list := range halves {
		for change := 1; change < 256; change++ {
			list[0] ^= byte(change)
			wantFits(t, 1, 2, halves, false, nil)
			list[0] ^= byte(change)
		}
	}
	wantFits(t, 1, 2, halves, true, nil)
}
