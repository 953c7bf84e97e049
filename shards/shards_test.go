package shards

import (
	"bytes"
	"math"
	"slices"
	"testing"

	"tessera/api"
)

// lastK is the greatest legal number of data shards.
const lastK = 14

// illegal is numbers that no stripe has of data shards; some have legal ones in their low bits, or run over when they are doubled.
func illegal() []int {
	return []int{
		math.MinInt, math.MinInt + 1, math.MinInt/2 + 2, -1 << 32, -256, -14, -2, -1, 0,
		15, 16, 17, 64, 128, 256, 256 + 2, 1<<32 + 2, math.MaxInt/128 + 1, math.MaxInt/2 + 2, math.MaxInt - 1, math.MaxInt,
	}
}

// below is sizes below 0, and far above sizes above all that fits, some with fitting low bits.
func below() []int { return []int{math.MinInt, math.MinInt + 1, -1<<32 + 5, -4096, -256, -2, -1} }

func farAbove() []int {
	return []int{4097, 1 << 16, 1<<32 + 5, math.MaxInt/2 + 1, math.MaxInt - 27, math.MaxInt - 1, math.MaxInt}
}

// slowHalf is the size of the halves by trying: the first that holds all the bytes.
func slowHalf(k, size int) int {
	h := 0
	for 2*k*h < size {
		h++
	}
	return h
}

// slowStripes is the sizes of the stripes, byte by byte.
func slowStripes(k, size int) []int {
	var sizes []int
	for i := range size {
		if i%(2*k*64) == 0 {
			sizes = append(sizes, 0)
		}
		sizes[len(sizes)-1]++
	}
	return sizes
}

// slowSplit is the data halves, byte by byte.
func slowSplit(k int, data []byte) [][]byte {
	h := slowHalf(k, len(data))
	var halves [][]byte
	for v := range 2 * k {
		var half []byte
		for i := v * h; i < (v+1)*h; i++ {
			if i < len(data) {
				half = append(half, data[i])
			} else {
				half = append(half, 0)
			}
		}
		halves = append(halves, half)
	}
	return halves
}

// bytesOf is so many bytes, no two neighbours alike and none of them 0.
func bytesOf(size int) []byte {
	data := make([]byte, size)
	for i := range data {
		data[i] = byte(i*37%255 + 1)
	}
	return data
}

// halvesOf is so many halves of h bytes each, no two alike.
func halvesOf(count, h int) [][]byte {
	halves := make([][]byte, count)
	for v := range halves {
		halves[v] = bytesOf(v + h)[v:]
	}
	return halves
}

func sameLists(a, b [][]byte) bool { return slices.EqualFunc(a, b, bytes.Equal) }

func cloneLists(lists [][]byte) [][]byte {
	var all [][]byte
	for _, list := range lists {
		all = append(all, bytes.Clone(list))
	}
	return all
}

// wantHalf asks Half for a size of halves or an error.
func wantHalf(t *testing.T, k, size, want int, wantErr error) {
	t.Helper()
	if h, err := Half(k, size); h != want || err != wantErr {
		t.Error("Half", k, size, "is", h, err, "not", want, wantErr)
	}
}

// wantStripes asks Stripes for sizes or an error.
func wantStripes(t *testing.T, k, size int, want []int, wantErr error) {
	t.Helper()
	if sizes, err := Stripes(k, size); !slices.Equal(sizes, want) || err != wantErr {
		t.Error("Stripes", k, size, "is", sizes, err, "not", want, wantErr)
	}
}

// wantSplit asks Split for halves or an error.
func wantSplit(t *testing.T, k int, data []byte, want [][]byte, wantErr error) {
	t.Helper()
	if halves, err := Split(k, data); !sameLists(halves, want) || err != wantErr {
		t.Error("Split", k, data, "is", halves, err, "not", want, wantErr)
	}
}

// wantJoin asks Join for bytes or an error.
func wantJoin(t *testing.T, k, size int, halves [][]byte, want []byte, wantErr error) {
	t.Helper()
	if data, err := Join(k, size, halves); !bytes.Equal(data, want) || err != wantErr {
		t.Error("Join", k, size, halves, "is", data, err, "not", want, wantErr)
	}
}

func TestP6_1Examples(t *testing.T) {
	wantHalf(t, 2, 5, 2, nil)
	wantHalf(t, 1, 128, 64, nil)
	wantHalf(t, 1, 129, 0, api.ErrLarge)
	wantHalf(t, 15, 1, 0, api.ErrParams)
	wantStripes(t, 1, 300, []int{128, 128, 44}, nil)
	wantStripes(t, 14, 0, nil, nil)
	wantStripes(t, 1, 4097, nil, api.ErrLarge)
	cut := [][]byte{[]byte("ab"), []byte("cd"), {'e', 0}, {0, 0}}
	wantSplit(t, 2, []byte("abcde"), cut, nil)
	wantJoin(t, 2, 5, cut, []byte("abcde"), nil)
	wantJoin(t, 2, 9, cut, nil, api.ErrData)
}

// TestP6_1Legal: all calls at all k and all sizes that a stripe can have, and Stripes at all that an object can have.
func TestP6_1Legal(t *testing.T) {
	for k := 1; k <= lastK; k++ {
		for size := 1; size <= 2*k*64; size++ {
			data := bytesOf(size)
			halves := slowSplit(k, data)
			wantHalf(t, k, size, slowHalf(k, size), nil)
			wantSplit(t, k, data, halves, nil)
			wantJoin(t, k, size, halves, data, nil)
		}
		for size := range 4096 + 1 {
			wantStripes(t, k, size, slowStripes(k, size), nil)
		}
	}
}

// TestP6_1Edges: the least and the greatest that fit, at the least and the greatest k, and their neighbours.
func TestP6_1Edges(t *testing.T) {
	wantHalf(t, 1, 1, 1, nil)
	wantHalf(t, 1, 2, 1, nil)
	wantHalf(t, 1, 3, 2, nil)
	wantHalf(t, 14, 1, 1, nil)
	wantHalf(t, 14, 28, 1, nil)
	wantHalf(t, 14, 29, 2, nil)
	wantHalf(t, 14, 1792, 64, nil)
	wantHalf(t, 14, 1793, 0, api.ErrLarge)
	wantStripes(t, 1, 1, []int{1}, nil)
	wantStripes(t, 1, 127, []int{127}, nil)
	wantStripes(t, 1, 128, []int{128}, nil)
	wantStripes(t, 1, 129, []int{128, 1}, nil)
	wantStripes(t, 1, 256, []int{128, 128}, nil)
	wantStripes(t, 14, 4096, []int{1792, 1792, 512}, nil)
	wantStripes(t, 14, 3584, []int{1792, 1792}, nil)
	wantStripes(t, 14, 3585, []int{1792, 1792, 1}, nil)
	wantStripes(t, 1, 4096, slices.Repeat([]int{128}, 32), nil)
	wantStripes(t, 14, 4097, nil, api.ErrLarge)
	wantSplit(t, 1, []byte{7}, [][]byte{{7}, {0}}, nil)
	wantSplit(t, 1, []byte{0}, [][]byte{{0}, {0}}, nil)
	wantSplit(t, 2, []byte{5, 6}, [][]byte{{5}, {6}, {0}, {0}}, nil)
	wantJoin(t, 1, 1, [][]byte{{7}, {9}}, []byte{7}, nil)
	wantJoin(t, 1, 2, [][]byte{{7}, {9}}, []byte{7, 9}, nil)
	wantJoin(t, 2, 5, [][]byte{{1, 2}, {3, 4}, {5, 6}, {7, 8}}, []byte{1, 2, 3, 4, 5}, nil)
}

// TestP6_1Params: ErrParams is answered whatever stands behind k, right or wrong.
func TestP6_1Params(t *testing.T) {
	for _, k := range illegal() {
		for _, size := range slices.Concat(below(), farAbove(), []int{0, 1, 2, 5, 128, 129, 4096}) {
			wantHalf(t, k, size, 0, api.ErrParams)
			wantStripes(t, k, size, nil, api.ErrParams)
			wantJoin(t, k, size, nil, nil, api.ErrParams)
			wantJoin(t, k, size, [][]byte{{1}, {2}}, nil, api.ErrParams)
		}
		for _, size := range []int{0, 1, 5, 128, 1793, 5000} {
			wantSplit(t, k, bytesOf(size), nil, api.ErrParams)
		}
		wantSplit(t, k, nil, nil, api.ErrParams)
	}
}

// TestP6_1Sizes: sizes that are too small or too great, whatever the halves are.
func TestP6_1Sizes(t *testing.T) {
	for k := 1; k <= lastK; k++ {
		for _, size := range append(below(), 0) {
			wantHalf(t, k, size, 0, api.ErrNumber)
			wantJoin(t, k, size, nil, nil, api.ErrNumber)
			wantJoin(t, k, size, make([][]byte, 2*k), nil, api.ErrNumber)
			wantJoin(t, k, size, halvesOf(2*k, 1), nil, api.ErrNumber)
		}
		for _, size := range below() {
			wantStripes(t, k, size, nil, api.ErrNumber)
		}
		for _, size := range append(farAbove(), 2*k*64+1, 2*k*64+2, 2*k*65) {
			wantHalf(t, k, size, 0, api.ErrLarge)
			wantJoin(t, k, size, nil, nil, api.ErrLarge)
			wantJoin(t, k, size, halvesOf(2*k, 64), nil, api.ErrLarge)
			wantJoin(t, k, size, halvesOf(2*k, 65), nil, api.ErrLarge)
		}
		for _, size := range farAbove() {
			wantStripes(t, k, size, nil, api.ErrLarge)
		}
		wantSplit(t, k, nil, nil, api.ErrNumber)
		wantSplit(t, k, []byte{}, nil, api.ErrNumber)
		wantSplit(t, k, bytesOf(2*k*64+1), nil, api.ErrLarge)
		wantSplit(t, k, bytesOf(1<<20), nil, api.ErrLarge)
	}
}

// TestP6_1Data: halves that are too many, too few, or of another size, one of them or all.
func TestP6_1Data(t *testing.T) {
	for k := 1; k <= lastK; k++ {
		for _, h := range []int{1, 2, 63, 64} {
			size := 2*k*h - 1
			for _, count := range []int{0, 1, k, 2*k - 1, 2*k + 1, 2 * (k + 2), 4 * k, 256 + 2*k} {
				if count != 2*k {
					wantJoin(t, k, size, halvesOf(count, h), nil, api.ErrData)
				}
			}
			for _, wrong := range []int{0, h - 1, h + 1, 2 * h, 256 + h} {
				wantJoin(t, k, size, halvesOf(2*k, wrong), nil, api.ErrData)
				for v := range 2 * k {
					halves := halvesOf(2*k, h)
					halves[v] = bytesOf(wrong)
					wantJoin(t, k, size, halves, nil, api.ErrData)
				}
			}
			wantJoin(t, k, size, nil, nil, api.ErrData)
		}
	}
	// As many bytes as there should be, but cut elsewhere.
	wantJoin(t, 1, 4, [][]byte{{1, 2, 3}, {4}}, nil, api.ErrData)
	wantJoin(t, 2, 8, [][]byte{{1, 2, 3, 4}, {5, 6, 7, 8}}, nil, api.ErrData)
	wantJoin(t, 2, 8, [][]byte{{1, 2}, {3, 4}, {5, 6}, {7, 8}, {}}, nil, api.ErrData)
}

// TestP6_1Given: what is handed in is neither changed nor kept, and what lies behind its length not read (rule 4).
func TestP6_1Given(t *testing.T) {
	for k := 1; k <= lastK; k++ {
		for _, size := range []int{1, 2*k - 1, 2 * k, 2*k + 1, 2*k*64 - 1, 2 * k * 64} {
			room := bytesOf(size + 2*k*64)
			kept := bytes.Clone(room)
			halves, err := Split(k, room[:size])
			if want := slowSplit(k, kept[:size]); err != nil || !bytes.Equal(room, kept) || !sameLists(halves, want) {
				t.Error("Split", k, size, err)
			}
			before := cloneLists(halves)
			clear(room)
			if !sameLists(halves, before) {
				t.Error("Split keeps what it was given", k, size)
			}
		}
	}
	rooms := halvesOf(4, 8)
	kept := cloneLists(rooms)
	var given [][]byte
	for _, room := range rooms {
		given = append(given, room[:2])
	}
	data, err := Join(2, 7, given)
	for v, room := range rooms {
		if !bytes.Equal(room, kept[v]) || !bytes.Equal(given[v], kept[v][:2]) {
			t.Error("Join changes half", v)
		}
		clear(room)
	}
	want := slices.Concat(kept[0][:2], kept[1][:2], kept[2][:2], kept[3][:1])
	if err != nil || !bytes.Equal(data, want) {
		t.Error("Join", data, err, "not", want)
	}
	many := append(halvesOf(4, 2), bytesOf(2))
	wantJoin(t, 2, 8, many[:4], slices.Concat(many[:4]...), nil)
	wantJoin(t, 2, 8, many[:3], nil, api.ErrData)
	// One list may stand in the place of many.
	wantJoin(t, 2, 7, slices.Repeat([][]byte{{1, 2}}, 4), []byte{1, 2, 1, 2, 1, 2, 1}, nil)
}

// TestP6_1Memory: answers are new memory, and no half has room into another (rule 4).
func TestP6_1Memory(t *testing.T) {
	data := bytesOf(13)
	first, err := Split(2, data)
	if err != nil {
		t.Fatal(err)
	}
	want := slowSplit(2, data)
	for v := range first {
		room := first[v][:cap(first[v])]
		for i := range room {
			room[i] ^= 85
		}
		_ = append(first[v], 99)
		for other := range first {
			if other != v && !bytes.Equal(first[other], want[other]) {
				t.Error("halves share their memory:", v, other)
			}
		}
		copy(first[v], want[v])
	}
	_ = append(first, []byte{1})
	wantSplit(t, 2, data, want, nil)

	sizes, _ := Stripes(1, 300)
	room := sizes[:cap(sizes)]
	for i := range room {
		room[i] = 77
	}
	wantStripes(t, 1, 300, []int{128, 128, 44}, nil)

	joined, _ := Join(2, 13, want)
	full := joined[:cap(joined)]
	for i := range full {
		full[i] ^= 85
	}
	if !sameLists(want, slowSplit(2, data)) {
		t.Error("Join hands out what it was given")
	}
	wantJoin(t, 2, 13, want, data, nil)
}

// TestP6_1Behind: what fills up the last halves isn't handed out behind the length of the bytes (rule 4).
func TestP6_1Behind(t *testing.T) {
	data, err := Join(2, 5, [][]byte{{1, 2}, {3, 4}, {5, 66}, {67, 68}})
	if err != nil {
		t.Fatal(err)
	}
	for _, b := range data[:cap(data)][len(data):] {
		if b != 0 {
			t.Error("behind the bytes stands", b)
		}
	}
}

// TestP6_2Undo: Join of Split gives the bytes back, whatever they are.
func TestP6_2Undo(t *testing.T) {
	for k := 1; k <= lastK; k++ {
		for size := 1; size <= 2*k*64; size++ {
			for _, data := range [][]byte{bytesOf(size), make([]byte, size), bytes.Repeat([]byte{255}, size)} {
				halves, err := Split(k, data)
				if err != nil {
					t.Fatal("Split", k, size, err)
				}
				wantJoin(t, k, size, halves, data, nil)
			}
		}
	}
}

// TestP6_2Sizes: what Stripes tells sums to the size, and each but the last is as great as can be; each is a size of a stripe.
func TestP6_2Sizes(t *testing.T) {
	for k := 1; k <= lastK; k++ {
		for size := range 4096 + 1 {
			sizes, err := Stripes(k, size)
			if err != nil {
				t.Fatal("Stripes", k, size, err)
			}
			sum := 0
			for i, stripe := range sizes {
				sum += stripe
				if i < len(sizes)-1 && stripe != 2*k*64 {
					t.Error("Stripes", k, size, "has", stripe, "ahead of its last")
				}
				if _, err := Half(k, stripe); err != nil {
					t.Error("Stripes", k, size, "has", stripe, err)
				}
			}
			if sum != size {
				t.Error("Stripes", k, size, "sums to", sum)
			}
		}
	}
}

// TestP6_3Small: halves hold the bytes, and smaller ones would not.
func TestP6_3Small(t *testing.T) {
	for k := 1; k <= lastK; k++ {
		for size := 1; size <= 2*k*64; size++ {
			h, err := Half(k, size)
			if err != nil || 2*k*h < size || 2*k*(h-1) >= size || h < 1 || h > 64 {
				t.Error("Half", k, size, h, err)
			}
		}
	}
}
