package half

import (
	"bytes"
	"math"
	"math/bits"
	"slices"
	"strconv"
	"strings"
	"testing"

	"tessera/api"
	"tessera/base"
	"tessera/mat"
	"tessera/solve"
)

// illegal is k and r that aren't legal; the sums of some run over, and some have legal numbers in their low bits.
func illegal() [][2]int {
	var all [][2]int
	for k := -2; k <= 18; k++ {
		for r := -2; r <= 18; r++ {
			if k < 1 || r < 2 || k+r > 16 {
				all = append(all, [2]int{k, r})
			}
		}
	}
	for _, far := range []int{math.MinInt, math.MinInt + 3, -1 << 32, 256 + 4, 1<<32 + 2, 1<<63 - 8, math.MaxInt} {
		all = append(all, [2]int{far, 3}, [2]int{4, far}, [2]int{far, far})
	}
	return all
}

// outside is numbers that aren't 0 to count - 1, with count itself, and some whose low bits or doubles are.
func outside(count int) []int {
	return []int{
		math.MinInt, math.MinInt + 1, math.MinInt/2 - 1, math.MinInt / 2, -1 << 32, -256, -count, -2, -1,
		count, count + 1, 2 * count, 64 + count, 256, 256 + 1, 1 << 16, 1 << 32, 1<<32 + 1,
		math.MaxInt / 2, math.MaxInt/2 + 1, math.MaxInt/2 + 2, math.MaxInt - 1, math.MaxInt,
	}
}

// slowProduct is the product of polynomials modulo 285, bit by bit.
func slowProduct(a, b int) byte {
	product := 0
	for bit := range 8 {
		product ^= b >> bit & 1 * (a << bit)
	}
	for bit := 15; bit >= 8; bit-- {
		product ^= product >> bit & 1 * (285 << (bit - 8))
	}
	return byte(product)
}

// slowInverses is the inverses of 1 to 15, each looked for among all elements: at 0 stands nothing that counts.
func slowInverses() [16]byte {
	var list [16]byte
	for a := 1; a < len(list); a++ {
		for b := range 256 {
			if slowProduct(a, b) == 1 {
				list[a] = byte(b)
			}
		}
	}
	return list
}

// slowGroup is k / (r - 1), rounded up, by counting.
func slowGroup(k, r int) int {
	g := 0
	for left := k; left > 0; left -= r - 1 {
		g++
	}
	return g
}

// slowCarriers is the parity that carries each data shard: g of them in turn are one parity's.
func slowCarriers(k, r int) []int {
	var list []int
	for parity := 1; len(list) < k; parity++ {
		for range slowGroup(k, r) {
			list = append(list, parity)
		}
	}
	return list[:k]
}

// slowRows is the rows by DOC.md's words: what the sums of 'The code' have of each variable.
func slowRows(k, r int) [][]byte {
	var rows [][]byte
	for half := range 2 * k {
		row := make([]byte, 2*k)
		row[half] = 1
		rows = append(rows, row)
	}
	inverses := slowInverses()
	for i := range r {
		first, second := make([]byte, 2*k), make([]byte, 2*k)
		for j := range k {
			first[2*j] = inverses[(k+i)^j]
			second[2*j+1] = inverses[(k+i)^j]
			if slowCarriers(k, r)[j] == i {
				second[2*j] = 1
			}
		}
		rows = append(rows, first, second)
	}
	return rows
}

// slowNames is the names of all halves, by number.
func slowNames(k, r int) []string {
	var names []string
	for shard := range k {
		names = append(names, "d"+strconv.Itoa(shard)+"a", "d"+strconv.Itoa(shard)+"b")
	}
	for parity := range r {
		names = append(names, "p"+strconv.Itoa(parity)+"a", "p"+strconv.Itoa(parity)+"b")
	}
	return names
}

// rowsOf is the answer of Rows, which must come without an error.
func rowsOf(t *testing.T, k, r int) api.Matrix {
	t.Helper()
	rows, err := Rows(k, r)
	if err != nil {
		t.Fatal("Rows", k, r, err)
	}
	return rows
}

// wantOf asks Of for a half or an error.
func wantOf(t *testing.T, k, r, shard, part, want int, wantErr error) {
	t.Helper()
	if half, err := Of(k, r, shard, part); half != want || err != wantErr {
		t.Error("Of", k, r, shard, part, "is", half, err, "not", want, wantErr)
	}
}

// wantSplit asks Split for a shard and a part, or an error.
func wantSplit(t *testing.T, k, r, half, wantShard, wantPart int, wantErr error) {
	t.Helper()
	if shard, part, err := Split(k, r, half); shard != wantShard || part != wantPart || err != wantErr {
		t.Error("Split", k, r, half, "is", shard, part, err, "not", wantShard, wantPart, wantErr)
	}
}

// wantCarrier asks Carrier for a parity or an error.
func wantCarrier(t *testing.T, k, r, shard, want int, wantErr error) {
	t.Helper()
	if parity, err := Carrier(k, r, shard); parity != want || err != wantErr {
		t.Error("Carrier", k, r, shard, "is", parity, err, "not", want, wantErr)
	}
}

// wantCarried asks Carried for a list or an error.
func wantCarried(t *testing.T, k, r, parity int, want []int, wantErr error) {
	t.Helper()
	if list, err := Carried(k, r, parity); !slices.Equal(list, want) || err != wantErr {
		t.Error("Carried", k, r, parity, "is", list, err, "not", want, wantErr)
	}
}

// wantRow asks Row for a row or an error.
func wantRow(t *testing.T, k, r, half int, want []byte, wantErr error) {
	t.Helper()
	if row, err := Row(k, r, half); !bytes.Equal(row, want) || err != wantErr {
		t.Error("Row", k, r, half, "is", row, err, "not", want, wantErr)
	}
}

// wantRows asks Rows for these rows.
func wantRows(t *testing.T, k, r int, want [][]byte) {
	t.Helper()
	got := rowsOf(t, k, r)
	if !mat.Same(got, api.Matrix{Rows: 2 * (k + r), Cols: 2 * k, Cells: slices.Concat(want...)}) {
		t.Error("Rows", k, r, "is", got, "not", want)
	}
}

// wantName asks Name for a name or an error.
func wantName(t *testing.T, k, r, half int, want string, wantErr error) {
	t.Helper()
	if name, err := Name(k, r, half); name != want || err != wantErr {
		t.Error("Name", k, r, half, "is", name, err, "not", want, wantErr)
	}
}

// wantParse asks Parse for a half or an error.
func wantParse(t *testing.T, k, r int, name string, want int, wantErr error) {
	t.Helper()
	if half, err := Parse(k, r, name); half != want || err != wantErr {
		t.Error("Parse", k, r, strconv.Quote(name), "is", half, err, "not", want, wantErr)
	}
}

func TestP5_1Examples(t *testing.T) {
	wantOf(t, 4, 3, 4, 1, 9, nil)
	wantSplit(t, 4, 3, 9, 4, 1, nil)
	wantName(t, 4, 3, 9, "p0b", nil)
	wantName(t, 4, 3, 3, "d1b", nil)
	wantCarrier(t, 4, 3, 2, 2, nil)
	wantCarried(t, 4, 3, 1, []int{0, 1}, nil)
	wantCarried(t, 4, 3, 0, nil, nil)
	wantParse(t, 4, 3, "p2a", 12, nil)
	for _, name := range []string{"p3a", "d4a", "d01a", "x", ""} {
		wantParse(t, 4, 3, name, 0, api.ErrHalf)
	}
	wantRows(t, 1, 2, [][]byte{{1, 0}, {0, 1}, {1, 0}, {0, 1}, {142, 0}, {1, 142}})
	wantRow(t, 1, 2, 5, []byte{1, 142}, nil)
}

// TestP5_1Legal: all calls at all there is of all legal k and r.
func TestP5_1Legal(t *testing.T) {
	for k, r := range base.All() {
		for half, name := range slowNames(k, r) {
			wantOf(t, k, r, half/2, half%2, half, nil)
			wantSplit(t, k, r, half, half/2, half%2, nil)
			wantName(t, k, r, half, name, nil)
			wantParse(t, k, r, name, half, nil)
		}
		rows := slowRows(k, r)
		wantRows(t, k, r, rows)
		for half, row := range rows {
			wantRow(t, k, r, half, row, nil)
		}
		carried := make([][]int, r)
		for shard, parity := range slowCarriers(k, r) {
			wantCarrier(t, k, r, shard, parity, nil)
			carried[parity] = append(carried[parity], shard)
		}
		for parity, list := range carried {
			wantCarried(t, k, r, parity, list, nil)
		}
	}
}

// TestP5_1Edges: k that the groups don't divide, so that the last parity that carries has a smaller group, or some carry nothing.
func TestP5_1Edges(t *testing.T) {
	wantCarried(t, 5, 3, 1, []int{0, 1, 2}, nil)
	wantCarried(t, 5, 3, 2, []int{3, 4}, nil)
	wantCarried(t, 5, 5, 3, []int{4}, nil)
	wantCarried(t, 5, 5, 4, nil, nil)
	wantCarried(t, 2, 6, 2, []int{1}, nil)
	wantCarried(t, 2, 6, 3, nil, nil)
	wantCarried(t, 1, 15, 14, nil, nil)
	wantCarried(t, 14, 2, 0, nil, nil)
	wantCarried(t, 14, 2, 1, []int{0, 1, 2, 3, 4, 5, 6, 7, 8, 9, 10, 11, 12, 13}, nil)
	wantCarrier(t, 14, 2, 13, 1, nil)
	wantCarrier(t, 5, 3, 4, 2, nil)
	wantOf(t, 14, 2, 15, 1, 31, nil)
	wantName(t, 14, 2, 26, "d13a", nil)
	wantName(t, 14, 2, 31, "p1b", nil)
	wantName(t, 1, 15, 31, "p14b", nil)
	wantParse(t, 1, 15, "p10a", 22, nil)
	wantRow(t, 2, 3, 9, []byte{0, 71, 1, 167}, nil)
}

// TestP5_1Refused: ErrParams is answered whatever stands behind k and r, right or wrong.
func TestP5_1Refused(t *testing.T) {
	for _, x := range illegal() {
		k, r := x[0], x[1]
		for _, number := range []int{0, 1, -1, 99, math.MinInt, math.MaxInt} {
			wantOf(t, k, r, number, 0, 0, api.ErrParams)
			wantOf(t, k, r, 0, number, 0, api.ErrParams)
			wantSplit(t, k, r, number, 0, 0, api.ErrParams)
			wantCarrier(t, k, r, number, 0, api.ErrParams)
			wantCarried(t, k, r, number, nil, api.ErrParams)
			wantRow(t, k, r, number, nil, api.ErrParams)
			wantName(t, k, r, number, "", api.ErrParams)
		}
		for _, name := range []string{"d0a", "p1b", "x", ""} {
			wantParse(t, k, r, name, 0, api.ErrParams)
		}
		if rows, err := Rows(k, r); rows.Rows != 0 || rows.Cols != 0 || len(rows.Cells) != 0 || err != api.ErrParams {
			t.Error("Rows", k, r, rows, err)
		}
	}
}

// TestP5_1Outside: halves, shards, parts and parities that aren't there.
func TestP5_1Outside(t *testing.T) {
	for k, r := range base.All() {
		for _, shard := range outside(k + r) {
			wantOf(t, k, r, shard, 0, 0, api.ErrHalf)
			wantOf(t, k, r, shard, 1, 0, api.ErrHalf)
		}
		for _, part := range outside(2) {
			wantOf(t, k, r, 0, part, 0, api.ErrHalf)
			wantOf(t, k, r, k, part, 0, api.ErrHalf)
			wantOf(t, k, r, -1, part, 0, api.ErrHalf)
		}
		for _, half := range outside(2 * (k + r)) {
			wantSplit(t, k, r, half, 0, 0, api.ErrHalf)
			wantRow(t, k, r, half, nil, api.ErrHalf)
			wantName(t, k, r, half, "", api.ErrHalf)
		}
		for shard := k; shard < k+r; shard++ {
			wantCarrier(t, k, r, shard, 0, api.ErrNumber)
		}
		for _, shard := range outside(k) {
			wantCarrier(t, k, r, shard, 0, api.ErrNumber)
		}
		for _, parity := range outside(r) {
			wantCarried(t, k, r, parity, nil, api.ErrNumber)
		}
	}
}

// TestP5_1Names: texts near to names, which are none's.
func TestP5_1Names(t *testing.T) {
	wrong := []string{
		"d", "p", "a", "da", "pb", "0a", "d0", "p0", "d0c", "d0A", "D0a", "P0b", "e0a", "a0d", "s0a",
		" d0a", "d0a ", "d 0a", "d0 a", "d0a\n", "d0a\x00", "\x00d0a", "d0aa", "dd0a", "d0ab", "d0a,", "d0a,d0b", "d0.a", "d0,a",
		"d-0a", "d-1a", "d+0a", "d+1a", "d00a", "p00b", "d01a", "p01b", "d0x0a", "d1_0a", "d0b1a", "d1e0a",
		"d256a", "d4294967296a", "d18446744073709551616a", "p-18446744073709551615a", "d340282366920938463463374607431768211456a",
		"d٠a", "d０a", "d\xb0a", "d\xffa", "\xe4d0a", "dOa", "none", strings.Repeat("d", 1<<16), "d" + strings.Repeat("0", 1<<16) + "a",
	}
	for k, r := range base.All() {
		for _, name := range wrong {
			wantParse(t, k, r, name, 0, api.ErrHalf)
		}
		for number := range 200 {
			digits := strconv.Itoa(number)
			for _, part := range []string{"a", "b"} {
				if number >= k {
					wantParse(t, k, r, "d"+digits+part, 0, api.ErrHalf)
				}
				if number >= r {
					wantParse(t, k, r, "p"+digits+part, 0, api.ErrHalf)
				}
			}
		}
	}
}

// onTexts calls f with all texts of so many bytes of these letters.
func onTexts(letters string, size int, f func(text string)) {
	if size == 0 {
		f("")
		return
	}
	onTexts(letters, size-1, func(text string) {
		for i := range len(letters) {
			f(text + letters[i:i+1])
		}
	})
}

// TestP5_1Texts: of all short texts of the letters of names and their neighbours just the names are taken.
func TestP5_1Texts(t *testing.T) {
	for _, x := range [][2]int{{1, 2}, {4, 3}, {12, 4}, {3, 13}, {14, 2}, {1, 15}} {
		k, r := x[0], x[1]
		names := slowNames(k, r)
		for size := range 5 {
			onTexts("dpabc01234/9: -", size, func(text string) {
				want, wantErr := slices.Index(names, text), error(nil)
				if want < 0 {
					want, wantErr = 0, api.ErrHalf
				}
				wantParse(t, k, r, text, want, wantErr)
			})
		}
	}
}

// wantApart asks that two answers of a call are of one kind, and that the first one, filled with something else, spare room included, is nothing to the second or to a later one.
func wantApart[E byte | int](t *testing.T, what string, call func() []E) {
	t.Helper()
	first, second := call(), call()
	kept := slices.Clone(second)
	room := first[:cap(first)]
	for i := range room {
		room[i] ^= 85
	}
	if !slices.Equal(second, kept) || !slices.Equal(call(), kept) {
		t.Error(what, "shares its memory")
	}
}

// TestP5_1Memory: answers are new memory (rule 4).
func TestP5_1Memory(t *testing.T) {
	for k, r := range base.All() {
		wantApart(t, "Rows", func() []byte { return rowsOf(t, k, r).Cells })
		for half := range 2 * (k + r) {
			wantApart(t, "Row", func() []byte {
				row, _ := Row(k, r, half)
				return row
			})
		}
		for parity := range r {
			wantApart(t, "Carried", func() []int {
				list, _ := Carried(k, r, parity)
				return list
			})
		}
	}
}

// TestP5_2Undo: Of and Split undo one another, and no two places have one number.
func TestP5_2Undo(t *testing.T) {
	for k, r := range base.All() {
		met := map[int]bool{}
		for shard := range k + r {
			for part := range 2 {
				half, err := Of(k, r, shard, part)
				if err != nil || met[half] || half < 0 || half >= 2*(k+r) {
					t.Error("Of", k, r, shard, part, half, err)
				}
				met[half] = true
				wantSplit(t, k, r, half, shard, part, nil)
			}
		}
		for half := range 2 * (k + r) {
			shard, part, err := Split(k, r, half)
			if err != nil || shard < 0 || shard >= k+r || part < 0 || part > 1 {
				t.Error("Split", k, r, half, shard, part, err)
			}
			wantOf(t, k, r, shard, part, half, nil)
		}
	}
}

// TestP5_2Names: Name and Parse undo one another, and unlike halves have unlike names.
func TestP5_2Names(t *testing.T) {
	for k, r := range base.All() {
		met := map[string]bool{}
		for half := range 2 * (k + r) {
			name, err := Name(k, r, half)
			if err != nil || met[name] {
				t.Error("Name", k, r, half, name, err)
			}
			met[name] = true
			wantParse(t, k, r, name, half, nil)
		}
	}
}

// TestP5_3Carried: Carried's lists have each data shard once, where Carrier says, and none has more than g.
func TestP5_3Carried(t *testing.T) {
	for k, r := range base.All() {
		times := make([]int, k)
		for parity := range r {
			list, err := Carried(k, r, parity)
			if err != nil || len(list) > slowGroup(k, r) || parity == 0 && len(list) != 0 {
				t.Error("Carried", k, r, parity, list, err)
			}
			for _, shard := range list {
				times[shard]++
				wantCarrier(t, k, r, shard, parity, nil)
			}
		}
		for shard, n := range times {
			if parity, err := Carrier(k, r, shard); n != 1 || parity < 1 || parity >= r || err != nil {
				t.Error("Carrier", k, r, shard, parity, err, "carried", n, "times")
			}
		}
	}
}

// wantRank asks that the halves of the shards whose bits are set in choice have rank 2k.
func wantRank(t *testing.T, rows api.Matrix, choice uint) {
	t.Helper()
	var halves []int
	for half := range rows.Rows {
		if choice>>(half/2)&1 == 1 {
			halves = append(halves, half)
		}
	}
	some, err := mat.Take(rows, halves)
	if err != nil {
		t.Fatal(err)
	}
	if rank, err := solve.Rank(some); rank != rows.Cols || err != nil {
		t.Error("rank", rows.Rows, rows.Cols, halves, rank, err)
	}
}

// TestP5_4Choices: each choice of k shards, of all legal k and r.
func TestP5_4Choices(t *testing.T) {
	for k, r := range base.All() {
		t.Run(strconv.Itoa(k)+"_"+strconv.Itoa(r), func(t *testing.T) {
			t.Parallel()
			rows := rowsOf(t, k, r)
			if rows.Rows != 2*(k+r) || rows.Cols != 2*k {
				t.Fatal("size", rows.Rows, rows.Cols)
			}
			for choice := range uint(1) << (k + r) {
				if bits.OnesCount(choice) == k {
					wantRank(t, rows, choice)
				}
			}
		})
	}
}
