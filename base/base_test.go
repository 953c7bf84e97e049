package base

import (
	"bytes"
	"math"
	"math/bits"
	"slices"
	"testing"

	"tessera/api"
	"tessera/mat"
	"tessera/solve"
)

// legal is all legal k and r, found by the words of the document among more numbers than there can be.
func legal() [][2]int {
	var all [][2]int
	for k := -20; k <= 20; k++ {
		for r := -20; r <= 20; r++ {
			if 1 <= k && 2 <= r && k+r <= 16 {
				all = append(all, [2]int{k, r})
			}
		}
	}
	return all
}

// refused is k and r that aren't legal; the sums of some run over, and some have legal numbers in their low bits.
func refused() [][2]int {
	var all [][2]int
	for k := -20; k <= 20; k++ {
		for r := -20; r <= 20; r++ {
			if k < 1 || r < 2 || k+r > 16 {
				all = append(all, [2]int{k, r})
			}
		}
	}
	far := []int{
		math.MinInt, math.MinInt + 1, math.MinInt + 10, math.MinInt32, -1 << 32, -256,
		128, 256 + 4, 1<<16 + 3, 1<<32 + 2, 1<<63 - 8, math.MaxInt32, math.MaxInt - 10, math.MaxInt - 1, math.MaxInt,
	}
	for _, x := range far {
		for _, y := range far {
			all = append(all, [2]int{x, y})
		}
		for y := -3; y <= 17; y++ {
			all = append(all, [2]int{x, y}, [2]int{y, x})
		}
	}
	return all
}

// matrix is an answer that must come without an error.
func matrix(t *testing.T) func(api.Matrix, error) api.Matrix {
	return func(m api.Matrix, err error) api.Matrix {
		t.Helper()
		if err != nil {
			t.Fatal(err)
		}
		return m
	}
}

// slowMul is the product of polynomials modulo 285, bit by bit.
func slowMul(a, b int) int {
	product := 0
	for bit := range 8 {
		if b>>bit&1 == 1 {
			product ^= a << bit
		}
	}
	for bit := 15; bit >= 8; bit-- {
		if product>>bit&1 == 1 {
			product ^= 285 << (bit - 8)
		}
	}
	return product
}

// slowInverse is the inverse, looked for among all elements.
func slowInverse(a int) byte {
	for b := range 256 {
		if slowMul(a, b) == 1 {
			return byte(b)
		}
	}
	panic("no inverse")
}

// slowParity is the cells of Parity by the chapter's words.
func slowParity(k, r int) []byte {
	var cells []byte
	for i := range r {
		for j := range k {
			cells = append(cells, slowInverse((k+i)^j))
		}
	}
	return cells
}

// slowGroup is k / (r - 1), rounded up, by counting.
func slowGroup(k, r int) int {
	g := 0
	for left := k; left > 0; left -= r - 1 {
		g++
	}
	return g
}

// wantMatrix asks for these cells, and no error.
func wantMatrix(t *testing.T, what string, got api.Matrix, err error, rows, cols int, cells []byte) {
	t.Helper()
	if err != nil || !mat.Same(got, api.Matrix{Rows: rows, Cols: cols, Cells: cells}) {
		t.Errorf("%s: %v, %v; want %d x %d, %v", what, got, err, rows, cols, cells)
	}
}

// wantNoMatrix asks for ErrParams, and nothing beside it.
func wantNoMatrix(t *testing.T, what string, x [2]int, got api.Matrix, err error) {
	t.Helper()
	if err != api.ErrParams || got.Rows != 0 || got.Cols != 0 || len(got.Cells) != 0 {
		t.Errorf("%s of %v: %v, %v", what, x, got, err)
	}
}

func TestP4_1Examples(t *testing.T) {
	for x, want := range map[[2]int]error{{1, 2}: nil, {14, 2}: nil, {0, 2}: api.ErrParams, {1, 1}: api.ErrParams, {15, 2}: api.ErrParams} {
		if err := Check(x[0], x[1]); err != want {
			t.Error("Check", x, err)
		}
	}
	for x, want := range map[[2]int]int{{4, 3}: 2, {5, 3}: 3, {3, 2}: 3, {2, 6}: 1} {
		if g, err := Group(x[0], x[1]); g != want || err != nil {
			t.Error("Group", x, g, err)
		}
	}
	got, err := Parity(1, 2)
	wantMatrix(t, "Parity(1, 2)", got, err, 2, 1, []byte{1, 142})
	got, err = Parity(2, 2)
	wantMatrix(t, "Parity(2, 2)", got, err, 2, 2, []byte{142, 244, 244, 142})
	got, err = Generator(2, 2)
	wantMatrix(t, "Generator(2, 2)", got, err, 4, 2, []byte{1, 0, 0, 1, 142, 244, 244, 142})
	var all [][2]int
	for k, r := range All() {
		all = append(all, [2]int{k, r})
	}
	if len(all) != 105 || all[0] != [2]int{1, 2} || all[1] != [2]int{1, 3} || all[104] != [2]int{14, 2} {
		t.Error("All", all)
	}
}

func TestP4_1Legal(t *testing.T) {
	for _, x := range legal() {
		k, r := x[0], x[1]
		if err := Check(k, r); err != nil {
			t.Error("Check", x, err)
		}
		if g, err := Group(k, r); g != slowGroup(k, r) || err != nil {
			t.Error("Group", x, g, err)
		}
		parity := slowParity(k, r)
		got, err := Parity(k, r)
		wantMatrix(t, "Parity", got, err, r, k, parity)
		var one []byte
		for i := range k * k {
			if i/k == i%k {
				one = append(one, 1)
			} else {
				one = append(one, 0)
			}
		}
		got, err = Generator(k, r)
		wantMatrix(t, "Generator", got, err, k+r, k, slices.Concat(one, parity))
	}
}

func TestP4_1Refused(t *testing.T) {
	for _, x := range refused() {
		if err := Check(x[0], x[1]); err != api.ErrParams {
			t.Error("Check", x, err)
		}
		if g, err := Group(x[0], x[1]); g != 0 || err != api.ErrParams {
			t.Error("Group", x, g, err)
		}
		got, err := Parity(x[0], x[1])
		wantNoMatrix(t, "Parity", x, got, err)
		got, err = Generator(x[0], x[1])
		wantNoMatrix(t, "Generator", x, got, err)
	}
}

// TestP4_1All: just the legal ones, in order, each time anew, also if the sequence is gone through twice at once.
func TestP4_1All(t *testing.T) {
	want, all := legal(), All()
	for range 2 {
		var got [][2]int
		for k, r := range all {
			got = append(got, [2]int{k, r})
			inner := 0
			for range all {
				inner++
			}
			if inner != len(want) {
				t.Fatal("gone through within itself", inner)
			}
		}
		if !slices.Equal(got, want) {
			t.Error("All", got)
		}
	}
}

// TestP4_1AllStops: behind a no nothing more is told, wherever it comes.
func TestP4_1AllStops(t *testing.T) {
	want := legal()
	for stop := range want {
		var got [][2]int
		All()(func(k, r int) bool {
			got = append(got, [2]int{k, r})
			return len(got) <= stop
		})
		if !slices.Equal(got, want[:stop+1]) {
			t.Error("stopped at", stop, got)
		}
	}
	for k, r := range All() {
		if k == 1 && r == 15 {
			break
		}
		if k > 1 {
			t.Fatal("past its break", k, r)
		}
	}
}

// TestP4_1Memory: answers are new memory (rule 4).
func TestP4_1Memory(t *testing.T) {
	for _, x := range legal() {
		for name, call := range map[string]func(k, r int) (api.Matrix, error){"Parity": Parity, "Generator": Generator} {
			first, second := matrix(t)(call(x[0], x[1])), matrix(t)(call(x[0], x[1]))
			kept := bytes.Clone(second.Cells)
			room := first.Cells[:cap(first.Cells)]
			for i := range room {
				room[i] = ^room[i]
			}
			if !bytes.Equal(second.Cells, kept) || !bytes.Equal(matrix(t)(call(x[0], x[1])).Cells, kept) {
				t.Error(name, x, "shares its cells")
			}
		}
	}
}

// wantRank asks that the rows whose bits are set in choice have rank k.
func wantRank(t *testing.T, generator api.Matrix, choice uint) {
	t.Helper()
	var rows []int
	for row := range generator.Rows {
		if choice>>row&1 == 1 {
			rows = append(rows, row)
		}
	}
	rank, err := solve.Rank(matrix(t)(mat.Take(generator, rows)))
	if rank != generator.Cols || err != nil {
		t.Error("rank", generator.Rows, generator.Cols, rows, rank, err)
	}
}

// TestP4_2Choices: each choice of rows, of all legal k and r.
func TestP4_2Choices(t *testing.T) {
	for _, x := range legal() {
		k, n := x[0], x[0]+x[1]
		generator := matrix(t)(Generator(k, x[1]))
		if generator.Rows != n || generator.Cols != k {
			t.Fatal("size", x, generator)
		}
		for choice := range uint(1) << n {
			if bits.OnesCount(choice) == k {
				wantRank(t, generator, choice)
			}
		}
	}
}

// squares calls f with the rows and columns of all square pieces of a matrix of so many rows and columns.
func squares(rows, cols int, f func(rows, cols uint)) {
	for some := range uint(1) << rows {
		for others := range uint(1) << cols {
			if some != 0 && bits.OnesCount(some) == bits.OnesCount(others) {
				f(some, others)
			}
		}
	}
}

// cut is what these rows and columns cut out of a matrix.
func cut(m api.Matrix, rows, cols uint) api.Matrix {
	piece := api.Matrix{Rows: bits.OnesCount(rows), Cols: bits.OnesCount(cols)}
	for i, x := range m.Cells {
		if rows>>(i/m.Cols)&1 == 1 && cols>>(i%m.Cols)&1 == 1 {
			piece.Cells = append(piece.Cells, x)
		}
	}
	return piece
}

// TestP4_2Squares: of any rows and as many columns of the matrix of the parities, what is cut out can be inverted.
func TestP4_2Squares(t *testing.T) {
	for _, x := range legal() {
		if x[0]+x[1] > 11 {
			continue // there are as many pieces as choices above: the greater ones are told by those
		}
		parity := matrix(t)(Parity(x[0], x[1]))
		squares(parity.Rows, parity.Cols, func(rows, cols uint) {
			if _, err := solve.Inverse(cut(parity, rows, cols)); err != nil {
				t.Error("a piece without an inverse", x, rows, cols, err)
			}
		})
	}
}

func TestP4_3Groups(t *testing.T) {
	for _, x := range legal() {
		k, r := x[0], x[1]
		g, err := Group(k, r)
		if err != nil || g*(r-1) < k || (g-1)*(r-1) >= k {
			t.Error("Group", x, g, err)
		}
		if r >= 3 && k >= 2 && k+g >= 2*k {
			t.Error("not cheaper", x, g)
		}
		for j := range k {
			if j/g+1 >= r {
				t.Error("a data shard that no parity carries", x, j)
			}
		}
	}
}
