package solve

import (
	"bytes"
	"math"
	"slices"
	"testing"

	"tessera/api"
	"tessera/gf"
	"tessera/mat"
)

// mixedBytes is n bytes that follow no simple order, other ones for another seed.
func mixedBytes(n int, seed uint32) []byte {
	list := make([]byte, n)
	for i := range list {
		seed = seed*1664525 + 1013904223
		list[i] = byte(seed >> 24)
	}
	return list
}

// mixed is a matrix of mixed bytes.
func mixed(rows, cols int, seed uint32) api.Matrix {
	return api.Matrix{Rows: rows, Cols: cols, Cells: mixedBytes(rows*cols, seed)}
}

// few is a matrix of mixed bytes of which only so many bits are left: with few bits many rows are combinations of others.
func few(rows, cols, bits int, seed uint32) api.Matrix {
	m := mixed(rows, cols, seed)
	for i := range m.Cells {
		m.Cells[i] &= 1<<bits - 1
	}
	return m
}

// matrix is an answer that must come without an error.
func matrix(t *testing.T) func(api.Matrix, error) api.Matrix {
	return func(m api.Matrix, err error) api.Matrix {
		t.Helper()
		if err != nil {
			t.Fatal(err)
		}
		return m
	}
}

// list is an answer that must come without an error.
func list[E any](t *testing.T) func([]E, error) []E {
	return func(v []E, err error) []E {
		t.Helper()
		if err != nil {
			t.Fatal(err)
		}
		return v
	}
}

// rankOf is the rank, which must come without an error.
func rankOf(t *testing.T, m api.Matrix) int {
	t.Helper()
	rank, err := Rank(m)
	if err != nil {
		t.Fatal(err)
	}
	return rank
}

// permuted is 0 to n - 1 in an order that hangs on the seed.
func permuted(n int, seed uint32) []int {
	order := make([]int, n)
	for i := range order {
		order[i] = i
	}
	for i := n - 1; i > 0; i-- {
		seed = seed*1664525 + 1013904223
		j := int(seed>>8) % (i + 1)
		order[i], order[j] = order[j], order[i]
	}
	return order
}

// chosen is so many numbers below n, rising.
func chosen(n, count int, seed uint32) []int {
	some := permuted(n, seed)[:count]
	slices.Sort(some)
	return some
}

// regular is an n x n matrix of rank n: a product of two triangular ones without a nought on the diagonal, its rows in a mixed order.
func regular(t *testing.T, n int, seed uint32) api.Matrix {
	t.Helper()
	low, high := mixed(n, n, seed), mixed(n, n, seed+1)
	for i := range n {
		for j := range n {
			if i < j {
				low.Cells[i*n+j] = 0
			}
			if i > j {
				high.Cells[i*n+j] = 0
			}
		}
		low.Cells[i*n+i] |= 1
		high.Cells[i*n+i] |= 1
	}
	return matrix(t)(mat.Take(matrix(t)(mat.Product(low, high)), permuted(n, seed+2)))
}

// reducedBy is a reduced matrix with these columns of pivots, all its cells that may be anything mixed.
func reducedBy(rows, cols int, pivots []int, seed uint32) api.Matrix {
	m := mixed(rows, cols, seed)
	for i := range rows {
		for j := range cols {
			if i >= len(pivots) || j < pivots[i] || slices.Contains(pivots, j) {
				m.Cells[i*cols+j] = 0
			}
		}
		if i < len(pivots) {
			m.Cells[i*cols+pivots[i]] = 1
		}
	}
	return m
}

// shapes is rows and columns of matrices, the edges among them.
func shapes() [][2]int {
	return [][2]int{
		{0, 0}, {0, 1}, {1, 0}, {0, 64}, {64, 0}, {1, 1}, {1, 2}, {2, 1}, {2, 2}, {3, 5}, {5, 3}, {7, 7},
		{1, 64}, {64, 1}, {16, 28}, {32, 20}, {63, 64}, {64, 63}, {64, 64},
	}
}

// ranks is ranks that a matrix may have, the edges among them.
func ranks(rows, cols int) []int {
	most := min(rows, cols)
	some := []int{0, 1, 2, most / 2, most - 2, most - 1, most}
	some = slices.DeleteFunc(some, func(r int) bool { return r < 0 || r > most })
	slices.Sort(some)
	return slices.Compact(some)
}

// badForms is matrices that aren't in form; with some of them Rows x Cols is as many as there are cells, if no size is looked at or the product runs over.
func badForms() []api.Matrix {
	return []api.Matrix{
		{Rows: 1, Cols: 1},
		{Rows: 0, Cols: 0, Cells: []byte{1}},
		{Rows: 2, Cols: 2, Cells: make([]byte, 3)},
		{Rows: 2, Cols: 2, Cells: make([]byte, 5)},
		{Rows: 2, Cols: 2, Cells: make([]byte, 3, 4)},
		{Rows: -1, Cols: 0},
		{Rows: 0, Cols: -1},
		{Rows: -2, Cols: -2, Cells: make([]byte, 4)},
		{Rows: 65, Cols: 0},
		{Rows: 0, Cols: 65},
		{Rows: 65, Cols: 1, Cells: make([]byte, 65)},
		{Rows: 1, Cols: 65, Cells: make([]byte, 65)},
		{Rows: 65, Cols: 65, Cells: make([]byte, 65*65)},
		{Rows: 1 << 32, Cols: 1 << 32},
		{Rows: math.MaxInt, Cols: math.MaxInt, Cells: make([]byte, 1)},
		{Rows: math.MinInt, Cols: math.MinInt},
		{Rows: 0, Cols: math.MaxInt},
	}
}

// minor is the determinant of what the rows and the columns of these numbers cut out, by its definition.
func minor(m api.Matrix, rows, cols []int) byte {
	if len(rows) == 0 {
		return 1
	}
	var sum byte
	for i, col := range cols {
		others := slices.Concat(cols[:i], cols[i+1:])
		sum ^= gf.Mul(m.Cells[rows[0]*m.Cols+col], minor(m, rows[1:], others))
	}
	return sum
}

// choices is all lists of so many of the numbers below n, rising.
func choices(n, count int) [][]int {
	if count == 0 {
		return [][]int{nil}
	}
	var all [][]int
	for last := count - 1; last < n; last++ {
		for _, rest := range choices(last, count-1) {
			all = append(all, append(slices.Clone(rest), last))
		}
	}
	return all
}

// slowRank is the size of the greatest determinant that isn't 0: the rank, worked out without elimination.
func slowRank(m api.Matrix) int {
	for size := min(m.Rows, m.Cols); size > 0; size-- {
		for _, rows := range choices(m.Rows, size) {
			for _, cols := range choices(m.Cols, size) {
				if minor(m, rows, cols) != 0 {
					return size
				}
			}
		}
	}
	return 0
}

// top is the first rows of a matrix.
func top(m api.Matrix, rows int) api.Matrix {
	return api.Matrix{Rows: rows, Cols: m.Cols, Cells: m.Cells[:rows*m.Cols]}
}

// with is a matrix with a row below.
func with(m api.Matrix, row []byte) api.Matrix {
	return api.Matrix{Rows: m.Rows + 1, Cols: m.Cols, Cells: slices.Concat(m.Cells, row)}
}

// slowBasis is the basis by its words.
func slowBasis(m api.Matrix) []int {
	var basis []int
	for i := range m.Rows {
		if slowRank(top(m, i+1)) > slowRank(top(m, i)) {
			basis = append(basis, i)
		}
	}
	return basis
}

// small calls f with many small matrices of all ranks.
func small(f func(m api.Matrix, seed uint32)) {
	for rows := range 5 {
		for cols := range 5 {
			for bits := range 4 {
				for seed := range uint32(12) {
					f(few(rows, cols, bits, seed*7919+uint32(bits)), seed)
				}
			}
			f(mixed(rows, cols, uint32(rows*5+cols)), 12)
		}
	}
}

// isReduced tells whether a matrix is reduced, by the chapter's words, and which its pivots' columns are.
func isReduced(m api.Matrix) ([]int, bool) {
	var pivots []int
	noughts := false
	for i := range m.Rows {
		row := m.Cells[i*m.Cols : (i+1)*m.Cols]
		pivot := slices.IndexFunc(row, func(x byte) bool { return x != 0 })
		if pivot < 0 {
			noughts = true
			continue
		}
		if noughts || row[pivot] != 1 || len(pivots) > 0 && pivot <= pivots[len(pivots)-1] {
			return nil, false
		}
		for other := range m.Rows {
			if other != i && m.Cells[other*m.Cols+pivot] != 0 {
				return nil, false
			}
		}
		pivots = append(pivots, pivot)
	}
	return pivots, true
}

// wantReduced asks for an answer of Reduce without an error.
func wantReduced(t *testing.T, m, want api.Matrix, wantPivots []int) {
	t.Helper()
	got, pivots, err := Reduce(m)
	if err != nil || !mat.Same(got, want) || !slices.Equal(pivots, wantPivots) {
		t.Errorf("Reduce of %v: %v, %v, %v; want %v, %v", m, got, pivots, err, want, wantPivots)
	}
}

// wantList asks for an answer of Express or Solve that is there.
func wantList(t *testing.T, what string, got []byte, ok bool, err error, want []byte) {
	t.Helper()
	if err != nil || !ok || !bytes.Equal(got, want) {
		t.Errorf("%s: %v, %v, %v; want %v", what, got, ok, err, want)
	}
}

// wantNone asks for no list, and for this error beside it (or none).
func wantNone(t *testing.T, what string, got []byte, ok bool, err, want error) {
	t.Helper()
	if err != want || ok || len(got) != 0 {
		t.Errorf("%s: %v, %v, %v; want none, %v", what, got, ok, err, want)
	}
}

// wantNoMatrix asks for an error, and nothing beside it.
func wantNoMatrix(t *testing.T, what string, got api.Matrix, err, want error) {
	t.Helper()
	if err != want || got.Rows != 0 || got.Cols != 0 || len(got.Cells) != 0 {
		t.Errorf("%s: %v, %v; want %v", what, got, err, want)
	}
}

func TestP3_1Examples(t *testing.T) {
	must := matrix(t)
	m := must(mat.Of(2, []byte{1, 1}, []byte{1, 1}, []byte{0, 1}))
	wantReduced(t, m, must(mat.Of(2, []byte{1, 0}, []byte{0, 1}, []byte{0, 0})), []int{0, 1})
	if rank, err := Rank(m); rank != 2 || err != nil {
		t.Error("Rank", rank, err)
	}
	if basis, err := Basis(m); !slices.Equal(basis, []int{0, 2}) || err != nil {
		t.Error("Basis", basis, err)
	}
	v, ok, err := Express(m, []byte{1, 0})
	wantList(t, "Express", v, ok, err, []byte{1, 0, 1})
	noughts := must(mat.Of(2, []byte{0, 0}, []byte{2, 4}))
	wantReduced(t, noughts, must(mat.Of(2, []byte{1, 2}, []byte{0, 0})), []int{0})
	if basis, err := Basis(noughts); !slices.Equal(basis, []int{1}) || err != nil {
		t.Error("Basis", basis, err)
	}
	high := must(mat.Of(2, []byte{1, 2}, []byte{0, 1}))
	if got, err := Inverse(high); err != nil || !mat.Same(got, high) {
		t.Error("Inverse", got, err)
	}
	ones := must(mat.Of(2, []byte{1, 1}, []byte{1, 1}))
	got, err := Inverse(ones)
	wantNoMatrix(t, "Inverse", got, err, api.ErrSingular)
	v, ok, err = Solve(ones, []byte{3, 3})
	wantList(t, "Solve", v, ok, err, []byte{3, 0})
	v, ok, err = Solve(ones, []byte{3, 4})
	wantNone(t, "Solve", v, ok, err, nil)
}

// TestP3_1ReduceSmall: what is answered is reduced, and has just the combinations of the matrix's rows, which the ranks tell.
func TestP3_1ReduceSmall(t *testing.T) {
	small(func(m api.Matrix, _ uint32) {
		got, pivots, err := Reduce(m)
		if err != nil || mat.Check(got) != nil || got.Rows != m.Rows || got.Cols != m.Cols {
			t.Fatal("Reduce", m, got, err)
		}
		wantPivots, ok := isReduced(got)
		if !ok || !slices.Equal(pivots, wantPivots) {
			t.Fatal("not reduced, or other pivots", m, got, pivots)
		}
		rank := slowRank(m)
		if len(pivots) != rank || slowRank(api.Matrix{Rows: m.Rows + rank, Cols: m.Cols, Cells: slices.Concat(m.Cells, top(got, rank).Cells)}) != rank {
			t.Fatal("other combinations", m, got)
		}
	})
}

// TestP3_1ReduceKnown: a reduced matrix whose rows are mixed by a matrix that has an inverse is found again.
func TestP3_1ReduceKnown(t *testing.T) {
	for _, shape := range shapes() {
		rows, cols := shape[0], shape[1]
		for _, rank := range ranks(rows, cols) {
			for seed := range uint32(3) {
				pivots := chosen(cols, rank, seed)
				reduced := reducedBy(rows, cols, pivots, seed+10)
				m := matrix(t)(mat.Product(regular(t, rows, seed+20), reduced))
				wantReduced(t, m, reduced, pivots)
				wantReduced(t, reduced, reduced, pivots)
				if got := rankOf(t, m); got != rank {
					t.Error("Rank", shape, got, rank)
				}
			}
		}
	}
}

func TestP3_1RankAndBasisSmall(t *testing.T) {
	small(func(m api.Matrix, _ uint32) {
		if rank, err := Rank(m); err != nil || rank != slowRank(m) {
			t.Fatal("Rank", m, rank, err)
		}
		if basis, err := Basis(m); err != nil || !slices.Equal(basis, slowBasis(m)) {
			t.Fatal("Basis", m, basis, err)
		}
	})
}

// spanned is rows of which just those of the numbers in basis (rising) aren't combinations of the rows ahead, and a row more that is none of any.
// If there are cols of basis, there is no such row.
func spanned(t *testing.T, rows, cols int, basis []int, seed uint32) (api.Matrix, []byte) {
	t.Helper()
	source := regular(t, cols, seed)
	m := api.Matrix{Cols: cols}
	for i := range rows {
		ahead, in := slices.BinarySearch(basis, i)
		row := list[byte](t)(mat.Left(mixedBytes(ahead, seed+uint32(i)), top(source, ahead)))
		if in {
			row = gf.Sum(row, list[byte](t)(mat.Row(source, ahead)))
		}
		m = with(m, row)
	}
	if len(basis) == cols {
		return m, nil
	}
	return m, list[byte](t)(mat.Row(source, len(basis)))
}

func TestP3_1BasisAndExpressKnown(t *testing.T) {
	for _, shape := range shapes() {
		rows, cols := shape[0], shape[1]
		for _, rank := range ranks(rows, cols) {
			basis := chosen(rows, rank, uint32(rank)+1)
			m, other := spanned(t, rows, cols, basis, uint32(rows+cols))
			if got, err := Basis(m); err != nil || !slices.Equal(got, basis) {
				t.Error("Basis", shape, got, err, basis)
			}
			want := make([]byte, rows)
			for i, x := range mixedBytes(rank, 7) {
				want[basis[i]] = x
			}
			v := list[byte](t)(mat.Left(want, m))
			got, ok, err := Express(m, v)
			wantList(t, "Express", got, ok, err, want)
			got, ok, err = Express(m, make([]byte, cols))
			wantList(t, "Express of noughts", got, ok, err, make([]byte, rows))
			if other != nil {
				got, ok, err = Express(m, other)
				wantNone(t, "Express of another row", got, ok, err, nil)
				got, ok, err = Express(m, gf.AddScaled(v, 3, other))
				wantNone(t, "Express of a combination and another row", got, ok, err, nil)
			}
		}
	}
}

// TestP3_1ExpressSmall: true and false stand as the ranks tell, the list is 0 off the basis and makes the row.
func TestP3_1ExpressSmall(t *testing.T) {
	small(func(m api.Matrix, seed uint32) {
		for bits := range 4 {
			v := few(1, m.Cols, bits, seed+40).Cells
			got, ok, err := Express(m, v)
			if slowRank(with(m, v)) > slowRank(m) {
				wantNone(t, "Express", got, ok, err, nil)
				continue
			}
			if !ok || err != nil || len(got) != m.Rows || !bytes.Equal(list[byte](t)(mat.Left(got, m)), v) {
				t.Fatal("Express", m, v, got, ok, err)
			}
			basis := slowBasis(m)
			for i, x := range got {
				if x != 0 && !slices.Contains(basis, i) {
					t.Fatal("Express by a row that isn't of the basis", m, v, got)
				}
			}
		}
	})
}

func TestP3_1SolveKnown(t *testing.T) {
	for _, shape := range shapes() {
		rows, cols := shape[0], shape[1]
		for _, rank := range ranks(rows, cols) {
			pivots := chosen(cols, rank, uint32(rank)+2)
			mix := regular(t, rows, uint32(rows))
			m := matrix(t)(mat.Product(mix, reducedBy(rows, cols, pivots, uint32(cols))))
			want := make([]byte, cols)
			for i, x := range mixedBytes(rank, 8) {
				want[pivots[i]] = x
			}
			v := list[byte](t)(mat.Times(m, want))
			got, ok, err := Solve(m, v)
			wantList(t, "Solve", got, ok, err, want)
			got, ok, err = Solve(m, make([]byte, rows))
			wantList(t, "Solve of noughts", got, ok, err, make([]byte, cols))
			for i := rank; i < rows; i++ { // no image has anything where the reduced matrix has only noughts
				off := make([]byte, rows)
				off[i] = 9
				got, ok, err = Solve(m, gf.Sum(v, list[byte](t)(mat.Times(mix, off))))
				wantNone(t, "Solve of no image", got, ok, err, nil)
			}
		}
	}
}

// TestP3_1SolveSmall: true and false stand as the ranks tell, the list is 0 off the pivots and is a solution.
func TestP3_1SolveSmall(t *testing.T) {
	small(func(m api.Matrix, seed uint32) {
		turned := matrix(t)(mat.Transpose(m))
		for bits := range 4 {
			v := few(1, m.Rows, bits, seed+60).Cells
			got, ok, err := Solve(m, v)
			if slowRank(with(turned, v)) > slowRank(turned) {
				wantNone(t, "Solve", got, ok, err, nil)
				continue
			}
			if !ok || err != nil || len(got) != m.Cols || !bytes.Equal(list[byte](t)(mat.Times(m, got)), v) {
				t.Fatal("Solve", m, v, got, ok, err)
			}
			_, pivots, err := Reduce(m)
			for i, x := range got {
				if err != nil || x != 0 && !slices.Contains(pivots, i) {
					t.Fatal("Solve with a place that isn't a pivot's", m, v, got)
				}
			}
		}
	})
}

// TestP3_1OneCell: of all matrices of one cell, what is answered.
func TestP3_1OneCell(t *testing.T) {
	for x := range 256 {
		m := api.Matrix{Rows: 1, Cols: 1, Cells: []byte{byte(x)}}
		got, err := Inverse(m)
		inverse, there := gf.Inv(byte(x))
		if !there {
			wantNoMatrix(t, "Inverse of nought", got, err, api.ErrSingular)
			wantReduced(t, m, m, nil)
			continue
		}
		if err != nil || !mat.Same(got, api.Matrix{Rows: 1, Cols: 1, Cells: []byte{inverse}}) {
			t.Error("Inverse", x, got, err)
		}
		wantReduced(t, m, api.Matrix{Rows: 1, Cols: 1, Cells: []byte{1}}, []int{0})
		want := []byte{gf.Mul(7, inverse)}
		v, ok, err := Express(m, []byte{7})
		wantList(t, "Express", v, ok, err, want)
		v, ok, err = Solve(m, []byte{7})
		wantList(t, "Solve", v, ok, err, want)
	}
}

func TestP3_1WithoutRowsOrColumns(t *testing.T) {
	for _, size := range []int{0, 1, 2, 63, 64} {
		rowless, colless := api.Matrix{Cols: size}, api.Matrix{Rows: size}
		for _, m := range []api.Matrix{rowless, colless} {
			wantReduced(t, m, m, nil)
			basis, err := Basis(m)
			if rankOf(t, m) != 0 || err != nil || len(basis) != 0 {
				t.Error("rank and basis", m, basis, err)
			}
		}
		v, ok, err := Express(colless, nil)
		wantList(t, "Express of nothing", v, ok, err, make([]byte, size))
		v, ok, err = Express(rowless, make([]byte, size))
		wantList(t, "Express of noughts by no rows", v, ok, err, nil)
		v, ok, err = Solve(rowless, []byte{})
		wantList(t, "Solve without rows", v, ok, err, make([]byte, size))
		v, ok, err = Solve(colless, make([]byte, size))
		wantList(t, "Solve of noughts without columns", v, ok, err, nil)
		if size > 0 {
			one := make([]byte, size)
			one[size-1] = 1
			v, ok, err = Express(rowless, one)
			wantNone(t, "Express by no rows", v, ok, err, nil)
			v, ok, err = Solve(colless, one)
			wantNone(t, "Solve without columns", v, ok, err, nil)
			got, err := Inverse(rowless)
			wantNoMatrix(t, "Inverse without rows", got, err, api.ErrShape)
			got, err = Inverse(colless)
			wantNoMatrix(t, "Inverse without columns", got, err, api.ErrShape)
		}
	}
	if got, err := Inverse(api.Matrix{}); err != nil || !mat.Same(got, api.Matrix{}) {
		t.Error("Inverse of no cells", got, err)
	}
}

func TestP3_1InverseRefused(t *testing.T) {
	for _, shape := range shapes() {
		if shape[0] != shape[1] {
			got, err := Inverse(mixed(shape[0], shape[1], 1))
			wantNoMatrix(t, "Inverse, not as many rows as columns", got, err, api.ErrShape)
			got, err = Inverse(api.Matrix{Rows: shape[0], Cols: shape[1], Cells: make([]byte, shape[0]*shape[1])})
			wantNoMatrix(t, "Inverse of noughts, not as many rows as columns", got, err, api.ErrShape)
			continue
		}
		n := shape[0]
		for _, rank := range ranks(n, n) {
			m, _ := spanned(t, n, n, chosen(n, rank, 5), 6)
			got, err := Inverse(m)
			if rank < n {
				wantNoMatrix(t, "Inverse, a smaller rank", got, err, api.ErrSingular)
			} else if err != nil {
				t.Error("Inverse", n, err)
			}
		}
	}
}

func TestP3_1ListsThatDontFit(t *testing.T) {
	for _, shape := range shapes() {
		m := mixed(shape[0], shape[1], 2)
		for _, length := range []int{0, 1, 2, 4, 62, 63, 64, 65, 128, 1 << 20} {
			if length != m.Cols {
				v, ok, err := Express(m, make([]byte, length, length+100))
				wantNone(t, "Express", v, ok, err, api.ErrShape)
			}
			if length != m.Rows {
				v, ok, err := Solve(m, make([]byte, length, length+100))
				wantNone(t, "Solve", v, ok, err, api.ErrShape)
			}
		}
	}
}

func TestP3_1NotInForm(t *testing.T) {
	for _, bad := range badForms() {
		got, pivots, err := Reduce(bad)
		wantNoMatrix(t, "Reduce", got, err, api.ErrShape)
		basis, err := Basis(bad)
		if len(pivots) != 0 || len(basis) != 0 || err != api.ErrShape {
			t.Error("Reduce and Basis", pivots, basis, err)
		}
		if rank, err := Rank(bad); rank != 0 || err != api.ErrShape {
			t.Error("Rank", rank, err)
		}
		got, err = Inverse(bad)
		wantNoMatrix(t, "Inverse", got, err, api.ErrShape)
		for _, length := range []int{0, 1, 2, 3, 64, 65} {
			v, ok, err := Express(bad, make([]byte, length))
			wantNone(t, "Express", v, ok, err, api.ErrShape)
			v, ok, err = Solve(bad, make([]byte, length))
			wantNone(t, "Solve", v, ok, err, api.ErrShape)
		}
	}
}

// answers is the lists that the calls answer, of a matrix 4 x 4 with an inverse, one of rank 2 and a list of 4 bytes.
func answers(t *testing.T, a, b api.Matrix, v []byte) ([][]byte, [][]int) {
	t.Helper()
	reducedA, pivotsA, _ := Reduce(a)
	reducedB, pivotsB, _ := Reduce(b)
	inverse := matrix(t)(Inverse(a))
	told, ok, err := Express(a, v)
	solved, ok2, err2 := Solve(a, v)
	if err != nil || err2 != nil || !ok || !ok2 {
		t.Fatal("Express and Solve", err, err2)
	}
	told2, _, _ := Express(b, b.Cells[12:])
	solved2, _, _ := Solve(b, make([]byte, 4))
	Express(b, v)
	Solve(b, v)
	rankOf(t, a)
	return [][]byte{reducedA.Cells, reducedB.Cells, inverse.Cells, told, solved, told2, solved2},
		[][]int{pivotsA, pivotsB, list[int](t)(Basis(a)), list[int](t)(Basis(b))}
}

// spoil changes all of a list, spare room included.
func spoil[E byte | int](list []E) {
	list = list[:cap(list)]
	for i := range list {
		list[i] = ^list[i]
	}
}

// TestP3_1Lists: what is handed in stays as it is, spare room included, answers share nothing with it or with each other (rule 4).
func TestP3_1Lists(t *testing.T) {
	a := regular(t, 4, 3)
	b, _ := spanned(t, 4, 4, []int{1, 2}, 4)
	roomA, roomB, roomV := append(a.Cells, mixedBytes(20, 5)...), append(b.Cells, mixedBytes(20, 6)...), mixedBytes(9, 7)
	keptA, keptB, keptV := bytes.Clone(roomA), bytes.Clone(roomB), bytes.Clone(roomV)
	a.Cells, b.Cells = roomA[:16], roomB[:16]
	wantLists, wantNumbers := answers(t, a, b, roomV[:4])
	lists, numbers := answers(t, a, b, roomV[:4])
	wantSame := func(what string) {
		t.Helper()
		if !bytes.Equal(roomA, keptA) || !bytes.Equal(roomB, keptB) || !bytes.Equal(roomV, keptV) {
			t.Error("what was handed in has changed", what)
		}
	}
	wantSame("by the calls")
	for i := range lists {
		if !bytes.Equal(lists[i], wantLists[i]) {
			t.Error("answer", i, "isn't the same twice, or shares with another")
		}
		spoil(lists[i])
	}
	for i := range numbers {
		if !slices.Equal(numbers[i], wantNumbers[i]) {
			t.Error("numbers", i, "aren't the same twice, or share with others")
		}
		spoil(numbers[i])
	}
	wantSame("with an answer")
	again, _ := answers(t, a, b, roomV[:4])
	for i := range again {
		if !bytes.Equal(again[i], wantLists[i]) {
			t.Error("answer", i, "hangs on an answer before")
		}
	}
}

// TestP3_1NothingKept: an answer doesn't change when what was handed in does.
func TestP3_1NothingKept(t *testing.T) {
	a := regular(t, 4, 8)
	b, _ := spanned(t, 4, 4, []int{0, 3}, 9)
	v := mixedBytes(4, 10)
	lists, _ := answers(t, a, b, v)
	var kept [][]byte
	for _, l := range lists {
		kept = append(kept, bytes.Clone(l))
	}
	spoil(a.Cells)
	spoil(b.Cells)
	spoil(v)
	for i := range lists {
		if !bytes.Equal(lists[i], kept[i]) {
			t.Error("answer", i, "has changed with what was handed in")
		}
	}
}

func TestP3_2RankOfTransposeAndProduct(t *testing.T) {
	must := matrix(t)
	for _, shape := range shapes() {
		for _, rank := range ranks(shape[0], shape[1]) {
			a, _ := spanned(t, shape[0], shape[1], chosen(shape[0], rank, 11), 12)
			if rankOf(t, a) != rank || rankOf(t, must(mat.Transpose(a))) != rank {
				t.Error("rank of the transpose", shape, rank)
			}
			for _, cols := range []int{0, 1, 5, 64} {
				for _, other := range ranks(shape[1], cols) {
					b, _ := spanned(t, shape[1], cols, chosen(shape[1], other, 13), 14)
					if rankOf(t, must(mat.Product(a, b))) > min(rank, other) {
						t.Error("rank of a product", shape, cols, rank, other)
					}
				}
			}
		}
	}
}

// wantSpanningBasis asks that basis and rank agree in number, and that each row is told by the rows of the basis up to it.
func wantSpanningBasis(t *testing.T, m api.Matrix) {
	t.Helper()
	basis := list[int](t)(Basis(m))
	if len(basis) != rankOf(t, m) || !slices.IsSorted(basis) {
		t.Fatal("basis and rank", m, basis)
	}
	for i := range m.Rows {
		row := list[byte](t)(mat.Row(m, i))
		upTo := slices.DeleteFunc(slices.Clone(basis), func(b int) bool { return b > i })
		if _, ok, err := Express(matrix(t)(mat.Take(m, upTo)), row); !ok || err != nil {
			t.Fatal("no combination of the basis up to it", m, i, ok, err)
		}
		before := slices.DeleteFunc(upTo, func(b int) bool { return b == i })
		if _, ok, _ := Express(matrix(t)(mat.Take(m, before)), row); ok == slices.Contains(basis, i) {
			t.Fatal("a row of the basis is a combination of the others, or one off it isn't", m, i)
		}
	}
}

func TestP3_2Basis(t *testing.T) {
	small(func(m api.Matrix, _ uint32) { wantSpanningBasis(t, m) })
	for _, shape := range shapes() {
		for _, rank := range ranks(shape[0], shape[1]) {
			m, _ := spanned(t, shape[0], shape[1], chosen(shape[0], rank, 15), 16)
			wantSpanningBasis(t, m)
		}
		wantSpanningBasis(t, few(shape[0], shape[1], 1, 17))
		wantSpanningBasis(t, mixed(shape[0], shape[1], 18))
	}
}

func TestP3_3Inverse(t *testing.T) {
	must, line := matrix(t), list[byte](t)
	for _, n := range []int{0, 1, 2, 3, 8, 28, 32, 33, 63, 64} {
		one := must(mat.One(n))
		if !mat.Same(must(Inverse(one)), one) {
			t.Error("inverse of One", n)
		}
		for seed := range uint32(4) {
			m := regular(t, n, seed*3+19)
			inverse := must(Inverse(m))
			if !mat.Same(must(mat.Product(m, inverse)), one) || !mat.Same(must(mat.Product(inverse, m)), one) {
				t.Error("the product isn't One", n, seed)
			}
			if !mat.Same(must(Inverse(inverse)), m) {
				t.Error("inverse of the inverse", n, seed)
			}
			v := mixedBytes(n, seed+20)
			if !bytes.Equal(line(mat.Times(inverse, line(mat.Times(m, v)))), v) {
				t.Error("Times of the inverse behind Times", n, seed)
			}
		}
	}
}

// TestP3_3Small: there is an inverse just if the determinant isn't 0.
func TestP3_3Small(t *testing.T) {
	small(func(m api.Matrix, _ uint32) {
		if m.Rows != m.Cols {
			return
		}
		inverse, err := Inverse(m)
		if slowRank(m) < m.Rows {
			wantNoMatrix(t, "Inverse", inverse, err, api.ErrSingular)
			return
		}
		if err != nil || !mat.Same(matrix(t)(mat.Product(m, inverse)), matrix(t)(mat.One(m.Rows))) {
			t.Fatal("Inverse", m, inverse, err)
		}
	})
}

// TestP3_4Told: any combination of rows is told, any image solved, and what is told makes it, also where rows and columns are few bits and ranks small.
func TestP3_4Told(t *testing.T) {
	line := list[byte](t)
	for _, shape := range shapes() {
		for _, bits := range []int{0, 1, 2, 8} {
			for seed := range uint32(3) {
				m := few(shape[0], shape[1], bits, seed+21)
				row := line(mat.Left(mixedBytes(m.Rows, seed+22), m))
				c, ok, err := Express(m, row)
				if !ok || err != nil || !bytes.Equal(line(mat.Left(c, m)), row) {
					t.Error("Express of a combination", shape, bits, ok, err)
				}
				image := line(mat.Times(m, mixedBytes(m.Cols, seed+23)))
				x, ok, err := Solve(m, image)
				if !ok || err != nil || !bytes.Equal(line(mat.Times(m, x)), image) {
					t.Error("Solve of an image", shape, bits, ok, err)
				}
			}
		}
	}
}

// TestP3_4NotTold: what raises the rank is no combination and no image.
func TestP3_4NotTold(t *testing.T) {
	for _, shape := range shapes() {
		for _, rank := range ranks(shape[0], shape[1]) {
			m, other := spanned(t, shape[0], shape[1], chosen(shape[0], rank, 24), 25)
			if other == nil {
				continue
			}
			v, ok, err := Express(m, other)
			wantNone(t, "Express", v, ok, err, nil)
			v, ok, err = Solve(matrix(t)(mat.Transpose(m)), other)
			wantNone(t, "Solve", v, ok, err, nil)
		}
	}
}
