package mat

import (
	"bytes"
	"math"
	"runtime"
	"testing"

	"tessera/api"
	"tessera/gf"
)

// mixedBytes is n bytes that follow no simple order, other ones for another seed.
func mixedBytes(n int, seed uint32) []byte {
	list := make([]byte, n)
	for i := range list {
		seed = seed*1664525 + 1013904223
		list[i] = byte(seed >> 24)
	}
	return list
}

// mixed is a matrix of mixed bytes.
func mixed(rows, cols int, seed uint32) api.Matrix {
	return api.Matrix{Rows: rows, Cols: cols, Cells: mixedBytes(rows*cols, seed)}
}

// isZero tells whether an answer is the zero value, as it must be beside an error.
func isZero(m api.Matrix) bool { return m.Rows == 0 && m.Cols == 0 && len(m.Cells) == 0 }

// equal tells whether two matrices are the same, without a call of the package.
func equal(a, b api.Matrix) bool {
	return a.Rows == b.Rows && a.Cols == b.Cols && string(a.Cells) == string(b.Cells)
}

// wantMatrix asks for an answer without an error.
func wantMatrix(t *testing.T, what string, got api.Matrix, err error, want api.Matrix) {
	t.Helper()
	if err != nil || !equal(got, want) {
		t.Errorf("%s: %v, %v; want %v", what, got, err, want)
	}
}

// wantList asks for an answer without an error.
func wantList(t *testing.T, what string, got []byte, err error, want []byte) {
	t.Helper()
	if err != nil || !bytes.Equal(got, want) {
		t.Errorf("%s: %v, %v; want %v", what, got, err, want)
	}
}

// wantNoMatrix asks for an error, and nothing beside it.
func wantNoMatrix(t *testing.T, what string, got api.Matrix, err, want error) {
	t.Helper()
	if err != want || !isZero(got) {
		t.Errorf("%s: %v, %v; want %v", what, got, err, want)
	}
}

// wantNoList asks for an error, and nothing beside it.
func wantNoList(t *testing.T, what string, got []byte, err, want error) {
	t.Helper()
	if err != want || len(got) != 0 {
		t.Errorf("%s: %v, %v; want %v", what, got, err, want)
	}
}

// matrix is an answer that must come without an error.
func matrix(t *testing.T) func(api.Matrix, error) api.Matrix {
	return func(m api.Matrix, err error) api.Matrix {
		t.Helper()
		if err != nil {
			t.Fatal(err)
		}
		return m
	}
}

// list is an answer that must come without an error.
func list(t *testing.T) func([]byte, error) []byte {
	return func(v []byte, err error) []byte {
		t.Helper()
		if err != nil {
			t.Fatal(err)
		}
		return v
	}
}

// badForms is matrices that aren't in form; with some of them Rows x Cols is as many as there are cells, if no size is looked at or the product runs over.
func badForms() []api.Matrix {
	return []api.Matrix{
		{Rows: 1, Cols: 1},
		{Rows: 0, Cols: 0, Cells: []byte{1}},
		{Rows: 2, Cols: 2, Cells: make([]byte, 3)},
		{Rows: 2, Cols: 2, Cells: make([]byte, 5)},
		{Rows: 2, Cols: 2, Cells: make([]byte, 3, 4)},
		{Rows: -1, Cols: 0},
		{Rows: 0, Cols: -1},
		{Rows: -1, Cols: -4, Cells: make([]byte, 4)},
		{Rows: 65, Cols: 0},
		{Rows: 0, Cols: 65},
		{Rows: 65, Cols: 1, Cells: make([]byte, 65)},
		{Rows: 1, Cols: 65, Cells: make([]byte, 65)},
		{Rows: 1 << 32, Cols: 1 << 32},
		{Rows: math.MaxInt, Cols: math.MaxInt, Cells: make([]byte, 1)},
		{Rows: math.MinInt, Cols: 2},
		{Rows: math.MinInt, Cols: 0},
		{Rows: 0, Cols: math.MaxInt},
	}
}

// sizes is sizes that a matrix may have.
func sizes() []int { return []int{0, 1, 2, 3, 5, 16, 63, 64} }

// badSizes is sizes that no matrix has.
func badSizes() []int { return []int{-1, -64, 65, 66, 128, 1 << 40, math.MaxInt, math.MinInt} }

func TestP2_1Examples(t *testing.T) {
	m, err := Of(2, []byte{1, 2}, []byte{0, 1})
	wantMatrix(t, "Of", m, err, api.Matrix{Rows: 2, Cols: 2, Cells: []byte{1, 2, 0, 1}})
	p, err := Product(m, api.Matrix{Rows: 2, Cols: 1, Cells: []byte{3, 4}})
	wantMatrix(t, "Product", p, err, api.Matrix{Rows: 2, Cols: 1, Cells: []byte{11, 4}})
	v, err := Times(m, []byte{3, 4})
	wantList(t, "Times", v, err, []byte{11, 4})
	v, err = Left([]byte{3, 4}, m)
	wantList(t, "Left", v, err, []byte{3, 2})
	p, err = Of(2, []byte{1, 2}, []byte{3})
	wantNoMatrix(t, "Of", p, err, api.ErrShape)
	v, err = Row(mixed(2, 3, 1), 2)
	wantNoList(t, "Row", v, err, api.ErrNumber)
	v, err = Row(api.Matrix{Rows: 1, Cols: 1}, 5)
	wantNoList(t, "Row", v, err, api.ErrShape)
	p, err = Take(api.Matrix{Rows: 2, Cols: 1, Cells: []byte{1, 2}}, []int{1, 0, 1})
	wantMatrix(t, "Take", p, err, api.Matrix{Rows: 3, Cols: 1, Cells: []byte{2, 1, 2}})
	p, err = Zero(65, 0)
	wantNoMatrix(t, "Zero", p, err, api.ErrShape)
	p, err = Zero(0, 64)
	wantMatrix(t, "Zero", p, err, api.Matrix{Rows: 0, Cols: 64})
}

func TestP2_1Check(t *testing.T) {
	for _, rows := range sizes() {
		for _, cols := range sizes() {
			if err := Check(mixed(rows, cols, 1)); err != nil {
				t.Error("in form", rows, cols, err)
			}
		}
	}
	for _, m := range badForms() {
		if err := Check(m); err != api.ErrShape {
			t.Error("not in form", m.Rows, m.Cols, len(m.Cells), err)
		}
	}
}

func TestP2_1ZeroAndOne(t *testing.T) {
	for _, rows := range sizes() {
		for _, cols := range sizes() {
			m, err := Zero(rows, cols)
			wantMatrix(t, "Zero", m, err, api.Matrix{Rows: rows, Cols: cols, Cells: make([]byte, rows*cols)})
		}
		one := api.Matrix{Rows: rows, Cols: rows, Cells: make([]byte, rows*rows)}
		for i := range rows {
			one.Cells[i*rows+i] = 1
		}
		m, err := One(rows)
		wantMatrix(t, "One", m, err, one)
	}
	for _, bad := range badSizes() {
		m, err := One(bad)
		wantNoMatrix(t, "One", m, err, api.ErrShape)
		for _, other := range append(badSizes(), sizes()...) {
			m, err = Zero(bad, other)
			wantNoMatrix(t, "Zero", m, err, api.ErrShape)
			m, err = Zero(other, bad)
			wantNoMatrix(t, "Zero", m, err, api.ErrShape)
		}
	}
}

// rowsOf is the rows of a matrix, one list each.
func rowsOf(m api.Matrix) [][]byte {
	rows := make([][]byte, m.Rows)
	for i := range rows {
		rows[i] = m.Cells[i*m.Cols : (i+1)*m.Cols]
	}
	return rows
}

func TestP2_1Of(t *testing.T) {
	for _, rows := range sizes() {
		for _, cols := range sizes() {
			want := mixed(rows, cols, 2)
			m, err := Of(cols, rowsOf(want)...)
			wantMatrix(t, "Of", m, err, want)
		}
	}
	m, err := Of(0, nil, []byte{})
	wantMatrix(t, "Of of empty rows", m, err, api.Matrix{Rows: 2})
	m, err = Of(2, mixedBytes(9, 1)[:2])
	wantMatrix(t, "Of of a row with spare room", m, err, api.Matrix{Rows: 1, Cols: 2, Cells: mixedBytes(2, 1)})
}

func TestP2_1OfRefused(t *testing.T) {
	for _, bad := range badSizes() {
		m, err := Of(bad)
		wantNoMatrix(t, "Of of no row, cols that aren't a size", m, err, api.ErrShape)
	}
	m, err := Of(65, make([]byte, 65))
	wantNoMatrix(t, "Of of 65 cols", m, err, api.ErrShape)
	for _, cols := range []int{0, 1, 64} {
		m, err = Of(cols, rowsOf(api.Matrix{Rows: 65, Cols: cols, Cells: make([]byte, 65*cols)})...)
		wantNoMatrix(t, "Of of 65 rows", m, err, api.ErrShape)
	}
	for _, length := range []int{0, 1, 3, 64} {
		m, err = Of(2, []byte{1, 2}, []byte{3, 4}, make([]byte, length))
		wantNoMatrix(t, "Of, the last row too long or too short", m, err, api.ErrShape)
		m, err = Of(2, make([]byte, length), []byte{3, 4})
		wantNoMatrix(t, "Of, the first row too long or too short", m, err, api.ErrShape)
	}
	m, err = Of(2, make([]byte, 1, 2))
	wantNoMatrix(t, "Of, a row whose room is enough, but not its length", m, err, api.ErrShape)
}

func TestP2_1AtAndRow(t *testing.T) {
	for _, rows := range sizes() {
		for _, cols := range sizes() {
			m := mixed(rows, cols, 3)
			for i := range rows {
				v, err := Row(m, i)
				wantList(t, "Row", v, err, m.Cells[i*cols:(i+1)*cols])
				for j := range cols {
					if x, err := At(m, i, j); err != nil || x != m.Cells[i*cols+j] {
						t.Fatal("At", rows, cols, i, j, x, err)
					}
				}
			}
		}
	}
}

func TestP2_1AtAndRowRefused(t *testing.T) {
	for _, rows := range sizes() {
		for _, cols := range sizes() {
			m := mixed(rows, cols, 4)
			for _, far := range []int{-1, math.MinInt, math.MaxInt, 64, 1 << 32} {
				v, err := Row(m, far)
				wantNoList(t, "Row", v, err, api.ErrNumber)
				for _, cell := range [][2]int{{far, 0}, {0, far}, {far, far}, {rows, 0}, {0, cols}, {rows - 1, cols}, {rows, cols - 1}} {
					if x, err := At(m, cell[0], cell[1]); x != 0 || err != api.ErrNumber {
						t.Error("At", rows, cols, cell, x, err)
					}
				}
			}
			v, err := Row(m, rows)
			wantNoList(t, "Row", v, err, api.ErrNumber)
		}
	}
	// A matrix that isn't in form is told ahead of a place that isn't there.
	for _, m := range badForms() {
		for _, number := range []int{-1, 0, 1, 1000} {
			v, err := Row(m, number)
			wantNoList(t, "Row", v, err, api.ErrShape)
			if x, err := At(m, number, 0); x != 0 || err != api.ErrShape {
				t.Error("At", m.Rows, m.Cols, x, err)
			}
			if x, err := At(m, 0, number); x != 0 || err != api.ErrShape {
				t.Error("At", m.Rows, m.Cols, x, err)
			}
		}
	}
}

// slowProduct is the product by its definition, cell by cell.
func slowProduct(a, b api.Matrix) api.Matrix {
	product := api.Matrix{Rows: a.Rows, Cols: b.Cols}
	for i := range a.Rows {
		for j := range b.Cols {
			var sum byte
			for l := range a.Cols {
				sum = gf.Add(sum, gf.Mul(a.Cells[i*a.Cols+l], b.Cells[l*b.Cols+j]))
			}
			product.Cells = append(product.Cells, sum)
		}
	}
	return product
}

func TestP2_1Product(t *testing.T) {
	for _, rows := range sizes() {
		for _, inner := range sizes() {
			for _, cols := range sizes() {
				a, b := mixed(rows, inner, 5), mixed(inner, cols, 6)
				p, err := Product(a, b)
				wantMatrix(t, "Product", p, err, slowProduct(a, b))
			}
		}
	}
}

func TestP2_1ProductRefused(t *testing.T) {
	for _, sizes := range [][4]int{{2, 3, 2, 3}, {2, 3, 4, 2}, {0, 0, 1, 0}, {0, 1, 0, 0}, {64, 64, 63, 64}, {3, 0, 3, 3}} {
		p, err := Product(mixed(sizes[0], sizes[1], 1), mixed(sizes[2], sizes[3], 2))
		wantNoMatrix(t, "Product, sizes that don't fit", p, err, api.ErrShape)
	}
	for _, bad := range badForms() {
		for _, size := range []int{0, 1, 2, 64} {
			p, err := Product(bad, mixed(size, 2, 1))
			wantNoMatrix(t, "Product, the first not in form", p, err, api.ErrShape)
			p, err = Product(mixed(2, size, 1), bad)
			wantNoMatrix(t, "Product, the second not in form", p, err, api.ErrShape)
		}
		p, err := Product(bad, bad)
		wantNoMatrix(t, "Product, both not in form", p, err, api.ErrShape)
	}
}

func TestP2_1TimesAndLeft(t *testing.T) {
	for _, rows := range sizes() {
		for _, cols := range sizes() {
			m := mixed(rows, cols, 7)
			right, left := mixedBytes(cols, 8), mixedBytes(rows, 9)
			v, err := Times(m, right)
			wantList(t, "Times", v, err, slowProduct(m, api.Matrix{Rows: cols, Cols: 1, Cells: right}).Cells)
			v, err = Left(left, m)
			wantList(t, "Left", v, err, slowProduct(api.Matrix{Rows: 1, Cols: rows, Cells: left}, m).Cells)
		}
	}
}

func TestP2_1TimesAndLeftRefused(t *testing.T) {
	for _, rows := range sizes() {
		for _, cols := range sizes() {
			m := mixed(rows, cols, 10)
			for _, length := range []int{0, 1, 4, 62, 64, 65, 1000} {
				if length != cols {
					v, err := Times(m, make([]byte, length, 2000))
					wantNoList(t, "Times", v, err, api.ErrShape)
				}
				if length != rows {
					v, err := Left(make([]byte, length, 2000), m)
					wantNoList(t, "Left", v, err, api.ErrShape)
				}
			}
		}
	}
	for _, bad := range badForms() {
		for _, length := range []int{0, 1, 2, 64, 65} {
			v, err := Times(bad, make([]byte, length))
			wantNoList(t, "Times", v, err, api.ErrShape)
			v, err = Left(make([]byte, length), bad)
			wantNoList(t, "Left", v, err, api.ErrShape)
		}
	}
}

func TestP2_1Stack(t *testing.T) {
	for _, cols := range sizes() {
		for _, parts := range [][]int{{}, {0}, {1}, {64}, {1, 1}, {3, 2}, {0, 5, 0, 1}, {63, 1}, {32, 0, 32, 0}, {20, 20, 20, 4}} {
			total := 0
			for _, rows := range parts {
				total += rows
			}
			whole := mixed(total, cols, 11)
			var list []api.Matrix
			from := 0
			for _, rows := range parts {
				list = append(list, api.Matrix{Rows: rows, Cols: cols, Cells: whole.Cells[from*cols : (from+rows)*cols]})
				from += rows
			}
			m, err := Stack(cols, list...)
			wantMatrix(t, "Stack", m, err, whole)
		}
	}
	one := mixed(2, 2, 12)
	m, err := Stack(2, one, one)
	wantMatrix(t, "Stack of one matrix twice", m, err, api.Matrix{Rows: 4, Cols: 2, Cells: bytes.Repeat(one.Cells, 2)})
	many := make([]api.Matrix, 10000)
	m, err = Stack(0, many...)
	wantMatrix(t, "Stack of many matrices without rows", m, err, api.Matrix{})
}

func TestP2_1StackRefused(t *testing.T) {
	for _, cols := range badSizes() {
		m, err := Stack(cols)
		wantNoMatrix(t, "Stack of none, cols that aren't a size", m, err, api.ErrShape)
		m, err = Stack(cols, api.Matrix{Cols: cols})
		wantNoMatrix(t, "Stack, cols that aren't a size", m, err, api.ErrShape)
	}
	for _, cols := range sizes() {
		for _, parts := range [][]int{{64, 1}, {1, 64}, {33, 32}, {64, 64}, {64, 0, 1}} {
			var list []api.Matrix
			for _, rows := range parts {
				list = append(list, mixed(rows, cols, 13))
			}
			m, err := Stack(cols, list...)
			wantNoMatrix(t, "Stack, too many rows", m, err, api.ErrShape)
		}
	}
	for _, list := range [][]api.Matrix{
		{mixed(1, 3, 1)}, {mixed(1, 2, 1), mixed(1, 3, 1)}, {mixed(1, 1, 1), mixed(1, 2, 1)}, {mixed(0, 3, 1)}, {{}},
	} {
		m, err := Stack(2, list...)
		wantNoMatrix(t, "Stack, other cols", m, err, api.ErrShape)
	}
	for _, bad := range badForms() {
		m, err := Stack(bad.Cols, bad)
		wantNoMatrix(t, "Stack, not in form", m, err, api.ErrShape)
		m, err = Stack(bad.Cols, api.Matrix{Cols: bad.Cols}, bad)
		wantNoMatrix(t, "Stack, the last not in form", m, err, api.ErrShape)
	}
}

// TestP2_1StackFar: a long list of great matrices is refused without its rows being gathered, which would fill the memory.
func TestP2_1StackFar(t *testing.T) {
	list := make([]api.Matrix, 1<<20)
	for i := range list {
		list[i] = api.Matrix{Rows: 64}
	}
	var before, behind runtime.MemStats
	runtime.ReadMemStats(&before)
	m, err := Stack(0, list...)
	runtime.ReadMemStats(&behind)
	wantNoMatrix(t, "Stack", m, err, api.ErrShape)
	if taken := behind.TotalAlloc - before.TotalAlloc; taken > 1<<24 {
		t.Error("Stack has taken so many bytes:", taken)
	}
}

func TestP2_1Take(t *testing.T) {
	for _, rows := range sizes() {
		for _, cols := range sizes() {
			m := mixed(rows, cols, 14)
			got, err := Take(m, nil)
			wantMatrix(t, "Take of none", got, err, api.Matrix{Cols: cols})
			if rows == 0 {
				continue
			}
			for _, count := range []int{1, 2, 7, 64} {
				numbers := make([]int, count)
				want := api.Matrix{Rows: count, Cols: cols}
				for i, x := range mixedBytes(count, 15) {
					numbers[i] = int(x) % rows
					want.Cells = append(want.Cells, m.Cells[numbers[i]*cols:(numbers[i]+1)*cols]...)
				}
				got, err := Take(m, numbers)
				wantMatrix(t, "Take", got, err, want)
			}
		}
	}
}

func TestP2_1TakeRefused(t *testing.T) {
	m := mixed(3, 2, 16)
	for _, numbers := range [][]int{{3}, {-1}, {0, 1, 2, 3}, {-1, 0}, {0, math.MaxInt, 1}, {math.MinInt}} {
		got, err := Take(m, numbers)
		wantNoMatrix(t, "Take", got, err, api.ErrNumber)
	}
	got, err := Take(api.Matrix{Cols: 2}, []int{0})
	wantNoMatrix(t, "Take of a matrix without rows", got, err, api.ErrNumber)
	got, err = Take(m, make([]int, 65))
	wantNoMatrix(t, "Take of 65 rows", got, err, api.ErrShape)
	many := make([]int, 65)
	many[0] = 7
	got, err = Take(m, many)
	wantNoMatrix(t, "Take of 65 rows, one of them not there", got, err, api.ErrShape)
	many[0], many[64] = 0, 7
	got, err = Take(m, many[:64])
	wantMatrix(t, "Take, a number behind the list's length", got, err, api.Matrix{Rows: 64, Cols: 2, Cells: bytes.Repeat(m.Cells[:2], 64)})
	for _, bad := range badForms() {
		for _, numbers := range [][]int{nil, {0}, {1000}, make([]int, 65)} {
			got, err = Take(bad, numbers)
			wantNoMatrix(t, "Take, not in form", got, err, api.ErrShape)
		}
	}
}

func TestP2_1Transpose(t *testing.T) {
	for _, rows := range sizes() {
		for _, cols := range sizes() {
			m := mixed(rows, cols, 17)
			want := api.Matrix{Rows: cols, Cols: rows}
			for j := range cols {
				for i := range rows {
					want.Cells = append(want.Cells, m.Cells[i*cols+j])
				}
			}
			got, err := Transpose(m)
			wantMatrix(t, "Transpose", got, err, want)
		}
	}
	for _, bad := range badForms() {
		got, err := Transpose(bad)
		wantNoMatrix(t, "Transpose", got, err, api.ErrShape)
	}
}

func TestP2_1Same(t *testing.T) {
	all := badForms()
	all = append(all, api.Matrix{}, api.Matrix{Rows: 0, Cols: 3}, api.Matrix{Rows: 3, Cols: 0}, mixed(2, 3, 1), mixed(3, 2, 1),
		mixed(2, 3, 2), mixed(6, 1, 1), mixed(64, 64, 1))
	for i, a := range all {
		for j, b := range all {
			if Same(a, b) != (i == j || equal(a, b)) {
				t.Error("Same", a, b)
			}
		}
		b := a
		b.Cells = append([]byte{}, a.Cells...)
		if !Same(a, b) || !Same(b, a) {
			t.Error("Same of a copy", a)
		}
	}
	if !Same(api.Matrix{}, api.Matrix{Cells: []byte{}}) {
		t.Error("Same of no list and an empty one")
	}
	m := mixed(3, 4, 1)
	for i := range m.Cells {
		other := mixed(3, 4, 1)
		other.Cells[i]++
		if Same(m, other) {
			t.Error("Same, but for a cell", i)
		}
	}
}

// spoil changes all of a list, spare room included.
func spoil(list []byte) {
	list = list[:cap(list)]
	for i := range list {
		list[i] = ^list[i]
	}
}

// answers is the lists that the calls answer, of two matrices 4 x 4, some lists and row numbers.
func answers(t *testing.T, a, b api.Matrix, v []byte, numbers []int) [][]byte {
	cells := func(m api.Matrix, err error) []byte { return matrix(t)(m, err).Cells }
	rows := [][]byte{a.Cells[0:4], v, a.Cells[4:8]}
	parts := []api.Matrix{a, b, a}
	got := [][]byte{
		cells(Of(4, rows...)), cells(Of(4, a.Cells[:4])), cells(Product(a, b)), cells(Product(a, a)),
		cells(Stack(4, parts...)), cells(Stack(4, a)), cells(Take(a, numbers)), cells(Take(b, []int{0, 1, 2, 3})), cells(Transpose(a)),
		list(t)(Row(a, 1)), list(t)(Row(a, 3)), list(t)(Times(b, v)), list(t)(Left(v, b)),
		list(t)(Left([]byte{0, 1, 0, 0}, a)),
	}
	if !equal(parts[0], a) || !equal(parts[1], b) || !equal(parts[2], a) || !bytes.Equal(rows[1], v) {
		t.Error("a list of parts has changed")
	}
	return got
}

// TestP2_1Lists: what is handed in stays as it is, spare room included, and answers share nothing with it (rule 4).
func TestP2_1Lists(t *testing.T) {
	roomA, roomB, roomV := mixedBytes(40, 18), mixedBytes(40, 19), mixedBytes(9, 20)
	a := api.Matrix{Rows: 4, Cols: 4, Cells: roomA[:16]}
	b := api.Matrix{Rows: 4, Cols: 4, Cells: roomB[:16]}
	numbers := []int{2, 2, 0, 99}
	for _, answer := range answers(t, a, b, roomV[:4], numbers[:3]) {
		spoil(answer)
	}
	if !bytes.Equal(roomA, mixedBytes(40, 18)) || !bytes.Equal(roomB, mixedBytes(40, 19)) || !bytes.Equal(roomV, mixedBytes(9, 20)) {
		t.Error("what was handed in has changed")
	}
	if numbers[0] != 2 || numbers[1] != 2 || numbers[2] != 0 || numbers[3] != 99 {
		t.Error("the row numbers have changed", numbers)
	}
}

// TestP2_1NothingKept: an answer doesn't change when what was handed in does, and the calls keep no answer.
func TestP2_1NothingKept(t *testing.T) {
	a, b, v := mixed(4, 4, 21), mixed(4, 4, 22), mixedBytes(4, 23)
	first := answers(t, a, b, v, []int{3, 1})
	second := answers(t, a, b, v, []int{3, 1})
	want := answers(t, mixed(4, 4, 21), mixed(4, 4, 22), mixedBytes(4, 23), []int{3, 1})
	spoil(a.Cells)
	spoil(b.Cells)
	spoil(v)
	for i := range first {
		spoil(first[i])
		if !bytes.Equal(second[i], want[i]) {
			t.Error("answer", i, "has changed with what was handed in, or with another answer")
		}
	}
}

func TestP2_2Associative(t *testing.T) {
	must := matrix(t)
	for _, s := range [][4]int{{1, 1, 1, 1}, {2, 3, 4, 5}, {5, 1, 5, 1}, {1, 7, 1, 7}, {0, 3, 2, 4}, {3, 0, 2, 4}, {3, 2, 0, 4}, {3, 2, 4, 0}, {16, 32, 8, 24}, {64, 64, 64, 64}, {64, 1, 64, 2}} {
		for seed := range uint32(4) {
			a, b, c := mixed(s[0], s[1], seed), mixed(s[1], s[2], seed+100), mixed(s[2], s[3], seed+200)
			if !equal(must(Product(must(Product(a, b)), c)), must(Product(a, must(Product(b, c))))) {
				t.Error("not associative", s, seed)
			}
		}
	}
}

func TestP2_2OneChangesNothing(t *testing.T) {
	must, line := matrix(t), list(t)
	for _, rows := range sizes() {
		for _, cols := range sizes() {
			m := mixed(rows, cols, 24)
			if !equal(must(Product(must(One(rows)), m)), m) || !equal(must(Product(m, must(One(cols)))), m) {
				t.Error("One changes a matrix", rows, cols)
			}
		}
		v := mixedBytes(rows, 25)
		if !bytes.Equal(line(Times(must(One(rows)), v)), v) || !bytes.Equal(line(Left(v, must(One(rows)))), v) {
			t.Error("One changes a list", rows)
		}
	}
}

func TestP2_2TransposedProduct(t *testing.T) {
	must := matrix(t)
	for _, rows := range sizes() {
		for _, inner := range sizes() {
			for _, cols := range sizes() {
				a, b := mixed(rows, inner, 26), mixed(inner, cols, 27)
				if !equal(must(Transpose(must(Product(a, b)))), must(Product(must(Transpose(b)), must(Transpose(a))))) {
					t.Error("transpose of a product", rows, inner, cols)
				}
			}
		}
	}
}

func TestP2_3TimesAndLeftOfProducts(t *testing.T) {
	must, line := matrix(t), list(t)
	for _, rows := range sizes() {
		for _, inner := range sizes() {
			for _, cols := range sizes() {
				a, b := mixed(rows, inner, 28), mixed(inner, cols, 29)
				product := must(Product(a, b))
				right, left := mixedBytes(cols, 30), mixedBytes(rows, 31)
				if !bytes.Equal(line(Times(product, right)), line(Times(a, line(Times(b, right))))) {
					t.Error("Times of a product", rows, inner, cols)
				}
				if !bytes.Equal(line(Left(left, product)), line(Left(line(Left(left, a)), b))) {
					t.Error("Left of a product", rows, inner, cols)
				}
			}
		}
	}
}

func TestP2_3RowsOfProducts(t *testing.T) {
	must, line := matrix(t), list(t)
	for _, s := range [][3]int{{1, 1, 1}, {3, 4, 5}, {5, 4, 3}, {2, 0, 3}, {3, 2, 0}, {64, 64, 64}, {64, 3, 1}} {
		a, b := mixed(s[0], s[1], 32), mixed(s[1], s[2], 33)
		product := must(Product(a, b))
		for i := range a.Rows {
			if !bytes.Equal(line(Row(product, i)), line(Left(line(Row(a, i)), b))) {
				t.Error("row of a product", s, i)
			}
		}
	}
}
