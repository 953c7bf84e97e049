package plan

import (
	"bytes"
	"math"
	"math/bits"
	"math/rand/v2"
	"slices"
	"strconv"
	"testing"

	"tessera/api"
	"tessera/base"
	"tessera/code"
	"tessera/exec"
	"tessera/mat"
	"tessera/prog"
	"tessera/solve"
)

// illegal is k and r that aren't legal; the sums of some run over, and some have legal numbers in their low bits.
func illegal() [][2]int {
	var all [][2]int
	for k := -2; k <= 18; k++ {
		for r := -2; r <= 18; r++ {
			if k < 1 || r < 2 || k+r > 16 {
				all = append(all, [2]int{k, r})
			}
		}
	}
	for _, far := range []int{math.MinInt, math.MinInt + 3, -1 << 32, 256 + 4, 1<<32 + 2, 1<<63 - 8, math.MaxInt} {
		all = append(all, [2]int{far, 3}, [2]int{4, far}, [2]int{far, far})
	}
	return all
}

// outside is numbers that aren't 0 to count - 1, with count itself, and some whose low bits are.
func outside(count int) []int {
	return []int{
		math.MinInt, math.MinInt + 1, math.MinInt / 2, -1 << 32, -256, -count, -2, -1,
		count, count + 1, 2 * count, 64 + count, 256, 256 + 1, 1 << 16, 1 << 32, 1<<32 + 1,
		math.MaxInt / 2, math.MaxInt/2 + 1, math.MaxInt - 1, math.MaxInt,
	}
}

// numbers is the numbers from from to to - 1.
func numbers(from, to int) []int {
	var list []int
	for number := from; number < to; number++ {
		list = append(list, number)
	}
	return list
}

// chosen is the numbers whose bits are set in choice.
func chosen(choice uint) []int {
	var list []int
	for number := range bits.Len(choice) {
		if choice>>number&1 == 1 {
			list = append(list, number)
		}
	}
	return list
}

// some is the things of a list that a source chooses, each by itself.
func some(r *rand.Rand, list []int) []int {
	return slices.DeleteFunc(slices.Clone(list), func(int) bool { return r.IntN(2) == 0 })
}

// slowProduct is the product of polynomials modulo 285, bit by bit.
func slowProduct(a, b byte) byte {
	product := 0
	for bit := range 8 {
		product ^= int(b) >> bit & 1 * (int(a) << bit)
	}
	for bit := 15; bit >= 8; bit-- {
		product ^= product >> bit & 1 * (285 << (bit - 8))
	}
	return byte(product)
}

// slowInverse is the power of a that is its inverse: a times itself 254 times.
func slowInverse(a byte) byte {
	inverse := byte(1)
	for range 254 {
		inverse = slowProduct(inverse, a)
	}
	return inverse
}

// slowRank is how many of the rows are no combination of those ahead of them.
func slowRank(rows [][]byte) int {
	var kept [][]byte
	var places []int
	for _, row := range rows {
		row = slices.Clone(row)
		for i, other := range kept {
			if c := row[places[i]]; c != 0 {
				for v := range row {
					row[v] ^= slowProduct(c, other[v])
				}
			}
		}
		place := slices.IndexFunc(row, func(c byte) bool { return c != 0 })
		if place < 0 {
			continue
		}
		c := slowInverse(row[place])
		for v := range row {
			row[v] = slowProduct(c, row[v])
		}
		kept, places = append(kept, row), append(places, place)
	}
	return len(kept)
}

// slowDo is the outputs of a program in form, for inputs of size bytes each.
func slowDo(p api.Program, size int, inputs [][]byte) [][]byte {
	registers := make([][]byte, p.Regs)
	for register := range registers {
		registers[register] = make([]byte, size)
	}
	outputs := make([][]byte, len(p.Outputs))
	for _, s := range p.Steps {
		made := make([]byte, size)
		for i := range made {
			switch s.Op {
			case 1:
				made[i] = inputs[s.Src][i]
			case 3:
				made[i] = slowProduct(s.C, registers[s.Dst][i])
			case 4:
				made[i] = registers[s.Dst][i] ^ slowProduct(s.C, registers[s.Src][i])
			case 5:
				made[i] = registers[s.Src][i]
			}
		}
		if s.Op == 5 {
			outputs[s.Dst] = made
		} else {
			registers[s.Dst] = made
		}
	}
	return outputs
}

// same tells whether two lists of lists are the same, nil and empty ones being one.
func same(a, b [][]byte) bool { return slices.EqualFunc(a, b, bytes.Equal) }

// sameProgram tells whether two programs are the same, nil and empty lists being one.
func sameProgram(a, b api.Program) bool {
	return slices.Equal(a.Inputs, b.Inputs) && slices.Equal(a.Outputs, b.Outputs) && a.Regs == b.Regs && slices.Equal(a.Steps, b.Steps)
}

// zero tells whether a program is the zero value.
func zero(p api.Program) bool {
	return p.Inputs == nil && p.Outputs == nil && p.Regs == 0 && p.Steps == nil
}

// form is k and r, g, and the rows of all halves.
type form struct {
	k, r, g int
	rows    [][]byte
}

// newForm is the form of this k and r; the rows are read off the stripes of which one variable alone isn't 0.
func newForm(t *testing.T, k, r int) form {
	t.Helper()
	f := form{k: k, r: r, rows: make([][]byte, 2*(k+r))}
	for f.g*(r-1) < k {
		f.g++
	}
	for v := range 2 * k {
		data := make([]byte, 2*k)
		data[v] = 1
		halves, err := code.Encode(k, r, data)
		if err != nil || len(halves) != len(f.rows) {
			t.Fatal("Encode", k, r, len(halves), err)
		}
		for half := range f.rows {
			f.rows[half] = append(f.rows[half], halves[half][0])
		}
	}
	return f
}

// count is how many halves a stripe has.
func (f form) count() int { return 2 * (f.k + f.r) }

// left is the halves that aren't in the list.
func (f form) left(lost []int) []int {
	return slices.DeleteFunc(numbers(0, f.count()), func(half int) bool { return slices.Contains(lost, half) })
}

// rowsOf is the rows of these halves.
func (f form) rowsOf(list []int) [][]byte {
	var rows [][]byte
	for _, half := range list {
		rows = append(rows, f.rows[half])
	}
	return rows
}

// gone tells whether the rows of the halves that aren't lost have a rank below 2k.
func (f form) gone(lost []int) bool { return slowRank(f.rowsOf(f.left(lost))) < 2*f.k }

// oneShard tells whether just both halves of one data shard are lost.
func (f form) oneShard(lost []int) bool {
	return len(lost) == 2 && lost[0]%2 == 0 && lost[1] == lost[0]+1 && lost[0] < 2*f.k
}

// mostReads is how many halves may be read, with these lost and those wanted.
func (f form) mostReads(lost, wanted []int) int {
	switch {
	case len(wanted) == 0:
		return 0
	case f.oneShard(lost):
		return f.k + f.g
	}
	return 2 * f.k
}

// wantRight asks that a program is a right one that reads few enough halves.
func (f form) wantRight(t *testing.T, p api.Program, lost, wanted []int) {
	t.Helper()
	if err := prog.Check(p); err != nil || !slices.Equal(p.Outputs, wanted) {
		t.Fatal("not in form, or not what is wanted", f.k, f.r, lost, wanted, p, err)
	}
	for _, half := range p.Inputs {
		if half >= f.count() || slices.Contains(lost, half) {
			t.Fatal("half", half, "isn't left", f.k, f.r, lost, p)
		}
	}
	if len(p.Inputs) > f.mostReads(lost, wanted) {
		t.Error("reads", len(p.Inputs), "halves", f.k, f.r, lost, wanted, p)
	}
	// Run on the rows of its inputs, as if they were halves, a program makes its meaning times them.
	if !same(slowDo(p, 2*f.k, f.rowsOf(p.Inputs)), f.rowsOf(wanted)) {
		t.Error("doesn't make what is wanted", f.k, f.r, lost, wanted, p)
	}
}

// wantFor asks For for a right program, or for ErrLost.
func (f form) wantFor(t *testing.T, lost, wanted []int) {
	t.Helper()
	if f.gone(lost) {
		wantNoFor(t, f.k, f.r, lost, wanted, api.ErrLost)
		return
	}
	p, err := For(f.k, f.r, lost, wanted)
	if err != nil {
		t.Fatal("For", f.k, f.r, lost, wanted, err)
	}
	f.wantRight(t, p, lost, wanted)
}

// wantCompile asks Compile and Reads for a right program, or for ErrLost.
func (f form) wantCompile(t *testing.T, lost []int) {
	t.Helper()
	if f.gone(lost) {
		wantNoCompile(t, f.k, f.r, lost, api.ErrLost)
		return
	}
	p, err := Compile(f.k, f.r, lost)
	if err != nil {
		t.Fatal("Compile", f.k, f.r, lost, err)
	}
	f.wantRight(t, p, lost, lost)
	if reads, err := Reads(f.k, f.r, lost); reads != len(p.Inputs) || err != nil {
		t.Error("Reads", f.k, f.r, lost, "is", reads, err, "not", len(p.Inputs))
	}
}

// wantNoFor asks For for an error and no more.
func wantNoFor(t *testing.T, k, r int, lost, wanted []int, wantErr error) {
	t.Helper()
	if p, err := For(k, r, lost, wanted); !zero(p) || err != wantErr {
		t.Error("For", k, r, lost, wanted, "is", p, err, "not", wantErr)
	}
}

// wantNoCompile asks Compile and Reads for an error and no more.
func wantNoCompile(t *testing.T, k, r int, lost []int, wantErr error) {
	t.Helper()
	if p, err := Compile(k, r, lost); !zero(p) || err != wantErr {
		t.Error("Compile", k, r, lost, "is", p, err, "not", wantErr)
	}
	if reads, err := Reads(k, r, lost); reads != 0 || err != wantErr {
		t.Error("Reads", k, r, lost, "is", reads, err, "not", wantErr)
	}
}

// wantNoCheap asks Cheap for an error and no more.
func wantNoCheap(t *testing.T, k, r, shard int, wantErr error) {
	t.Helper()
	if p, err := Cheap(k, r, shard); !zero(p) || err != wantErr {
		t.Error("Cheap", k, r, shard, "is", p, err, "not", wantErr)
	}
}

// wantRefused asks each call that is handed a list of lost halves for this error, whatever is wanted.
func wantRefused(t *testing.T, k, r int, lost []int, wantErr error) {
	t.Helper()
	wantNoCompile(t, k, r, lost, wantErr)
	for _, wanted := range [][]int{nil, {}, {0}, {1, 0}, {-1}, {math.MaxInt}, lost} {
		wantNoFor(t, k, r, lost, wanted, wantErr)
	}
}

// sample is some sets of halves of the stripe, as bits: few, all but few, pairs that follow one another, and many with about as many lost as can be made again.
func sample(k, r int) []uint {
	count := 2 * (k + r)
	all := uint(1)<<count - 1
	sets := []uint{0, all}
	for half := range count {
		sets = append(sets, 1<<half, all&^(1<<half))
		if half+1 < count {
			sets = append(sets, 3<<half)
		}
	}
	source := rand.New(rand.NewPCG(11, uint64(16*k+r)))
	for turn := range 40 {
		var set uint
		for bits.OnesCount(set) < max(1, 2*r-turn%6) {
			set |= 1 << source.IntN(count)
		}
		sets = append(sets, set)
	}
	return sets
}

// onForms calls f with all legal k and r.
func onForms(t *testing.T, f func(t *testing.T, x form)) {
	for k, r := range base.All() {
		t.Run(strconv.Itoa(k)+"_"+strconv.Itoa(r), func(t *testing.T) {
			t.Parallel()
			f(t, newForm(t, k, r))
		})
	}
}

// onLosses calls f with sets of lost halves of all legal k and r: all sets of narrow stripes, a sample of the others.
func onLosses(t *testing.T, f func(t *testing.T, x form, lost []int)) {
	onForms(t, func(t *testing.T, x form) {
		if x.k+x.r > 5 {
			for _, set := range sample(x.k, x.r) {
				f(t, x, chosen(set))
			}
			return
		}
		for set := range uint(1) << x.count() {
			f(t, x, chosen(set))
		}
	})
}

// onFew calls f with a sample of lost halves of all legal k and r, and a random source.
func onFew(t *testing.T, f func(t *testing.T, x form, lost []int, source *rand.Rand)) {
	onForms(t, func(t *testing.T, x form) {
		source := rand.New(rand.NewPCG(uint64(x.k), uint64(x.r)))
		for _, set := range sample(x.k, x.r) {
			f(t, x, chosen(set), source)
		}
	})
}

func TestP11_1Examples(t *testing.T) {
	f := newForm(t, 4, 3)
	if p, err := Cheap(4, 3, 1); err != nil || len(p.Inputs) > 6 {
		t.Error("Cheap", p, err)
	}
	if p, err := Compile(4, 3, nil); err != nil || len(p.Inputs) != 0 || len(p.Outputs) != 0 || prog.Check(p) != nil {
		t.Error("Compile of nothing", p, err)
	}
	wantNoFor(t, 4, 3, []int{1}, []int{2}, api.ErrHalf)
	wantNoCompile(t, 1, 2, numbers(0, 6), api.ErrLost)
	f.wantCompile(t, []int{2, 3})
	f.wantCompile(t, []int{2, 3, 11})
	f.wantCompile(t, []int{0, 5, 9})
	f.wantCompile(t, numbers(0, 6))
}

// TestP11_1Losses: Compile and Reads at all sets of lost halves of narrow stripes, and at some of all legal k and r.
func TestP11_1Losses(t *testing.T) {
	onLosses(t, func(t *testing.T, x form, lost []int) { x.wantCompile(t, lost) })
}

// TestP11_1Wanted: For at all sets of lost halves and all of wanted ones of the narrowest stripes, and at some of all legal k and r.
func TestP11_1Wanted(t *testing.T) {
	onForms(t, func(t *testing.T, x form) {
		source := rand.New(rand.NewPCG(11, uint64(x.k)<<8|uint64(x.r)))
		if x.k+x.r > 4 {
			for _, set := range sample(x.k, x.r) {
				lost := chosen(set)
				x.wantFor(t, lost, nil)
				x.wantFor(t, lost, some(source, lost))
			}
			return
		}
		for set := range uint(1) << x.count() {
			for wanted := range set + 1 {
				if wanted&^set == 0 {
					x.wantFor(t, chosen(set), chosen(wanted))
				}
			}
		}
	})
}

// TestP11_1Shards: each data shard lost, and all choices of what is wanted of it; each parity likewise, and each half alone; r whole shards, and with one half more ErrLost.
func TestP11_1Shards(t *testing.T) {
	onForms(t, func(t *testing.T, x form) {
		for shard := range x.k + x.r {
			a, b := 2*shard, 2*shard+1
			for _, wanted := range [][]int{nil, {a}, {b}, {a, b}} {
				x.wantFor(t, []int{a, b}, wanted)
			}
			x.wantFor(t, []int{a}, []int{a})
			x.wantFor(t, []int{b}, []int{b})
		}
		source := rand.New(rand.NewPCG(11, uint64(x.k)<<16|uint64(x.r)))
		for range 20 {
			var lost []int
			for _, shard := range source.Perm(x.k + x.r)[:x.r] {
				lost = append(lost, 2*shard, 2*shard+1)
			}
			slices.Sort(lost)
			x.wantCompile(t, lost)
			more := append(slices.Clone(lost), x.left(lost)[source.IntN(2*x.k)])
			slices.Sort(more)
			wantNoCompile(t, x.k, x.r, more, api.ErrLost)
		}
	})
}

// TestP11_1Params: ErrParams is answered whatever stands behind k and r, right or wrong.
func TestP11_1Params(t *testing.T) {
	for _, x := range illegal() {
		k, r := x[0], x[1]
		for _, lost := range [][]int{nil, {}, {0}, {0, 1}, {1, 0}, {1, 1}, {-1}, {99}, {math.MinInt}, {math.MaxInt}} {
			wantRefused(t, k, r, lost, api.ErrParams)
		}
		for _, shard := range append(outside(k), 0, 1) {
			wantNoCheap(t, k, r, shard, api.ErrParams)
		}
	}
}

// TestP11_1Outside: lost numbers that are no half's, alone, ahead of and behind others.
func TestP11_1Outside(t *testing.T) {
	for k, r := range base.All() {
		count := 2 * (k + r)
		for _, number := range outside(count) {
			wantRefused(t, k, r, []int{number}, api.ErrHalf)
			wantRefused(t, k, r, []int{number, 0}, api.ErrHalf)
			wantRefused(t, k, r, []int{0, number}, api.ErrHalf)
			wantRefused(t, k, r, append(numbers(0, count), number), api.ErrHalf)
		}
	}
}

// TestP11_1Rising: lists of lost halves that don't rise at one place, wherever that is, also where all is lost.
func TestP11_1Rising(t *testing.T) {
	for k, r := range base.All() {
		count := 2 * (k + r)
		for half := range count {
			wantRefused(t, k, r, []int{half, half}, api.ErrHalf)
			wantRefused(t, k, r, slices.Insert(numbers(0, count), half, half), api.ErrHalf)
			if half > 0 {
				wantRefused(t, k, r, []int{half, half - 1}, api.ErrHalf)
				wantRefused(t, k, r, []int{half, 0}, api.ErrHalf)
			}
		}
		wantRefused(t, k, r, []int{0, 1, 0, 1}, api.ErrHalf)
	}
}

// TestP11_1NotWanted: wanted halves that aren't lost, no halves, or don't rise; also where the stripe is gone, since ErrHalf comes first.
func TestP11_1NotWanted(t *testing.T) {
	onLosses(t, func(t *testing.T, x form, lost []int) {
		for _, half := range x.left(lost) {
			more := append(slices.Clone(lost), half)
			slices.Sort(more)
			wantNoFor(t, x.k, x.r, lost, []int{half}, api.ErrHalf)
			wantNoFor(t, x.k, x.r, lost, more, api.ErrHalf)
		}
		for place, half := range lost {
			wantNoFor(t, x.k, x.r, lost, []int{half, half}, api.ErrHalf)
			wantNoFor(t, x.k, x.r, lost, slices.Insert(slices.Clone(lost), place, half), api.ErrHalf)
			if place > 0 {
				wantNoFor(t, x.k, x.r, lost, []int{half, lost[place-1]}, api.ErrHalf)
				wantNoFor(t, x.k, x.r, lost, []int{half, lost[0]}, api.ErrHalf)
				turned := slices.Clone(lost)
				turned[place-1], turned[place] = half, lost[place-1]
				wantNoFor(t, x.k, x.r, lost, turned, api.ErrHalf)
			}
		}
	})
}

// TestP11_1WantedOutside: wanted numbers that are no half's.
func TestP11_1WantedOutside(t *testing.T) {
	for k, r := range base.All() {
		count := 2 * (k + r)
		for _, lost := range [][]int{nil, {0, 1}, {0, count - 1}, numbers(0, count)} {
			for _, number := range outside(count) {
				wantNoFor(t, k, r, lost, []int{number}, api.ErrHalf)
				wantNoFor(t, k, r, lost, []int{0, number}, api.ErrHalf)
				wantNoFor(t, k, r, lost, []int{number, 0}, api.ErrHalf)
				wantNoFor(t, k, r, lost, append(slices.Clone(lost), number), api.ErrHalf)
			}
		}
	}
}

// TestP11_1NoShard: numbers of no data shard, those of parities among them.
func TestP11_1NoShard(t *testing.T) {
	for k, r := range base.All() {
		for _, shard := range append(outside(k), numbers(k, k+r+2)...) {
			wantNoCheap(t, k, r, shard, api.ErrNumber)
		}
	}
}

// TestP11_1Gone: of a stripe that is gone nothing is made, also what could be told, and nothing at all.
func TestP11_1Gone(t *testing.T) {
	// d0a is p0a, which is left, but nothing tells d0b.
	for _, wanted := range [][]int{nil, {}, {0}, {1}, {0, 1}, {0, 1, 3, 5}} {
		wantNoFor(t, 1, 2, []int{0, 1, 3, 5}, wanted, api.ErrLost)
	}
	onFew(t, func(t *testing.T, x form, lost []int, source *rand.Rand) {
		if x.gone(lost) {
			wantNoFor(t, x.k, x.r, lost, nil, api.ErrLost)
			wantNoFor(t, x.k, x.r, lost, lost[:1], api.ErrLost)
			wantNoFor(t, x.k, x.r, lost, lost, api.ErrLost)
			wantNoFor(t, x.k, x.r, lost, some(source, lost), api.ErrLost)
		}
	})
}

// TestP11_1Long: lists far longer than any that can be.
func TestP11_1Long(t *testing.T) {
	for _, long := range [][]int{make([]int, 1<<22), numbers(0, 1<<22), numbers(-1<<21, 1<<21)} {
		wantNoCompile(t, 2, 2, long, api.ErrHalf)
		wantNoFor(t, 2, 2, long, nil, api.ErrHalf)
		wantNoFor(t, 2, 2, []int{0, 1}, long, api.ErrHalf)
		wantNoFor(t, 2, 2, numbers(0, 8), long, api.ErrHalf)
	}
}

// TestP11_1One: Compile is For with all that is lost wanted, Cheap is Compile; each answers the same again, and nil and empty lists are one (rules 4 and 8).
func TestP11_1One(t *testing.T) {
	onFew(t, func(t *testing.T, x form, lost []int, _ *rand.Rand) {
		first, firstErr := Compile(x.k, x.r, lost)
		second, secondErr := Compile(x.k, x.r, lost)
		whole, wholeErr := For(x.k, x.r, lost, lost)
		if !sameProgram(first, second) || !sameProgram(first, whole) || firstErr != secondErr || firstErr != wholeErr {
			t.Error("Compile", x.k, x.r, lost, first, firstErr, second, secondErr, whole, wholeErr)
		}
		null, nullErr := For(x.k, x.r, lost, nil)
		empty, emptyErr := For(x.k, x.r, lost, []int{})
		if !sameProgram(null, empty) || nullErr != emptyErr {
			t.Error("For", x.k, x.r, lost, null, nullErr, empty, emptyErr)
		}
	})
	for k, r := range base.All() {
		null, nullErr := Compile(k, r, nil)
		empty, emptyErr := Compile(k, r, []int{})
		if !sameProgram(null, empty) || nullErr != nil || emptyErr != nil {
			t.Error("Compile", k, r, null, nullErr, empty, emptyErr)
		}
		for shard := range k {
			cheap, cheapErr := Cheap(k, r, shard)
			p, err := Compile(k, r, []int{2 * shard, 2*shard + 1})
			if !sameProgram(cheap, p) || cheapErr != nil || err != nil {
				t.Error("Cheap", k, r, shard, "is", cheap, cheapErr, "not", p, err)
			}
		}
	}
}

// roomy is a copy of a list with spare room behind it, in which stand halves.
func roomy(list []int) []int {
	room := append(slices.Clone(list), 0, 1, 2, 3, 31, -1)
	return room[:len(list)]
}

// TestP11_1Given: what is handed in is neither changed nor kept, and what lies behind its length not read (rule 4).
func TestP11_1Given(t *testing.T) {
	onFew(t, func(t *testing.T, x form, lost []int, source *rand.Rand) {
		if x.gone(lost) {
			return
		}
		wanted := some(source, lost)
		roomyLost, roomyWanted := roomy(lost), roomy(wanted)
		all, allErr := Compile(x.k, x.r, roomyLost)
		p, err := For(x.k, x.r, roomyLost, roomyWanted)
		reads, readsErr := Reads(x.k, x.r, roomyLost)
		if allErr != nil || err != nil || reads != len(all.Inputs) || readsErr != nil {
			t.Fatal(x.k, x.r, lost, wanted, allErr, err, reads, readsErr)
		}
		for _, pair := range [][2][]int{{lost, roomyLost}, {wanted, roomyWanted}} {
			if want, got := roomy(pair[0]), pair[1]; !slices.Equal(want[:len(want)+6], got[:len(got)+6]) {
				t.Error("a call changes what it was given", got[:len(got)+6])
			}
			clear(pair[1][:cap(pair[1])])
		}
		x.wantRight(t, all, lost, lost)
		x.wantRight(t, p, lost, wanted)
	})
}

// wantNothingBehind asks that behind the length of a list of an answer nothing stands.
func wantNothingBehind[T comparable](t *testing.T, list []T) {
	t.Helper()
	var nothing T
	for _, x := range list[:cap(list)][len(list):] {
		if x != nothing {
			t.Error("an answer hands out behind its length", list[:cap(list)])
		}
	}
}

// spoil overwrites the lists of an answer, spare room included.
func spoil(p api.Program) {
	for _, list := range [][]int{p.Inputs[:cap(p.Inputs)], p.Outputs[:cap(p.Outputs)]} {
		for i := range list {
			list[i] = -7
		}
	}
	steps := p.Steps[:cap(p.Steps)]
	for i := range steps {
		steps[i] = api.Step{Op: 99, Dst: -1, Src: -1, C: 9}
	}
}

// TestP11_1Memory: answers are new memory, no two lists of one answer share any, and nothing stands behind their lengths (rule 4).
func TestP11_1Memory(t *testing.T) {
	onFew(t, func(t *testing.T, x form, lost []int, _ *rand.Rand) {
		if x.gone(lost) {
			return
		}
		given := slices.Clone(lost)
		first, firstErr := Compile(x.k, x.r, given)
		second, secondErr := For(x.k, x.r, given, given)
		if firstErr != nil || secondErr != nil {
			t.Fatal(x.k, x.r, lost, firstErr, secondErr)
		}
		wantNothingBehind(t, first.Inputs)
		wantNothingBehind(t, first.Outputs)
		wantNothingBehind(t, first.Steps)
		outputs := first.Outputs
		first.Outputs = nil
		spoil(first)
		if !slices.Equal(outputs, lost) {
			t.Error("Outputs share the memory of Inputs", x.k, x.r, lost)
		}
		first.Outputs = outputs
		spoil(first)
		if !slices.Equal(given, lost) {
			t.Error("an answer shares the memory of what was given", x.k, x.r, lost, given)
		}
		x.wantRight(t, second, lost, lost)
		x.wantCompile(t, lost)
	})
}

// randomStripe is all halves of a stripe of h bytes a half, of any bytes.
func randomStripe(t *testing.T, source *rand.Rand, k, r, h int) [][]byte {
	t.Helper()
	data := make([]byte, 2*k*h)
	for i := range data {
		data[i] = byte(source.Uint32())
	}
	halves, err := code.Encode(k, r, data)
	if err != nil || len(halves) != 2*(k+r) {
		t.Fatal("Encode", k, r, len(halves), err)
	}
	return halves
}

// readOf is these halves of a stripe.
func readOf(halves [][]byte, list []int) [][]byte {
	var read [][]byte
	for _, half := range list {
		read = append(read, halves[half])
	}
	return read
}

// wantMade asks that a program, run on halves of a stripe that aren't lost, makes just these.
func wantMade(t *testing.T, p api.Program, halves [][]byte, lost []int) {
	t.Helper()
	for _, half := range p.Inputs {
		if slices.Contains(lost, half) {
			t.Fatal("reads a lost half", lost, p)
		}
	}
	made, err := exec.Do(p, len(halves[0]), readOf(halves, p.Inputs))
	if err != nil || !slices.Equal(p.Outputs, lost) || !same(made, readOf(halves, lost)) {
		t.Error("doesn't make what is lost", lost, p, err)
	}
}

// TestP11_2Stripes: of any stripe Compile's program makes just the lost halves, and reads none of them.
func TestP11_2Stripes(t *testing.T) {
	onLosses(t, func(t *testing.T, x form, lost []int) {
		p, err := Compile(x.k, x.r, lost)
		if err == api.ErrLost && x.gone(lost) {
			return
		}
		if err != nil {
			t.Fatal("Compile", x.k, x.r, lost, err)
		}
		source := rand.New(rand.NewPCG(11, uint64(len(lost))))
		for _, h := range []int{1, 2 + source.IntN(62), 64} {
			wantMade(t, p, randomStripe(t, source, x.k, x.r, h), lost)
		}
	})
}

// TestP11_2Cheap: of any stripe Cheap's program makes just the two halves of its shard.
func TestP11_2Cheap(t *testing.T) {
	source := rand.New(rand.NewPCG(11, 5))
	for k, r := range base.All() {
		for shard := range k {
			p, err := Cheap(k, r, shard)
			if err != nil {
				t.Fatal("Cheap", k, r, shard, err)
			}
			wantMade(t, p, randomStripe(t, source, k, r, 1+source.IntN(64)), []int{2 * shard, 2*shard + 1})
		}
	}
}

// TestP11_3Cheap: for all legal k and r and each data shard, the program reads at most k + g halves, and makes the two that are lost.
func TestP11_3Cheap(t *testing.T) {
	onForms(t, func(t *testing.T, x form) {
		for shard := range x.k {
			lost := []int{2 * shard, 2*shard + 1}
			p, err := Cheap(x.k, x.r, shard)
			if err != nil {
				t.Fatal("Cheap", x.k, x.r, shard, err)
			}
			x.wantRight(t, p, lost, lost)
			reads, err := Reads(x.k, x.r, lost)
			if err != nil || reads != len(p.Inputs) || reads > x.k+x.g {
				t.Error("Reads", x.k, x.r, lost, "is", reads, err)
			}
			if x.r >= 3 && x.k >= 2 && reads >= 2*x.k {
				t.Error("not cheap", x.k, x.r, shard, reads)
			}
		}
	})
}

// unseen is data of which, with one byte a half, nothing is to be seen in the halves that are left, but that isn't 0; nil, if there is none.
func (f form) unseen(t *testing.T, lost []int) []byte {
	t.Helper()
	left, err := mat.Of(2*f.k, f.rowsOf(f.left(lost))...)
	if err != nil {
		t.Fatal(err)
	}
	reduced, pivots, err := solve.Reduce(left)
	if err != nil {
		t.Fatal(err)
	}
	for v := range 2 * f.k {
		if slices.Contains(pivots, v) {
			continue
		}
		// This variable is 1, and what hangs on it makes up for it.
		data := make([]byte, 2*f.k)
		data[v] = 1
		for i, pivot := range pivots {
			data[pivot] = reduced.Cells[i*2*f.k+v]
		}
		return data
	}
	return nil
}

// TestP11_4Unlike: where ErrLost is answered, two stripes with unlike data agree in all halves that are left; where it isn't, there are none.
func TestP11_4Unlike(t *testing.T) {
	onLosses(t, func(t *testing.T, x form, lost []int) {
		_, err := Compile(x.k, x.r, lost)
		unseen := x.unseen(t, lost)
		if err != nil && err != api.ErrLost || (err == api.ErrLost) != (unseen != nil) {
			t.Fatal("Compile", x.k, x.r, lost, err, unseen)
		}
		if unseen == nil {
			return
		}
		source := rand.New(rand.NewPCG(11, uint64(len(lost))))
		first := randomStripe(t, source, x.k, x.r, 1)
		var data []byte
		for v, b := range unseen {
			data = append(data, first[v][0]^b)
		}
		second, err := code.Encode(x.k, x.r, data)
		left := x.left(lost)
		if err != nil || same(first[:2*x.k], second[:2*x.k]) || !same(readOf(first, left), readOf(second, left)) {
			t.Error("no two stripes", x.k, x.r, lost, err)
		}
	})
}
