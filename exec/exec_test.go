package exec

import (
	"bytes"
	"math"
	"math/rand/v2"
	"slices"
	"testing"

	"tessera/api"
	"tessera/mat"
	"tessera/prog"
)

// outside is numbers that aren't 0 to count - 1, with count itself, and some whose low bits are.
func outside(count int) []int {
	return []int{
		math.MinInt, math.MinInt + 1, math.MinInt / 2, -1 << 32, -256, -2, -1,
		count, count + 1, 256 + count - 1, 1 << 16, 1 << 32, 1<<32 + 1,
		math.MaxInt / 2, math.MaxInt/2 + 1, math.MaxInt - 1, math.MaxInt,
	}
}

// wrongSizes is sizes that no half has.
func wrongSizes() []int { return append(outside(api.MaxHalf+1), 0) }

// numbers is the numbers from from to to - 1.
func numbers(from, to int) []int {
	var list []int
	for number := from; number < to; number++ {
		list = append(list, number)
	}
	return list
}

// slowProduct is the product of polynomials modulo 285, bit by bit.
func slowProduct(a, b byte) byte {
	product := 0
	for bit := range 8 {
		product ^= int(b) >> bit & 1 * (int(a) << bit)
	}
	for bit := 15; bit >= 8; bit-- {
		product ^= product >> bit & 1 * (285 << (bit - 8))
	}
	return byte(product)
}

// slowRun is the outputs of a program in form, for inputs of one byte each.
func slowRun(p api.Program, inputs []byte) []byte {
	registers := make([]byte, p.Regs)
	outputs := make([]byte, len(p.Outputs))
	for _, s := range p.Steps {
		switch s.Op {
		case 1:
			registers[s.Dst] = inputs[s.Src]
		case 2:
			registers[s.Dst] = 0
		case 3:
			registers[s.Dst] = slowProduct(s.C, registers[s.Dst])
		case 4:
			registers[s.Dst] ^= slowProduct(s.C, registers[s.Src])
		case 5:
			outputs[s.Dst] = registers[s.Src]
		}
	}
	return outputs
}

// slowDo is the outputs of a program in form, for inputs of size bytes each: byte by byte.
func slowDo(p api.Program, size int, inputs [][]byte) [][]byte {
	outputs := make([][]byte, len(p.Outputs))
	for i := range size {
		var column []byte
		for _, b := range inputs {
			column = append(column, b[i])
		}
		for output, x := range slowRun(p, column) {
			outputs[output] = append(outputs[output], x)
		}
	}
	return outputs
}

// slowMachine is what the chapter says that a machine holds.
type slowMachine struct {
	p    api.Program
	size int
	fed  map[int][]byte
	ran  bool
}

func (m *slowMachine) wants() []int {
	var wanted []int
	for _, half := range m.p.Inputs {
		if _, ok := m.fed[half]; !ok {
			wanted = append(wanted, half)
		}
	}
	return wanted
}

func (m *slowMachine) feed(half int, b []byte) error {
	if !slices.Contains(m.p.Inputs, half) {
		return api.ErrHalf
	}
	if _, ok := m.fed[half]; ok {
		return api.ErrThere
	}
	if len(b) != m.size {
		return api.ErrData
	}
	m.fed[half] = bytes.Clone(b)
	return nil
}

func (m *slowMachine) run() error {
	if len(m.fed) != len(m.p.Inputs) {
		return api.ErrEmpty
	}
	m.ran = true
	return nil
}

func (m *slowMachine) out(half int) ([]byte, error) {
	place := slices.Index(m.p.Outputs, half)
	if place < 0 {
		return nil, api.ErrHalf
	}
	if !m.ran {
		return nil, api.ErrEmpty
	}
	var inputs [][]byte
	for _, input := range m.p.Inputs {
		inputs = append(inputs, m.fed[input])
	}
	return slowDo(m.p, m.size, inputs)[place], nil
}

// pair is a machine, and what it must be like.
type pair struct {
	m    *Machine
	slow *slowMachine
}

// newPair is a pair to which nothing was fed.
func newPair(t *testing.T, p api.Program, size int) pair {
	t.Helper()
	m, err := New(p, size)
	if err != nil || m == nil {
		t.Fatal("New", p, size, err)
	}
	return pair{m, &slowMachine{p: p, size: size, fed: map[int][]byte{}}}
}

// wantWants asks Wants for what it must answer.
func (x pair) wantWants(t *testing.T) {
	t.Helper()
	if wanted := x.m.Wants(); !slices.Equal(wanted, x.slow.wants()) {
		t.Error("Wants is", wanted, "not", x.slow.wants())
	}
}

// wantFeed asks Feed for what it must answer.
func (x pair) wantFeed(t *testing.T, half int, b []byte) {
	t.Helper()
	if err, wantErr := x.m.Feed(half, b), x.slow.feed(half, b); err != wantErr {
		t.Error("Feed", half, len(b), "is", err, "not", wantErr)
	}
}

// wantRun asks Run for what it must answer.
func (x pair) wantRun(t *testing.T) {
	t.Helper()
	if err, wantErr := x.m.Run(), x.slow.run(); err != wantErr {
		t.Error("Run is", err, "not", wantErr)
	}
}

// wantOut asks Out for what it must answer.
func (x pair) wantOut(t *testing.T, half int) {
	t.Helper()
	b, err := x.m.Out(half)
	want, wantErr := x.slow.out(half)
	if err != wantErr || !bytes.Equal(b, want) || err != nil && b != nil {
		t.Error("Out", half, "is", b, err, "not", want, wantErr, "of", x.slow.p, x.slow.fed)
	}
}

// wantState asks all that can be asked without a change.
func (x pair) wantState(t *testing.T) {
	t.Helper()
	x.wantWants(t)
	for half := -1; half <= 33; half++ {
		x.wantOut(t, half)
	}
}

// wantNone asks that there is no machine, and nothing to be done, with this error.
func wantNone(t *testing.T, p api.Program, size int, inputs [][]byte, wantErr error) {
	t.Helper()
	if m, err := New(p, size); m != nil || err != wantErr {
		t.Error("New", size, "is", m, err, "not", wantErr)
	}
	wantNoDo(t, p, size, inputs, wantErr)
}

// wantNoDo asks Do for an error.
func wantNoDo(t *testing.T, p api.Program, size int, inputs [][]byte, wantErr error) {
	t.Helper()
	if outputs, err := Do(p, size, inputs); outputs != nil || err != wantErr {
		t.Error("Do", size, len(inputs), "is", outputs, err, "not", wantErr)
	}
}

// sameLists tells whether two lists of lists are the same, nil and empty ones being one.
func sameLists(a, b [][]byte) bool { return slices.EqualFunc(a, b, bytes.Equal) }

// wantDo asks Do for these outputs.
func wantDo(t *testing.T, p api.Program, size int, inputs, want [][]byte) {
	t.Helper()
	if outputs, err := Do(p, size, inputs); err != nil || !sameLists(outputs, want) {
		t.Error("Do", p, size, inputs, "is", outputs, err, "not", want)
	}
}

// wantMade asks a machine that is fed in this order of places, and Do, for the outputs of a program.
func wantMade(t *testing.T, p api.Program, size int, inputs [][]byte, order []int) {
	t.Helper()
	x := newPair(t, p, size)
	for _, place := range order {
		x.wantFeed(t, p.Inputs[place], inputs[place])
	}
	x.wantRun(t)
	x.wantState(t)
	wantDo(t, p, size, inputs, slowDo(p, size, inputs))
}

// parsed is the program of a text, which must be one's.
func parsed(t *testing.T, text string) api.Program {
	t.Helper()
	p, err := prog.Parse(text)
	if err != nil {
		t.Fatal("Parse", text, err)
	}
	return p
}

// example is the text of layer 9's first program.
const example = "in 2 5; out 0; regs 2; load 0 0; load 1 1; mul 0 3; add 0 7 1; store 0 0"

// randomStep is any step in form for these inputs and registers, but an OpOut.
func randomStep(r *rand.Rand, inputs, regs int) api.Step {
	dst, src, c := r.IntN(regs), r.IntN(regs), byte(r.Uint32())
	if r.IntN(4) == 0 {
		c = byte(r.IntN(2))
	}
	switch op := r.IntN(10); {
	case op < 3 && inputs > 0:
		return api.Step{Op: api.OpLoad, Dst: dst, Src: r.IntN(inputs)}
	case op < 4:
		return api.Step{Op: api.OpZero, Dst: dst}
	case op < 6:
		return api.Step{Op: api.OpMul, Dst: dst, C: c}
	}
	return api.Step{Op: api.OpAdd, Dst: dst, Src: src, C: c}
}

// randomList is a rising list of count halves.
func randomList(r *rand.Rand, count int) []int {
	list := r.Perm(32)[:count]
	slices.Sort(list)
	return list
}

// randomProgram is any program in form with these counts of things; there must be a register, and no more outputs than steps.
func randomProgram(r *rand.Rand, inputs, outputs, regs, steps int) api.Program {
	p := api.Program{Inputs: randomList(r, inputs), Outputs: randomList(r, outputs), Regs: regs}
	for range steps {
		p.Steps = append(p.Steps, randomStep(r, inputs, regs))
	}
	for output, place := range r.Perm(steps)[:outputs] {
		p.Steps[place] = api.Step{Op: api.OpOut, Dst: output, Src: r.IntN(regs)}
	}
	return p
}

// randomBytes is a list of size bytes.
func randomBytes(r *rand.Rand, size int) []byte {
	b := make([]byte, size)
	for i := range b {
		b[i] = byte(r.Uint32())
	}
	return b
}

// randomInputs is an input of size bytes for each that a program has.
func randomInputs(r *rand.Rand, p api.Program, size int) [][]byte {
	inputs := make([][]byte, len(p.Inputs))
	for place := range inputs {
		inputs[place] = randomBytes(r, size)
	}
	return inputs
}

// onRandom calls f with many programs in form, few of them long, and sizes.
func onRandom(f func(r *rand.Rand, p api.Program, size int)) {
	r := rand.New(rand.NewPCG(10, 1))
	for range 2000 {
		outputs := r.IntN(6)
		f(r, randomProgram(r, r.IntN(6), outputs, 1+r.IntN(6), outputs+r.IntN(20)), 1+r.IntN(8))
	}
	for range 40 {
		outputs := r.IntN(33)
		f(r, randomProgram(r, r.IntN(33), outputs, 1+r.IntN(64), outputs+r.IntN(400)), 1+r.IntN(64))
	}
}

func TestP10_1Examples(t *testing.T) {
	m, err := New(parsed(t, example), 2)
	if err != nil {
		t.Fatal(err)
	}
	wantErr := func(what string, err, want error) {
		t.Helper()
		if err != want {
			t.Error(what, "is", err, "not", want)
		}
	}
	if wanted := m.Wants(); !slices.Equal(wanted, []int{2, 5}) {
		t.Error("Wants", wanted)
	}
	wantErr("Feed 3", m.Feed(3, []byte{1, 2}), api.ErrHalf)
	wantErr("Feed 5, one byte", m.Feed(5, []byte{1}), api.ErrData)
	wantErr("Feed 5", m.Feed(5, []byte{1, 2}), nil)
	wantErr("Feed 5 again", m.Feed(5, []byte{1, 2}), api.ErrThere)
	wantErr("Run", m.Run(), api.ErrEmpty)
	_, err = m.Out(0)
	wantErr("Out 0", err, api.ErrEmpty)
	_, err = m.Out(1)
	wantErr("Out 1", err, api.ErrHalf)
	wantErr("Feed 2", m.Feed(2, []byte{1, 0}), nil)
	wantErr("Run", m.Run(), nil)
	b, err := m.Out(0)
	wantErr("Out 0", err, nil)
	if !bytes.Equal(b, []byte{4, 14}) {
		t.Error("Out 0", b)
	}
	wantDo(t, parsed(t, example), 2, [][]byte{{1, 0}, {1, 2}}, [][]byte{{4, 14}})
}

// TestP10_1Edges: programs with as little, and with as much, as there can be, at the least and the greatest size.
func TestP10_1Edges(t *testing.T) {
	r := rand.New(rand.NewPCG(10, 2))
	for _, size := range []int{1, 2, 63, 64} {
		for _, p := range []api.Program{
			{},
			{Inputs: []int{}, Outputs: []int{}, Steps: []api.Step{}},
			{Regs: 64},
			{Inputs: numbers(0, 32)},
			{Inputs: []int{31}},
			{Outputs: []int{31}, Regs: 64, Steps: []api.Step{{Op: 5, Src: 63}}},
			{Inputs: []int{31}, Outputs: []int{0}, Regs: 64, Steps: []api.Step{{Op: 1, Dst: 63}, {Op: 3, Dst: 63, C: 255}, {Op: 5, Src: 63}}},
			randomProgram(r, 0, 32, 1, 32),
			randomProgram(r, 32, 0, 64, 200),
			randomProgram(r, 32, 32, 64, 4096),
		} {
			newPair(t, p, size).wantState(t)
			wantMade(t, p, size, randomInputs(r, p, size), numbers(0, len(p.Inputs)))
		}
	}
}

// TestP10_1Steps: what single steps do, told by hand; (1, 2, 128) is input 0, (3, 0, 255) input 1.
func TestP10_1Steps(t *testing.T) {
	inputs := [][]byte{{1, 2, 128}, {3, 0, 255}}
	for text, want := range map[string]string{
		"in 0 1; out 0; regs 1; store 0 0":                                                      "\x00\x00\x00",
		"in 0 1; out 0; regs 1; load 0 0; store 0 0":                                            "\x01\x02\x80",
		"in 0 1; out 0; regs 1; load 0 1; store 0 0":                                            "\x03\x00\xff",
		"in 0 1; out 0; regs 2; load 1 0; store 0 0":                                            "\x00\x00\x00",
		"in 0 1; out 0; regs 1; load 0 0; load 0 1; store 0 0":                                  "\x03\x00\xff",
		"in 0 1; out 0; regs 1; load 0 0; zero 0; store 0 0":                                    "\x00\x00\x00",
		"in 0 1; out 0; regs 1; load 0 0; store 0 0; zero 0":                                    "\x01\x02\x80",
		"in 0 1; out 0; regs 1; load 0 0; store 0 0; mul 0 2":                                   "\x01\x02\x80",
		"in 0 1; out 0; regs 1; load 0 0; mul 0 2; store 0 0":                                   "\x02\x04\x1d",
		"in 0 1; out 0; regs 1; load 0 0; mul 0 0; store 0 0":                                   "\x00\x00\x00",
		"in 0 1; out 0; regs 1; load 0 0; mul 0 1; store 0 0":                                   "\x01\x02\x80",
		"in 0 1; out 0; regs 1; load 0 0; add 0 1 0; store 0 0":                                 "\x00\x00\x00",
		"in 0 1; out 0; regs 1; load 0 0; add 0 3 0; store 0 0":                                 "\x02\x04\x1d",
		"in 0 1; out 0; regs 2; load 0 0; load 1 1; add 0 0 1; store 0 0":                       "\x01\x02\x80",
		"in 0 1; out 0; regs 2; load 0 0; load 1 1; add 0 1 1; store 0 0":                       "\x02\x02\x7f",
		"in 0 1; out 0; regs 2; load 0 0; load 1 1; add 0 1 1; store 0 1":                       "\x03\x00\xff",
		"in 0 1; out 0; regs 2; load 0 1; load 1 0; add 0 2 1; load 1 1; store 0 0":             "\x01\x04\xe2",
		"in 0 1; out 8 9; regs 1; load 0 1; store 0 0; load 0 0; store 1 0":                     "\x03\x00\xff\x01\x02\x80",
		"in 0 1; out 8 9; regs 1; load 0 1; store 1 0; load 0 0; store 0 0":                     "\x01\x02\x80\x03\x00\xff",
		"in 0 1; out 8 9; regs 1; load 0 1; store 0 0; store 1 0; add 0 1 0":                    "\x03\x00\xff\x03\x00\xff",
		"in 0 1; out 8 9; regs 2; load 0 0; add 1 1 0; mul 0 2; store 0 0; store 1 1":           "\x02\x04\x1d\x01\x02\x80",
		"in 0 1; out 8 9; regs 2; load 0 0; load 1 0; mul 1 2; store 0 0; store 1 1":            "\x01\x02\x80\x02\x04\x1d",
		"in 0 1; out 8 9; regs 2; load 0 0; load 1 0; add 1 1 0; store 0 0; store 1 1":          "\x01\x02\x80\x00\x00\x00",
		"in 0 1; out 8 9; regs 2; load 0 0; load 1 0; mul 0 2; add 0 1 1; store 0 0; store 1 1": "\x03\x06\x9d\x01\x02\x80",
	} {
		p := parsed(t, text)
		var made []byte
		for _, b := range slowDo(p, 3, inputs) {
			made = append(made, b...)
		}
		if string(made) != want {
			t.Error("told wrongly by hand", text, made)
		}
		wantMade(t, p, 3, inputs, []int{0, 1})
	}
}

// TestP10_1Programs: all programs of up to three of some steps, with one output made behind them and one among them.
func TestP10_1Programs(t *testing.T) {
	all := []api.Step{{Op: 1}, {Op: 1, Dst: 1, Src: 1}, {Op: 2}, {Op: 2, Dst: 1}, {Op: 3, C: 2}, {Op: 3, Dst: 1}, {Op: 4, C: 3}, {Op: 4, Src: 1, C: 1}, {Op: 4, Dst: 1, C: 200}, {Op: 4, Dst: 1, Src: 1, C: 1}}
	inputs := [][]byte{{1, 80}, {7, 255}}
	for _, a := range all {
		for _, b := range all {
			for _, c := range all {
				for place := range 4 {
					steps := slices.Insert([]api.Step{a, b, c}, place, api.Step{Op: 5, Dst: 1})
					steps = append(steps, api.Step{Op: 5, Dst: 0, Src: 1}, api.Step{Op: 5, Dst: 2})
					p := api.Program{Inputs: []int{4, 9}, Outputs: []int{0, 4, 30}, Regs: 2, Steps: steps}
					wantDo(t, p, 2, inputs, slowDo(p, 2, inputs))
				}
			}
		}
	}
}

// TestP10_1Random: many programs, by a machine and by Do.
func TestP10_1Random(t *testing.T) {
	onRandom(func(r *rand.Rand, p api.Program, size int) {
		wantMade(t, p, size, randomInputs(r, p, size), r.Perm(len(p.Inputs)))
	})
}

// wrongPrograms is programs that aren't in form.
func wrongPrograms() []api.Program {
	return []api.Program{
		{Inputs: []int{2, 2}}, {Inputs: []int{3, 2}}, {Inputs: []int{32}}, {Inputs: []int{-1}}, {Inputs: numbers(0, 33)},
		{Outputs: []int{3}, Regs: 1}, {Outputs: []int{32}, Regs: 1, Steps: []api.Step{{Op: 5}}}, {Outputs: []int{1, 1}, Regs: 1, Steps: []api.Step{{Op: 5}, {Op: 5, Dst: 1}}},
		{Outputs: []int{1}, Regs: 1, Steps: []api.Step{{Op: 5}, {Op: 5}}}, {Outputs: []int{1}, Steps: []api.Step{{Op: 5}}},
		{Regs: -1}, {Regs: 65}, {Regs: math.MaxInt}, {Regs: math.MinInt},
		{Regs: 1, Steps: []api.Step{{}}}, {Regs: 1, Steps: []api.Step{{Op: 6}}}, {Regs: 1, Steps: []api.Step{{Op: -1}}}, {Regs: 1, Steps: []api.Step{{Op: math.MaxInt}}},
		{Regs: 1, Steps: []api.Step{{Op: 1}}}, {Regs: 1, Steps: []api.Step{{Op: 2, Dst: 1}}}, {Regs: 1, Steps: []api.Step{{Op: 2, C: 1}}}, {Regs: 1, Steps: []api.Step{{Op: 3, Dst: -1}}}, {Regs: 1, Steps: []api.Step{{Op: 4, Src: 1}}}, {Steps: []api.Step{{Op: 2}}},
		{Regs: 1, Steps: slices.Repeat([]api.Step{{Op: 2}}, 4097)}, {Regs: 1, Steps: slices.Repeat([]api.Step{{Op: 2}}, 1<<20)},
	}
}

// TestP10_1New: programs that aren't in form, and sizes that no half has; the program is asked first.
func TestP10_1New(t *testing.T) {
	for _, p := range wrongPrograms() {
		for _, size := range append(wrongSizes(), 1, 2, 64) {
			wantNone(t, p, size, nil, api.ErrProgram)
			wantNone(t, p, size, [][]byte{{1}, {2, 3}}, api.ErrProgram)
		}
	}
	for _, size := range wrongSizes() {
		wantNone(t, api.Program{}, size, nil, api.ErrNumber)
		wantNone(t, api.Program{}, size, [][]byte{{1}}, api.ErrNumber)
		wantNone(t, parsed(t, example), size, [][]byte{{1, 2}, {3, 4}}, api.ErrNumber)
		wantNone(t, parsed(t, example), size, [][]byte{{}, {}}, api.ErrNumber)
		wantNone(t, parsed(t, example), size, nil, api.ErrNumber)
	}
	wantNone(t, parsed(t, example), 65, [][]byte{make([]byte, 65), make([]byte, 65)}, api.ErrNumber)
	for size := 1; size <= 64; size++ {
		newPair(t, parsed(t, example), size).wantState(t)
	}
}

// TestP10_1Feed: inputs that aren't the program's, that were fed, or that haven't the size, in this order.
func TestP10_1Feed(t *testing.T) {
	wrongHalves := append(outside(32), numbers(0, 32)...)
	wrongHalves = slices.DeleteFunc(wrongHalves, func(half int) bool { return half == 2 || half == 5 })
	for size := 1; size <= 64; size++ {
		x := newPair(t, parsed(t, example), size)
		for range 2 {
			for _, half := range wrongHalves {
				x.wantFeed(t, half, make([]byte, size))
				x.wantFeed(t, half, nil)
			}
			x.wantFeed(t, 2, make([]byte, size-1))
			x.wantFeed(t, 2, make([]byte, size+1))
			x.wantFeed(t, 2, make([]byte, size+256))
			x.wantFeed(t, 2, nil)
			x.wantFeed(t, 5, []byte{})
			x.wantWants(t)
			x.wantFeed(t, 5, make([]byte, size))
			x.wantRun(t)
			x.wantState(t)
			x.wantFeed(t, 2, make([]byte, size))
			x.wantRun(t)
			x.wantState(t)
		}
		x.wantFeed(t, 5, make([]byte, 1<<22))
	}
}

// TestP10_1Refused: what was refused changes nothing of what is made (rule 3).
func TestP10_1Refused(t *testing.T) {
	x := newPair(t, parsed(t, example), 2)
	x.wantFeed(t, 2, []byte{9, 9, 9})
	x.wantFeed(t, 2, []byte{1, 0})
	x.wantFeed(t, 2, []byte{8, 8})
	x.wantRun(t)
	x.wantFeed(t, 5, []byte{7})
	x.wantFeed(t, 5, []byte{1, 2})
	x.wantState(t)
	x.wantRun(t)
	x.wantFeed(t, 2, []byte{6, 6})
	x.wantFeed(t, 5, []byte{6, 6})
	x.wantState(t)
	x.wantRun(t)
	x.wantState(t)
}

// TestP10_1Again: a program that is run again makes the same, whatever its registers held in the end.
func TestP10_1Again(t *testing.T) {
	for _, text := range []string{
		example,
		"in 2 5; out 0; regs 1; store 0 0; load 0 0",
		"in 2 5; out 0 1; regs 3; add 0 1 1; store 0 0; load 1 0; add 2 2 1; store 1 2; load 2 1",
		"in 2 5; out 3; regs 2; load 0 0; add 1 5 0; store 0 1; add 1 9 0",
	} {
		x := newPair(t, parsed(t, text), 2)
		x.wantFeed(t, 5, []byte{3, 255})
		x.wantFeed(t, 2, []byte{1, 2})
		x.wantState(t)
		for range 3 {
			x.wantRun(t)
			x.wantState(t)
		}
	}
}

// call is one of some calls of a pair of the first program, with sizes that are right and wrong.
func (x pair) call(t *testing.T, number int) {
	t.Helper()
	switch number {
	case 0:
		x.wantFeed(t, 2, []byte{1, 200})
	case 1:
		x.wantFeed(t, 5, []byte{30, 4})
	case 2:
		x.wantFeed(t, 5, []byte{99, 98})
	case 3:
		x.wantFeed(t, 2, []byte{5})
	case 4:
		x.wantFeed(t, 0, []byte{6, 7})
	case 5:
		x.wantRun(t)
	}
	x.wantWants(t)
	x.wantOut(t, 0)
	x.wantOut(t, 2)
}

// TestP10_1Orders: all orders of up to six of these calls.
func TestP10_1Orders(t *testing.T) {
	p := parsed(t, example)
	for order := range 6 * 6 * 6 * 6 * 6 * 6 {
		x := newPair(t, p, 2)
		for rest := order; rest > 0; rest /= 6 {
			x.call(t, rest%6)
		}
	}
}

// anyCall makes any call of a pair, and may be wrong.
func (x pair) anyCall(t *testing.T, r *rand.Rand) {
	t.Helper()
	half, size := r.IntN(34)-1, x.slow.size
	if r.IntN(8) == 0 {
		size = r.IntN(66)
	}
	wanted := x.slow.wants()
	if len(wanted) > 0 && r.IntN(2) == 0 {
		half = wanted[r.IntN(len(wanted))]
	}
	switch r.IntN(6) {
	case 0:
		x.wantWants(t)
	case 1:
		x.wantRun(t)
	case 2:
		x.wantOut(t, half)
		for _, output := range x.slow.p.Outputs {
			x.wantOut(t, output)
		}
	default:
		x.wantFeed(t, half, randomBytes(r, size))
	}
}

// TestP10_1Several: any calls on several machines, some of one program, in turns.
func TestP10_1Several(t *testing.T) {
	r := rand.New(rand.NewPCG(10, 3))
	done := 0
	for range 200 {
		var pairs []pair
		p := randomProgram(r, 3, 3, 4, 20)
		for range 5 {
			pairs = append(pairs, newPair(t, p, 1+r.IntN(5)))
			if r.IntN(2) == 0 {
				p = randomProgram(r, r.IntN(7), r.IntN(7), 1+r.IntN(6), 6+r.IntN(20))
			}
		}
		for range 300 {
			pairs[r.IntN(len(pairs))].anyCall(t, r)
		}
		for _, x := range pairs {
			x.wantState(t)
			if x.slow.ran {
				done++
			}
		}
	}
	if done < 500 {
		t.Error("too few machines have run", done)
	}
}

// TestP10_1Do: inputs that aren't as many as the program has, or that haven't the size.
func TestP10_1Do(t *testing.T) {
	r := rand.New(rand.NewPCG(10, 4))
	for count := range 6 {
		p := randomProgram(r, count, 2, 3, 12)
		for size := 1; size <= 64; size += 7 {
			inputs := randomInputs(r, p, size)
			wantDo(t, p, size, inputs, slowDo(p, size, inputs))
			wantNoDo(t, p, size, append(slices.Clone(inputs), make([]byte, size)), api.ErrData)
			wantNoDo(t, p, size, append(slices.Clone(inputs), nil), api.ErrData)
			for place := range inputs {
				wantNoDo(t, p, size, append(slices.Clone(inputs), inputs...), api.ErrData)
				wantNoDo(t, p, size, slices.Delete(slices.Clone(inputs), place, place+1), api.ErrData)
				for _, wrong := range [][]byte{nil, {}, make([]byte, size-1), make([]byte, size+1), make([]byte, 256+size)} {
					wantNoDo(t, p, size, slices.Replace(slices.Clone(inputs), place, place+1, wrong), api.ErrData)
				}
			}
		}
	}
	wantNoDo(t, api.Program{}, 1, make([][]byte, 1<<22), api.ErrData)
	wantNoDo(t, parsed(t, example), 1, make([][]byte, 1<<22), api.ErrData)
	wantNoDo(t, parsed(t, example), 64, [][]byte{make([]byte, 1<<22), make([]byte, 64)}, api.ErrData)
	wantDo(t, api.Program{}, 1, nil, nil)
	wantDo(t, api.Program{}, 64, [][]byte{}, nil)
}

// TestP10_1Given: what is handed in is neither changed nor kept, and what lies behind its length not read (rule 4).
func TestP10_1Given(t *testing.T) {
	want := parsed(t, example)
	inputs := append(slices.Grow(slices.Clone(want.Inputs), 9), 7, 8)
	outputs := append(slices.Grow(slices.Clone(want.Outputs), 9), 7, 8)
	steps := append(slices.Grow(slices.Clone(want.Steps), 9), api.Step{Op: 99}, api.Step{Op: 5})
	p := api.Program{Inputs: inputs[:2], Outputs: outputs[:1], Regs: 2, Steps: steps[:5]}
	keptInputs, keptOutputs, keptSteps := slices.Clone(inputs), slices.Clone(outputs), slices.Clone(steps)
	m, err := New(p, 2)
	if err != nil {
		t.Fatal(err)
	}
	x := pair{m, &slowMachine{p: want, size: 2, fed: map[int][]byte{}}}
	first, second := []byte{1, 0, 99, 98}, []byte{1, 2, 97, 96}
	x.wantFeed(t, 5, second[:2])
	x.wantFeed(t, 2, first[:2])
	x.wantRun(t)
	wantDo(t, p, 2, [][]byte{first[:2], second[:2], {1}}[:2], [][]byte{{4, 14}})
	if !slices.Equal(inputs, keptInputs) || !slices.Equal(outputs, keptOutputs) || !slices.Equal(steps, keptSteps) {
		t.Error("a call changes a program", inputs, outputs, steps)
	}
	if !bytes.Equal(first, []byte{1, 0, 99, 98}) || !bytes.Equal(second, []byte{1, 2, 97, 96}) {
		t.Error("a call changes an input", first, second)
	}
	for _, list := range [][]int{inputs, outputs} {
		clear(list[:cap(list)])
	}
	clear(steps[:cap(steps)])
	clear(first)
	clear(second)
	x.wantState(t)
	x.wantRun(t)
	x.wantState(t)
}

// TestP10_1GivenAhead: a program and inputs that are changed ahead of the run are nothing to the machine.
func TestP10_1GivenAhead(t *testing.T) {
	want, p := parsed(t, example), parsed(t, example)
	m, err := New(p, 2)
	if err != nil {
		t.Fatal(err)
	}
	x := pair{m, &slowMachine{p: want, size: 2, fed: map[int][]byte{}}}
	clear(p.Inputs)
	x.wantWants(t)
	clear(p.Steps)
	p.Outputs[0] = 9
	for _, half := range []int{2, 5} {
		b := []byte{byte(half), 255}
		x.wantFeed(t, half, b)
		clear(b)
	}
	x.wantRun(t)
	x.wantState(t)
}

// TestP10_1Memory: answers are new memory, with nothing behind their lengths (rule 4).
func TestP10_1Memory(t *testing.T) {
	x := newPair(t, parsed(t, "in 2 5; out 0 1 2; regs 2; load 0 0; store 0 0; store 1 0; load 1 1; mul 1 2; store 2 1"), 3)
	spoil := func(b []byte) {
		t.Helper()
		for i, y := range b[:cap(b)] {
			if i >= len(b) && y != 0 {
				t.Error("an answer hands out behind its length", b[:cap(b)])
			}
			b[:cap(b)][i] = 170
		}
	}
	spoilWants := func() {
		wanted := x.m.Wants()
		for i, y := range wanted[:cap(wanted)] {
			if i >= len(wanted) && y != 0 {
				t.Error("Wants hands out behind its length", wanted[:cap(wanted)])
			}
			wanted[:cap(wanted)][i] = 31
		}
	}
	spoilWants()
	x.wantState(t)
	x.wantFeed(t, 2, []byte{1, 2, 3})
	spoilWants()
	x.wantFeed(t, 5, []byte{4, 5, 6})
	for range 2 {
		x.wantRun(t)
		for _, half := range []int{0, 1, 2} {
			b, err := x.m.Out(half)
			if err != nil {
				t.Error("Out", half, err)
			}
			spoil(b)
			x.wantState(t)
		}
	}
	inputs := [][]byte{{1, 2, 3}, {4, 5, 6}}
	want := slowDo(x.slow.p, 3, inputs)
	for place := range 3 {
		outputs, err := Do(x.slow.p, 3, inputs)
		if err != nil {
			t.Fatal(err)
		}
		spoil(outputs[place])
		outputs[place] = want[place]
		if !sameLists(outputs, want) || !sameLists(inputs, [][]byte{{1, 2, 3}, {4, 5, 6}}) {
			t.Error("Do shares its memory", outputs, inputs)
		}
	}
}

// TestP10_1One: inputs that are one and the same list, or pieces of one, are nothing to one another.
func TestP10_1One(t *testing.T) {
	p := parsed(t, "in 2 5; out 0 1; regs 2; load 0 0; load 1 1; mul 0 3; add 1 7 0; store 0 0; store 1 1")
	b := []byte{1, 2, 3, 4}
	for _, inputs := range [][][]byte{{b[:2], b[:2]}, {b[:2], b[1:3]}, {b[2:], b[:2]}} {
		want := slowDo(p, 2, inputs)
		wantDo(t, p, 2, inputs, want)
		wantMade(t, p, 2, inputs, []int{1, 0})
	}
	if !bytes.Equal(b, []byte{1, 2, 3, 4}) {
		t.Error("a call changes an input", b)
	}
}

// onOrders calls f with all orders of a list.
func onOrders(ahead, list []int, f func(order []int)) {
	if len(list) == 0 {
		f(ahead)
	}
	for i, number := range list {
		onOrders(append(slices.Clone(ahead), number), slices.Delete(slices.Clone(list), i, i+1), f)
	}
}

// TestP10_2Orders: inputs fed in all orders make the same.
func TestP10_2Orders(t *testing.T) {
	r := rand.New(rand.NewPCG(10, 5))
	for count := range 6 {
		p := randomProgram(r, count, 4, 4, 30)
		inputs := randomInputs(r, p, 3)
		onOrders(nil, numbers(0, count), func(order []int) { wantMade(t, p, 3, inputs, order) })
	}
}

// TestP10_2Meaning: each output is, byte by byte, the meaning's row times the inputs.
func TestP10_2Meaning(t *testing.T) {
	onRandom(func(r *rand.Rand, p api.Program, size int) {
		inputs := randomInputs(r, p, size)
		m, meaningErr := prog.Meaning(p)
		outputs, err := Do(p, size, inputs)
		if meaningErr != nil || err != nil || len(outputs) != m.Rows {
			t.Fatal(p, meaningErr, outputs, err)
		}
		for i := range size {
			var column []byte
			for _, b := range inputs {
				column = append(column, b[i])
			}
			want, err := mat.Times(m, column)
			if err != nil {
				t.Fatal(err)
			}
			for output, b := range outputs {
				if len(b) != size || b[i] != want[output] {
					t.Error("Do", p, inputs, "is", outputs, "not", want, "at", output, i)
				}
			}
		}
	})
}

// TestP10_2Factors: all products of two bytes, by OpMul and by OpAdd.
func TestP10_2Factors(t *testing.T) {
	for c := range 256 {
		for _, step := range []api.Step{{Op: 3, C: byte(c)}, {Op: 4, C: byte(c) ^ 1}} {
			p := api.Program{Inputs: []int{0}, Outputs: []int{0}, Regs: 1, Steps: []api.Step{{Op: 1}, step, {Op: 5}}}
			for from := 0; from < 256; from += 64 {
				var input, want []byte
				for x := from; x < from+64; x++ {
					input = append(input, byte(x))
					want = append(want, slowProduct(byte(c), byte(x)))
				}
				wantDo(t, p, 64, [][]byte{input}, [][]byte{want})
			}
		}
	}
}

// summed is the sums of two lists of inputs, or outputs.
func summed(a, b [][]byte) [][]byte {
	sums := make([][]byte, len(a))
	for place := range a {
		for i := range a[place] {
			sums[place] = append(sums[place], a[place][i]^b[place][i])
		}
	}
	return sums
}

// TestP10_3Sums: sums of inputs make sums of outputs.
func TestP10_3Sums(t *testing.T) {
	onRandom(func(r *rand.Rand, p api.Program, size int) {
		a, b := randomInputs(r, p, size), randomInputs(r, p, size)
		ofA, errA := Do(p, size, a)
		ofB, errB := Do(p, size, b)
		if errA != nil || errB != nil {
			t.Fatal("Do", p, errA, errB)
		}
		wantDo(t, p, size, summed(a, b), summed(ofA, ofB))
		wantDo(t, p, size, summed(a, a), summed(ofA, ofA))
	})
}
