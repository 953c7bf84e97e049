package prog

import (
	"bytes"
	"fmt"
	"math"
	"math/rand/v2"
	"regexp"
	"slices"
	"strconv"
	"strings"
	"testing"

	"tessera/api"
	"tessera/mat"
)

// outside is numbers that aren't 0 to count - 1, with count itself, and some whose low bits are.
func outside(count int) []int {
	return []int{
		math.MinInt, math.MinInt + 1, math.MinInt / 2, -1 << 32, -256, -2, -1,
		count, count + 1, 256, 256 + count, 1 << 16, 1 << 32, 1<<32 + 1,
		math.MaxInt / 2, math.MaxInt/2 + 1, math.MaxInt - 1, math.MaxInt,
	}
}

// numbers is the numbers from from to to - 1.
func numbers(from, to int) []int {
	var list []int
	for number := from; number < to; number++ {
		list = append(list, number)
	}
	return list
}

// slowProduct is the product of polynomials modulo 285, bit by bit.
func slowProduct(a, b byte) byte {
	product := 0
	for bit := range 8 {
		product ^= int(b) >> bit & 1 * (int(a) << bit)
	}
	for bit := 15; bit >= 8; bit-- {
		product ^= product >> bit & 1 * (285 << (bit - 8))
	}
	return byte(product)
}

// slowRises tells whether a list is 0 to 31 at most, each once, in order.
func slowRises(list []int) bool {
	var want []int
	for number := range 32 {
		if slices.Contains(list, number) {
			want = append(want, number)
		}
	}
	return slices.Equal(list, want)
}

// slowStepFits tells whether a step is in form, by the chapter's table.
func slowStepFits(p api.Program, s api.Step) bool {
	register := func(number int) bool { return slices.Contains(numbers(0, p.Regs), number) }
	input := slices.Contains(numbers(0, len(p.Inputs)), s.Src)
	output := slices.Contains(numbers(0, len(p.Outputs)), s.Dst)
	switch s.Op {
	case 1:
		return register(s.Dst) && input && s.C == 0
	case 2:
		return register(s.Dst) && s.Src == 0 && s.C == 0
	case 3:
		return register(s.Dst) && s.Src == 0
	case 4:
		return register(s.Dst) && register(s.Src)
	case 5:
		return output && register(s.Src) && s.C == 0
	}
	return false
}

// slowFits tells whether a program is in form.
func slowFits(p api.Program) bool {
	if !slowRises(p.Inputs) || !slowRises(p.Outputs) || p.Regs < 0 || p.Regs > 64 || len(p.Steps) > 4096 {
		return false
	}
	times := map[int]int{}
	for _, s := range p.Steps {
		if !slowStepFits(p, s) {
			return false
		}
		if s.Op == 5 {
			times[s.Dst]++
		}
	}
	for output := range p.Outputs {
		if times[output] != 1 {
			return false
		}
	}
	return true
}

// slowRun is the outputs of a program in form, for inputs of one byte each.
func slowRun(p api.Program, inputs []byte) []byte {
	registers := make([]byte, p.Regs)
	outputs := make([]byte, len(p.Outputs))
	for _, s := range p.Steps {
		switch s.Op {
		case 1:
			registers[s.Dst] = inputs[s.Src]
		case 2:
			registers[s.Dst] = 0
		case 3:
			registers[s.Dst] = slowProduct(s.C, registers[s.Dst])
		case 4:
			registers[s.Dst] ^= slowProduct(s.C, registers[s.Src])
		case 5:
			outputs[s.Dst] = registers[s.Src]
		}
	}
	return outputs
}

// slowMeaning is the matrix whose columns are the outputs of each input that is 1, all others being 0.
func slowMeaning(p api.Program) api.Matrix {
	m := api.Matrix{Rows: len(p.Outputs), Cols: len(p.Inputs), Cells: make([]byte, len(p.Outputs)*len(p.Inputs))}
	for input := range p.Inputs {
		inputs := make([]byte, len(p.Inputs))
		inputs[input] = 1
		for output, x := range slowRun(p, inputs) {
			m.Cells[output*m.Cols+input] = x
		}
	}
	return m
}

// slowAsked is the registers that are asked for ahead of the steps from place on.
func slowAsked(p api.Program, place int) map[int]bool {
	set := map[int]bool{}
	for i := len(p.Steps) - 1; i >= place; i-- {
		s := p.Steps[i]
		if s.Op == 5 || s.Op == 4 && set[s.Dst] {
			set[s.Src] = true
		}
		if s.Op == 1 || s.Op == 2 {
			delete(set, s.Dst)
		}
	}
	return set
}

// slowTrim is the steps that aren't idle, each asked by itself.
func slowTrim(p api.Program) []api.Step {
	var steps []api.Step
	for i, s := range p.Steps {
		if s.Op == 5 || slowAsked(p, i+1)[s.Dst] {
			steps = append(steps, s)
		}
	}
	return steps
}

// slowCount is how many steps have each operation.
func slowCount(p api.Program) [6]int {
	var counts [6]int
	for op := range counts {
		for _, s := range p.Steps {
			if s.Op == op {
				counts[op]++
			}
		}
	}
	return counts
}

// slowText is the text of a program in form.
func slowText(p api.Program) string {
	text := "in"
	for _, number := range p.Inputs {
		text += fmt.Sprintf(" %d", number)
	}
	text += "; out"
	for _, number := range p.Outputs {
		text += fmt.Sprintf(" %d", number)
	}
	text += fmt.Sprintf("; regs %d", p.Regs)
	var rest strings.Builder
	for _, s := range p.Steps {
		switch s.Op {
		case 1:
			fmt.Fprintf(&rest, "; load %d %d", s.Dst, s.Src)
		case 2:
			fmt.Fprintf(&rest, "; zero %d", s.Dst)
		case 3:
			fmt.Fprintf(&rest, "; mul %d %d", s.Dst, s.C)
		case 4:
			fmt.Fprintf(&rest, "; add %d %d %d", s.Dst, s.C, s.Src)
		case 5:
			fmt.Fprintf(&rest, "; store %d %d", s.Dst, s.Src)
		}
	}
	return text + rest.String()
}

// isText is the form of texts, but for what the numbers say.
var isText = regexp.MustCompile(`\Ain( (0|[1-9][0-9]{0,2}))*; out( (0|[1-9][0-9]{0,2}))*; regs (0|[1-9][0-9]{0,2})(; ((load|mul|store) (0|[1-9][0-9]{0,2}) (0|[1-9][0-9]{0,2})|zero (0|[1-9][0-9]{0,2})|add (0|[1-9][0-9]{0,2}) (0|[1-9][0-9]{0,2}) (0|[1-9][0-9]{0,2})))*\z`)

// slowNumbers is the numbers of a piece, all of them having the form.
func slowNumbers(piece string) []int {
	var list []int
	for _, word := range strings.Fields(piece)[1:] {
		number, _ := strconv.Atoi(word)
		list = append(list, number)
	}
	return list
}

// slowParse is the program of a text, and whether it is one's.
func slowParse(text string) (api.Program, bool) {
	if !isText.MatchString(text) {
		return api.Program{}, false
	}
	pieces := strings.Split(text, "; ")
	p := api.Program{Inputs: slowNumbers(pieces[0]), Outputs: slowNumbers(pieces[1]), Regs: slowNumbers(pieces[2])[0]}
	for _, piece := range pieces[3:] {
		list := append(slowNumbers(piece), 0, 0)
		switch piece[0] {
		case 'l':
			p.Steps = append(p.Steps, api.Step{Op: 1, Dst: list[0], Src: list[1]})
		case 'z':
			p.Steps = append(p.Steps, api.Step{Op: 2, Dst: list[0]})
		case 'm':
			p.Steps = append(p.Steps, api.Step{Op: 3, Dst: list[0], C: byte(min(list[1], 255))})
		case 'a':
			p.Steps = append(p.Steps, api.Step{Op: 4, Dst: list[0], C: byte(min(list[1], 255)), Src: list[2]})
		case 's':
			p.Steps = append(p.Steps, api.Step{Op: 5, Dst: list[0], Src: list[1]})
		}
		if (piece[0] == 'm' || piece[0] == 'a') && list[1] > 255 {
			return api.Program{}, false
		}
	}
	return p, slowFits(p)
}

// same tells whether two programs are the same, nil and empty lists being one.
func same(a, b api.Program) bool {
	return slices.Equal(a.Inputs, b.Inputs) && slices.Equal(a.Outputs, b.Outputs) && a.Regs == b.Regs && slices.Equal(a.Steps, b.Steps)
}

// isZero tells whether an answer is the zero value, as it must be beside an error.
func isZero(p api.Program) bool { return same(p, api.Program{}) }

// wantCheck asks Check for an error or none.
func wantCheck(t *testing.T, p api.Program, wantErr error) {
	t.Helper()
	if err := Check(p); err != wantErr {
		t.Error("Check", p, "is", err, "not", wantErr)
	}
}

// wantMeaning asks Meaning for a matrix.
func wantMeaning(t *testing.T, p api.Program, want api.Matrix) {
	t.Helper()
	if m, err := Meaning(p); err != nil || !mat.Same(m, want) {
		t.Error("Meaning", p, "is", m, err, "not", want)
	}
}

// wantTrim asks Trim for the program with these steps.
func wantTrim(t *testing.T, p api.Program, steps []api.Step) {
	t.Helper()
	want := api.Program{Inputs: p.Inputs, Outputs: p.Outputs, Regs: p.Regs, Steps: steps}
	if q, err := Trim(p); err != nil || !same(q, want) {
		t.Error("Trim", p, "is", q, err, "not", want)
	}
}

// wantCount asks Count for these counts.
func wantCount(t *testing.T, p api.Program, want [6]int) {
	t.Helper()
	if counts, err := Count(p); err != nil || counts != want {
		t.Error("Count", p, "is", counts, err, "not", want)
	}
}

// wantText asks Text for this text.
func wantText(t *testing.T, p api.Program, want string) {
	t.Helper()
	if text, err := Text(p); err != nil || text != want {
		t.Error("Text", p, "is", text, err, "not", want)
	}
}

// wantParse asks Parse for this program.
func wantParse(t *testing.T, text string, want api.Program) {
	t.Helper()
	if p, err := Parse(text); err != nil || !same(p, want) {
		t.Error("Parse", strconv.Quote(text), "is", p, err, "not", want)
	}
}

// short is a text, or what it begins with, quoted.
func short(text string) string { return strconv.Quote(text[:min(len(text), 200)]) }

// wantNone asks that Parse refuses a text.
func wantNone(t *testing.T, text string) {
	t.Helper()
	if p, err := Parse(text); err != api.ErrProgram || !isZero(p) {
		t.Error("Parse", short(text), "is", p, err, "not refused")
	}
}

// wantAll asks all calls for what they must answer of a program in form.
func wantAll(t *testing.T, p api.Program) {
	t.Helper()
	wantCheck(t, p, nil)
	wantMeaning(t, p, slowMeaning(p))
	wantTrim(t, p, slowTrim(p))
	wantCount(t, p, slowCount(p))
	wantText(t, p, slowText(p))
	wantParse(t, slowText(p), p)
}

// wantRefused asks that all calls refuse a program that isn't in form, and answer no more.
func wantRefused(t *testing.T, p api.Program) {
	t.Helper()
	shown := p
	shown.Steps = p.Steps[:min(len(p.Steps), 20)]
	shown.Inputs, shown.Outputs = p.Inputs[:min(len(p.Inputs), 40)], p.Outputs[:min(len(p.Outputs), 40)]
	wantErr := func(what string, zero bool, err error) {
		t.Helper()
		if err != api.ErrProgram || !zero {
			t.Error(what, shown, "is", err, zero, "not refused")
		}
	}
	wantErr("Check", true, Check(p))
	m, err := Meaning(p)
	wantErr("Meaning", m.Rows == 0 && m.Cols == 0 && len(m.Cells) == 0, err)
	q, err := Trim(p)
	wantErr("Trim", isZero(q), err)
	counts, err := Count(p)
	wantErr("Count", counts == [6]int{}, err)
	text, err := Text(p)
	wantErr("Text", text == "", err)
}

// wantRight asks all calls for what they must answer of a program, in form or not.
func wantRight(t *testing.T, p api.Program) {
	t.Helper()
	if slowFits(p) {
		wantAll(t, p)
		return
	}
	wantRefused(t, p)
}

// parsed is the program of a text, which must be one's.
func parsed(t *testing.T, text string) api.Program {
	t.Helper()
	p, err := Parse(text)
	if err != nil {
		t.Fatal("Parse", text, err)
	}
	return p
}

// example is the chapter's first program.
func example() api.Program {
	return api.Program{Inputs: []int{2, 5}, Outputs: []int{0}, Regs: 2, Steps: []api.Step{
		{Op: api.OpLoad, Dst: 0, Src: 0}, {Op: api.OpLoad, Dst: 1, Src: 1},
		{Op: api.OpMul, Dst: 0, C: 3}, {Op: api.OpAdd, Dst: 0, C: 7, Src: 1}, {Op: api.OpOut, Dst: 0, Src: 0},
	}}
}

// exampleText is its text.
const exampleText = "in 2 5; out 0; regs 2; load 0 0; load 1 1; mul 0 3; add 0 7 1; store 0 0"

// randomStep is any step in form for these inputs and registers, but an OpOut.
func randomStep(r *rand.Rand, inputs, regs int) api.Step {
	dst, src, c := r.IntN(regs), r.IntN(regs), byte(r.Uint32())
	if r.IntN(4) == 0 {
		c = byte(r.IntN(2))
	}
	switch op := r.IntN(10); {
	case op < 3 && inputs > 0:
		return api.Step{Op: api.OpLoad, Dst: dst, Src: r.IntN(inputs)}
	case op < 4:
		return api.Step{Op: api.OpZero, Dst: dst}
	case op < 6:
		return api.Step{Op: api.OpMul, Dst: dst, C: c}
	}
	return api.Step{Op: api.OpAdd, Dst: dst, Src: src, C: c}
}

// randomList is a rising list of count halves.
func randomList(r *rand.Rand, count int) []int {
	list := r.Perm(32)[:count]
	slices.Sort(list)
	return list
}

// randomProgram is any program in form with these counts of things; there must be a register, and no more outputs than steps.
func randomProgram(r *rand.Rand, inputs, outputs, regs, steps int) api.Program {
	p := api.Program{Inputs: randomList(r, inputs), Outputs: randomList(r, outputs), Regs: regs}
	for range steps {
		p.Steps = append(p.Steps, randomStep(r, inputs, regs))
	}
	for output, place := range r.Perm(steps)[:outputs] {
		p.Steps[place] = api.Step{Op: api.OpOut, Dst: output, Src: r.IntN(regs)}
	}
	return p
}

// onRandom calls f with many programs in form, few of them long.
func onRandom(t *testing.T, f func(t *testing.T, r *rand.Rand, p api.Program)) {
	r := rand.New(rand.NewPCG(9, 1))
	for range 3000 {
		outputs := r.IntN(6)
		f(t, r, randomProgram(r, r.IntN(6), outputs, 1+r.IntN(6), outputs+r.IntN(20)))
	}
	for range 40 {
		outputs := r.IntN(33)
		f(t, r, randomProgram(r, r.IntN(33), outputs, 1+r.IntN(64), outputs+r.IntN(400)))
	}
}

func TestP9_1Examples(t *testing.T) {
	wantParse(t, exampleText, example())
	wantText(t, example(), exampleText)
	wantMeaning(t, example(), api.Matrix{Rows: 1, Cols: 2, Cells: []byte{3, 7}})
	wantTrim(t, example(), example().Steps)
	wantCount(t, example(), [6]int{0, 2, 0, 1, 1, 1})
	wantTrim(t, parsed(t, exampleText+"; zero 1"), example().Steps)
	none := parsed(t, "in; out 3; regs 1; store 0 0")
	wantMeaning(t, none, api.Matrix{Rows: 1, Cols: 0})
	wantAll(t, none)
	wantNone(t, "in; out 3; regs 1")
	wantNone(t, "in 2 2; out; regs 0")
}

// TestP9_1Numbers: the operations have the numbers, and the texts the words, that they are told by.
func TestP9_1Numbers(t *testing.T) {
	steps := []api.Step{{Op: 1, Dst: 1, Src: 2}, {Op: 2, Dst: 3}, {Op: 3, Dst: 4, C: 5}, {Op: 4, Dst: 6, Src: 7, C: 8}, {Op: 5, Dst: 1, Src: 9}, {Op: 5, Dst: 0, Src: 1}}
	p := api.Program{Inputs: []int{0, 9, 31}, Outputs: []int{10, 20}, Regs: 10, Steps: steps}
	wantText(t, p, "in 0 9 31; out 10 20; regs 10; load 1 2; zero 3; mul 4 5; add 6 8 7; store 1 9; store 0 1")
	wantAll(t, p)
}

// TestP9_1Edges: programs with as little, and with as much, as there can be.
func TestP9_1Edges(t *testing.T) {
	wantAll(t, api.Program{})
	wantAll(t, api.Program{Inputs: []int{}, Outputs: []int{}, Steps: []api.Step{}})
	wantText(t, api.Program{}, "in; out; regs 0")
	wantAll(t, api.Program{Regs: 64})
	wantAll(t, api.Program{Inputs: numbers(0, 32)})
	wantMeaning(t, api.Program{Inputs: numbers(0, 32)}, api.Matrix{Rows: 0, Cols: 32})
	r := rand.New(rand.NewPCG(9, 2))
	for _, regs := range []int{1, 2, 64} {
		wantAll(t, randomProgram(r, 32, 32, regs, 32))
		wantAll(t, randomProgram(r, 0, 32, regs, 32))
		wantAll(t, randomProgram(r, 32, 0, regs, 100))
	}
	wantAll(t, api.Program{Outputs: []int{31}, Regs: 64, Steps: []api.Step{{Op: 5, Src: 63}}})
	wantAll(t, api.Program{Inputs: []int{31}, Regs: 64, Steps: []api.Step{{Op: 1, Dst: 63}, {Op: 2, Dst: 63}, {Op: 3, Dst: 63, C: 255}, {Op: 4, Dst: 63, Src: 63, C: 255}}})
}

// TestP9_1Many: as many steps as there can be, and one more.
func TestP9_1Many(t *testing.T) {
	r := rand.New(rand.NewPCG(9, 3))
	p := randomProgram(r, 32, 32, 64, 4096)
	wantCheck(t, p, nil)
	wantMeaning(t, p, slowMeaning(p))
	wantCount(t, p, slowCount(p))
	wantText(t, p, slowText(p))
	wantParse(t, slowText(p), p)
	trimmed, err := Trim(p)
	if err != nil || len(trimmed.Steps) == len(p.Steps) {
		t.Error("Trim", len(trimmed.Steps), err)
	}
	wantMeaning(t, trimmed, slowMeaning(p))
	more := p
	more.Steps = append(slices.Clone(p.Steps), api.Step{Op: api.OpZero})
	wantRefused(t, more)
	wantNone(t, slowText(more))
	wantNone(t, slowText(p)+"; ")
	wantNone(t, slowText(more)+"; zero 0")
}

// TestP9_1Steps: all calls at all programs of up to four steps, in form or not.
func TestP9_1Steps(t *testing.T) {
	all := []api.Step{{Op: 1}, {Op: 1, Dst: 1}, {Op: 2}, {Op: 2, Dst: 1}, {Op: 3, C: 2}, {Op: 3, Dst: 1}, {Op: 4, C: 3}, {Op: 4, Src: 1}, {Op: 4, Dst: 1, C: 2}, {Op: 4, Dst: 1, Src: 1, C: 1}, {Op: 5}, {Op: 5, Src: 1}, {Op: 5, Dst: 1}, {Op: 5, Dst: 1, Src: 1}}
	for _, p := range []api.Program{{Inputs: []int{7}, Outputs: []int{0}}, {Inputs: []int{7}, Outputs: []int{0, 31}}, {Inputs: []int{1, 2}}, {Outputs: []int{4}}} {
		for count := range 5 {
			onSteps(all, count, nil, func(steps []api.Step) {
				p.Steps = steps
				p.Regs = 2
				wantRight(t, p)
			})
		}
	}
}

// onSteps calls f with all lists of so many of these steps more.
func onSteps(all []api.Step, count int, ahead []api.Step, f func(steps []api.Step)) {
	if count == 0 {
		f(ahead)
		return
	}
	for _, step := range all {
		onSteps(all, count-1, append(slices.Clone(ahead), step), f)
	}
}

// TestP9_1Random: all calls at many programs, in form and not quite.
func TestP9_1Random(t *testing.T) {
	onRandom(t, func(t *testing.T, r *rand.Rand, p api.Program) {
		wantAll(t, p)
		p.Regs--
		wantRight(t, p)
		p.Regs++
		if len(p.Steps) == 0 {
			return
		}
		p.Steps = slices.Delete(slices.Clone(p.Steps), r.IntN(len(p.Steps)), len(p.Steps))
		wantRight(t, p)
		p.Steps = append(slices.Clone(p.Steps), p.Steps...)
		wantRight(t, p)
	})
}

// TestP9_1Fields: steps with any fields, ahead of and behind steps that are right.
func TestP9_1Fields(t *testing.T) {
	places := append(outside(4), 0, 1, 2, 3, 5, 63, 64)
	for _, op := range append(outside(6), 0, 1, 2, 3, 4, 5) {
		for _, dst := range places {
			for _, src := range places {
				for _, c := range []byte{0, 1, 255} {
					step := api.Step{Op: op, Dst: dst, Src: src, C: c}
					p := api.Program{Inputs: []int{1, 2, 3}, Outputs: []int{4, 5}, Regs: 4, Steps: []api.Step{step}}
					wantRight(t, p)
					p.Steps = []api.Step{step, {Op: 5}, {Op: 5, Dst: 1}}
					wantRight(t, p)
					p.Steps = []api.Step{{Op: 5, Dst: 1}, step}
					wantRight(t, p)
				}
			}
		}
	}
}

// TestP9_1Nowhere: steps that name things of which there are none.
func TestP9_1Nowhere(t *testing.T) {
	for op := range 7 {
		wantRefused(t, api.Program{Steps: []api.Step{{Op: op}}})
		wantRight(t, api.Program{Regs: 1, Steps: []api.Step{{Op: op}}})
		wantRight(t, api.Program{Inputs: []int{0}, Steps: []api.Step{{Op: op}}})
		wantRight(t, api.Program{Outputs: []int{0}, Steps: []api.Step{{Op: op}}})
		wantRight(t, api.Program{Inputs: []int{0}, Outputs: []int{0}, Steps: []api.Step{{Op: op}}})
	}
}

// TestP9_1Outputs: outputs that are made by no step, or by two.
func TestP9_1Outputs(t *testing.T) {
	p := api.Program{Outputs: []int{1, 4, 9}, Regs: 2}
	for set := range 4 * 4 * 4 {
		var steps []api.Step
		for output := range 3 {
			for range set >> (2 * output) & 3 {
				steps = append(steps, api.Step{Op: 5, Dst: output, Src: 1})
			}
		}
		p.Steps = steps
		if set == 1+4+16 {
			wantAll(t, p)
		} else {
			wantRefused(t, p)
		}
		slices.Reverse(p.Steps)
		wantRight(t, p)
	}
}

// TestP9_1Lists: inputs and outputs that don't rise, or are no numbers of halves.
func TestP9_1Lists(t *testing.T) {
	wantList := func(list []int) {
		t.Helper()
		stores := make([]api.Step, min(len(list), 100))
		for i := range stores {
			stores[i] = api.Step{Op: 5, Dst: i}
		}
		wantRight(t, api.Program{Inputs: list})
		wantRight(t, api.Program{Outputs: list, Regs: 1, Steps: stores})
		wantRight(t, api.Program{Inputs: list, Outputs: list, Regs: 1, Steps: stores})
	}
	for a := -2; a < 35; a++ {
		wantList([]int{a})
		for b := -2; b < 35; b++ {
			wantList([]int{a, b})
			wantList([]int{0, a, b})
			wantList([]int{a, b, 31})
		}
	}
	for _, number := range outside(32) {
		wantList([]int{number})
		wantList([]int{0, number})
		wantList([]int{number, 31})
		wantList(append(numbers(0, 32), number))
	}
	wantList(numbers(0, 32))
	wantList(numbers(0, 33))
	wantList(append(numbers(0, 32), 0))
	wantList(append(numbers(0, 32), 31))
}

// TestP9_1Regs: counts of registers that can't be.
func TestP9_1Regs(t *testing.T) {
	for regs := range 65 {
		wantAll(t, api.Program{Regs: regs})
		wantRefused(t, api.Program{Regs: regs, Steps: []api.Step{{Op: 2, Dst: regs}}})
		wantRefused(t, api.Program{Regs: regs, Steps: []api.Step{{Op: 4, Src: regs}}})
		wantRefused(t, api.Program{Regs: regs, Outputs: []int{0}, Steps: []api.Step{{Op: 5, Src: regs}}})
	}
	for _, regs := range append(outside(65), 66, 128) {
		wantRefused(t, api.Program{Regs: regs})
		wantRefused(t, api.Program{Regs: regs, Inputs: []int{0}, Steps: []api.Step{{Op: 1}}})
		wantNone(t, "in; out; regs "+strconv.Itoa(regs))
	}
}

// TestP9_1Long: lists and texts far longer than any that can be.
func TestP9_1Long(t *testing.T) {
	wantRefused(t, api.Program{Steps: make([]api.Step, 1<<22)})
	wantRefused(t, api.Program{Regs: 1, Steps: slices.Repeat([]api.Step{{Op: 2}}, 1<<22)})
	wantRefused(t, api.Program{Inputs: make([]int, 1<<22)})
	wantRefused(t, api.Program{Outputs: numbers(0, 1<<22)})
	for _, ahead := range []string{"", "in", "in; out", "in; out; regs 1"} {
		for _, text := range []string{"; ", " ", ";", "0", " 0", "; zero 0", "zero 0; ", "in; ", "; in", " 1", "9"} {
			wantNone(t, ahead+strings.Repeat(text, 1<<21))
		}
	}
	wantNone(t, "in"+strings.Repeat(" 3", 33)+"; out; regs 0")
	wantNone(t, slowText(api.Program{Inputs: numbers(0, 33)}))
}

// TestP9_1Meanings: what single steps do, told by hand.
func TestP9_1Meanings(t *testing.T) {
	for text, cells := range map[string]string{
		"in 0; out 0; regs 1; store 0 0":                                               "\x00",
		"in 0; out 0; regs 2; load 1 0; store 0 0":                                     "\x00",
		"in 0; out 0; regs 1; load 0 0; store 0 0":                                     "\x01",
		"in 0; out 0; regs 1; load 0 0; store 0 0; mul 0 9":                            "\x01",
		"in 0; out 0; regs 1; load 0 0; store 0 0; zero 0":                             "\x01",
		"in 0; out 0; regs 1; load 0 0; zero 0; store 0 0":                             "\x00",
		"in 0; out 0; regs 1; load 0 0; load 0 0; store 0 0":                           "\x01",
		"in 0; out 0; regs 1; load 0 0; mul 0 2; mul 0 128; store 0 0":                 "\x1d",
		"in 0; out 0; regs 1; load 0 0; mul 0 0; store 0 0":                            "\x00",
		"in 0; out 0; regs 1; load 0 0; add 0 1 0; store 0 0":                          "\x00",
		"in 0; out 0; regs 1; load 0 0; add 0 6 0; store 0 0":                          "\x07",
		"in 0; out 0; regs 1; load 0 0; add 0 0 0; store 0 0":                          "\x01",
		"in 0; out 0; regs 2; load 1 0; add 0 5 1; zero 1; store 0 0":                  "\x05",
		"in 0; out 0; regs 2; load 1 0; add 0 5 1; add 0 6 1; store 0 0":               "\x03",
		"in 0; out 0 1; regs 2; load 1 0; store 1 1; store 0 0":                        "\x00\x01",
		"in 0 1; out 0; regs 1; load 0 0; load 0 1; store 0 0":                         "\x00\x01",
		"in 0 1; out 8 9; regs 1; load 0 1; store 0 0; load 0 0; store 1 0":            "\x00\x01\x01\x00",
		"in 0 1; out 8 9; regs 2; load 0 0; add 1 2 0; load 0 1; store 0 1; store 1 0": "\x02\x00\x00\x01",
	} {
		p := parsed(t, text)
		wantMeaning(t, p, api.Matrix{Rows: len(p.Outputs), Cols: len(p.Inputs), Cells: []byte(cells)})
	}
}

// TestP9_1Idle: which steps go, told by hand.
func TestP9_1Idle(t *testing.T) {
	for text, want := range map[string]string{
		"in 0; out; regs 3; load 0 0; zero 1; mul 1 2; add 1 2 0":                               "in 0; out; regs 3",
		"in 0; out 0; regs 1; load 0 0; load 0 0; store 0 0":                                    "in 0; out 0; regs 1; load 0 0; store 0 0",
		"in 0; out 0; regs 1; load 0 0; zero 0; store 0 0":                                      "in 0; out 0; regs 1; zero 0; store 0 0",
		"in 0; out 0; regs 1; zero 0; load 0 0; store 0 0; mul 0 3":                             "in 0; out 0; regs 1; load 0 0; store 0 0",
		"in 0; out 0; regs 2; load 1 0; add 0 0 1; store 0 0":                                   "in 0; out 0; regs 2; load 1 0; add 0 0 1; store 0 0",
		"in 0; out 0; regs 2; load 1 0; mul 0 1; store 0 0":                                     "in 0; out 0; regs 2; mul 0 1; store 0 0",
		"in 0; out 0; regs 1; load 0 0; mul 0 0; store 0 0":                                     "in 0; out 0; regs 1; load 0 0; mul 0 0; store 0 0",
		"in 0; out 0; regs 1; load 0 0; add 0 1 0; store 0 0":                                   "in 0; out 0; regs 1; load 0 0; add 0 1 0; store 0 0",
		"in 0; out 0; regs 3; load 2 0; add 1 1 2; add 0 1 1; store 0 0; add 2 1 0":             "in 0; out 0; regs 3; load 2 0; add 1 1 2; add 0 1 1; store 0 0",
		"in 0; out 0; regs 3; load 2 0; add 1 1 2; zero 1; add 0 1 1; store 0 0":                "in 0; out 0; regs 3; zero 1; add 0 1 1; store 0 0",
		"in 0; out 0 1; regs 1; load 0 0; store 1 0; mul 0 2; store 0 0; mul 0 2":               "in 0; out 0 1; regs 1; load 0 0; store 1 0; mul 0 2; store 0 0",
		"in 0 3; out 0 1; regs 2; load 0 0; load 1 1; store 0 0; store 1 0":                     "in 0 3; out 0 1; regs 2; load 0 0; store 0 0; store 1 0",
		"in 0; out 0; regs 64; load 63 0; load 62 0; store 0 63":                                "in 0; out 0; regs 64; load 63 0; store 0 63",
		"in 0; out 0 1; regs 2; load 1 0; store 0 0; store 1 0":                                 "in 0; out 0 1; regs 2; store 0 0; store 1 0",
		"in 0; out 0 1; regs 2; load 0 0; store 0 1; load 1 0; store 1 1; zero 0; add 0 3 1":    "in 0; out 0 1; regs 2; store 0 1; load 1 0; store 1 1",
		"in 0 1; out 0; regs 2; add 0 1 1; load 1 0; add 0 1 1; load 1 1; add 0 1 1; store 0 0": "in 0 1; out 0; regs 2; add 0 1 1; load 1 0; add 0 1 1; load 1 1; add 0 1 1; store 0 0",
	} {
		wantTrim(t, parsed(t, text), parsed(t, want).Steps)
	}
}

// wrongTexts is texts that are none of a program.
func wrongTexts() []string {
	return []string{
		"", " ", ";", "; ", "; ; ", "in", "out", "regs 0", "in; out", "in; regs 0", "out; regs 0", "in; out; regs", "in; out; regs ", "in; out; regs x", "in; out; regs 0 0", "in; out; regs 1 0",
		"in; out; regs 00", "in; out; regs -0", "in; out; regs +0", "in; out; regs -1", "in; out; regs 65", "in; out; regs 01", "in; out; regs 0x1", "in; out; regs 1_0", "in; out; regs 1e1", "in; out; regs 1.0",
		"in; out; regs 256", "in; out; regs 4294967296", "in; out; regs 18446744073709551616", "in; out; regs 18446744073709551617", "in; out; regs 9223372036854775808", "in; out; regs 340282366920938463463374607431768211456",
		"out; in; regs 0", "regs 0; in; out", "in; regs 0; out", "in; in; regs 0", "out; out; regs 0", "in; out; out", "IN; out; regs 0", "in; OUT; regs 0", "In; out; regs 0", "ins; out; regs 0", "in; outs; regs 0", "in; out; reg 0", "in; out; regs0",
		"in;out; regs 0", "in; out;regs 0", "in ; out; regs 0", "in; out ; regs 0", "in;  out; regs 0", "in; out;  regs 0", "in; out; regs  0", " in; out; regs 0", "in; out; regs 0 ", "in; out; regs 0\n", "\nin; out; regs 0", "in; out; regs 0\x00", "\ufeffin; out; regs 0",
		"in; out; regs 0;", "in; out; regs 0; ", "in; out; regs 0; ; ", "; in; out; regs 0", "in, out, regs 0", "in\nout\nregs 0", "in;\tout; regs 0", "in; out; regs\t0", "in; out; regs 0;\nzero 0", "in; out; regs 1; zero 0;", "in; out; regs 1; zero 0; ", "in; out; regs 1; ; zero 0",
		"in ; out; regs 0", "in  1; out; regs 0", "in 1 ; out; regs 0", "in 1  2; out; regs 0", "in 1,2; out; regs 0", "in 2 1; out; regs 0", "in 1 1; out; regs 0", "in 32; out; regs 0", "in -1; out; regs 0", "in 01; out; regs 0", "in +1; out; regs 0", "in x; out; regs 0", "in 0 x; out; regs 0", "in 4294967297; out; regs 0", "in 18446744073709551617; out; regs 0",
		"in; out 1; regs 1", "in; out 1 1; regs 1; store 0 0; store 1 0", "in; out 32; regs 1; store 0 0", "in; out 01; regs 1; store 0 0", "in; out 1; regs 1; store 0 0; store 0 0", "in; out 1; regs 0; store 0 0", "in; out; regs 1; store 0 0", "in; out 1; regs 1; store 1 0", "in; out 1; regs 1; store 0 1",
		"in; out; regs 1; load 0 0", "in 0; out; regs 1; load 0", "in 0; out; regs 1; load", "in 0; out; regs 1; load 0 0 0", "in 0; out; regs 1; load 1 0", "in 0; out; regs 1; load 0 1", "in 0; out; regs 1; load 00 0", "in 0; out; regs 1; load 0 -0", "in 7; out; regs 1; load 0 7",
		"in; out; regs 1; zero", "in; out; regs 1; zero ", "in; out; regs 1; zero 1", "in; out; regs 1; zero 0 0", "in; out; regs 1; zero -1", "in; out; regs 1; zero 00", "in; out; regs 1; zero x", "in; out; regs 1; zero0", "in; out; regs 1;zero 0", "in; out; regs 1 zero 0", "in; out; regs 1; zero 4294967296", "in; out; regs 1; zero 18446744073709551616",
		"in; out; regs 1; mul 0", "in; out; regs 1; mul 0 256", "in; out; regs 1; mul 0 -1", "in; out; regs 1; mul 0 257", "in; out; regs 1; mul 0 01", "in; out; regs 1; mul 0 1 0", "in; out; regs 1; mul 1 0", "in; out; regs 1; mul 0 a", "in; out; regs 1; mul 0 4294967297", "in; out; regs 1; mul 0 18446744073709551617", "in; out; regs 1; mul",
		"in; out; regs 1; add 0 0", "in; out; regs 1; add 0 256 0", "in; out; regs 1; add 0 -1 0", "in; out; regs 1; add 0 1 1", "in; out; regs 1; add 1 1 0", "in; out; regs 1; add 0 1 0 0", "in; out; regs 1; add 0 1", "in; out; regs 1; add 0", "in; out; regs 1; add", "in; out; regs 1; add 0 00 0", "in; out; regs 1; add 0 0 00",
		"in; out; regs 1; out 0 0", "in; out; regs 1; ", "in; out; regs 1;  0", "in; out; regs 1;  0 0", "in; out; regs 1; 0", "in; out; regs 1; 2 0", "in; out; regs 1; nop", "in; out; regs 1; nop 0", "in; out; regs 1; Zero 0", "in; out; regs 1; ZERO 0", "in; out; regs 1; zer 0", "in; out; regs 1; zeros 0", "in; out; regs 1; zero 0; in", "in; out; regs 1; regs 1", "in; out; regs 1; in; out; regs 1",
		"in \u0660; out; regs 0", "in \uff10; out; regs 0", "in; out; regs 0\uff1b zero 0", "in;\u00a0out; regs 0", "in; out; regs \xff", "\xffin; out; regs 0", "none", "{}", "in 0; out; regs 0; load 0 0",
	}
}

// TestP9_1Texts: texts near to those of programs.
func TestP9_1Texts(t *testing.T) {
	for _, text := range wrongTexts() {
		wantNone(t, text)
	}
}

// wantJust asks Parse for the program whose text it is, if it is one's.
func wantJust(t *testing.T, text string) {
	t.Helper()
	if p, ok := slowParse(text); ok {
		wantParse(t, text, p)
		return
	}
	wantNone(t, text)
}

// TestP9_1Letters: texts of programs of which a letter is gone, is more, or is another one.
func TestP9_1Letters(t *testing.T) {
	for _, text := range []string{"in; out; regs 0", exampleText, "in 0 1 31; out 2 30; regs 64; zero 63; mul 9 255; add 10 1 11; store 1 12; load 3 0; store 0 3"} {
		for i := range len(text) + 1 {
			for letter := range 256 {
				wantJust(t, text[:i]+string([]byte{byte(letter)})+text[i:])
				if i < len(text) {
					wantJust(t, text[:i]+string([]byte{byte(letter)})+text[i+1:])
				}
			}
			for j := i; j <= len(text); j++ {
				wantJust(t, text[:i]+text[j:])
				wantJust(t, text[i:j])
			}
		}
	}
}

// TestP9_1Words: texts of programs of which a word is gone, stands twice, or is another one; and likewise pieces.
func TestP9_1Words(t *testing.T) {
	words := []string{"", "in", "out", "regs", "load", "zero", "mul", "add", "store", "0", "1", "2", "3", "31", "32", "63", "64", "255", "256", "-1", "00", "x"}
	pieces := []string{"", "in", "out", "regs 2", "regs", "load 0 0", "load 0 2", "zero 1", "zero 1 0", "mul 0 1", "add 0 1 0", "add 0 1 2", "store 0 1", "store 1 0", "0", "0 0"}
	for _, text := range []string{exampleText, "in 0; out 0 1; regs 2; store 0 0; load 1 0; zero 0; store 1 1"} {
		for between, others := range map[string][]string{" ": words, "; ": pieces} {
			parts := strings.Split(text, between)
			for i := range parts {
				wantJust(t, strings.Join(slices.Delete(slices.Clone(parts), i, i+1), between))
				wantJust(t, strings.Join(slices.Insert(slices.Clone(parts), i, parts[i]), between))
				for _, other := range others {
					wantJust(t, strings.Join(slices.Replace(slices.Clone(parts), i, i+1, other), between))
					wantJust(t, strings.Join(slices.Insert(slices.Clone(parts), i, other), between))
					wantJust(t, text+between+other)
				}
			}
		}
	}
}

// TestP9_1Given: what is handed in is neither changed nor kept, and what lies behind its length not read (rule 4).
func TestP9_1Given(t *testing.T) {
	inputs := append(make([]int, 0, 40), 2, 5, 99, -1)
	outputs := append(make([]int, 0, 40), 0, 99, -1)
	steps := append(make([]api.Step, 0, 40), example().Steps...)
	steps = append(steps, api.Step{Op: 2, Dst: 1}, api.Step{Op: 99}, api.Step{Op: 5})
	keptInputs, keptOutputs, keptSteps := slices.Clone(inputs), slices.Clone(outputs), slices.Clone(steps)
	p := api.Program{Inputs: inputs[:2], Outputs: outputs[:1], Regs: 2, Steps: steps[:6]}
	wantAll(t, p)
	m, meaningErr := Meaning(p)
	trimmed, trimErr := Trim(p)
	if !slices.Equal(inputs, keptInputs) || !slices.Equal(outputs, keptOutputs) || !slices.Equal(steps, keptSteps) {
		t.Error("a call changes what it was given", inputs, outputs, steps)
	}
	clear(inputs[:cap(inputs)])
	clear(outputs[:cap(outputs)])
	clear(steps[:cap(steps)])
	if meaningErr != nil || !bytes.Equal(m.Cells, []byte{3, 7}) || trimErr != nil || !same(trimmed, example()) {
		t.Error("a call keeps what it was given", m, meaningErr, trimmed, trimErr)
	}
}

// fill puts something else into all lists of a program, spare room included; there must be nothing in that.
func fill(t *testing.T, what string, p api.Program) {
	t.Helper()
	for _, list := range [][]int{p.Inputs, p.Outputs} {
		room := list[:cap(list)]
		for i := range room {
			if i >= len(list) && room[i] != 0 {
				t.Error(what, "hands out behind the length", room[i])
			}
			room[i] = -7
		}
	}
	room := p.Steps[:cap(p.Steps)]
	for i := range room {
		if i >= len(p.Steps) && room[i] != (api.Step{}) {
			t.Error(what, "hands out behind the length", room[i])
		}
		room[i] = api.Step{Op: -7, Dst: -7, Src: -7, C: 7}
	}
}

// wantApart asks that the answers of a call share nothing: one that is filled is nothing to the others.
func wantApart(t *testing.T, what string, call func() (api.Program, error)) {
	t.Helper()
	first, firstErr := call()
	second, secondErr := call()
	want := slowText(second)
	fill(t, what, first)
	third, thirdErr := call()
	if firstErr != nil || secondErr != nil || thirdErr != nil || slowText(second) != want || slowText(third) != want {
		t.Error(what, "shares its memory", second, third, firstErr, secondErr, thirdErr)
	}
	// Within one answer: a filled list is nothing to the other ones.
	fill(t, what, api.Program{Inputs: third.Inputs})
	if !slices.Equal(third.Outputs, second.Outputs) || !slices.Equal(third.Steps, second.Steps) {
		t.Error(what, "shares within its answer", third, second)
	}
}

// TestP9_1Memory: answers are new memory (rule 4).
func TestP9_1Memory(t *testing.T) {
	onRandom(t, func(t *testing.T, r *rand.Rand, p api.Program) {
		wantApart(t, "Trim", func() (api.Program, error) { return Trim(p) })
		text := slowText(p)
		wantApart(t, "Parse", func() (api.Program, error) { return Parse(text) })
		first, firstErr := Meaning(p)
		second, secondErr := Meaning(p)
		for i := range first.Cells[:cap(first.Cells)] {
			first.Cells[:cap(first.Cells)][i] ^= 85
		}
		if firstErr != nil || secondErr != nil || !mat.Same(second, slowMeaning(p)) {
			t.Error("Meaning shares its memory", second, firstErr, secondErr)
		}
		if slowText(p) != text {
			t.Error("an answer shares memory with what was given", p, text)
		}
	})
	same := []int{1, 2}
	p := api.Program{Inputs: same, Outputs: same, Regs: 1, Steps: []api.Step{{Op: 5}, {Op: 5, Dst: 1}}}
	wantApart(t, "Trim of one list twice", func() (api.Program, error) { return Trim(p) })
}

// TestP9_2Meaning: Trim changes no meaning, takes nothing but steps away, and finds nothing more behind it.
func TestP9_2Meaning(t *testing.T) {
	shorter := 0
	onRandom(t, func(t *testing.T, r *rand.Rand, p api.Program) {
		q, err := Trim(p)
		if err != nil || Check(q) != nil {
			t.Fatal("Trim", p, q, err)
		}
		wantMeaning(t, q, slowMeaning(p))
		wantTrim(t, q, q.Steps)
		for i, s := range q.Steps {
			if s.Op != 5 && !slowAsked(q, i+1)[s.Dst] {
				t.Error("Trim leaves an idle step", p, q, i)
			}
		}
		inputs := make([]byte, len(p.Inputs))
		for i := range inputs {
			inputs[i] = byte(r.Uint32())
		}
		if !bytes.Equal(slowRun(p, inputs), slowRun(q, inputs)) {
			t.Error("Trim makes something else", p, q, inputs)
		}
		if len(q.Steps) < len(p.Steps) {
			shorter++
		}
	})
	if shorter < 1000 {
		t.Error("Trim takes nothing away", shorter)
	}
}

// TestP9_2Needed: where all steps are put in that nothing asks for, Trim takes just these away.
func TestP9_2Needed(t *testing.T) {
	onRandom(t, func(t *testing.T, r *rand.Rand, p api.Program) {
		q, err := Trim(p)
		if err != nil || q.Regs == 64 {
			return
		}
		more := q
		more.Regs++
		more.Steps = nil
		for _, s := range q.Steps {
			more.Steps = append(more.Steps, api.Step{Op: 4, Dst: q.Regs, Src: r.IntN(q.Regs), C: 1}, s, api.Step{Op: 3, Dst: q.Regs, C: 2})
		}
		wantTrim(t, more, q.Steps)
	})
}

// TestP9_3Undo: Text and Parse undo one another, and unlike programs have unlike texts.
func TestP9_3Undo(t *testing.T) {
	met := map[string]api.Program{}
	onRandom(t, func(t *testing.T, r *rand.Rand, p api.Program) {
		text, err := Text(p)
		if err != nil {
			t.Error("Text", p, err)
		}
		wantParse(t, text, p)
		if other, ok := met[text]; ok && !same(other, p) {
			t.Error("Text", p, "and", other, "are", text)
		}
		met[text] = p
	})
}

// TestP9_3Steps: likewise each step that a program can have.
func TestP9_3Steps(t *testing.T) {
	p := api.Program{Inputs: numbers(0, 32), Regs: 64}
	wantUndone := func(step api.Step) {
		t.Helper()
		p.Steps = []api.Step{step}
		text, err := Text(p)
		if err != nil || text != slowText(p) {
			t.Error("Text", step, text, err)
		}
		wantParse(t, text, p)
	}
	for dst := range 64 {
		wantUndone(api.Step{Op: 2, Dst: dst})
		for src := range 32 {
			wantUndone(api.Step{Op: 1, Dst: dst, Src: src})
		}
		for c := range 256 {
			wantUndone(api.Step{Op: 3, Dst: dst, C: byte(c)})
			wantUndone(api.Step{Op: 4, Dst: dst, Src: 63 - dst, C: byte(c)})
		}
		for src := range 64 {
			wantUndone(api.Step{Op: 4, Dst: dst, Src: src, C: byte(dst * src)})
			p.Outputs = []int{dst % 32}
			wantUndone(api.Step{Op: 5, Src: src})
			p.Outputs = nil
		}
	}
}

// TestP9_3Again: what Parse takes, Text tells again.
func TestP9_3Again(t *testing.T) {
	taken := 0
	words := []string{"in", "out", "in 0", "out 1", "in 1 2", "regs 0", "regs 1", "regs 2", "load 0 0", "zero 0", "zero 1", "mul 0 200", "add 0 4 1", "store 0 0", ""}
	for i := range 15 * 15 * 15 * 15 * 15 {
		var pieces []string
		for j := i; j > 0; j /= 15 {
			pieces = append(pieces, words[j%15])
		}
		text := strings.Join(pieces, "; ")
		p, err := Parse(text)
		if err != nil {
			continue
		}
		taken++
		wantText(t, p, text)
	}
	if taken < 100 {
		t.Error("Parse takes too little", taken)
	}
}

// renamed is a program with other registers: to tells each one's new number.
func renamed(p api.Program, regs int, to []int) api.Program {
	p.Regs = regs
	p.Steps = slices.Clone(p.Steps)
	for i, s := range p.Steps {
		if s.Op != 5 {
			p.Steps[i].Dst = to[s.Dst]
		}
		if s.Op == 4 || s.Op == 5 {
			p.Steps[i].Src = to[s.Src]
		}
	}
	return p
}

// TestP9_4Exchanged: registers that are exchanged change no meaning.
func TestP9_4Exchanged(t *testing.T) {
	onRandom(t, func(t *testing.T, r *rand.Rand, p api.Program) {
		m, err := Meaning(p)
		if err != nil {
			t.Error("Meaning", p, err)
		}
		wantMeaning(t, renamed(p, p.Regs, r.Perm(p.Regs)), m)
		turned := numbers(0, p.Regs)
		slices.Reverse(turned)
		wantMeaning(t, renamed(p, p.Regs, turned), m)
	})
}

// TestP9_4Renamed: registers that are renamed to free ones, among many or behind all others, change no meaning, nor what is idle.
func TestP9_4Renamed(t *testing.T) {
	onRandom(t, func(t *testing.T, r *rand.Rand, p api.Program) {
		m, err := Meaning(p)
		if err != nil {
			t.Error("Meaning", p, err)
		}
		to := r.Perm(64)[:p.Regs]
		wantMeaning(t, renamed(p, 64, to), m)
		wantTrim(t, renamed(p, 64, to), renamed(api.Program{Steps: slowTrim(p)}, 64, to).Steps)
		if p.Regs < 64 {
			one := numbers(0, p.Regs)
			one[r.IntN(p.Regs)] = p.Regs
			wantMeaning(t, renamed(p, p.Regs+1, one), m)
		}
	})
}
