package queue

import (
	"math"
	"math/rand/v2"
	"slices"
	"testing"

	"tessera/api"
)

// maxQueue is the document's limit.
const maxQueue = 4096

// extremes is ints whose differences run over, or whose low bits are alike, with some plain ones.
func extremes() []int {
	return []int{
		math.MinInt, math.MinInt + 1, math.MinInt / 2, -1 << 32, -1<<32 - 1, -256, -2, -1, 0,
		1, 2, 255, 256, 1 << 31, 1 << 32, 1<<32 + 1, math.MaxInt / 2, math.MaxInt - 1, math.MaxInt,
	}
}

// slowAhead is what the chapter calls ahead.
func slowAhead(a, b api.Ranked) bool {
	return a.Rank < b.Rank || a.Rank == b.Rank && a.Id < b.Id
}

// slowQueue is what the chapter says that a queue holds: the things, each ahead of the next.
type slowQueue struct{ things []api.Ranked }

// place is where the thing of this Id stands; -1, if there is none.
func (q *slowQueue) place(id int) int {
	return slices.IndexFunc(q.things, func(thing api.Ranked) bool { return thing.Id == id })
}

func (q *slowQueue) insert(thing api.Ranked) {
	place := 0
	for place < len(q.things) && slowAhead(q.things[place], thing) {
		place++
	}
	q.things = slices.Insert(q.things, place, thing)
}

func (q *slowQueue) push(id, rank int) error {
	if q.place(id) >= 0 {
		return api.ErrThere
	}
	if len(q.things) == maxQueue {
		return api.ErrMany
	}
	q.insert(api.Ranked{Id: id, Rank: rank})
	return nil
}

func (q *slowQueue) peek() (api.Ranked, error) {
	if len(q.things) == 0 {
		return api.Ranked{}, api.ErrEmpty
	}
	return q.things[0], nil
}

func (q *slowQueue) pop() (api.Ranked, error) {
	first, err := q.peek()
	if err == nil {
		q.things = q.things[1:]
	}
	return first, err
}

func (q *slowQueue) drop(id int) error {
	place := q.place(id)
	if place < 0 {
		return api.ErrGone
	}
	q.things = slices.Delete(q.things, place, place+1)
	return nil
}

func (q *slowQueue) turn(id, rank int) error {
	if err := q.drop(id); err != nil {
		return err
	}
	q.insert(api.Ranked{Id: id, Rank: rank})
	return nil
}

// pair is a queue, and what it must be like.
type pair struct {
	q    *Queue
	slow *slowQueue
}

// newPair is a pair of nothing.
func newPair() pair { return pair{New(), &slowQueue{}} }

// wantErr asks for an error, by ==.
func wantErr(t *testing.T, what string, id, rank int, err, want error) {
	t.Helper()
	if err != want {
		t.Error(what, id, rank, "is", err, "not", want)
	}
}

// wantThing asks for a thing and an error.
func wantThing(t *testing.T, what string, thing api.Ranked, err error, want api.Ranked, wantErr error) {
	t.Helper()
	if thing != want || err != wantErr {
		t.Error(what, "is", thing, err, "not", want, wantErr)
	}
}

func (x pair) push(t *testing.T, id, rank int) {
	t.Helper()
	wantErr(t, "Push", id, rank, x.q.Push(id, rank), x.slow.push(id, rank))
}

func (x pair) turn(t *testing.T, id, rank int) {
	t.Helper()
	wantErr(t, "Turn", id, rank, x.q.Turn(id, rank), x.slow.turn(id, rank))
}

func (x pair) drop(t *testing.T, id int) {
	t.Helper()
	wantErr(t, "Drop", id, 0, x.q.Drop(id), x.slow.drop(id))
}

func (x pair) pop(t *testing.T) {
	t.Helper()
	thing, err := x.q.Pop()
	want, wantErr := x.slow.pop()
	wantThing(t, "Pop", thing, err, want, wantErr)
}

// wantFirst asks Len and Peek, which is little work for any queue.
func (x pair) wantFirst(t *testing.T) {
	t.Helper()
	if n := x.q.Len(); n != len(x.slow.things) {
		t.Error("Len is", n, "not", len(x.slow.things))
	}
	thing, err := x.q.Peek()
	want, wantErr := x.slow.peek()
	wantThing(t, "Peek", thing, err, want, wantErr)
}

// wantState asks all that can be asked without a change.
func (x pair) wantState(t *testing.T) {
	t.Helper()
	x.wantFirst(t)
	if list := x.q.List(); !slices.Equal(list, x.slow.things) {
		t.Error("List is", list, "not", x.slow.things)
	}
}

// wantPopped pops until nothing is left, and behind that.
func (x pair) wantPopped(t *testing.T) {
	t.Helper()
	for len(x.slow.things) > 0 {
		x.pop(t)
		x.wantFirst(t)
	}
	x.pop(t)
	x.wantState(t)
}

// call is a change of a queue.
type call struct {
	kind     byte
	id, rank int
}

// do makes a change, and asks for what it must answer.
func (x pair) do(t *testing.T, c call) {
	t.Helper()
	switch c.kind {
	case 'u':
		x.push(t, c.id, c.rank)
	case 't':
		x.turn(t, c.id, c.rank)
	case 'd':
		x.drop(t, c.id)
	case 'o':
		x.pop(t)
	}
}

// filled is a pair that holds maxQueue things, of Ids 0 and above.
func filled(t *testing.T, r *rand.Rand) pair {
	t.Helper()
	x := newPair()
	for _, id := range r.Perm(maxQueue) {
		x.push(t, id, r.IntN(1000))
	}
	return x
}

// wantInts asks a call for these numbers.
func wantInts(t *testing.T, what string, given any, got, want []int) {
	t.Helper()
	if !slices.Equal(got, want) {
		t.Error(what, given, "is", got, "not", want)
	}
}

// spoil writes into a list, and into what lies behind it.
func spoil[E any](list []E, with E) {
	list = list[:cap(list)]
	for i := range list {
		list[i] = with
	}
}

func TestP12_1Examples(t *testing.T) {
	q := New()
	for _, thing := range []api.Ranked{{Id: 7, Rank: 5}, {Id: 3, Rank: 5}, {Id: 9, Rank: 1}} {
		wantErr(t, "Push", thing.Id, thing.Rank, q.Push(thing.Id, thing.Rank), nil)
	}
	thing, err := q.Peek()
	wantThing(t, "Peek", thing, err, api.Ranked{Id: 9, Rank: 1}, nil)
	if list := q.List(); !slices.Equal(list, []api.Ranked{{Id: 9, Rank: 1}, {Id: 3, Rank: 5}, {Id: 7, Rank: 5}}) {
		t.Error("List", list)
	}
	wantErr(t, "Turn", 9, 6, q.Turn(9, 6), nil)
	thing, err = q.Pop()
	wantThing(t, "Pop", thing, err, api.Ranked{Id: 3, Rank: 5}, nil)
	wantErr(t, "Push", 7, 0, q.Push(7, 0), api.ErrThere)
	wantInts(t, "Least", "of the example", Least([]int{4, 1, 4, 0}, 3), []int{3, 1, 0})
	wantInts(t, "Merge", "of the example", Merge([]int{1, 5, 2}, []int{3, 3}), []int{1, 3, 3, 5, 2})
}

// TestP12_1Empty: a queue of nothing, from the beginning and again behind its last thing.
func TestP12_1Empty(t *testing.T) {
	x := newPair()
	for round := range 3 {
		x.wantState(t)
		x.pop(t)
		x.turn(t, 0, 0)
		x.drop(t, 0)
		x.wantState(t)
		x.push(t, 0, round)
		x.wantState(t)
		if round == 1 {
			x.drop(t, 0)
		} else {
			x.pop(t)
		}
	}
	x.wantState(t)
}

// TestP12_1Orders: all orders of five of some changes, on three Ids and one that is never there.
func TestP12_1Orders(t *testing.T) {
	calls := []call{
		{'u', 1, 5}, {'u', 2, 5}, {'u', 2, 4}, {'u', -3, 5},
		{'t', 1, 6}, {'t', 2, 5}, {'t', -3, 4}, {'t', 0, 1},
		{'d', 1, 0}, {'d', 2, 0}, {'d', 0, 0}, {'o', 0, 0},
	}
	var chosen []call
	var choose func()
	choose = func() {
		if len(chosen) < 5 && !t.Failed() {
			for _, c := range calls {
				chosen = append(chosen, c)
				choose()
				chosen = chosen[:len(chosen)-1]
			}
			return
		}
		x := newPair()
		for _, c := range chosen {
			x.do(t, c)
			x.wantState(t)
		}
		x.wantPopped(t)
	}
	choose()
}

// TestP12_1Several: random changes on several queues in turns; each must go on as if the others weren't.
func TestP12_1Several(t *testing.T) {
	for seed := range uint64(60) {
		r := rand.New(rand.NewPCG(12, seed))
		ids, ranks := 1+r.IntN(60), 1+r.IntN(12)
		queues := []pair{newPair(), newPair(), newPair()}
		for range 1500 {
			x := queues[r.IntN(len(queues))]
			x.do(t, call{"uuuutdo"[r.IntN(7)], r.IntN(ids) - ids/2, r.IntN(ranks) - ranks/2})
			for _, other := range queues {
				other.wantFirst(t)
			}
			if r.IntN(20) == 0 {
				x.wantState(t)
			}
		}
		for _, x := range queues {
			x.wantState(t)
			x.wantPopped(t)
		}
	}
}

// TestP12_1Extremes: any ints may be Ids and Ranks.
func TestP12_1Extremes(t *testing.T) {
	all := extremes()
	for _, a := range all {
		for _, b := range all {
			x := newPair()
			x.push(t, 5, a)
			x.push(t, 4, b)
			x.push(t, a, 7)
			x.push(t, b, 7)
			x.wantState(t)
			x.turn(t, a, b)
			x.turn(t, b, a)
			x.wantState(t)
			x.wantPopped(t)
		}
	}
	r := rand.New(rand.NewPCG(12, 100))
	for range 50 {
		x := newPair()
		for range 200 {
			x.do(t, call{"uuutdo"[r.IntN(6)], all[r.IntN(len(all))], all[r.IntN(len(all))]})
			x.wantState(t)
		}
		x.wantPopped(t)
	}
}

// TestP12_1Many: as many things as there can be, and one more.
func TestP12_1Many(t *testing.T) {
	x := filled(t, rand.New(rand.NewPCG(12, 101)))
	x.wantState(t)
	for range 3 {
		wantErr(t, "Push", -1, -1, x.q.Push(-1, -1), api.ErrMany)
		wantErr(t, "Push", maxQueue, 0, x.q.Push(maxQueue, 0), api.ErrMany)
		// What is there is told first, even where there is no room.
		wantErr(t, "Push", 0, -1, x.q.Push(0, -1), api.ErrThere)
		wantErr(t, "Turn", -1, 0, x.q.Turn(-1, 0), api.ErrGone)
		wantErr(t, "Drop", -1, 0, x.q.Drop(-1), api.ErrGone)
		x.wantState(t)
	}
	x.turn(t, 7, -5)
	x.pop(t)
	x.push(t, 7, 3)
	x.push(t, -1, 3)
	x.drop(t, 9)
	x.push(t, -1, 3)
	x.push(t, 9, 3)
	x.wantState(t)
	// A full queue leaves room in another one.
	y := newPair()
	y.push(t, -1, 3)
	y.wantState(t)
	x.wantPopped(t)
	x.push(t, 7, 3)
	x.wantState(t)
}

// TestP12_1Refused: what is refused changes nothing, neither then nor of what comes behind it.
func TestP12_1Refused(t *testing.T) {
	x := newPair()
	for _, id := range []int{4, 2, 6, 1, 3, 5, 7} {
		x.push(t, id, id%3)
		for other := -1; other <= 8; other++ {
			if x.slow.place(other) < 0 {
				wantErr(t, "Turn", other, -9, x.q.Turn(other, -9), api.ErrGone)
				wantErr(t, "Drop", other, 0, x.q.Drop(other), api.ErrGone)
			} else {
				wantErr(t, "Push", other, -9, x.q.Push(other, -9), api.ErrThere)
			}
			x.wantState(t)
		}
	}
	x.wantPopped(t)
}

// TestP12_1New: a list that was answered is the caller's, and none shares memory with another one.
func TestP12_1New(t *testing.T) {
	x, y := newPair(), newPair()
	for id := range 20 {
		x.push(t, id, id%7)
		y.push(t, id, id%5)
	}
	first, second := x.q.List(), x.q.List()
	spoil(first, api.Ranked{Id: 100, Rank: -100})
	if !slices.Equal(second, x.slow.things) {
		t.Error("two answers of List share memory", second)
	}
	x.wantState(t)
	x.turn(t, 3, -1)
	x.drop(t, 5)
	x.push(t, 50, 2)
	if !slices.Equal(first, slices.Repeat([]api.Ranked{{Id: 100, Rank: -100}}, len(first))) {
		t.Error("an answer of List was changed by what came behind it", first)
	}
	x.wantPopped(t)
	y.wantPopped(t)
}

// TestP12_2Orders: things that were pushed in any order are popped in one.
func TestP12_2Orders(t *testing.T) {
	things := []api.Ranked{{Id: 1, Rank: 0}, {Id: 2, Rank: 1}, {Id: 3, Rank: 1}, {Id: 4, Rank: 1}, {Id: 5, Rank: 2}, {Id: 0, Rank: 3}, {Id: 9, Rank: 3}}
	var push func(left []api.Ranked, pushed []api.Ranked)
	push = func(left, pushed []api.Ranked) {
		for i := range left {
			push(slices.Delete(slices.Clone(left), i, i+1), append(pushed, left[i]))
		}
		if len(left) > 0 {
			return
		}
		q := New()
		for _, thing := range pushed {
			wantErr(t, "Push", thing.Id, thing.Rank, q.Push(thing.Id, thing.Rank), nil)
		}
		for _, want := range things {
			thing, err := q.Pop()
			wantThing(t, "Pop", thing, err, want, nil)
		}
		_, err := q.Pop()
		wantErr(t, "Pop", 0, 0, err, api.ErrEmpty)
	}
	push(things, nil)
}

// without is the things but that of this Id.
func without(things []api.Ranked, id int) []api.Ranked {
	return slices.DeleteFunc(slices.Clone(things), func(thing api.Ranked) bool { return thing.Id == id })
}

// popped is all things of a queue, popped one by one.
func popped(t *testing.T, q *Queue) []api.Ranked {
	t.Helper()
	var things []api.Ranked
	for q.Len() > 0 {
		thing, err := q.Pop()
		wantErr(t, "Pop", 0, 0, err, nil)
		things = append(things, thing)
	}
	for i := 1; i < len(things); i++ {
		if !slowAhead(things[i-1], things[i]) {
			t.Error("popped behind one that it stands ahead of", things[i-1], things[i])
		}
	}
	return things
}

// TestP12_2Others: each thing turned to each rank, and each one dropped, of queues of up to 16 things: the others are there as they were.
func TestP12_2Others(t *testing.T) {
	r := rand.New(rand.NewPCG(12, 102))
	for count := 1; count <= 16; count++ {
		ids, ranks := r.Perm(count), r.Perm(count)
		for id := range count {
			for rank := -1; rank <= count; rank++ {
				for _, drop := range []bool{false, true} {
					q := New()
					for i := range count {
						q.Push(ids[i], ranks[i]/2)
					}
					ahead := q.List()
					if drop {
						wantErr(t, "Drop", id, 0, q.Drop(id), nil)
					} else {
						wantErr(t, "Turn", id, rank, q.Turn(id, rank), nil)
					}
					behind := popped(t, q)
					if !slices.Equal(without(behind, id), without(ahead, id)) {
						t.Error("others were disturbed", ahead, behind)
					}
					if there := slices.Contains(behind, api.Ranked{Id: id, Rank: rank}); there == drop {
						t.Error("turned or dropped", id, rank, drop, "is", behind)
					}
				}
			}
		}
	}
}

// TestP12_2Full: a full queue, turned and dropped here and there, is popped in order.
func TestP12_2Full(t *testing.T) {
	r := rand.New(rand.NewPCG(12, 103))
	x := filled(t, r)
	for range 2000 {
		x.turn(t, r.IntN(maxQueue), r.IntN(1000)-500)
		x.wantFirst(t)
	}
	for range 1000 {
		x.drop(t, r.IntN(maxQueue))
		x.wantFirst(t)
	}
	x.wantState(t)
	if things := popped(t, x.q); !slices.Equal(things, x.slow.things) {
		t.Error("popped is", len(things), "things, not those that were there")
	}
}

// onLists calls f with all lists of up to most numbers from 0 to numbers - 1.
func onLists(most, numbers int, f func(list []int)) {
	var extend func(list []int)
	extend = func(list []int) {
		f(slices.Clone(list))
		if len(list) == most {
			return
		}
		for number := range numbers {
			extend(append(list, number))
		}
	}
	extend(nil)
}

// slowLeast is the places of the least ranks: taken one by one.
func slowLeast(ranks []int, n int) []int {
	var least []int
	for len(least) < n && len(least) < len(ranks) {
		next := -1
		for place, rank := range ranks {
			if !slices.Contains(least, place) && (next < 0 || rank < ranks[next]) {
				next = place
			}
		}
		least = append(least, next)
	}
	return least
}

// wantLeast asks Least of all n that there can be, and of some beyond.
func wantLeast(t *testing.T, ranks []int) {
	t.Helper()
	given := slices.Clone(ranks)
	all := slowLeast(ranks, len(ranks))
	for n := -1; n <= len(ranks)+1; n++ {
		wantInts(t, "Least", ranks, Least(ranks, n), all[:min(max(n, 0), len(all))])
	}
	for _, n := range []int{math.MinInt, math.MinInt + 1, -1 << 32, -1<<32 + 1} {
		wantInts(t, "Least", ranks, Least(ranks, n), nil)
	}
	for _, n := range []int{1 << 32, 1<<32 + 1, math.MaxInt - 1, math.MaxInt} {
		wantInts(t, "Least", ranks, Least(ranks, n), all)
	}
	wantInts(t, "Least has changed", given, ranks, given)
}

// TestP12_1Least: of all short lists, of extremes, and of long lists.
func TestP12_1Least(t *testing.T) {
	wantLeast(t, nil)
	wantLeast(t, []int{})
	onLists(6, 4, func(list []int) { wantLeast(t, list) })
	wantLeast(t, extremes())
	r := rand.New(rand.NewPCG(12, 104))
	for range 200 {
		ranks := make([]int, r.IntN(40))
		for i := range ranks {
			ranks[i] = extremes()[r.IntN(len(extremes()))]
		}
		wantLeast(t, ranks)
	}
}

// TestP12_3Least: Least of n is the beginning of Least of more, also of more ranks than a queue has room for; and all is each place once.
func TestP12_3Least(t *testing.T) {
	r := rand.New(rand.NewPCG(12, 105))
	for _, count := range []int{maxQueue - 1, maxQueue, maxQueue + 1, 100000} {
		ranks := make([]int, count)
		for i := range ranks {
			ranks[i] = r.IntN(count/3) - count/6
		}
		all := Least(ranks, count)
		for i := 1; i < len(all); i++ {
			a, b := api.Ranked{Id: all[i-1], Rank: ranks[all[i-1]]}, api.Ranked{Id: all[i], Rank: ranks[all[i]]}
			if !slowAhead(a, b) {
				t.Fatal("Least of", count, "has", a, "ahead of", b)
			}
		}
		if len(all) != count {
			t.Fatal("Least of", count, "has", len(all))
		}
		for _, n := range []int{1, 2, 3, 100, maxQueue, count - 1, count} {
			if least := Least(ranks, n); !slices.Equal(least, all[:min(n, count)]) {
				t.Error("Least of", n, "isn't the beginning of Least of all", count)
			}
		}
	}
}

// slowMerge is the lists as one: by the chapter's words.
func slowMerge(lists ...[]int) []int {
	var merged []int
	rest := slices.Clone(lists)
	for {
		next := -1
		for list, numbers := range rest {
			if len(numbers) > 0 && (next < 0 || numbers[0] < rest[next][0]) {
				next = list
			}
		}
		if next < 0 {
			return merged
		}
		merged = append(merged, rest[next][0])
		rest[next] = rest[next][1:]
	}
}

// wantMerge asks Merge for what it must answer; of lists that don't fall also for what doesn't.
func wantMerge(t *testing.T, lists ...[]int) {
	t.Helper()
	merged := Merge(lists...)
	wantInts(t, "Merge", lists, merged, slowMerge(lists...))
	if slices.ContainsFunc(lists, func(list []int) bool { return !slices.IsSorted(list) }) {
		return
	}
	numbers := slices.Concat(lists...)
	slices.Sort(numbers)
	wantInts(t, "Merge of lists that don't fall", lists, merged, numbers)
}

// TestP12_1Merge: all short lists, any two and any three of them; lists of nothing; lists that fall.
func TestP12_1Merge(t *testing.T) {
	wantMerge(t)
	wantMerge(t, nil)
	wantMerge(t, nil, []int{}, nil)
	wantMerge(t, nil, []int{3}, nil, []int{2, 1}, []int{})
	// What isn't first isn't looked at: of equal firsts that of the earliest list is taken.
	wantInts(t, "Merge", "of equal firsts", Merge([]int{1, 0}, []int{1, 5}), []int{1, 0, 1, 5})
	wantInts(t, "Merge", "of equal firsts", Merge([]int{1, 5}, []int{1, 0}), []int{1, 1, 0, 5})
	onLists(4, 3, func(a []int) {
		wantMerge(t, a)
		onLists(4, 3, func(b []int) { wantMerge(t, a, b) })
	})
	onLists(2, 3, func(a []int) {
		onLists(2, 3, func(b []int) {
			onLists(3, 3, func(c []int) { wantMerge(t, a, b, c) })
		})
	})
	for _, a := range extremes() {
		for _, b := range extremes() {
			wantMerge(t, []int{a, 0, b}, []int{b, a}, []int{0})
		}
	}
}

// randomLists is count lists of up to most numbers; that don't fall, if it is asked for.
func randomLists(r *rand.Rand, count, most int, sorted bool) [][]int {
	lists := make([][]int, count)
	for list := range lists {
		for range r.IntN(most + 1) {
			lists[list] = append(lists[list], r.IntN(2*most)-most)
		}
		if sorted {
			slices.Sort(lists[list])
		}
	}
	return lists
}

// TestP12_3Merge: lists that don't fall, and any, many and long ones among them, more than a queue has room for.
func TestP12_3Merge(t *testing.T) {
	r := rand.New(rand.NewPCG(12, 106))
	for range 1000 {
		wantMerge(t, randomLists(r, r.IntN(12), 1+r.IntN(12), true)...)
		wantMerge(t, randomLists(r, r.IntN(12), 1+r.IntN(12), false)...)
	}
	wantMerge(t, randomLists(r, 3, 20000, true)...)
	wantMerge(t, randomLists(r, 3, 20000, false)...)
	many := randomLists(r, maxQueue+100, 4, true)
	numbers := slices.Concat(many...)
	slices.Sort(numbers)
	if merged := Merge(many...); !slices.Equal(merged, numbers) {
		t.Error("Merge of many lists is wrong", len(merged), len(numbers))
	}
}

// TestP12_1Given: lists that are handed in are neither changed nor kept, what lies behind them is neither read nor handed out, and answers are new.
func TestP12_1Given(t *testing.T) {
	memory := []int{5, 1, 3, -7, -8, -9}
	before := slices.Clone(memory)
	list := memory[:3]
	lists := [][]int{list, nil, memory[1:2], list}
	wantInts(t, "Least", list, Least(list, 5), []int{1, 2, 0})
	merged := Merge(lists...)
	wantInts(t, "Merge", lists, merged, []int{1, 5, 1, 3, 5, 1, 3})
	for i, want := range [][]int{{5, 1, 3}, {}, {1}, {5, 1, 3}} {
		wantInts(t, "Merge has changed", i, lists[i], want)
	}
	again := Merge(lists...)
	spoil(merged, 100)
	wantInts(t, "answers share memory", lists, again, []int{1, 5, 1, 3, 5, 1, 3})
	spoil(Merge(list), 100)
	spoil(Merge(nil, list), 100)
	spoil(Least(list, 2), 100)
	wantInts(t, "the memory that was handed in is changed", before, memory, before)
	one := Merge(list)
	list[0] = 50
	wantInts(t, "what was handed in is kept", list, one, []int{5, 1, 3})
}
