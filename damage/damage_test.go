package damage

import (
	"math"
	"math/bits"
	"slices"
	"strconv"
	"strings"
	"testing"

	"tessera/api"
	"tessera/base"
	"tessera/code"
)

// illegal is k and r that aren't legal; the sums of some run over, and some have legal numbers in their low bits.
func illegal() [][2]int {
	var all [][2]int
	for k := -2; k <= 18; k++ {
		for r := -2; r <= 18; r++ {
			if k < 1 || r < 2 || k+r > 16 {
				all = append(all, [2]int{k, r})
			}
		}
	}
	for _, far := range []int{math.MinInt, math.MinInt + 3, -1 << 32, 256 + 4, 1<<32 + 2, 1<<63 - 8, math.MaxInt} {
		all = append(all, [2]int{far, 3}, [2]int{4, far}, [2]int{far, far})
	}
	return all
}

// outside is numbers that aren't 0 to count - 1, with count itself, and some whose low bits are.
func outside(count int) []int {
	return []int{
		math.MinInt, math.MinInt + 1, math.MinInt / 2, -1 << 32, -256, -count, -2, -1,
		count, count + 1, 2 * count, 64 + count, 256, 256 + 1, 1 << 16, 1 << 32, 1<<32 + 1,
		math.MaxInt / 2, math.MaxInt/2 + 1, math.MaxInt - 1, math.MaxInt,
	}
}

// numbers is the numbers from from to to - 1.
func numbers(from, to int) []int {
	var list []int
	for number := from; number < to; number++ {
		list = append(list, number)
	}
	return list
}

// chosen is the numbers whose bits are set in choice.
func chosen(choice uint) []int {
	var list []int
	for number := range bits.Len(choice) {
		if choice>>number&1 == 1 {
			list = append(list, number)
		}
	}
	return list
}

// bothOf is both halves of each of these shards.
func bothOf(shards []int) []int {
	var list []int
	for _, shard := range shards {
		list = append(list, 2*shard, 2*shard+1)
	}
	return list
}

// sample is some sets of halves of the stripe, as bits: few, all but few, and many by turns with the count of the halves left near to 2k.
func sample(k, r int) []uint {
	count := 2 * (k + r)
	all := uint(1)<<count - 1
	sets := []uint{0, all}
	for half := range count {
		sets = append(sets, 1<<half, all&^(1<<half))
		if half+1 < count {
			sets = append(sets, 3<<half, all&^(3<<half))
		}
	}
	state := uint64(16*k + r)
	for turn := range 60 {
		var set uint
		for bits.OnesCount(set) < 2*r-turn%4 {
			state = state*6364136223846793005 + 1442695040888963407
			set |= 1 << (int(state>>33) % count)
		}
		sets = append(sets, set)
	}
	return sets
}

// onLosses calls f with sets of lost halves of all legal k and r: all sets of narrow stripes, a sample of the others.
func onLosses(t *testing.T, f func(t *testing.T, k, r int, lost []int)) {
	for k, r := range base.All() {
		t.Run(strconv.Itoa(k)+"_"+strconv.Itoa(r), func(t *testing.T) {
			t.Parallel()
			if k+r > 6 {
				for _, set := range sample(k, r) {
					f(t, k, r, chosen(set))
				}
				return
			}
			for set := range uint(1) << (2 * (k + r)) {
				f(t, k, r, chosen(set))
			}
		})
	}
}

// product is the product of polynomials modulo 285, bit by bit.
func product(a, b byte) byte {
	result := 0
	for bit := range 8 {
		result ^= int(b) >> bit & 1 * (int(a) << bit)
	}
	for bit := 15; bit >= 8; bit-- {
		result ^= result >> bit & 1 * (285 << (bit - 8))
	}
	return byte(result)
}

// inverse is the power of a that is its inverse: a times itself 254 times.
func inverse(a byte) byte {
	result := byte(1)
	for range 254 {
		result = product(result, a)
	}
	return result
}

// slowRows is the rows of all halves, read off the stripes of which one variable alone isn't 0.
func slowRows(t *testing.T, k, r int) [][]byte {
	t.Helper()
	rows := make([][]byte, 2*(k+r))
	for v := range 2 * k {
		data := make([]byte, 2*k)
		data[v] = 1
		halves, err := code.Encode(k, r, data)
		if err != nil || len(halves) != len(rows) {
			t.Fatal("Encode", k, r, len(halves), err)
		}
		for half := range rows {
			rows[half] = append(rows[half], halves[half][0])
		}
	}
	return rows
}

// slowRank is how many of the rows are no combination of those ahead of them.
func slowRank(rows [][]byte) int {
	var kept [][]byte
	var places []int
	for _, row := range rows {
		row = slices.Clone(row)
		for i, other := range kept {
			if c := row[places[i]]; c != 0 {
				for v := range row {
					row[v] ^= product(c, other[v])
				}
			}
		}
		place := slices.IndexFunc(row, func(c byte) bool { return c != 0 })
		if place < 0 {
			continue
		}
		c := inverse(row[place])
		for v := range row {
			row[v] = product(c, row[v])
		}
		kept, places = append(kept, row), append(places, place)
	}
	return len(kept)
}

// slowGone tells whether the rows of the halves that aren't lost have a rank below 2k.
func slowGone(t *testing.T, k, r int, lost []int) bool {
	t.Helper()
	var rows [][]byte
	for half, row := range slowRows(t, k, r) {
		if !slices.Contains(lost, half) {
			rows = append(rows, row)
		}
	}
	return slowRank(rows) < 2*k
}

// slowLeft is the halves that aren't in the list.
func slowLeft(k, r int, lost []int) []int {
	return slices.DeleteFunc(numbers(0, 2*(k+r)), func(half int) bool { return slices.Contains(lost, half) })
}

// slowWhole is the shards both halves of which are in the list.
func slowWhole(k, r int, lost []int) []int {
	return slices.DeleteFunc(numbers(0, k+r), func(shard int) bool {
		return !slices.Contains(lost, 2*shard) || !slices.Contains(lost, 2*shard+1)
	})
}

// slowKind is the kind, each data shard being held against the list.
func slowKind(k int, lost []int) int {
	if len(lost) == 0 {
		return api.DamageNone
	}
	for shard := range k {
		if slices.Equal(lost, []int{2 * shard, 2*shard + 1}) {
			return api.DamageData
		}
	}
	return api.DamageOther
}

// slowNames is the names of all halves, by number.
func slowNames(k, r int) []string {
	var names []string
	for shard := range k {
		names = append(names, "d"+strconv.Itoa(shard)+"a", "d"+strconv.Itoa(shard)+"b")
	}
	for parity := range r {
		names = append(names, "p"+strconv.Itoa(parity)+"a", "p"+strconv.Itoa(parity)+"b")
	}
	return names
}

// slowText is the text.
func slowText(k, r int, lost []int) string {
	if len(lost) == 0 {
		return "none"
	}
	names := slowNames(k, r)
	text := names[lost[0]]
	for _, half := range lost[1:] {
		text += "," + names[half]
	}
	return text
}

// wantCheck asks Check for an error, or none.
func wantCheck(t *testing.T, k, r int, lost []int, wantErr error) {
	t.Helper()
	if err := Check(k, r, lost); err != wantErr {
		t.Error("Check", k, r, lost, "is", err, "not", wantErr)
	}
}

// wantLeft asks Left for halves or an error.
func wantLeft(t *testing.T, k, r int, lost, want []int, wantErr error) {
	t.Helper()
	if left, err := Left(k, r, lost); !slices.Equal(left, want) || err != wantErr {
		t.Error("Left", k, r, lost, "is", left, err, "not", want, wantErr)
	}
}

// wantWhole asks Whole for shards or an error.
func wantWhole(t *testing.T, k, r int, lost, want []int, wantErr error) {
	t.Helper()
	if whole, err := Whole(k, r, lost); !slices.Equal(whole, want) || err != wantErr {
		t.Error("Whole", k, r, lost, "is", whole, err, "not", want, wantErr)
	}
}

// wantKind asks Kind for a kind or an error.
func wantKind(t *testing.T, k, r int, lost []int, want int, wantErr error) {
	t.Helper()
	if kind, err := Kind(k, r, lost); kind != want || err != wantErr {
		t.Error("Kind", k, r, lost, "is", kind, err, "not", want, wantErr)
	}
}

// wantGone asks Gone for a bool or an error.
func wantGone(t *testing.T, k, r int, lost []int, want bool, wantErr error) {
	t.Helper()
	if gone, err := Gone(k, r, lost); gone != want || err != wantErr {
		t.Error("Gone", k, r, lost, "is", gone, err, "not", want, wantErr)
	}
}

// wantText asks Text for a text or an error.
func wantText(t *testing.T, k, r int, lost []int, want string, wantErr error) {
	t.Helper()
	if text, err := Text(k, r, lost); text != want || err != wantErr {
		t.Error("Text", k, r, lost, "is", text, err, "not", want, wantErr)
	}
}

// wantParse asks Parse for a list or an error.
func wantParse(t *testing.T, k, r int, text string, want []int, wantErr error) {
	t.Helper()
	if lost, err := Parse(k, r, text); !slices.Equal(lost, want) || err != wantErr {
		t.Error("Parse", k, r, strconv.Quote(text), "is", lost, err, "not", want, wantErr)
	}
}

// wantRefused asks each call that is handed a list for this error, and no more.
func wantRefused(t *testing.T, k, r int, lost []int, wantErr error) {
	t.Helper()
	wantCheck(t, k, r, lost, wantErr)
	wantLeft(t, k, r, lost, nil, wantErr)
	wantWhole(t, k, r, lost, nil, wantErr)
	wantKind(t, k, r, lost, 0, wantErr)
	wantGone(t, k, r, lost, false, wantErr)
	wantText(t, k, r, lost, "", wantErr)
}

func TestP8_1Examples(t *testing.T) {
	wantKind(t, 2, 2, []int{2, 3}, api.DamageData, nil)
	wantKind(t, 2, 2, []int{4, 5}, api.DamageOther, nil)
	wantWhole(t, 2, 2, []int{0, 1, 4}, []int{0}, nil)
	wantText(t, 2, 2, []int{0, 5}, "d0a,p0b", nil)
	for _, text := range []string{"p0b,d0a", "d0a,", "", "none,d0a"} {
		wantParse(t, 2, 2, text, nil, api.ErrHalf)
	}
	wantGone(t, 2, 2, []int{0, 1, 2, 3, 4}, true, nil)
	wantGone(t, 2, 2, []int{0, 2, 5, 7}, false, nil)
	wantLeft(t, 2, 2, []int{0, 2, 5, 7}, []int{1, 3, 4, 6}, nil)
}

// TestP8_1Losses: all calls at all sets of lost halves of narrow stripes, and at some of all legal k and r.
func TestP8_1Losses(t *testing.T) {
	onLosses(t, func(t *testing.T, k, r int, lost []int) {
		wantCheck(t, k, r, lost, nil)
		wantLeft(t, k, r, lost, slowLeft(k, r, lost), nil)
		wantWhole(t, k, r, lost, slowWhole(k, r, lost), nil)
		wantKind(t, k, r, lost, slowKind(k, lost), nil)
		wantText(t, k, r, lost, slowText(k, r, lost), nil)
		wantParse(t, k, r, slowText(k, r, lost), lost, nil)
	})
}

// TestP8_1Ranks: Gone at the same sets.
func TestP8_1Ranks(t *testing.T) {
	onLosses(t, func(t *testing.T, k, r int, lost []int) {
		wantGone(t, k, r, lost, slowGone(t, k, r, lost), nil)
	})
}

// TestP8_1Empty: nothing lost, as nil and as an empty list, and everything lost.
func TestP8_1Empty(t *testing.T) {
	for k, r := range base.All() {
		count := 2 * (k + r)
		for _, lost := range [][]int{nil, {}, numbers(0, count)[:0]} {
			wantCheck(t, k, r, lost, nil)
			wantLeft(t, k, r, lost, numbers(0, count), nil)
			wantWhole(t, k, r, lost, nil, nil)
			wantKind(t, k, r, lost, api.DamageNone, nil)
			wantGone(t, k, r, lost, false, nil)
			wantText(t, k, r, lost, "none", nil)
		}
		wantParse(t, k, r, "none", nil, nil)
		all := numbers(0, count)
		wantCheck(t, k, r, all, nil)
		wantLeft(t, k, r, all, nil, nil)
		wantWhole(t, k, r, all, numbers(0, k+r), nil)
		wantKind(t, k, r, all, api.DamageOther, nil)
		wantGone(t, k, r, all, true, nil)
		wantText(t, k, r, all, strings.Join(slowNames(k, r), ","), nil)
	}
}

// TestP8_1Kinds: losses next to both halves of one data shard.
func TestP8_1Kinds(t *testing.T) {
	for k, r := range base.All() {
		for shard := range k + r {
			want := api.DamageOther
			if shard < k {
				want = api.DamageData
			}
			wantKind(t, k, r, []int{2 * shard, 2*shard + 1}, want, nil)
			wantWhole(t, k, r, []int{2 * shard, 2*shard + 1}, []int{shard}, nil)
			wantKind(t, k, r, []int{2 * shard}, api.DamageOther, nil)
			wantKind(t, k, r, []int{2*shard + 1}, api.DamageOther, nil)
			if shard == 0 {
				continue
			}
			// Two halves that follow one another, but of two shards.
			wantKind(t, k, r, []int{2*shard - 1, 2 * shard}, api.DamageOther, nil)
			wantWhole(t, k, r, []int{2*shard - 1, 2 * shard}, nil, nil)
			wantKind(t, k, r, []int{0, 1, 2 * shard}, api.DamageOther, nil)
			wantKind(t, k, r, []int{0, 1, 2*shard + 1}, api.DamageOther, nil)
			wantKind(t, k, r, []int{0, 1, 2 * shard, 2*shard + 1}, api.DamageOther, nil)
			wantKind(t, k, r, []int{0, 2*shard - 1, 2 * shard}, api.DamageOther, nil)
			wantWhole(t, k, r, []int{0, 1, 2 * shard, 2*shard + 1}, []int{0, shard}, nil)
		}
	}
}

// TestP8_1Halves: with one count of lost halves a stripe is gone or isn't, as the lost are a's or b's.
func TestP8_1Halves(t *testing.T) {
	// p1b gives d0a, if d0b is there; nothing but b's tells d0b.
	wantGone(t, 1, 2, []int{0, 2, 4}, false, nil)
	wantGone(t, 1, 2, []int{1, 3, 5}, true, nil)
	wantGone(t, 1, 2, []int{0, 1, 2, 4}, false, nil)
	wantGone(t, 1, 2, []int{0, 2, 4, 5}, true, nil)
	wantGone(t, 1, 2, []int{0, 1, 2, 3}, false, nil)
	// Parity 1 carries data shards 0 and 1, parity 2 the others: each gives one a that is lost in all parts 0 of parities, but not two.
	wantGone(t, 4, 3, []int{0, 8, 10, 12}, false, nil)
	wantGone(t, 4, 3, []int{0, 2, 8, 10, 12}, true, nil)
	wantGone(t, 4, 3, []int{0, 4, 8, 10, 12}, false, nil)
	wantGone(t, 4, 3, []int{0, 4, 8, 10, 12, 13}, true, nil)
	// Parity 2 carries nothing, so its part 1 doesn't stand in for that of parity 1.
	wantGone(t, 1, 3, []int{0, 2, 4, 6}, false, nil)
	wantGone(t, 1, 3, []int{0, 2, 4, 5, 6}, true, nil)
	wantGone(t, 1, 3, []int{0, 2, 4, 6, 7}, false, nil)
}

// TestP8_1Refused: ErrParams is answered whatever stands behind k and r, right or wrong.
func TestP8_1Refused(t *testing.T) {
	for _, x := range illegal() {
		k, r := x[0], x[1]
		for _, lost := range [][]int{nil, {}, {0}, {0, 1}, {1, 0}, {1, 1}, {-1}, {99}, {math.MinInt}, {math.MaxInt}} {
			wantRefused(t, k, r, lost, api.ErrParams)
		}
		for _, text := range []string{"none", "d0a", "d0a,p1b", "p1b,d0a", "x", ",", ""} {
			wantParse(t, k, r, text, nil, api.ErrParams)
		}
	}
}

// TestP8_1Outside: numbers that are no half's, alone, ahead of and behind others.
func TestP8_1Outside(t *testing.T) {
	for k, r := range base.All() {
		count := 2 * (k + r)
		for _, number := range outside(count) {
			wantRefused(t, k, r, []int{number}, api.ErrHalf)
			wantRefused(t, k, r, []int{number, 0}, api.ErrHalf)
			wantRefused(t, k, r, []int{number, count - 1}, api.ErrHalf)
			wantRefused(t, k, r, []int{0, number}, api.ErrHalf)
			wantRefused(t, k, r, []int{0, count - 1, number}, api.ErrHalf)
			wantRefused(t, k, r, append(numbers(0, count), number), api.ErrHalf)
		}
	}
}

// TestP8_1Rising: lists that don't rise at one place, wherever that is.
func TestP8_1Rising(t *testing.T) {
	for k, r := range base.All() {
		count := 2 * (k + r)
		for half := range count {
			wantRefused(t, k, r, []int{half, half}, api.ErrHalf)
			wantRefused(t, k, r, slices.Insert(numbers(0, count), half, half), api.ErrHalf)
			if half > 0 {
				wantRefused(t, k, r, []int{half, half - 1}, api.ErrHalf)
				wantRefused(t, k, r, []int{half, 0}, api.ErrHalf)
				turned := numbers(0, count)
				turned[half-1], turned[half] = half, half-1
				wantRefused(t, k, r, turned, api.ErrHalf)
			}
		}
		wantRefused(t, k, r, append(numbers(0, count), 0), api.ErrHalf)
		wantRefused(t, k, r, []int{0, 2, 1}, api.ErrHalf)
		wantRefused(t, k, r, []int{0, 1, 0, 1}, api.ErrHalf)
	}
}

// TestP8_1Long: lists and texts far longer than any that can be.
func TestP8_1Long(t *testing.T) {
	wantRefused(t, 2, 2, make([]int, 1<<22), api.ErrHalf)
	wantRefused(t, 2, 2, numbers(0, 1<<22), api.ErrHalf)
	for _, text := range []string{",", "d0a,", "d", "none", "0", "d0a,d0b,", "none,"} {
		wantParse(t, 2, 2, strings.Repeat(text, 1<<22), nil, api.ErrHalf)
	}
}

// wrongTexts is texts that are none of k 4 and r 3, nor of any other k and r.
func wrongTexts() []string {
	return []string{
		"", ",", ",,", " ", "d0a,", ",d0a", "d0a,,d0b", "d0a,d0a", "d0b,d0a", "p0b,d0a", "p1a,p0a", "d0a,d0b,d0a", "d0a,d0b,d0b",
		"none,", ",none", "none,none", "none,d0a", "d0a,none", "d0a,none,d0b", "None", "NONE", "non", "nonee", "none ", " none", "none\n", "none\x00", "nil", "all", "-",
		"d0a, d0b", "d0a ,d0b", " d0a", "d0a ", "d0a d0b", "d0a;d0b", "d0a.d0b", "d0a\nd0b", "d0a\x00", "d0a\x00,d0b", "d0ad0b", "d0a,d0", "d0a,a", "d0,d0b",
		"d0", "d", "a", "0", "1", "0,1", "d00a", "d00a,d0b", "d0a,d00b", "d+0a", "d-0a", "D0a", "d0A", "d0c", "e0a", "d0a,x", "x,d0a",
		"d16a", "p16a", "d14a,p0a", "d0a,p15a", "d256a", "d18446744073709551616a", "d0a,d18446744073709551616b",
		"d0a\uff0cd0b", "d0a\u060cd0b", "d\u0660a", "d0a\u200b", "\ufeffd0a", "d0a\xff", "\xffnone", "[d0a]", "\"d0a\"", "{}",
	}
}

// TestP8_1Texts: texts near to those of lists.
func TestP8_1Texts(t *testing.T) {
	for k, r := range base.All() {
		for _, text := range wrongTexts() {
			wantParse(t, k, r, text, nil, api.ErrHalf)
		}
		// Names that other k and r have.
		for _, name := range []string{"d" + strconv.Itoa(k) + "a", "p" + strconv.Itoa(r) + "b"} {
			wantParse(t, k, r, name, nil, api.ErrHalf)
			wantParse(t, k, r, "d0a,"+name, nil, api.ErrHalf)
			wantParse(t, k, r, name+",p1b", nil, api.ErrHalf)
		}
	}
}

// textsOf is the texts of all lists of lost halves, each with its list.
func textsOf(k, r int) map[string][]int {
	texts := map[string][]int{}
	for set := range uint(1) << (2 * (k + r)) {
		texts[slowText(k, r, chosen(set))] = chosen(set)
	}
	return texts
}

// wantJust asks Parse for the list whose text it is, if it is one's.
func wantJust(t *testing.T, k, r int, texts map[string][]int, text string) {
	t.Helper()
	if lost, ok := texts[text]; ok {
		wantParse(t, k, r, text, lost, nil)
		return
	}
	wantParse(t, k, r, text, nil, api.ErrHalf)
}

// onJoined calls f with all texts of so many of these pieces, joined.
func onJoined(pieces []string, count int, between string, f func(text string)) {
	if count == 0 {
		f("")
		return
	}
	if count == 1 {
		for _, piece := range pieces {
			f(piece)
		}
		return
	}
	onJoined(pieces, count-1, between, func(text string) {
		for _, piece := range pieces {
			f(text + between + piece)
		}
	})
}

// TestP8_1Pieces: of all texts of a few names, and of things that are none, just those of lists are taken.
func TestP8_1Pieces(t *testing.T) {
	for _, x := range [][2]int{{1, 2}, {2, 2}, {1, 3}} {
		k, r := x[0], x[1]
		texts := textsOf(k, r)
		pieces := append(slowNames(k, r), "", "none", "p3a")
		for count := range 5 {
			onJoined(pieces, count, ",", func(text string) { wantJust(t, k, r, texts, text) })
		}
	}
}

// TestP8_1Letters: of all short texts of the letters of names and their neighbours likewise.
func TestP8_1Letters(t *testing.T) {
	texts := textsOf(1, 2)
	letters := strings.Split("dpab01,noe ", "")
	for count := range 6 {
		onJoined(letters, count, "", func(text string) { wantJust(t, 1, 2, texts, text) })
	}
}

// TestP8_1Given: what is handed in is neither changed nor kept, and what lies behind its length not read (rule 4).
func TestP8_1Given(t *testing.T) {
	for k, r := range base.All() {
		room := append(make([]int, 0, 64), 0, 1, 3, 4, 5, 99, -1)
		kept := slices.Clone(room)
		lost := room[:5]
		wantCheck(t, k, r, lost, nil)
		left, leftErr := Left(k, r, lost)
		whole, wholeErr := Whole(k, r, lost)
		wantKind(t, k, r, lost, api.DamageOther, nil)
		wantGone(t, k, r, lost, slowGone(t, k, r, lost), nil)
		wantText(t, k, r, lost, slowText(k, r, lost), nil)
		if leftErr != nil || wholeErr != nil || !slices.Equal(room, kept) {
			t.Error("a call changes what it was given", k, r, room, leftErr, wholeErr)
		}
		clear(room[:cap(room)])
		if !slices.Equal(left, slowLeft(k, r, kept[:5])) || !slices.Equal(whole, []int{0, 2}) {
			t.Error("a call keeps what it was given", k, r, left, whole)
		}
	}
}

// wantApart asks that two answers of a call are of one kind, that nothing lies behind their length, and that the first one, filled with something else, spare room included, is nothing to the second or to a later one.
func wantApart(t *testing.T, what string, call func() ([]int, error)) {
	t.Helper()
	first, firstErr := call()
	second, secondErr := call()
	kept := slices.Clone(second)
	for _, number := range first[:cap(first)][len(first):] {
		if number != 0 {
			t.Error(what, "hands out behind the length", number)
		}
	}
	room := first[:cap(first)]
	for i := range room {
		room[i] ^= 85
	}
	third, thirdErr := call()
	if firstErr != nil || secondErr != nil || thirdErr != nil || !slices.Equal(second, kept) || !slices.Equal(third, kept) {
		t.Error(what, "shares its memory", firstErr, secondErr, thirdErr)
	}
}

// TestP8_1Memory: answers are new memory (rule 4).
func TestP8_1Memory(t *testing.T) {
	for k, r := range base.All() {
		for _, set := range sample(k, r) {
			lost := chosen(set)
			text := slowText(k, r, lost)
			wantApart(t, "Left", func() ([]int, error) { return Left(k, r, lost) })
			wantApart(t, "Whole", func() ([]int, error) { return Whole(k, r, lost) })
			wantApart(t, "Parse", func() ([]int, error) { return Parse(k, r, text) })
			wantText(t, k, r, lost, text, nil)
		}
	}
}

// TestP8_2More: what is gone stays gone if one half more is lost.
func TestP8_2More(t *testing.T) {
	onLosses(t, func(t *testing.T, k, r int, lost []int) {
		if gone, err := Gone(k, r, lost); err != nil || !gone {
			return
		}
		for _, half := range slowLeft(k, r, lost) {
			more := append(slices.Clone(lost), half)
			slices.Sort(more)
			wantGone(t, k, r, more, true, nil)
		}
	})
}

// TestP8_2Shards: each choice of r shards that lost both halves, and some that lost one, of all legal k and r; with one half more each is gone.
func TestP8_2Shards(t *testing.T) {
	for k, r := range base.All() {
		t.Run(strconv.Itoa(k)+"_"+strconv.Itoa(r), func(t *testing.T) {
			t.Parallel()
			tried := 0
			for choice := range uint(1) << (k + r) {
				if bits.OnesCount(choice) != r {
					continue
				}
				// Of wide stripes there are very many choices: each ninth one of them.
				if tried++; k+r > 10 && tried%9 != 0 {
					continue
				}
				lost := bothOf(chosen(choice))
				wantGone(t, k, r, lost, false, nil)
				wantGone(t, k, r, slices.Delete(slices.Clone(lost), tried%(2*r), tried%(2*r)+1), false, nil)
				left := slowLeft(k, r, lost)
				more := append(lost, left[tried%len(left)])
				slices.Sort(more)
				wantGone(t, k, r, more, true, nil)
			}
		})
	}
}

// TestP8_2Many: if more than 2r halves are lost, the stripe is gone.
func TestP8_2Many(t *testing.T) {
	onLosses(t, func(t *testing.T, k, r int, lost []int) {
		if len(lost) > 2*r {
			wantGone(t, k, r, lost, true, nil)
		}
	})
	for k, r := range base.All() {
		for from := range 2 * k {
			wantGone(t, k, r, numbers(from, from+2*r+1), true, nil)
		}
	}
}

// TestP8_3Undo: Text and Parse undo one another, and unlike lists have unlike texts.
func TestP8_3Undo(t *testing.T) {
	onLosses(t, func(t *testing.T, k, r int, lost []int) {
		text, err := Text(k, r, lost)
		if err != nil || text == "" {
			t.Error("Text", k, r, lost, text, err)
		}
		wantParse(t, k, r, text, lost, nil)
	})
	for k, r := range base.All() {
		if k+r > 6 {
			continue
		}
		met := map[string]bool{}
		for set := range uint(1) << (2 * (k + r)) {
			text, err := Text(k, r, chosen(set))
			if err != nil || met[text] {
				t.Error("Text", k, r, chosen(set), text, err)
			}
			met[text] = true
		}
	}
}

// TestP8_3Again: what Parse takes, Text tells again.
func TestP8_3Again(t *testing.T) {
	for _, x := range [][2]int{{1, 2}, {2, 2}} {
		k, r := x[0], x[1]
		pieces := append(slowNames(k, r), "none", "")
		taken := 0
		for count := range 5 {
			onJoined(pieces, count, ",", func(text string) {
				if lost, err := Parse(k, r, text); err == nil {
					taken++
					wantText(t, k, r, lost, text, nil)
				}
			})
		}
		if taken == 0 {
			t.Error("Parse takes nothing", k, r)
		}
	}
}
