package gf

import (
	"bytes"
	"math"
	"testing"
)

// longProduct is the product by its definition: all of it as a polynomial first, then what is left modulo 285.
func longProduct(a, b byte) byte {
	product := 0
	for i := range 8 {
		if b&(1<<i) != 0 {
			product ^= int(a) << i
		}
	}
	for i := 14; i >= 8; i-- {
		if product&(1<<i) != 0 {
			product ^= 285 << (i - 8)
		}
	}
	return byte(product)
}

// slowPower is a multiplied n times.
func slowPower(a byte, n int) byte {
	power := byte(1)
	for range n {
		power = longProduct(power, a)
	}
	return power
}

// allBytes is 0 to 255.
func allBytes() []byte {
	list := make([]byte, 256)
	for i := range list {
		list[i] = byte(i)
	}
	return list
}

// mixedBytes is n bytes that follow no simple order, other ones for another seed.
func mixedBytes(n int, seed uint32) []byte {
	list := make([]byte, n)
	for i := range list {
		seed = seed*1664525 + 1013904223
		list[i] = byte(seed >> 24)
	}
	return list
}

// onPairs calls f with all pairs of elements.
func onPairs(f func(a, b byte)) {
	for _, a := range allBytes() {
		for _, b := range allBytes() {
			f(a, b)
		}
	}
}

func TestP1_1Examples(t *testing.T) {
	if Mul(2, 128) != 29 || Mul(3, 7) != 9 {
		t.Error("Mul", Mul(2, 128), Mul(3, 7))
	}
	if x, ok := Inv(2); x != 142 || !ok {
		t.Error("Inv(2)", x, ok)
	}
	if x, ok := Div(9, 7); x != 3 || !ok {
		t.Error("Div(9, 7)", x, ok)
	}
	if n, ok := Log(29); n != 8 || !ok {
		t.Error("Log(29)", n, ok)
	}
	if n, ok := Log(1); n != 0 || !ok {
		t.Error("Log(1)", n, ok)
	}
	if Dot([]byte{1, 2}, []byte{3, 4, 5}) != 11 {
		t.Error("Dot", Dot([]byte{1, 2}, []byte{3, 4, 5}))
	}
	if s := Sum([]byte{1, 2}, []byte{1}); !bytes.Equal(s, []byte{0, 2}) {
		t.Error("Sum", s)
	}
	if s := Scale(2, []byte{128, 1}); !bytes.Equal(s, []byte{29, 2}) {
		t.Error("Scale", s)
	}
}

func TestP1_1AddAndMul(t *testing.T) {
	onPairs(func(a, b byte) {
		if Add(a, b) != a^b {
			t.Fatal("Add", a, b, Add(a, b))
		}
		if Mul(a, b) != longProduct(a, b) {
			t.Fatal("Mul", a, b, Mul(a, b))
		}
	})
}

func TestP1_1InvAndDiv(t *testing.T) {
	onPairs(func(a, b byte) {
		quotient, ok := Div(a, b)
		if ok != (b != 0) {
			t.Fatal("Div", a, b, ok)
		}
		if !ok && quotient != 0 {
			t.Fatal("Div beside false", a, b, quotient)
		}
		if ok && longProduct(quotient, b) != a {
			t.Fatal("Div", a, b, quotient)
		}
	})
	if x, ok := Inv(0); x != 0 || ok {
		t.Error("Inv(0)", x, ok)
	}
	for _, a := range allBytes()[1:] {
		if x, ok := Inv(a); !ok || longProduct(a, x) != 1 {
			t.Error("Inv", a, x, ok)
		}
	}
}

func TestP1_1Pow(t *testing.T) {
	for _, a := range allBytes() {
		for n := range 600 {
			power := slowPower(a, n)
			if Pow(a, n) != power {
				t.Fatal("Pow", a, n, Pow(a, n))
			}
			back := Pow(a, -n)
			if a == 0 && n > 0 && back != 0 {
				t.Fatal("Pow of 0", -n, back)
			}
			if (a != 0 || n == 0) && longProduct(back, power) != 1 {
				t.Fatal("Pow", a, -n, back)
			}
		}
	}
}

// TestP1_1PowFar: an element but 0 to the 255 is 1, so of a far n only what is left modulo 255 counts.
func TestP1_1PowFar(t *testing.T) {
	for _, a := range allBytes()[1:] {
		if Pow(a, math.MaxInt64) != slowPower(a, 127) {
			t.Fatal("Pow, the greatest n", a)
		}
		if longProduct(Pow(a, math.MinInt64), slowPower(a, 128)) != 1 {
			t.Fatal("Pow, the least n", a)
		}
		if longProduct(Pow(a, -math.MaxInt64), slowPower(a, 127)) != 1 {
			t.Fatal("Pow, the least n but one", a)
		}
	}
	for _, n := range []int{1, -1, 255, -255, 510, math.MaxInt64, math.MinInt64} {
		if Pow(0, n) != 0 {
			t.Error("Pow of 0", n, Pow(0, n))
		}
	}
	if Pow(0, 0) != 1 {
		t.Error("Pow(0, 0)", Pow(0, 0))
	}
}

func TestP1_1Log(t *testing.T) {
	if n, ok := Log(0); n != 0 || ok {
		t.Error("Log(0)", n, ok)
	}
	power := byte(1)
	for n := range 255 {
		if got, ok := Log(power); got != n || !ok {
			t.Error("Log", power, got, ok)
		}
		power = longProduct(power, 2)
	}
}

func TestP1_1Dot(t *testing.T) {
	for long := range 40 {
		for short := range long + 1 {
			a, b := mixedBytes(long, 1), mixedBytes(short, 2)
			var want byte
			for i := range short {
				want ^= longProduct(a[i], b[i])
			}
			if Dot(a, b) != want || Dot(b, a) != want {
				t.Fatal("Dot", long, short, Dot(a, b), Dot(b, a))
			}
		}
	}
	if Dot(nil, nil) != 0 || Dot(nil, []byte{1}) != 0 || Dot([]byte{1}, []byte{}) != 0 {
		t.Error("Dot of empty lists")
	}
}

func TestP1_1ScaleAllPairs(t *testing.T) {
	for _, c := range allBytes() {
		scaled := Scale(c, allBytes())
		if len(scaled) != 256 {
			t.Fatal("Scale", c, len(scaled))
		}
		for x, product := range scaled {
			if product != longProduct(c, byte(x)) {
				t.Fatal("Scale", c, x, product)
			}
		}
		if len(Scale(c, nil)) != 0 || len(Scale(c, []byte{})) != 0 {
			t.Fatal("Scale of an empty list", c)
		}
	}
}

// at is the element at place i; behind the end of the list it is 0.
func at(list []byte, i int) byte {
	if i < len(list) {
		return list[i]
	}
	return 0
}

func TestP1_1SumAndAddScaled(t *testing.T) {
	for _, sizes := range [][2]int{{0, 0}, {0, 1}, {1, 0}, {1, 1}, {3, 7}, {7, 3}, {64, 64}, {64, 0}, {0, 64}, {1000, 999}} {
		a, b := mixedBytes(sizes[0], 3), mixedBytes(sizes[1], 4)
		for _, c := range allBytes() {
			sum, scaled := Sum(a, b), AddScaled(a, c, b)
			if len(sum) != max(len(a), len(b)) || len(scaled) != len(sum) {
				t.Fatal("lengths", sizes, c, len(sum), len(scaled))
			}
			for i := range sum {
				if sum[i] != at(a, i)^at(b, i) {
					t.Fatal("Sum", sizes, i, sum[i])
				}
				if scaled[i] != at(a, i)^longProduct(c, at(b, i)) {
					t.Fatal("AddScaled", sizes, c, i, scaled[i])
				}
			}
		}
	}
}

// TestP1_1Lists: what is handed in stays as it is, spare room included, and answers share nothing with it (rule 4).
func TestP1_1Lists(t *testing.T) {
	for _, sizes := range [][2]int{{4, 4}, {6, 2}, {2, 6}, {0, 5}, {5, 0}} {
		roomA, roomB := mixedBytes(16, 5), mixedBytes(16, 6)
		a, b := roomA[:sizes[0]], roomB[:sizes[1]]
		answers := [][]byte{Sum(a, b), Scale(1, a), Scale(7, b), Scale(0, a), AddScaled(a, 0, b), AddScaled(a, 1, b), AddScaled(a, 9, b)}
		Dot(a, b)
		for _, answer := range answers {
			answer = answer[:cap(answer)]
			for i := range answer {
				answer[i] = ^answer[i]
			}
		}
		if !bytes.Equal(roomA, mixedBytes(16, 5)) || !bytes.Equal(roomB, mixedBytes(16, 6)) {
			t.Error("what was handed in has changed", sizes)
		}
	}
}

// TestP1_1OneListTwice: a list that is handed in at both places counts as two lists.
func TestP1_1OneListTwice(t *testing.T) {
	a := mixedBytes(20, 7)
	if !bytes.Equal(Sum(a, a), make([]byte, 20)) || !bytes.Equal(AddScaled(a, 2, a), Scale(3, a)) {
		t.Error("one list twice", Sum(a, a), AddScaled(a, 2, a))
	}
	if Dot(a, a) != Dot(a, bytes.Clone(a)) {
		t.Error("Dot of one list twice")
	}
	if !bytes.Equal(a, mixedBytes(20, 7)) {
		t.Error("the list has changed")
	}
}

func TestP1_2Pairs(t *testing.T) {
	onPairs(func(a, b byte) {
		if Add(a, b) != Add(b, a) || Mul(a, b) != Mul(b, a) {
			t.Fatal("not commutative", a, b)
		}
		if (Mul(a, b) == 0) != (a == 0 || b == 0) {
			t.Fatal("a product of 0", a, b)
		}
	})
}

func TestP1_2Triples(t *testing.T) {
	onPairs(func(a, b byte) {
		for _, c := range mixedBytes(16, uint32(a)<<8|uint32(b)) {
			if Add(Add(a, b), c) != Add(a, Add(b, c)) || Mul(Mul(a, b), c) != Mul(a, Mul(b, c)) {
				t.Fatal("not associative", a, b, c)
			}
			if Mul(a, Add(b, c)) != Add(Mul(a, b), Mul(a, c)) {
				t.Fatal("not distributive", a, b, c)
			}
		}
	})
}

func TestP1_2NoughtOneInverse(t *testing.T) {
	for _, a := range allBytes() {
		if Add(a, 0) != a || Add(a, a) != 0 || Mul(a, 0) != 0 || Mul(a, 1) != a {
			t.Error("0 and 1", a)
		}
		inverse, ok := Inv(a)
		if ok != (a != 0) || ok && Mul(inverse, a) != 1 {
			t.Error("inverse", a, inverse, ok)
		}
	}
}

func TestP1_3EachElementOnce(t *testing.T) {
	var count [256]int
	for n := range 255 {
		count[Pow(2, n)]++
		if got, ok := Log(Pow(2, n)); got != n || !ok {
			t.Error("Log of Pow", n, got, ok)
		}
	}
	if count[0] != 0 {
		t.Error("0 is a power of 2")
	}
	for a, times := range count[1:] {
		if times != 1 {
			t.Error("element", a+1, "stands so many times:", times)
		}
	}
}

func TestP1_3PowAdds(t *testing.T) {
	list := []int{-600, -256, -255, -254, -128, -1, 0, 1, 2, 127, 254, 255, 256, 599}
	for _, a := range allBytes()[1:] {
		for _, m := range list {
			for _, n := range list {
				if Mul(Pow(a, m), Pow(a, n)) != Pow(a, m+n) {
					t.Fatal("Pow doesn't add", a, m, n)
				}
			}
		}
	}
}

// TestP1_3PowAddsFar: sums that no int holds: 2^64 - 2 leaves 254 modulo 255, -2^64 leaves -1, and 2^63 - 1 less 2^63 is -1.
func TestP1_3PowAddsFar(t *testing.T) {
	for _, a := range allBytes()[1:] {
		most, least := Pow(a, math.MaxInt64), Pow(a, math.MinInt64)
		if Mul(most, most) != Pow(a, 254) || Mul(least, least) != Pow(a, -1) || Mul(most, least) != Pow(a, -1) {
			t.Fatal("Pow doesn't add far out", a, most, least)
		}
	}
}

func TestP1_4DotBilinear(t *testing.T) {
	for size := range 40 {
		a, b, d := mixedBytes(size, 8), mixedBytes(size, 9), mixedBytes(size, 10)
		for _, c := range allBytes() {
			if Dot(AddScaled(a, c, b), d) != Add(Dot(a, d), Mul(c, Dot(b, d))) {
				t.Fatal("not linear at the left", size, c)
			}
			if Dot(d, AddScaled(a, c, b)) != Add(Dot(d, a), Mul(c, Dot(d, b))) {
				t.Fatal("not linear at the right", size, c)
			}
			if Dot(Scale(c, a), b) != Mul(c, Dot(a, b)) || Dot(a, Scale(c, b)) != Mul(c, Dot(a, b)) {
				t.Fatal("scaled", size, c)
			}
		}
		if Dot(Sum(a, b), d) != Add(Dot(a, d), Dot(b, d)) {
			t.Fatal("summed", size)
		}
	}
}

func TestP1_4AddScaledTwice(t *testing.T) {
	for size := range 70 {
		a, b := mixedBytes(size, 11), mixedBytes(size, 12)
		for _, c := range allBytes() {
			if !bytes.Equal(AddScaled(AddScaled(a, c, b), c, b), a) {
				t.Fatal("twice doesn't lead back", size, c)
			}
		}
	}
}
