// Package gf is layer 1: the field of 256 elements, and lists of them.
package gf

// reduced is x^4 + x^3 + x^2 + 1: what x^8 is in the field.
const reduced = 29

// units is how many elements but 0 there are: each of them to this power is 1.
const units = 255

// Add is the sum.
func Add(a, b byte) byte { return a ^ b }

// Mul is the product.
func Mul(a, b byte) byte {
	var product byte
	for bit := range 8 {
		product ^= (b >> bit & 1) * a
		a = double(a)
	}
	return product
}

// double is the product with x, the element 2.
func double(a byte) byte { return a<<1 ^ (a>>7)*reduced }

// Inv is the inverse.
func Inv(a byte) (byte, bool) {
	if a == 0 {
		return 0, false
	}
	return Pow(a, -1), true
}

// Div is the quotient.
func Div(a, b byte) (byte, bool) {
	inverse, ok := Inv(b)
	if !ok {
		return 0, false
	}
	return Mul(a, inverse), true
}

// Pow is a power.
func Pow(a byte, n int) byte {
	if n == 0 {
		return 1
	}
	if a == 0 {
		return 0
	}
	// The least n from 0 on with the same power: no -n is worked out, which the least int has not.
	n = (n%units + units) % units
	power := byte(1)
	for bit := range 8 {
		if n>>bit&1 == 1 {
			power = Mul(power, a)
		}
		a = Mul(a, a)
	}
	return power
}

// Log is the logarithm by 2.
func Log(a byte) (int, bool) {
	power := byte(1)
	for n := range units {
		if power == a {
			return n, true
		}
		power = double(power)
	}
	return 0, false
}

// Dot is the sum of products.
func Dot(a, b []byte) byte {
	var sum byte
	for i := range min(len(a), len(b)) {
		sum ^= Mul(a[i], b[i])
	}
	return sum
}

// Sum is the sum, place by place.
func Sum(a, b []byte) []byte { return AddScaled(a, 1, b) }

// Scale is the product with one element.
func Scale(c byte, a []byte) []byte { return AddScaled(nil, c, a) }

// AddScaled is a and c times b.
func AddScaled(a []byte, c byte, b []byte) []byte {
	sum := make([]byte, max(len(a), len(b)))
	copy(sum, a)
	add := adder(c)
	add(sum, b)
	return sum
}

// adder is the kernel of a factor: it adds the factor times a list onto another list that is at least as long.
func adder(c byte) func(onto, list []byte) {
	// The factor is kept as its products with both halves of a byte: an element then costs two looks.
	low, high := multiples(c), multiples(Mul(c, 16))
	return func(onto, list []byte) {
		for i, x := range list {
			onto[i] ^= low[x&15] ^ high[x>>4]
		}
	}
}

// multiples is the products of c with 0 to 15.
func multiples(c byte) [16]byte {
	var list [16]byte
	for i := range 16 {
		list[i] = double(list[i/2]) ^ byte(i%2)*c
	}
	return list
}
