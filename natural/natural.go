// Package natural implements natural numbers of unlimited size, as digits in base 2^32, least significant first (layer 1, shared/doc/01-natural.md).
package natural

import (
	"math/bits"
	"slices"
	"strconv"
	"strings"

	"grisaille/api"
)

const (
	digitBits = 32
	digitMask = 1<<digitBits - 1

	// A chunk is the greatest power of ten that fits into a digit.
	chunkDigits = 9
	chunk       = 1000000000

	maxShift         = 4096
	maxDecimalDigits = 1000
)

// trim returns the part of a without its trailing zero digits; it shares a's memory.
func trim(a []uint32) []uint32 {
	for len(a) > 0 && a[len(a)-1] == 0 {
		a = a[:len(a)-1]
	}
	return a
}

// toUint64 returns the value of a trimmed number, if it has at most two digits.
func toUint64(a []uint32) (uint64, bool) {
	switch len(a) {
	case 0:
		return 0, true
	case 1:
		return uint64(a[0]), true
	case 2:
		return uint64(a[1])<<digitBits | uint64(a[0]), true
	}
	return 0, false
}

// FromUint64 returns n as a number.
func FromUint64(n uint64) []uint32 {
	switch {
	case n == 0:
		return nil
	case n <= digitMask:
		return []uint32{uint32(n)}
	}
	return []uint32{uint32(n), uint32(n >> digitBits)}
}

// IsNormalized reports whether the last digit of a is not 0.
func IsNormalized(a []uint32) bool {
	return len(a) == 0 || a[len(a)-1] != 0
}

// Normalize returns a without its trailing zero digits.
func Normalize(a []uint32) []uint32 {
	return slices.Clone(trim(a))
}

// Cmp compares two numbers.
func Cmp(a []uint32, b []uint32) int {
	a, b = trim(a), trim(b)
	if len(a) != len(b) {
		return sign(len(a) > len(b))
	}
	for i := len(a) - 1; i >= 0; i-- {
		if a[i] != b[i] {
			return sign(a[i] > b[i])
		}
	}
	return 0
}

func sign(greater bool) int {
	if greater {
		return 1
	}
	return -1
}

// Add returns a + b.
func Add(a []uint32, b []uint32) []uint32 {
	a, b = trim(a), trim(b)
	if len(a) < len(b) {
		a, b = b, a
	}
	sum := make([]uint32, len(a)+1)
	carry := uint64(0)
	for i := range len(a) {
		carry += uint64(a[i])
		if i < len(b) {
			carry += uint64(b[i])
		}
		sum[i] = uint32(carry)
		carry >>= digitBits
	}
	sum[len(a)] = uint32(carry)
	return trim(sum)
}

// Sub returns a - b and true, or false if b is greater than a.
func Sub(a []uint32, b []uint32) ([]uint32, bool) {
	a, b = trim(a), trim(b)
	if Cmp(a, b) < 0 {
		return nil, false
	}
	difference := make([]uint32, len(a))
	borrow := uint64(0)
	for i := range len(a) {
		d := uint64(a[i]) - borrow
		if i < len(b) {
			d -= uint64(b[i])
		}
		difference[i] = uint32(d)
		borrow = d >> 63
	}
	return trim(difference), true
}

// Mul returns a * b.
func Mul(a []uint32, b []uint32) []uint32 {
	a, b = trim(a), trim(b)
	if len(a) == 0 || len(b) == 0 {
		return nil
	}
	product := make([]uint32, len(a)+len(b))
rows:
	for i := range len(a) {
		factor := uint64(a[i])
		if factor == 0 {
			continue rows
		}
		carry := uint64(0)
		for j := range len(b) {
			carry += factor*uint64(b[j]) + uint64(product[i+j])
			product[i+j] = uint32(carry)
			carry >>= digitBits
		}
		product[i+len(b)] = uint32(carry)
	}
	return trim(product)
}

// DivMod returns the quotient, rounded down, and the remainder.
func DivMod(a []uint32, b []uint32) ([]uint32, []uint32, api.Errno) {
	a, b = trim(a), trim(b)
	if len(b) == 0 {
		return nil, nil, api.ErrDivideByZero
	}
	if Cmp(a, b) < 0 {
		return nil, slices.Clone(a), api.OK
	}
	if m, ok := toUint64(a); ok {
		n, _ := toUint64(b)
		return FromUint64(m / n), FromUint64(m % n), api.OK
	}
	if len(b) == 1 {
		q := slices.Clone(a)
		r := divideByDigit(q, b[0])
		return trim(q), FromUint64(uint64(r)), api.OK
	}
	q, r := longDivide(a, b)
	return q, r, api.OK
}

// divideByDigit replaces a by its quotient and returns the remainder.
func divideByDigit(a []uint32, d uint32) uint32 {
	rest := uint64(0)
	for i := len(a) - 1; i >= 0; i-- {
		rest = rest<<digitBits | uint64(a[i])
		a[i] = uint32(rest / uint64(d))
		rest %= uint64(d)
	}
	return uint32(rest)
}

// longDivide divides trimmed numbers, a >= b, where b has at least two digits. Both are shifted first, such that the top bit of b is set: only then is the estimate of a digit of the quotient too great by at most two.
func longDivide(a, b []uint32) ([]uint32, []uint32) {
	shift := bits.LeadingZeros32(b[len(b)-1])
	divisor := Shift(b, shift)
	rest := make([]uint32, len(a)+1)
	copy(rest, Shift(a, shift))
	n := len(divisor)
	quotient := make([]uint32, len(rest)-n)
	for j := len(quotient) - 1; j >= 0; j-- {
		quotient[j] = subtractMultiple(rest[j:j+n+1], divisor)
	}
	return trim(quotient), Shift(trim(rest), -shift)
}

// subtractMultiple subtracts the greatest possible multiple of the divisor from the rest, which has one digit more, and returns the factor.
func subtractMultiple(rest, divisor []uint32) uint32 {
	n := len(divisor)
	top := uint64(rest[n])<<digitBits | uint64(rest[n-1])
	first := uint64(divisor[n-1])
	factor := min(top/first, digitMask)
	for left := top - factor*first; left <= digitMask && factor*uint64(divisor[n-2]) > left<<digitBits|uint64(rest[n-2]); left += first {
		factor--
	}
	borrow, carry := uint64(0), uint64(0)
	for i := range n {
		carry += factor * uint64(divisor[i])
		d := uint64(rest[i]) - carry&digitMask - borrow
		rest[i] = uint32(d)
		borrow = d >> 63
		carry >>= digitBits
	}
	d := uint64(rest[n]) - carry - borrow
	rest[n] = uint32(d)
	if d>>63 == 0 {
		return uint32(factor)
	}
	addBack(rest, divisor)
	return uint32(factor - 1)
}

// addBack adds the divisor to a rest that has become negative.
func addBack(rest, divisor []uint32) {
	carry := uint64(0)
	for i := range len(divisor) {
		carry += uint64(rest[i]) + uint64(divisor[i])
		rest[i] = uint32(carry)
		carry >>= digitBits
	}
	rest[len(divisor)] += uint32(carry)
}

// GCD returns the greatest common divisor; if one of the numbers is zero, that is the other one.
func GCD(a []uint32, b []uint32) []uint32 {
	a, b = Normalize(a), Normalize(b)
	for len(b) > 0 {
		m, small := toUint64(a)
		n, both := toUint64(b)
		if small && both {
			return FromUint64(smallGCD(m, n))
		}
		_, r, _ := DivMod(a, b)
		a, b = b, r
	}
	return a
}

func smallGCD(m, n uint64) uint64 {
	for n != 0 {
		m, n = n, m%n
	}
	return m
}

// BitLen returns the number of binary digits of a.
func BitLen(a []uint32) int {
	a = trim(a)
	if len(a) == 0 {
		return 0
	}
	return (len(a)-1)*digitBits + bits.Len32(a[len(a)-1])
}

// Shift returns a * 2^n, or a divided by 2^-n and rounded down if n is negative.
func Shift(a []uint32, n int) []uint32 {
	a = trim(a)
	if n < 0 {
		return shiftRight(a, n)
	}
	if len(a) == 0 {
		return nil
	}
	n = min(n, maxShift)
	whole, part := n/digitBits, n%digitBits
	shifted := make([]uint32, len(a)+whole+1)
	for i := range len(a) {
		d := uint64(a[i]) << part
		shifted[i+whole] |= uint32(d)
		shifted[i+whole+1] = uint32(d >> digitBits)
	}
	return trim(shifted)
}

// shiftRight divides by 2^-n; n stays negative, because the least int has no negation.
func shiftRight(a []uint32, n int) []uint32 {
	if n <= -len(a)*digitBits {
		return nil
	}
	whole, part := -n/digitBits, -n%digitBits
	shifted := make([]uint32, len(a)-whole)
	for i := range len(shifted) {
		d := uint64(a[i+whole])
		if i+whole+1 < len(a) {
			d |= uint64(a[i+whole+1]) << digitBits
		}
		shifted[i] = uint32(d >> part)
	}
	return trim(shifted)
}

// Sqrt returns the greatest number whose square is at most a, by Newton's method from above.
func Sqrt(a []uint32) []uint32 {
	a = trim(a)
	if len(a) == 0 {
		return nil
	}
	root := powerOfTwo((BitLen(a) + 1) / 2)
	for {
		q, _, _ := DivMod(a, root)
		next := Shift(Add(root, q), -1)
		if Cmp(next, root) >= 0 {
			return root
		}
		root = next
	}
}

func powerOfTwo(n int) []uint32 {
	power := make([]uint32, n/digitBits+1)
	power[n/digitBits] = 1 << (n % digitBits)
	return power
}

// Format returns the decimal representation of a.
func Format(a []uint32) string {
	rest := Normalize(a)
	if len(rest) == 0 {
		return "0"
	}
	var chunks []string
	for len(rest) > 0 {
		text := strconv.Itoa(int(divideByDigit(rest, chunk)))
		rest = trim(rest)
		if len(rest) > 0 {
			text = strings.Repeat("0", chunkDigits-len(text)) + text
		}
		chunks = append(chunks, text)
	}
	slices.Reverse(chunks)
	return strings.Join(chunks, "")
}

// Parse returns the number whose Format is s.
func Parse(s string) ([]uint32, api.Errno) {
	if !isDecimal(s) {
		return nil, api.ErrSyntax
	}
	if len(s) > maxDecimalDigits {
		return nil, api.ErrLimit
	}
	var number []uint32
	for len(s) > 0 {
		n := (len(s)-1)%chunkDigits + 1
		value, scale := uint64(0), uint64(1)
		for i := range n {
			value = value*10 + uint64(s[i]-'0')
			scale *= 10
		}
		number = Add(Mul(number, FromUint64(scale)), FromUint64(value))
		s = s[n:]
	}
	return number, api.OK
}

// isDecimal reports whether s consists of decimal digits without leading zeros.
func isDecimal(s string) bool {
	if s == "" || len(s) > 1 && s[0] == '0' {
		return false
	}
	for i := range len(s) {
		if s[i] < '0' || s[i] > '9' {
			return false
		}
	}
	return true
}
