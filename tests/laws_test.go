package tests

import "testing"

// numbers are a kind of numbers with their operations, for the laws that hold for all kinds with negative numbers.
type numbers[T any] struct {
	add, sub, mul func(T, T) T
	neg           func(T) T
	cmp           func(T, T) int
	of            func(int) T
	ok            func(T) bool
	same          func(T, T) bool
}

// law compares both sides of a law for some numbers.
func (k numbers[T]) law(t *testing.T, law string, l, r T, of ...T) {
	t.Helper()
	if !k.same(l, r) || !k.ok(l) {
		t.Fatalf("%s fails for %v: %v and %v", law, of, l, r)
	}
}

func (k numbers[T]) checkArithmetic(t *testing.T, x, y, z T) {
	t.Helper()
	zero, one, minusOne := k.of(0), k.of(1), k.of(-1)
	k.law(t, "x + y = y + x", k.add(x, y), k.add(y, x), x, y)
	k.law(t, "x * y = y * x", k.mul(x, y), k.mul(y, x), x, y)
	k.law(t, "(x + y) + z = x + (y + z)", k.add(k.add(x, y), z), k.add(x, k.add(y, z)), x, y, z)
	k.law(t, "(x * y) * z = x * (y * z)", k.mul(k.mul(x, y), z), k.mul(x, k.mul(y, z)), x, y, z)
	k.law(t, "x * (y + z) = x * y + x * z", k.mul(x, k.add(y, z)), k.add(k.mul(x, y), k.mul(x, z)), x, y, z)
	k.law(t, "x * (y - z) = x * y - x * z", k.mul(x, k.sub(y, z)), k.sub(k.mul(x, y), k.mul(x, z)), x, y, z)
	k.law(t, "x - y = x + -y", k.sub(x, y), k.add(x, k.neg(y)), x, y)
	k.law(t, "x - y = -(y - x)", k.sub(x, y), k.neg(k.sub(y, x)), x, y)
	k.law(t, "x + y - y = x", k.sub(k.add(x, y), y), x, x, y)
	k.law(t, "--x = x", k.neg(k.neg(x)), x, x)
	k.law(t, "x + -x = 0", k.add(x, k.neg(x)), zero, x)
	k.law(t, "x - x = 0", k.sub(x, x), zero, x)
	k.law(t, "x + 0 = x", k.add(x, zero), x, x)
	k.law(t, "0 - x = -x", k.sub(zero, x), k.neg(x), x)
	k.law(t, "x * 1 = x", k.mul(x, one), x, x)
	k.law(t, "x * -1 = -x", k.mul(x, minusOne), k.neg(x), x)
	k.law(t, "x * 0 = 0", k.mul(x, zero), zero, x)
}

func (k numbers[T]) checkOrder(t *testing.T, x, y, z T) {
	t.Helper()
	order, zero := k.cmp(x, y), k.of(0)
	if order != -k.cmp(y, x) || (order == 0) != k.same(x, y) || k.cmp(x, x) != 0 {
		t.Fatalf("the order of %v and %v is not one", x, y)
	}
	if k.cmp(k.neg(x), k.neg(y)) != -order {
		t.Fatalf("the negatives of %v and %v do not have the opposite order", x, y)
	}
	if k.cmp(k.sub(x, y), zero) != order {
		t.Fatalf("the difference of %v and %v does not agree with their order", x, y)
	}
	if k.cmp(k.add(x, z), k.add(y, z)) != order {
		t.Fatalf("adding %v to %v and %v changes their order", z, x, y)
	}
	if k.cmp(k.mul(x, z), k.mul(y, z)) != order*k.cmp(z, zero) {
		t.Fatalf("multiplying %v and %v by %v gives a wrong order", x, y, z)
	}
	if order <= 0 && k.cmp(y, z) <= 0 && k.cmp(x, z) > 0 {
		t.Fatalf("the order of %v, %v and %v is not transitive", x, y, z)
	}
}
