package tests

import (
	"math"
	"math/big"
	"testing"

	"loop.example/stopgate/impl"
)

// numCase is two numbers, and what is asked of them.
type numCase struct{ a, b, want int }

// checkNum holds a function of two numbers against what is asked of it.
func checkNum(t *testing.T, name string, f func(int, int) int, cases []numCase) {
	t.Helper()
	for _, c := range cases {
		if got := f(c.a, c.b); got != c.want {
			t.Errorf("%s(%d, %d) = %d, not %d", name, c.a, c.b, got, c.want)
		}
	}
}

func TestNumMost(t *testing.T) {
	if impl.NumMost != 1000000 {
		t.Errorf("NumMost = %d", impl.NumMost)
	}
}

func TestNumCut(t *testing.T) {
	cases := []struct{ n, want int }{
		{0, 0}, {1, 1}, {-1, -1}, {7, 7}, {-7, -7}, {123456, 123456}, {-654321, -654321},
		{999999, 999999}, {1000000, 1000000}, {1000001, 1000000},
		{-999999, -999999}, {-1000000, -1000000}, {-1000001, -1000000},
		{2000000, 1000000}, {-2000000, -1000000},
		{math.MaxInt32, 1000000}, {math.MinInt32, -1000000},
		{math.MaxInt - 1, 1000000}, {math.MaxInt, 1000000},
		{math.MinInt + 1, -1000000}, {math.MinInt, -1000000},
	}
	for _, c := range cases {
		if got := impl.NumCut(c.n); got != c.want {
			t.Errorf("NumCut(%d) = %d, not %d", c.n, got, c.want)
		}
	}
}

func TestNumAdd(t *testing.T) {
	checkNum(t, "NumAdd", impl.NumAdd, []numCase{
		{0, 0, 0}, {2, 3, 5}, {2, -3, -1}, {-2, 3, 1}, {-2, -3, -5}, {123456, 654321, 777777},
		{999999, 1, 1000000}, {1, 999999, 1000000}, {999999, 2, 1000000}, {2, 999999, 1000000},
		{999999, 0, 999999}, {1000000, 0, 1000000}, {1000000, 1, 1000000}, {500000, 500001, 1000000},
		{-999999, -1, -1000000}, {-1, -999999, -1000000}, {-999999, -2, -1000000}, {-2, -999999, -1000000},
		{-999999, 0, -999999}, {-1000000, 0, -1000000}, {-1000000, -1, -1000000}, {-500000, -500001, -1000000},
		{1000000, 1000000, 1000000}, {-1000000, -1000000, -1000000}, {1000000, -1000000, 0},
	})
}

// The numbers are cut first: what is past a bound does not count any more.
func TestNumAddFar(t *testing.T) {
	checkNum(t, "NumAdd", impl.NumAdd, []numCase{
		{1000001, -1, 999999}, {-1, 1000001, 999999}, {-1000001, 1, -999999}, {1, -1000001, -999999},
		{1500000, -600000, 400000}, {-600000, 1500000, 400000}, {2000000, -3000000, 0},
		{math.MaxInt, 0, 1000000}, {math.MaxInt, 1, 1000000}, {1, math.MaxInt, 1000000},
		{math.MaxInt, -1, 999999}, {-1, math.MaxInt, 999999},
		{math.MinInt, 0, -1000000}, {math.MinInt, -1, -1000000}, {-1, math.MinInt, -1000000},
		{math.MinInt, 1, -999999}, {1, math.MinInt, -999999},
		{math.MaxInt, math.MaxInt, 1000000}, {math.MinInt, math.MinInt, -1000000},
		{math.MaxInt, math.MinInt, 0}, {math.MinInt, math.MaxInt, 0},
	})
}

func TestNumSub(t *testing.T) {
	checkNum(t, "NumSub", impl.NumSub, []numCase{
		{0, 0, 0}, {5, 3, 2}, {3, 5, -2}, {-2, 3, -5}, {2, -3, 5}, {-2, -3, 1}, {654321, 123456, 530865},
		{999999, -1, 1000000}, {1, -999999, 1000000}, {999999, -2, 1000000}, {2, -999999, 1000000},
		{1000000, 0, 1000000}, {0, -1000000, 1000000}, {1000000, -1, 1000000}, {1, -1000000, 1000000},
		{-999999, 1, -1000000}, {-1, 999999, -1000000}, {-999999, 2, -1000000}, {-2, 999999, -1000000},
		{-1000000, 0, -1000000}, {0, 1000000, -1000000}, {-1000000, 1, -1000000}, {-1, 1000000, -1000000},
		{1000000, 1, 999999}, {-1000000, -1, -999999}, {1000000, 1000000, 0}, {-1000000, -1000000, 0},
		{1000000, -1000000, 1000000}, {-1000000, 1000000, -1000000},
	})
}

func TestNumSubFar(t *testing.T) {
	checkNum(t, "NumSub", impl.NumSub, []numCase{
		{1000001, 1, 999999}, {1, 1000001, -999999}, {-1000001, -1, -999999}, {-1, -1000001, 999999},
		{1500000, 600000, 400000}, {600000, 1500000, -400000}, {3000000, 2000000, 0},
		{math.MaxInt, -1, 1000000}, {math.MaxInt, 1, 999999}, {1, math.MaxInt, -999999}, {-2, math.MaxInt, -1000000},
		{math.MinInt, 1, -1000000}, {math.MinInt, -1, -999999}, {-1, math.MinInt, 999999},
		{0, math.MinInt, 1000000}, {0, math.MaxInt, -1000000},
		{math.MaxInt, math.MaxInt, 0}, {math.MinInt, math.MinInt, 0},
		{math.MaxInt, math.MinInt, 1000000}, {math.MinInt, math.MaxInt, -1000000},
	})
}

func TestNumMul(t *testing.T) {
	checkNum(t, "NumMul", impl.NumMul, []numCase{
		{0, 0, 0}, {0, 1000000, 0}, {-1000000, 0, 0}, {3, 4, 12}, {-3, 4, -12}, {3, -4, -12}, {-3, -4, 12},
		{1, 999999, 999999}, {-1, 999999, -999999}, {123, 456, 56088},
		{999, 1001, 999999}, {1000, 1000, 1000000}, {101, 9901, 1000000}, {9901, 101, 1000000},
		{-999, -1001, 999999}, {-1000, -1000, 1000000}, {-101, -9901, 1000000}, {-9901, -101, 1000000},
		{-999, 1001, -999999}, {-1000, 1000, -1000000}, {-101, 9901, -1000000}, {-9901, 101, -1000000},
		{999, -1001, -999999}, {1000, -1000, -1000000}, {101, -9901, -1000000}, {9901, -101, -1000000},
		{1000000, 1, 1000000}, {1000000, -1, -1000000}, {1000000, 2, 1000000}, {-1000000, 2, -1000000},
		{1000000, 1000000, 1000000}, {-1000000, -1000000, 1000000},
		{1000000, -1000000, -1000000}, {-1000000, 1000000, -1000000},
		{65536, 65536, 1000000}, {-65536, 65536, -1000000}, {50000, 50000, 1000000},
	})
}

func TestNumMulFar(t *testing.T) {
	checkNum(t, "NumMul", impl.NumMul, []numCase{
		{1000001, 1, 1000000}, {1, 1000001, 1000000}, {-1000001, 1, -1000000}, {-1, 1000001, -1000000},
		{1000001, 0, 0}, {0, -1000001, 0}, {0, math.MaxInt, 0}, {math.MinInt, 0, 0},
		{math.MaxInt, 1, 1000000}, {math.MaxInt, -1, -1000000}, {2, math.MaxInt, 1000000}, {-2, math.MaxInt, -1000000},
		{math.MinInt, 1, -1000000}, {math.MinInt, -1, 1000000}, {-1, math.MinInt, 1000000}, {2, math.MinInt, -1000000},
		{math.MaxInt, math.MaxInt, 1000000}, {math.MinInt, math.MinInt, 1000000},
		{math.MaxInt, math.MinInt, -1000000}, {math.MinInt, math.MaxInt, -1000000},
	})
}

// cutBig is the nearest number to n, told apart from the program by numbers that can't wrap round.
func cutBig(n *big.Int) *big.Int {
	most := big.NewInt(1000000)
	if n.CmpAbs(most) <= 0 {
		return n
	}
	if n.Sign() < 0 {
		return new(big.Int).Neg(most)
	}
	return most
}

// numsAll are numbers about every edge, and far from all of them.
func numsAll() []int {
	out := []int{math.MinInt, math.MinInt + 1, math.MaxInt - 1, math.MaxInt, math.MinInt / 2, math.MaxInt / 2}
	for _, n := range []int{0, 1, 2, 3, 10, 101, 999, 1000, 1001, 9901, 65536, 499999, 500000, 500001,
		999998, 999999, 1000000, 1000001, 1000002, 1999999, 2000000, 2000001, math.MaxInt32} {
		out = append(out, n, -n)
	}
	return out
}

func TestNumPairs(t *testing.T) {
	kinds := []struct {
		name string
		f    func(int, int) int
		big  func(z *big.Int, a *big.Int, b *big.Int) *big.Int
	}{
		{"NumAdd", impl.NumAdd, (*big.Int).Add},
		{"NumSub", impl.NumSub, (*big.Int).Sub},
		{"NumMul", impl.NumMul, (*big.Int).Mul},
	}
	for _, k := range kinds {
		for _, a := range numsAll() {
			for _, b := range numsAll() {
				x, y := cutBig(big.NewInt(int64(a))), cutBig(big.NewInt(int64(b)))
				want := cutBig(k.big(new(big.Int), x, y)).Int64()
				if got := k.f(a, b); int64(got) != want {
					t.Errorf("%s(%d, %d) = %d, not %d", k.name, a, b, got, want)
				}
			}
		}
	}
}

func TestNumIs(t *testing.T) {
	if got := impl.NumIs(true); got != 1 {
		t.Errorf("NumIs(true) = %d", got)
	}
	if got := impl.NumIs(false); got != 0 {
		t.Errorf("NumIs(false) = %d", got)
	}
}

func TestNumOn(t *testing.T) {
	if impl.NumOn(0) {
		t.Error("NumOn(0)")
	}
	for _, n := range numsAll() {
		if got := impl.NumOn(n); got != (n != 0) {
			t.Errorf("NumOn(%d) = %v", n, got)
		}
	}
	for _, is := range []bool{true, false} {
		if impl.NumOn(impl.NumIs(is)) != is {
			t.Errorf("NumOn of NumIs(%v)", is)
		}
	}
}
