package impl

// NumMost is the greatest number.
const NumMost = 1000000

// reckoning is a kind of what two numbers are made into.
type reckoning int

// Kinds of reckoning.
const (
	reckonAdd reckoning = iota + 1
	reckonSub
	reckonMul
)

// NumCut is a number, cut to what there is.
func NumCut(n int) int { return cutWide(int64(n)) }

// NumAdd is two numbers together, cut.
func NumAdd(a int, b int) int { return reckonAdd.cut(a, b) }

// NumSub is one number without another one, cut.
func NumSub(a int, b int) int { return reckonSub.cut(a, b) }

// NumMul is one number as often as another one says, cut.
func NumMul(a int, b int) int { return reckonMul.cut(a, b) }

// NumIs is 1, if something is so, else 0.
func NumIs(is bool) int {
	if is {
		return 1
	}
	return 0
}

// NumOn says whether a number stands for yes.
func NumOn(n int) bool { return n != 0 }

// cut cuts both numbers ahead of reckoning: what they come to might wrap round else.
func (r reckoning) cut(a int, b int) int {
	return cutWide(r.wide(int64(NumCut(a)), int64(NumCut(b))))
}

// wide reckons in 64 bits, as the product of two numbers within their bounds need not fit an int of 32.
func (r reckoning) wide(a int64, b int64) int64 {
	switch r {
	case reckonAdd:
		return a + b
	case reckonSub:
		return a - b
	case reckonMul:
		return a * b
	}
	return 0
}

// cutWide turns to int only what is within the bounds, so that nothing is lost on the way.
func cutWide(n int64) int {
	return int(min(max(n, -NumMost), NumMost))
}
