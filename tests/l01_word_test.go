package tests

import (
	"math"
	"math/big"
	"testing"

	"loop.example/g00213/impl"
)

const leastWord = 2147483648 // -2^31, the least signed word

// edgeNumbers are the ends of words, of signed words and of int64, and their neighbours on both sides.
func edgeNumbers() []int64 {
	return []int64{
		math.MinInt64, math.MinInt64 + 1, -1 << 62,
		-1<<33 - 1, -1 << 33, -1<<32 - 1, -1 << 32, -1<<32 + 1,
		-1<<31 - 1, -1 << 31, -1<<31 + 1,
		-65, -64, -33, -32, -31, -7, -3, -2, -1,
		0, 1, 2, 3, 5, 6, 7, 30, 31, 32, 33, 63, 64, 65535, 65536,
		1<<31 - 1, 1 << 31, 1<<31 + 1,
		4294967289, impl.WordTop - 1, impl.WordTop, impl.WordTop + 1, impl.WordTop + 2,
		1<<33 - 1, 1 << 33, 1 << 62, math.MaxInt64 - 1, math.MaxInt64,
	}
}

// ordinaryNumbers are the same ones in each run: words, small numbers and numbers of 64 bits in turn.
func ordinaryNumbers() []int64 {
	var list []int64
	state := uint64(88172645463325252)
	for k := range 60 {
		state = state*6364136223846793005 + 1442695040888963407
		n := int64(state ^ state>>29)
		switch k % 3 {
		case 0:
			n &= impl.WordTop
		case 1:
			n = n%2000 - 1000
		}
		list = append(list, n)
	}
	return list
}

func wordNumbers() []int64 {
	return append(edgeNumbers(), ordinaryNumbers()...)
}

// wordIn is what 2^32 leaves of n, from 0 on, by numbers that have no bounds.
func wordIn(n *big.Int) int64 {
	return new(big.Int).Mod(n, big.NewInt(1<<32)).Int64()
}

func bigWord(n int64) *big.Int {
	return big.NewInt(wordIn(big.NewInt(n)))
}

func bigSigned(n int64) *big.Int {
	w := bigWord(n)
	if w.Cmp(big.NewInt(leastWord)) < 0 {
		return w
	}
	return w.Sub(w, big.NewInt(1<<32))
}

// wordCall is a function of words, as one of two numbers.
type wordCall struct {
	name string
	do   func(a, b int64) int64
}

func wordCalls() []wordCall {
	bit := func(op int64) func(a, b int64) int64 {
		return func(a, b int64) int64 { return impl.BitWords(op, a, b).Value }
	}
	return []wordCall{
		{"WrapWord", func(a, b int64) int64 { return impl.WrapWord(a) }},
		{"AddWords", impl.AddWords},
		{"MulWords", impl.MulWords},
		{"DivWords", impl.DivWords},
		{"RemWords", impl.RemWords},
		{"ShiftWord left", func(a, b int64) int64 { return impl.ShiftWord(a, b, true) }},
		{"ShiftWord right", func(a, b int64) int64 { return impl.ShiftWord(a, b, false) }},
		{"BitWords 1", bit(1)},
		{"BitWords 2", bit(2)},
		{"BitWords 3", bit(3)},
	}
}

// askPairs asks every pair of the numbers, and tells where a function answered otherwise than want.
func askPairs(t *testing.T, name string, do, want func(a, b int64) int64) {
	t.Helper()
	list := wordNumbers()
	for _, a := range list {
		for _, b := range list {
			if got, asked := do(a, b), want(a, b); got != asked {
				t.Fatalf("%s of %d and %d: %d, not %d", name, a, b, got, asked)
			}
		}
	}
}

func TestWordConstants(t *testing.T) {
	codes := []int64{impl.OK, impl.ErrForm, impl.ErrMany, impl.ErrRange, impl.ErrNone, impl.ErrText,
		impl.ErrTaken, impl.ErrRead, impl.ErrWrite, impl.ErrRun, impl.ErrBusy}
	for k, code := range codes {
		if code != int64(k) {
			t.Errorf("the code %d is %d", k, code)
		}
	}
	if impl.WordTop != 1<<32-1 {
		t.Error("WordTop")
	}
}

func TestWordExamples(t *testing.T) {
	if got := impl.DivWords(4294967289, 2); got != 4294967293 {
		t.Errorf("DivWords of -7 and 2: %d", got)
	}
	if got := impl.RemWords(4294967289, 2); got != 4294967295 {
		t.Errorf("RemWords of -7 and 2: %d", got)
	}
}

func TestWrapWordAndSignedOf(t *testing.T) {
	table := []struct{ n, word, signed int64 }{
		{0, 0, 0}, {1, 1, 1}, {-1, impl.WordTop, -1}, {impl.WordTop, impl.WordTop, -1},
		{impl.WordTop + 1, 0, 0}, {impl.WordTop + 2, 1, 1}, {-1 << 32, 0, 0}, {-1<<32 - 1, impl.WordTop, -1},
		{1<<31 - 1, 1<<31 - 1, 1<<31 - 1}, {1 << 31, leastWord, -1 << 31}, {1<<31 + 1, leastWord + 1, -1<<31 + 1},
		{-1 << 31, leastWord, -1 << 31}, {-1<<31 - 1, 1<<31 - 1, 1<<31 - 1},
		{math.MinInt64, 0, 0}, {math.MinInt64 + 1, 1, 1}, {math.MaxInt64, impl.WordTop, -1},
	}
	for _, x := range table {
		if got := impl.WrapWord(x.n); got != x.word {
			t.Errorf("WrapWord of %d: %d, not %d", x.n, got, x.word)
		}
		if got := impl.SignedOf(x.n); got != x.signed {
			t.Errorf("SignedOf of %d: %d, not %d", x.n, got, x.signed)
		}
	}
	for _, n := range wordNumbers() {
		if got, want := impl.WrapWord(n), bigWord(n).Int64(); got != want {
			t.Errorf("WrapWord of %d: %d, not %d", n, got, want)
		}
		if got, want := impl.SignedOf(n), bigSigned(n).Int64(); got != want {
			t.Errorf("SignedOf of %d: %d, not %d", n, got, want)
		}
		if got := impl.WrapWord(impl.SignedOf(n)); got != impl.WrapWord(n) {
			t.Errorf("SignedOf of %d is another word: %d", n, got)
		}
	}
}

func TestSumsAndProducts(t *testing.T) {
	askPairs(t, "AddWords", impl.AddWords, func(a, b int64) int64 {
		return wordIn(new(big.Int).Add(bigWord(a), bigWord(b)))
	})
	askPairs(t, "MulWords", impl.MulWords, func(a, b int64) int64 {
		return wordIn(new(big.Int).Mul(bigWord(a), bigWord(b)))
	})
}

func TestSumsAndProductsHangOnNoOrder(t *testing.T) {
	list := wordNumbers()
	for _, a := range list {
		for _, b := range list {
			if impl.AddWords(a, b) != impl.AddWords(b, a) || impl.MulWords(a, b) != impl.MulWords(b, a) {
				t.Fatalf("%d and %d hang on their order", a, b)
			}
			for _, c := range list {
				if impl.AddWords(impl.AddWords(a, b), c) != impl.AddWords(a, impl.AddWords(b, c)) {
					t.Fatalf("the sum of %d, %d and %d hangs on its order", a, b, c)
				}
				if impl.MulWords(impl.MulWords(a, b), c) != impl.MulWords(a, impl.MulWords(b, c)) {
					t.Fatalf("the product of %d, %d and %d hangs on its order", a, b, c)
				}
			}
		}
	}
}

func TestQuotients(t *testing.T) {
	askPairs(t, "DivWords", impl.DivWords, func(a, b int64) int64 {
		if bigWord(b).Sign() == 0 {
			return impl.WordTop
		}
		return wordIn(new(big.Int).Quo(bigSigned(a), bigSigned(b)))
	})
	askPairs(t, "RemWords", impl.RemWords, func(a, b int64) int64 {
		if bigWord(b).Sign() == 0 {
			return bigWord(a).Int64()
		}
		return wordIn(new(big.Int).Rem(bigSigned(a), bigSigned(b)))
	})
}

func TestQuotientEdges(t *testing.T) {
	table := []struct{ a, b, quotient, rest int64 }{
		{7, 2, 3, 1}, {-7, 2, 4294967293, impl.WordTop}, {7, -2, 4294967293, 1}, {-7, -2, 3, impl.WordTop},
		{leastWord, impl.WordTop, leastWord, 0}, {-1 << 31, -1, leastWord, 0}, {leastWord, 1, leastWord, 0},
		{impl.WordTop, leastWord, 0, impl.WordTop}, {leastWord, leastWord, 1, 0},
		{5, 0, impl.WordTop, 5}, {0, 0, impl.WordTop, 0}, {-5, 0, impl.WordTop, 4294967291},
		{leastWord, 0, impl.WordTop, leastWord}, {5, impl.WordTop + 1, impl.WordTop, 5},
		{math.MinInt64, -1, 0, 0}, {math.MaxInt64, math.MinInt64, impl.WordTop, impl.WordTop},
	}
	for _, x := range table {
		if got := impl.DivWords(x.a, x.b); got != x.quotient {
			t.Errorf("DivWords of %d and %d: %d, not %d", x.a, x.b, got, x.quotient)
		}
		if got := impl.RemWords(x.a, x.b); got != x.rest {
			t.Errorf("RemWords of %d and %d: %d, not %d", x.a, x.b, got, x.rest)
		}
	}
}

func TestQuotientAndRestMakeTheWordAgain(t *testing.T) {
	askPairs(t, "quotient times divisor and rest", func(a, b int64) int64 {
		return impl.AddWords(impl.MulWords(impl.DivWords(a, b), b), impl.RemWords(a, b))
	}, func(a, b int64) int64 { return impl.WrapWord(a) })
	list := wordNumbers()
	for _, a := range list {
		for _, b := range list {
			of, by, rest := impl.SignedOf(a), impl.SignedOf(b), impl.SignedOf(impl.RemWords(a, b))
			if by == 0 {
				continue
			}
			if max(rest, -rest) >= max(by, -by) || rest < 0 && of > 0 || rest > 0 && of < 0 {
				t.Fatalf("RemWords of %d and %d leaves %d", of, by, rest)
			}
		}
	}
}

// bitsLeft are the bits that a shift has to go over: what 32 leaves of the word of by.
func bitsLeft(by int64) uint {
	return uint(new(big.Int).Mod(bigWord(by), big.NewInt(32)).Int64())
}

func TestShifts(t *testing.T) {
	askPairs(t, "ShiftWord left", func(a, b int64) int64 { return impl.ShiftWord(a, b, true) }, func(a, b int64) int64 {
		return wordIn(new(big.Int).Lsh(bigWord(a), bitsLeft(b)))
	})
	askPairs(t, "ShiftWord right", func(a, b int64) int64 { return impl.ShiftWord(a, b, false) }, func(a, b int64) int64 {
		return wordIn(new(big.Int).Rsh(bigWord(a), bitsLeft(b)))
	})
}

func TestShiftEdges(t *testing.T) {
	const w = 2882343477 // 0xabcd1235
	table := []struct{ a, by, left, right int64 }{
		{w, 0, w, w}, {w, 1, 1469719658, 1441171738}, {w, 31, leastWord, 1}, {w, 32, w, w},
		{w, 33, 1469719658, 1441171738}, {w, 64, w, w}, {w, -1, leastWord, 1}, {w, -31, 1469719658, 1441171738},
		{w, -32, w, w}, {w, -33, leastWord, 1}, {w, math.MinInt64, w, w}, {w, math.MaxInt64, leastWord, 1},
		{1, 33, 2, 0}, {1, 31, leastWord, 0}, {-1, 31, leastWord, 1}, {-1, 4, 4294967280, 268435455},
		{impl.WordTop + 2, 1, 2, 0}, {math.MinInt64, 1, 0, 0}, {math.MaxInt64, 1, 4294967294, 2147483647},
	}
	for _, x := range table {
		if got := impl.ShiftWord(x.a, x.by, true); got != x.left {
			t.Errorf("ShiftWord of %d by %d to the left: %d, not %d", x.a, x.by, got, x.left)
		}
		if got := impl.ShiftWord(x.a, x.by, false); got != x.right {
			t.Errorf("ShiftWord of %d by %d to the right: %d, not %d", x.a, x.by, got, x.right)
		}
	}
}

func TestShiftAndBackLosesJustTheEnds(t *testing.T) {
	askPairs(t, "to the left and back", func(a, b int64) int64 {
		return impl.ShiftWord(impl.ShiftWord(a, b, true), b, false)
	}, func(a, b int64) int64 { // the highest bits are lost
		return bigWord(a).Int64() % (1 << (32 - bitsLeft(b)))
	})
	askPairs(t, "to the right and back", func(a, b int64) int64 {
		return impl.ShiftWord(impl.ShiftWord(a, b, false), b, true)
	}, func(a, b int64) int64 { // the lowest bits are lost
		return bigWord(a).Int64() - bigWord(a).Int64()%(1<<bitsLeft(b))
	})
}

func TestBitWords(t *testing.T) {
	for op := int64(1); op <= 3; op++ {
		least := map[int64]uint{1: 2, 2: 1, 3: 1}[op]
		most := map[int64]uint{1: 2, 2: 2, 3: 1}[op]
		askPairs(t, "BitWords", func(a, b int64) int64 {
			got := impl.BitWords(op, a, b)
			if got.Code != impl.OK {
				t.Fatalf("BitWords %d of %d and %d: code %d", op, a, b, got.Code)
			}
			return got.Value
		}, func(a, b int64) int64 {
			want := new(big.Int)
			for k := range 32 {
				if set := bigWord(a).Bit(k) + bigWord(b).Bit(k); set >= least && set <= most {
					want.SetBit(want, k, 1)
				}
			}
			return want.Int64()
		})
	}
}

func TestBitWordsOfNoOp(t *testing.T) {
	list := wordNumbers()
	for _, op := range append(list, 4, 8) {
		if op >= 1 && op <= 3 {
			continue
		}
		for _, a := range list {
			if got := impl.BitWords(op, a, 3); got != (impl.IntResult{Code: impl.ErrRange}) {
				t.Fatalf("BitWords %d of %d and 3: %v", op, a, got)
			}
		}
	}
}

func TestWordsAreAnsweredForEveryNumber(t *testing.T) {
	list := wordNumbers()
	for _, call := range wordCalls() {
		for _, a := range list {
			for _, b := range list {
				got := call.do(a, b)
				if got < 0 || got > impl.WordTop {
					t.Fatalf("%s of %d and %d is no word: %d", call.name, a, b, got)
				}
				if again := call.do(bigWord(a).Int64(), bigWord(b).Int64()); got != again {
					t.Fatalf("%s of %d and %d: %d, of their words: %d", call.name, a, b, got, again)
				}
			}
		}
	}
}

// TestWordsHangOnTheirArgumentsAlone asks all once more, from the last one on: what was kept from a call would show.
func TestWordsHangOnTheirArgumentsAlone(t *testing.T) {
	list, calls := wordNumbers(), wordCalls()
	calls = append(calls, wordCall{"SignedOf", func(a, b int64) int64 { return impl.SignedOf(a) }})
	calls = append(calls, wordCall{"BitWords 0", func(a, b int64) int64 { return impl.BitWords(0, a, b).Value }})
	var said []int64
	for _, a := range list {
		for _, b := range list {
			for _, call := range calls {
				said = append(said, call.do(a, b))
			}
		}
	}
	for k := len(said) - 1; k >= 0; k-- {
		call, pair := calls[k%len(calls)], k/len(calls)
		a, b := list[pair/len(list)], list[pair%len(list)]
		if got := call.do(a, b); got != said[k] {
			t.Fatalf("%s of %d and %d: first %d, then %d", call.name, a, b, said[k], got)
		}
	}
}
