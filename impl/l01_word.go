package impl

const OK = 0
const ErrForm = 1
const ErrMany = 2
const ErrRange = 3
const ErrNone = 4
const ErrText = 5
const ErrTaken = 6
const ErrRead = 7
const ErrWrite = 8
const ErrRun = 9
const ErrBusy = 10
const WordTop = 4294967295

type IntResult struct {
	Code  int64
	Value int64
}
type IntsResult struct {
	Code int64
	List []int64
}
type TextResult struct {
	Code int64
	Text string
}

// wordOf is the one way from numbers to words: going over to 32 bits without a
// sign keeps what 2^32 leaves, from 0 on, of numbers below 0 too.
func wordOf(n int64) uint32 {
	return uint32(n)
}

func WrapWord(n int64) int64 {
	return int64(wordOf(n))
}

// isWord is for what must be a word as it comes, where nothing is wrapped.
func isWord(n int64) bool {
	return WrapWord(n) == n
}

func SignedOf(w int64) int64 {
	return int64(int32(wordOf(w)))
}

func AddWords(a int64, b int64) int64 {
	return int64(wordOf(a) + wordOf(b))
}

func MulWords(a int64, b int64) int64 {
	return int64(wordOf(a) * wordOf(b))
}

func DivWords(a int64, b int64) int64 {
	divisor := SignedOf(b)
	if divisor == 0 {
		return WordTop
	}
	// In 64 bits the least signed word by -1 has a quotient, which is a word again.
	return WrapWord(SignedOf(a) / divisor)
}

func RemWords(a int64, b int64) int64 {
	divisor := SignedOf(b)
	if divisor == 0 {
		return WrapWord(a)
	}
	return WrapWord(SignedOf(a) % divisor)
}

func ShiftWord(a int64, by int64, left bool) int64 {
	bits := wordOf(by) % 32
	if left {
		return int64(wordOf(a) << bits)
	}
	return int64(wordOf(a) >> bits)
}

func BitWords(op int64, a int64, b int64) IntResult {
	switch op {
	case 1:
		return IntResult{Value: int64(wordOf(a) & wordOf(b))}
	case 2:
		return IntResult{Value: int64(wordOf(a) | wordOf(b))}
	case 3:
		return IntResult{Value: int64(wordOf(a) ^ wordOf(b))}
	}
	return IntResult{Code: ErrRange}
}
