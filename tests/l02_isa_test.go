package tests

import (
	"fmt"
	"math"
	"math/big"
	"strings"
	"testing"

	"loop.example/g00213/impl"
)

// opShape is what the document says of an op: how far its fields go, and which of them are told.
type opShape struct {
	name              string
	topD, topA, topIm int64
	told              string
}

// opShapes has the ops 1 to 26 in their order, at the places 0 to 25.
var opShapes = makeOpShapes()

func makeOpShapes() []opShape {
	var list []opShape
	for _, name := range strings.Fields("add sub mul div rem and or xor left right less") {
		list = append(list, opShape{name, 15, 15, 15, "DAI"})
	}
	return append(list, []opShape{
		{"addi", 15, 15, 65535, "DAI"}, {"high", 15, 0, 65535, "DI"},
		{"load", 15, 15, 65535, "DAI"}, {"store", 15, 15, 65535, "DAI"},
		{"eq", 15, 15, 65535, "DAI"}, {"ne", 15, 15, 65535, "DAI"}, {"lt", 15, 15, 65535, "DAI"},
		{"jump", 15, 0, 65535, "DI"}, {"jumpr", 15, 15, 65535, "DAI"},
		{"get", 15, 0, 10, "DI"}, {"set", 0, 15, 10, "AI"},
		{"call", 0, 0, 0, ""}, {"back", 0, 0, 0, ""}, {"wait", 0, 0, 0, ""}, {"halt", 0, 0, 0, ""},
	}...)
}

func within(n, top int64) bool {
	return n >= 0 && n <= top
}

// faultIn is the fault that the shapes tell of x.
func faultIn(x impl.Ins) int64 {
	if x.Op < 1 || x.Op > 26 || !within(x.D, 15) || !within(x.A, 15) || !within(x.Imm, 65535) {
		return impl.ErrRange
	}
	shape := opShapes[x.Op-1]
	if !within(x.D, shape.topD) || !within(x.A, shape.topA) || !within(x.Imm, shape.topIm) {
		return impl.ErrForm
	}
	return 0
}

// insWord is the word of x by plain sums of products.
func insWord(x impl.Ins) int64 {
	return x.Op*16777216 + x.D*1048576 + x.A*65536 + x.Imm
}

func insTextIn(x impl.Ins) string {
	shape := opShapes[x.Op-1]
	text := shape.name
	for _, field := range shape.told {
		text += fmt.Sprintf(" %d", map[rune]int64{'D': x.D, 'A': x.A, 'I': x.Imm}[field])
	}
	return text
}

func opNumbers() []int64 {
	list := []int64{math.MinInt64, math.MinInt64 + 1, -1 << 32, -256, -27, -1, 27, 28, 255, 256, 257, 1<<32 + 1, 1<<40 + 12, 1<<62 + 1, math.MaxInt64}
	for op := int64(0); op <= 26; op++ {
		list = append(list, op)
	}
	return list
}

func regNumbers() []int64 {
	return []int64{math.MinInt64, -1 << 32, -16, -1, 0, 1, 7, 8, 14, 15, 16, 17, 31, 1 << 32, 1<<32 + 3, math.MaxInt64}
}

func immNumbers() []int64 {
	return []int64{math.MinInt64, -1 << 32, -65536, -1, 0, 1, 2, 9, 10, 11, 12, 14, 15, 16, 17, 31, 255, 256,
		32767, 32768, 65534, 65535, 65536, 65537, 1 << 32, 1<<32 + 5, math.MaxInt64}
}

// someIns are instructions with and without faults: every op with all its fields at their edges.
func someIns() []impl.Ins {
	var list []impl.Ins
	for _, op := range opNumbers() {
		for _, d := range regNumbers() {
			for _, a := range regNumbers() {
				for _, imm := range immNumbers() {
					list = append(list, impl.Ins{Op: op, D: d, A: a, Imm: imm})
				}
			}
		}
	}
	return list
}

func TestOpConstants(t *testing.T) {
	ops := []int64{impl.OpAdd, impl.OpSub, impl.OpMul, impl.OpDiv, impl.OpRem, impl.OpAnd, impl.OpOr, impl.OpXor,
		impl.OpLeft, impl.OpRight, impl.OpLess, impl.OpAddi, impl.OpHigh, impl.OpLoad, impl.OpStore, impl.OpEq, impl.OpNe,
		impl.OpLt, impl.OpJump, impl.OpJumpr, impl.OpGet, impl.OpSet, impl.OpCall, impl.OpBack, impl.OpWait, impl.OpHalt}
	if len(ops) != 26 || len(opShapes) != 26 {
		t.Fatal("there are 26 ops")
	}
	for k, op := range ops {
		if op != int64(k)+1 {
			t.Errorf("the op %d is %d", k+1, op)
		}
	}
}

func TestInstructionExample(t *testing.T) {
	x := impl.Ins{Op: impl.OpAddi, D: 1, A: 0, Imm: 5}
	if got := impl.InsText(x); got != (impl.TextResult{Text: "addi 1 0 5"}) {
		t.Errorf("InsText: %v", got)
	}
	if got := impl.EncodeIns(x); got != (impl.IntResult{Value: 202375173}) {
		t.Errorf("EncodeIns: %v", got)
	}
	if got := impl.DecodeIns(202375173); got != (impl.InsResult{Ins: x}) {
		t.Errorf("DecodeIns: %v", got)
	}
}

func TestInsFaultByHand(t *testing.T) {
	table := []struct {
		x    impl.Ins
		want int64
	}{
		{impl.Ins{}, impl.ErrRange},
		{impl.Ins{Op: 27}, impl.ErrRange},
		{impl.Ins{Op: -1}, impl.ErrRange},
		{impl.Ins{Op: impl.OpAdd, D: 15, A: 15, Imm: 15}, impl.OK},
		{impl.Ins{Op: impl.OpAdd, D: 15, A: 15, Imm: 16}, impl.ErrForm},
		{impl.Ins{Op: impl.OpLess, Imm: 15}, impl.OK},
		{impl.Ins{Op: impl.OpLess, Imm: 16}, impl.ErrForm},
		{impl.Ins{Op: impl.OpAddi, Imm: 16}, impl.OK},
		{impl.Ins{Op: impl.OpAddi, D: 15, A: 15, Imm: 65535}, impl.OK},
		{impl.Ins{Op: impl.OpAddi, Imm: 65536}, impl.ErrRange},
		{impl.Ins{Op: impl.OpAddi, Imm: -1}, impl.ErrRange},
		{impl.Ins{Op: impl.OpAddi, D: 16}, impl.ErrRange},
		{impl.Ins{Op: impl.OpAddi, D: -1}, impl.ErrRange},
		{impl.Ins{Op: impl.OpAddi, A: 16}, impl.ErrRange},
		{impl.Ins{Op: impl.OpAddi, A: -1}, impl.ErrRange},
		{impl.Ins{Op: impl.OpHigh, D: 3, Imm: 65535}, impl.OK},
		{impl.Ins{Op: impl.OpHigh, A: 1}, impl.ErrForm},
		{impl.Ins{Op: impl.OpJump, D: 3, Imm: 65535}, impl.OK},
		{impl.Ins{Op: impl.OpJump, A: 1}, impl.ErrForm},
		{impl.Ins{Op: impl.OpJumpr, A: 1}, impl.OK},
		{impl.Ins{Op: impl.OpGet, D: 1, Imm: 10}, impl.OK},
		{impl.Ins{Op: impl.OpGet, D: 1, Imm: 11}, impl.ErrForm},
		{impl.Ins{Op: impl.OpGet, A: 1}, impl.ErrForm},
		{impl.Ins{Op: impl.OpSet, A: 1, Imm: 10}, impl.OK},
		{impl.Ins{Op: impl.OpSet, A: 1, Imm: 11}, impl.ErrForm},
		{impl.Ins{Op: impl.OpSet, D: 1}, impl.ErrForm},
		// Two faults in one: what leaves its bounds is told ahead of what has no form.
		{impl.Ins{Op: impl.OpAdd, D: 16, Imm: 16}, impl.ErrRange},
		{impl.Ins{Op: impl.OpAdd, Imm: 65536}, impl.ErrRange},
		{impl.Ins{Op: impl.OpAdd, Imm: -1}, impl.ErrRange},
		{impl.Ins{Op: impl.OpHigh, A: 1, Imm: 65536}, impl.ErrRange},
		{impl.Ins{Op: impl.OpHigh, A: 16}, impl.ErrRange},
		{impl.Ins{Op: impl.OpJump, D: -1, A: 1}, impl.ErrRange},
		{impl.Ins{Op: impl.OpGet, A: 1, Imm: -1}, impl.ErrRange},
		{impl.Ins{Op: impl.OpSet, D: 1, A: 16}, impl.ErrRange},
		{impl.Ins{Op: impl.OpHalt, D: 1, Imm: 65536}, impl.ErrRange},
		{impl.Ins{Op: 27, A: 1, Imm: 16}, impl.ErrRange},
	}
	for op := int64(impl.OpCall); op <= impl.OpHalt; op++ {
		for _, x := range []impl.Ins{{Op: op, D: 1}, {Op: op, A: 1}, {Op: op, Imm: 1}} {
			if got := impl.InsFault(x); got != impl.ErrForm {
				t.Errorf("InsFault of %v: %d", x, got)
			}
		}
		if got := impl.InsFault(impl.Ins{Op: op}); got != impl.OK {
			t.Errorf("InsFault of the op %d alone: %d", op, got)
		}
	}
	for _, x := range table {
		if got := impl.InsFault(x.x); got != x.want {
			t.Errorf("InsFault of %v: %d, not %d", x.x, got, x.want)
		}
	}
}

func TestInsFault(t *testing.T) {
	for _, x := range someIns() {
		if got, want := impl.InsFault(x), faultIn(x); got != want {
			t.Fatalf("InsFault of %v: %d, not %d", x, got, want)
		}
	}
}

func TestInstructionsAreReadBackFromTheirWords(t *testing.T) {
	read := 0
	for _, x := range someIns() {
		got := impl.EncodeIns(x)
		if fault := faultIn(x); fault != 0 {
			if got != (impl.IntResult{Code: fault}) {
				t.Fatalf("EncodeIns of %v: %v, not the code %d", x, got, fault)
			}
			continue
		}
		if got != (impl.IntResult{Value: insWord(x)}) {
			t.Fatalf("EncodeIns of %v: %v, not %d", x, got, insWord(x))
		}
		if back := impl.DecodeIns(got.Value); back != (impl.InsResult{Ins: x}) {
			t.Fatalf("DecodeIns of %d: %v, not %v", got.Value, back, x)
		}
		read++
	}
	if read < 26 {
		t.Errorf("only %d instructions have no fault", read)
	}
}

// askDecode asks that word is read as x, or not at all if x has a fault.
func askDecode(t *testing.T, word int64, x impl.Ins) {
	t.Helper()
	want := impl.InsResult{Ins: x}
	if faultIn(x) != 0 {
		want = impl.InsResult{Code: impl.ErrText}
	}
	got := impl.DecodeIns(word)
	if got != want {
		t.Fatalf("DecodeIns of %d: %v, not %v", word, got, want)
	}
	if got.Code == impl.OK && impl.EncodeIns(got.Ins) != (impl.IntResult{Value: word}) {
		t.Fatalf("%d is read as %v, whose word is %v", word, got.Ins, impl.EncodeIns(got.Ins))
	}
}

func TestWordsAreThoseOfTheirInstructions(t *testing.T) {
	for op := int64(0); op <= 255; op++ {
		for d := int64(0); d <= 15; d++ {
			for a := int64(0); a <= 15; a++ {
				for _, imm := range []int64{0, 1, 9, 10, 11, 15, 16, 255, 4096, 32768, 65535} {
					x := impl.Ins{Op: op, D: d, A: a, Imm: imm}
					askDecode(t, insWord(x), x)
				}
			}
		}
	}
	for op := int64(1); op <= 26; op++ {
		for imm := int64(0); imm <= 65535; imm++ {
			x := impl.Ins{Op: op, Imm: imm}
			askDecode(t, insWord(x), x)
		}
	}
}

func TestOrdinaryWords(t *testing.T) {
	for _, n := range wordNumbers() {
		w := bigWord(n).Int64()
		askDecode(t, w, impl.Ins{Op: w / 16777216, D: w / 1048576 % 16, A: w / 65536 % 16, Imm: w % 65536})
	}
}

func TestWordsOfNoInstruction(t *testing.T) {
	none := []int64{0, 1, 65535, 16777215, // the op 0
		16777232, 16842752 + 16, 16777216 + 65535, // add with a second register above 15
		27 * 16777216, 255 * 16777216, impl.WordTop, impl.WordTop - 1, // ops above 26
		23*16777216 + 1, 26*16777216 + 65536, 24*16777216 + 1048576,
		-1, -2, -16777216, math.MinInt64, impl.WordTop + 1, math.MaxInt64}
	// An instruction's word that goes round is none: numbers beside words are not wrapped.
	for _, x := range someIns() {
		if faultIn(x) != 0 {
			continue
		}
		for _, by := range []int64{1 << 32, -1 << 32, 1 << 33, math.MinInt64} {
			none = append(none, insWord(x)+by)
		}
		none = append(none, -insWord(x), insWord(x)+1<<62)
	}
	for _, word := range none {
		if got := impl.DecodeIns(word); got != (impl.InsResult{Code: impl.ErrText}) {
			t.Fatalf("DecodeIns of %d: %v", word, got)
		}
	}
}

func TestInsText(t *testing.T) {
	for _, x := range someIns() {
		want := impl.TextResult{Code: faultIn(x)}
		if want.Code == 0 {
			want.Text = insTextIn(x)
		}
		if got := impl.InsText(x); got != want {
			t.Fatalf("InsText of %v: %v, not %v", x, got, want)
		}
	}
}

func TestInsTextByHand(t *testing.T) {
	table := []struct {
		x    impl.Ins
		want string
	}{
		{impl.Ins{Op: impl.OpSub, D: 1, A: 2, Imm: 3}, "sub 1 2 3"},
		{impl.Ins{Op: impl.OpHigh, D: 4, Imm: 65535}, "high 4 65535"},
		{impl.Ins{Op: impl.OpStore, D: 15, A: 14, Imm: 32768}, "store 15 14 32768"},
		{impl.Ins{Op: impl.OpLt, D: 1, A: 2, Imm: 65535}, "lt 1 2 65535"},
		{impl.Ins{Op: impl.OpJump, D: 2, Imm: 9}, "jump 2 9"},
		{impl.Ins{Op: impl.OpJumpr, D: 2, A: 3, Imm: 9}, "jumpr 2 3 9"},
		{impl.Ins{Op: impl.OpGet, D: 5, Imm: 10}, "get 5 10"},
		{impl.Ins{Op: impl.OpSet, A: 6, Imm: 7}, "set 6 7"},
		{impl.Ins{Op: impl.OpCall}, "call"},
		{impl.Ins{Op: impl.OpHalt}, "halt"},
	}
	for _, x := range table {
		if got := impl.InsText(x.x); got != (impl.TextResult{Text: x.want}) {
			t.Errorf("InsText of %v: %v, not %q", x.x, got, x.want)
		}
	}
}

func TestOpNameAndWritesD(t *testing.T) {
	for _, op := range opNumbers() {
		want, writes := impl.TextResult{Code: impl.ErrRange}, false
		if op >= 1 && op <= 26 {
			want = impl.TextResult{Text: opShapes[op-1].name}
			writes = op <= 14 || op >= 19 && op <= 21
		}
		if got := impl.OpName(op); got != want {
			t.Errorf("OpName of %d: %v, not %v", op, got, want)
		}
		if got := impl.WritesD(op); got != writes {
			t.Errorf("WritesD of %d: %v", op, got)
		}
	}
}

func TestOffsetOf(t *testing.T) {
	table := []struct{ imm, want int64 }{
		{0, 0}, {1, 1}, {32767, 32767}, {32768, -32768}, {32769, -32767}, {65535, -1}, {65536, 0}, {65537, 1},
		{-1, -1}, {-32768, -32768}, {-32769, 32767}, {-65535, 1}, {-65536, 0}, {-65537, -1},
		{1<<32 + 7, 7}, {math.MaxInt64, -1}, {math.MinInt64, 0}, {math.MinInt64 + 1, 1}, {math.MinInt64 + 32768, -32768},
	}
	for _, x := range table {
		if got := impl.OffsetOf(x.imm); got != x.want {
			t.Errorf("OffsetOf of %d: %d, not %d", x.imm, got, x.want)
		}
	}
	for _, imm := range append(wordNumbers(), immNumbers()...) {
		want := new(big.Int).Mod(big.NewInt(imm), big.NewInt(65536)).Int64()
		if want >= 32768 {
			want -= 65536
		}
		if got := impl.OffsetOf(imm); got != want {
			t.Errorf("OffsetOf of %d: %d, not %d", imm, got, want)
		}
	}
}

// aluIn works an op out by numbers that have no bounds.
func aluIn(op, a, b int64) int64 {
	x, y, shift := bigWord(a), bigWord(b), bitsLeft(b)
	left, right := bigSigned(a), bigSigned(b)
	switch op {
	case 1:
		return wordIn(x.Add(x, y))
	case 2:
		return wordIn(x.Sub(x, y))
	case 3:
		return wordIn(x.Mul(x, y))
	case 4:
		if right.Sign() == 0 {
			return impl.WordTop
		}
		return wordIn(left.Quo(left, right))
	case 5:
		if right.Sign() == 0 {
			return wordIn(x)
		}
		return wordIn(left.Rem(left, right))
	case 6:
		return wordIn(x.And(x, y))
	case 7:
		return wordIn(x.Or(x, y))
	case 8:
		return wordIn(x.Xor(x, y))
	case 9:
		return wordIn(x.Lsh(x, shift))
	case 10:
		return wordIn(x.Rsh(x, shift))
	}
	if left.Cmp(right) < 0 {
		return 1
	}
	return 0
}

func TestAluOf(t *testing.T) {
	for op := int64(1); op <= 11; op++ {
		askPairs(t, fmt.Sprint("AluOf ", op), func(a, b int64) int64 {
			got := impl.AluOf(op, a, b)
			if got.Code != impl.OK {
				t.Fatalf("AluOf %d of %d and %d: code %d", op, a, b, got.Code)
			}
			return got.Value
		}, func(a, b int64) int64 { return aluIn(op, a, b) })
	}
}

func TestAluOfByHand(t *testing.T) {
	table := []struct{ op, a, b, want int64 }{
		{impl.OpAdd, impl.WordTop, 1, 0}, {impl.OpSub, 0, 1, impl.WordTop}, {impl.OpSub, 7, 3, 4},
		{impl.OpSub, math.MinInt64, math.MaxInt64, 1}, {impl.OpMul, 65536, 65536, 0},
		{impl.OpDiv, 7, 0, impl.WordTop}, {impl.OpDiv, leastWord, impl.WordTop, leastWord},
		{impl.OpRem, 7, 0, 7}, {impl.OpRem, -7, 2, impl.WordTop},
		{impl.OpAnd, 6, 3, 2}, {impl.OpOr, 6, 3, 7}, {impl.OpXor, 6, 3, 5},
		{impl.OpLeft, 1, 31, leastWord}, {impl.OpLeft, 1, 32, 1}, {impl.OpRight, leastWord, 31, 1}, {impl.OpRight, -1, 28, 15},
		{impl.OpLess, impl.WordTop, 0, 1}, {impl.OpLess, 0, impl.WordTop, 0}, {impl.OpLess, 3, 3, 0}, {impl.OpLess, 3, 4, 1},
		{impl.OpLess, leastWord, leastWord - 1, 1}, {impl.OpLess, impl.WordTop + 1, 1, 1}, {impl.OpLess, math.MaxInt64, math.MinInt64, 1},
	}
	for _, x := range table {
		if got := impl.AluOf(x.op, x.a, x.b); got != (impl.IntResult{Value: x.want}) {
			t.Errorf("AluOf %d of %d and %d: %v, not %d", x.op, x.a, x.b, got, x.want)
		}
	}
}

func TestAluOfNoOp(t *testing.T) {
	for _, op := range opNumbers() {
		if op >= 1 && op <= 11 {
			continue
		}
		for _, a := range edgeNumbers() {
			if got := impl.AluOf(op, a, 3); got != (impl.IntResult{Code: impl.ErrRange}) {
				t.Fatalf("AluOf %d of %d and 3: %v", op, a, got)
			}
		}
	}
}

// insAnswers is all that the chapter's functions tell of an instruction and its fields.
type insAnswers struct {
	fault      int64
	word       impl.IntResult
	back       impl.InsResult
	text, name impl.TextResult
	alu        impl.IntResult
	offset     int64
	writes     bool
}

func insAnswersOf(x impl.Ins) insAnswers {
	return insAnswers{impl.InsFault(x), impl.EncodeIns(x), impl.DecodeIns(x.Imm ^ x.Op<<24), impl.InsText(x), impl.OpName(x.Op),
		impl.AluOf(x.Op, x.D, x.Imm), impl.OffsetOf(x.Imm), impl.WritesD(x.Op)}
}

// TestInstructionsHangOnTheirArgumentsAlone asks all once more, from the last one on: what was kept from a call would show.
func TestInstructionsHangOnTheirArgumentsAlone(t *testing.T) {
	list := someIns()
	var said []insAnswers
	for _, x := range list {
		said = append(said, insAnswersOf(x))
	}
	for k := len(list) - 1; k >= 0; k-- {
		if got := insAnswersOf(list[k]); got != said[k] {
			t.Fatalf("%v: first %v, then %v", list[k], said[k], got)
		}
	}
}
