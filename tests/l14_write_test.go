package tests

import (
	"fmt"
	"math"
	"math/big"
	"regexp"
	"slices"
	"strings"
	"testing"
	"unsafe"

	"loop.example/g00213/impl"
)

func askLabels(t *testing.T, got, want impl.LabelsResult, what ...any) {
	t.Helper()
	if got.Code != want.Code || got.At != want.At || !slices.Equal(got.Labels, want.Labels) {
		t.Fatalf("%s: %v, not %v", fmt.Sprint(what...), got, want)
	}
}

func askImageWords(t *testing.T, got, want impl.WordsResult, what ...any) {
	t.Helper()
	if got.Code != want.Code || got.At != want.At || !slices.Equal(got.Words, want.Words) {
		t.Fatalf("%s: %v, not %v", fmt.Sprint(what...), got, want)
	}
}

func asked(text string) string {
	return fmt.Sprintf("of %q", text)
}

// askSource asks both that read texts against the second reader.
func askSource(t *testing.T, text string) {
	t.Helper()
	askLabels(t, impl.LabelsOf(text), labelsIn(text), "LabelsOf ", asked(text))
	askImageWords(t, impl.Assemble(text), assembledIn(text), "Assemble ", asked(text))
}

// The functions that end in In go through what the document says, word by word.
func opNumberIn(name string) impl.IntResult {
	for k, shape := range opShapes {
		if shape.name == name {
			return impl.IntResult{Value: int64(k) + 1}
		}
	}
	return impl.IntResult{Code: impl.ErrNone}
}

func linesIn(text string) []string {
	pieces := strings.Split(text, "\n")
	if last := len(pieces) - 1; pieces[last] == "" {
		return pieces[:last]
	}
	return pieces
}

func lineWordsIn(line string) []string {
	return slices.DeleteFunc(strings.Split(line, " "), func(piece string) bool { return piece == "" })
}

var (
	nameShape   = regexp.MustCompile(`\A[a-z]{1,8}\z`)
	numberShape = regexp.MustCompile(`\A[0-9]{1,10}\z`)
	wayShape    = regexp.MustCompile(`\A@[a-z]{1,8}\z`)
)

func labelsIn(text string) impl.LabelsResult {
	lines := linesIn(text)
	if len(text) > 1500 || len(lines) > 80 {
		return impl.LabelsResult{Code: impl.ErrMany}
	}
	var labels []impl.Label
	ahead := int64(0)
	for at, line := range lines {
		words := lineWordsIn(line)
		if len(words) == 0 {
			continue
		}
		if words[0] != "label" {
			ahead++
			continue
		}
		if len(words) != 2 || !nameShape.MatchString(words[1]) {
			return impl.LabelsResult{Code: impl.ErrText, At: int64(at)}
		}
		if slices.ContainsFunc(labels, func(l impl.Label) bool { return l.Name == words[1] }) {
			return impl.LabelsResult{Code: impl.ErrTaken, At: int64(at)}
		}
		labels = append(labels, impl.Label{Name: words[1], Place: ahead})
	}
	return impl.LabelsResult{Labels: labels}
}

func assembledIn(text string) impl.WordsResult {
	labels := labelsIn(text)
	if labels.Code != 0 {
		return impl.WordsResult{Code: labels.Code, At: labels.At}
	}
	var image []int64
	for at, line := range linesIn(text) {
		words := lineWordsIn(line)
		if len(words) == 0 || words[0] == "label" {
			continue
		}
		word := lineIn(words, int64(len(image)), labels.Labels)
		if word.Code != 0 {
			return impl.WordsResult{Code: word.Code, At: int64(at)}
		}
		image = append(image, word.Value)
	}
	return impl.WordsResult{Words: image}
}

// toldIn is how many numbers stand behind a first word, and whether there is such a line.
func toldIn(first string) (many int, known bool) {
	if first == "word" {
		return 1, true
	}
	op := opNumberIn(first)
	if op.Code != 0 {
		return 0, false
	}
	return len(opShapes[op.Value-1].told), true
}

func lineIn(words []string, here int64, labels []impl.Label) impl.IntResult {
	first, told := words[0], words[1:]
	many, known := toldIn(first)
	if !known || len(told) != many {
		return impl.IntResult{Code: impl.ErrText}
	}
	byLabel := slices.Contains([]string{"eq", "ne", "lt", "jump"}, first)
	for k, word := range told {
		if !numberShape.MatchString(word) && !(byLabel && k == many-1 && wayShape.MatchString(word)) {
			return impl.IntResult{Code: impl.ErrText}
		}
	}
	numbers := make([]int64, many)
	for k, word := range told {
		n, isNumber := new(big.Int).SetString(word, 10)
		if isNumber {
			numbers[k] = n.Int64()
			continue
		}
		place := slices.IndexFunc(labels, func(l impl.Label) bool { return "@"+l.Name == word })
		if place < 0 {
			return impl.IntResult{Code: impl.ErrNone}
		}
		numbers[k] = (labels[place].Place - here + 65536) % 65536
	}
	if first == "word" {
		if numbers[0] > 4294967295 {
			return impl.IntResult{Code: impl.ErrRange}
		}
		return impl.IntResult{Value: numbers[0]}
	}
	x := impl.Ins{Op: opNumberIn(first).Value}
	for k, field := range opShapes[x.Op-1].told {
		*map[rune]*int64{'D': &x.D, 'A': &x.A, 'I': &x.Imm}[field] = numbers[k]
	}
	if fault := faultIn(x); fault != 0 {
		return impl.IntResult{Code: fault}
	}
	return impl.IntResult{Value: insWord(x)}
}

func disassembledIn(words []int64) impl.TextResult {
	if len(words) > 80 {
		return impl.TextResult{Code: impl.ErrMany}
	}
	text := ""
	for _, w := range words {
		if !within(w, 4294967295) {
			return impl.TextResult{Code: impl.ErrRange}
		}
		if x, is := decodeIn(w); is {
			text += insTextIn(x) + "\n"
		} else {
			text += fmt.Sprintf("word %d\n", w)
		}
	}
	return impl.TextResult{Text: text}
}

func patchedIn(words []int64, at int64, more []int64) impl.WordsResult {
	if at < 0 || at > int64(len(words)) {
		return impl.WordsResult{Code: impl.ErrRange}
	}
	patched := slices.Clone(words)
	for k, w := range more {
		if place := int(at) + k; place < len(patched) {
			patched[place] = w
		} else {
			patched = append(patched, w)
		}
	}
	if len(patched) > 80 {
		return impl.WordsResult{Code: impl.ErrMany}
	}
	for _, w := range slices.Concat(words, more) {
		if !within(w, 4294967295) {
			return impl.WordsResult{Code: impl.ErrRange}
		}
	}
	return impl.WordsResult{Words: patched}
}

func TestOpNumber(t *testing.T) {
	names := strings.Fields("add sub mul div rem and or xor left right less addi high load store eq ne lt jump jumpr get set call back wait halt")
	for k, name := range names {
		askInt(t, impl.OpNumber(name), impl.IntResult{Value: int64(k) + 1}, "OpNumber of ", name)
		if told := impl.OpName(int64(k) + 1); told.Text != name {
			t.Errorf("OpName tells %v, not %s", told, name)
		}
		for _, other := range []string{strings.ToUpper(name), strings.ToUpper(name[:1]) + name[1:], " " + name, name + " ", name[:1] + " " + name[1:], name + "\n", name + "\x00", name + "x", "@" + name, name + name} {
			askInt(t, impl.OpNumber(other), impl.IntResult{Code: impl.ErrNone}, "OpNumber ", asked(other))
		}
		if short := name[:len(name)-1]; opNumberIn(short).Code != 0 {
			askInt(t, impl.OpNumber(short), impl.IntResult{Code: impl.ErrNone}, "OpNumber of ", short)
		}
	}
	for _, name := range []string{"", " ", "\n", "label", "word", "ADD", "Halt", "1", "26", "op", "nop", "add sub", "\xff", strings.Repeat("add", 1000)} {
		askInt(t, impl.OpNumber(name), impl.IntResult{Code: impl.ErrNone}, "OpNumber ", asked(name))
	}
}

// labelled is what LabelsOf answers: names, each with its place.
func labelled(told ...any) impl.LabelsResult {
	var x impl.LabelsResult
	for k := 0; k < len(told); k += 2 {
		x.Labels = append(x.Labels, impl.Label{Name: told[k].(string), Place: int64(told[k+1].(int))})
	}
	return x
}

func labelsCode(code, at int64) impl.LabelsResult { return impl.LabelsResult{Code: code, At: at} }
func wordsCode(code, at int64) impl.WordsResult   { return impl.WordsResult{Code: code, At: at} }
func image(words ...int64) impl.WordsResult       { return impl.WordsResult{Words: words} }

type labelRow struct {
	text string
	want impl.LabelsResult
}

func askLabelRows(t *testing.T, table []labelRow) {
	t.Helper()
	for _, x := range table {
		askLabels(t, labelsIn(x.text), x.want, "the second reader ", asked(x.text))
		askLabels(t, impl.LabelsOf(x.text), x.want, "LabelsOf ", asked(x.text))
		if x.want.Code != impl.OK {
			// The codes of LabelsOf are those of Assemble, with their At.
			askImageWords(t, impl.Assemble(x.text), wordsCode(x.want.Code, x.want.At), "Assemble ", asked(x.text))
		}
	}
}

func TestLabelsOfByHand(t *testing.T) {
	askLabelRows(t, []labelRow{
		{"", labelled()},
		{"\n", labelled()}, {" ", labelled()}, {"\n\n\n", labelled()}, {"   \n \n", labelled()},
		{"halt", labelled()}, {"halt\n", labelled()},
		{"label x", labelled("x", 0)}, {"label x\n", labelled("x", 0)}, {"label x\n\n", labelled("x", 0)}, {"label x\n ", labelled("x", 0)},
		{"halt\nlabel x\n", labelled("x", 1)}, {"halt\nlabel x", labelled("x", 1)},
		{"label x\nhalt\n", labelled("x", 0)},
		{"label a\nlabel b\nhalt\nlabel c\nlabel d\nwait\nlabel e\nlabel f", labelled("a", 0, "b", 0, "c", 1, "d", 1, "e", 2, "f", 2)},
		{"label z\nlabel a\nlabel m", labelled("z", 0, "a", 0, "m", 0)},
		// Blanks ahead, behind and several between.
		{"label   x", labelled("x", 0)}, {"   label x", labelled("x", 0)}, {"label x   ", labelled("x", 0)}, {"  halt  \n  label   x  \n", labelled("x", 1)},
		// Lines without words are no words of the image.
		{"\n\nhalt\n\n   \nlabel x\n\nwait\n \nlabel y", labelled("x", 1, "y", 2)},
		// Names of each length, and such as are words elsewhere.
		{"label a\nlabel ab\nlabel abc\nlabel abcdefg\nlabel abcdefgh\nlabel z\nlabel zzzzzzzz", labelled("a", 0, "ab", 0, "abc", 0, "abcdefg", 0, "abcdefgh", 0, "z", 0, "zzzzzzzz", 0)},
		{"label label\nlabel word\nlabel halt\nlabel add", labelled("label", 0, "word", 0, "halt", 0, "add", 0)},
		{"label abcdefgh\nlabel abcdefgi\nlabel bcdefgh", labelled("abcdefgh", 0, "abcdefgi", 0, "bcdefgh", 0)},
		// What is wrong for Assemble counts one word here.
		{"wink\nlabel x\nadd\nlabel y\nword 99999999999 1\nlabel z\n@x\n7\nlabel w", labelled("x", 1, "y", 2, "z", 3, "w", 5)},
		{"eq 1 2 @none\nlabel x\nLABEL x\nlabel y\nlabels x\nlabel z", labelled("x", 1, "y", 2, "z", 3)},
		{"jump 0 label x\nlabel x", labelled("x", 1)}, {"xlabel y\nlabel y", labelled("y", 1)},
		// A tab and other bytes are no blanks, nor do they part lines.
		{"\t\nlabel x", labelled("x", 1)}, {"\tlabel x\nlabel y", labelled("y", 1)}, {"label\tx\nlabel y", labelled("y", 1)},
		{"\r\nlabel x", labelled("x", 1)}, {"halt\r\nlabel x", labelled("x", 1)}, {"\x00\nlabel x", labelled("x", 1)}, {"\v\nlabel a\n\f\nlabel b\n\u00a0\nlabel c\n\u2028\nlabel d\n\xff\xfe\nlabel e", labelled("a", 1, "b", 2, "c", 3, "d", 4, "e", 5)},
		{"halt\rlabel x", labelled()}, {"\u0085label x\nlabel y", labelled("y", 1)},
	})
}

func TestLabelsOfCodes(t *testing.T) {
	text, taken := int64(impl.ErrText), int64(impl.ErrTaken)
	askLabelRows(t, []labelRow{
		{"label", labelsCode(text, 0)}, {"label\n", labelsCode(text, 0)}, {"  label  ", labelsCode(text, 0)},
		{"label x y", labelsCode(text, 0)}, {"label x x", labelsCode(text, 0)}, {"label x y z", labelsCode(text, 0)}, {"label x 1", labelsCode(text, 0)},
		{"label abcdefghi", labelsCode(text, 0)}, {"label zzzzzzzzz", labelsCode(text, 0)}, {"label " + strings.Repeat("a", 200), labelsCode(text, 0)},
		{"label X", labelsCode(text, 0)}, {"label aB", labelsCode(text, 0)}, {"label a1", labelsCode(text, 0)}, {"label 1", labelsCode(text, 0)}, {"label a_b", labelsCode(text, 0)}, {"label @x", labelsCode(text, 0)},
		{"label x:", labelsCode(text, 0)}, {"label `", labelsCode(text, 0)}, {"label {", labelsCode(text, 0)}, {"label a`", labelsCode(text, 0)}, {"label a{", labelsCode(text, 0)}, {"label Z", labelsCode(text, 0)}, {"label é", labelsCode(text, 0)},
		{"label \xe1", labelsCode(text, 0)}, {"label x\t", labelsCode(text, 0)}, {"label \tx", labelsCode(text, 0)}, {"label x\r\n", labelsCode(text, 0)}, {"label x\x00", labelsCode(text, 0)}, {"label \t", labelsCode(text, 0)},
		// At counts each line, those of labels and those without words, too.
		{"halt\nlabel", labelsCode(text, 1)}, {"\nlabel", labelsCode(text, 1)}, {" \n\n  \nlabel", labelsCode(text, 3)}, {"label a\n\nhalt\nlabel b\nlabel c d\n", labelsCode(text, 4)},
		{"label x\nlabel x", labelsCode(taken, 1)}, {"label x\n\nhalt\n\nlabel x\n", labelsCode(taken, 4)}, {"label a\nlabel b\nlabel c\nlabel b", labelsCode(taken, 3)}, {"label abcdefgh\nlabel  abcdefgh ", labelsCode(taken, 1)},
		// Of two the one whose line comes first; in one line ErrText is asked ahead.
		{"label x\nlabel x\nlabel", labelsCode(taken, 1)}, {"label x\nlabel\nlabel x", labelsCode(text, 1)}, {"label x\nlabel x x", labelsCode(text, 1)}, {"label x\nlabel x y", labelsCode(text, 1)},
		{"label 1\nlabel x\nlabel x", labelsCode(text, 0)}, {"label x\nlabel y\nlabel x\nlabel y", labelsCode(taken, 2)}, {"label x\nlabel X\nlabel x", labelsCode(text, 1)},
		// The lines of words are not asked here, and of Assemble only then.
		{"wink\nlabel", labelsCode(text, 1)}, {"wink\nlabel x\nword\nlabel x", labelsCode(taken, 3)},
	})
}

// sized is a text of so many bytes, all of one line's blanks behind what it is told.
func sized(text string, bytes int) string {
	return text + strings.Repeat(" ", bytes-len(text))
}

// TestSourceBounds asks the two bounds of both functions, each alone, both, and beside wrong lines.
func TestSourceBounds(t *testing.T) {
	many := wordsCode(impl.ErrMany, 0)
	lines := func(n int, line string) string { return strings.Repeat(line, n) }
	halts := slices.Repeat([]int64{op(26, 0, 0, 0)}, 80)
	table := []struct {
		name, text string
		want       impl.WordsResult
	}{
		{"1500 bytes", sized("halt", 1500), image(op(26, 0, 0, 0))},
		{"1501 bytes", sized("halt", 1501), many},
		{"1500 bytes, the last one a line feed", sized("halt", 1499) + "\n", image(op(26, 0, 0, 0))},
		{"1501 bytes, the last one a line feed", sized("halt", 1500) + "\n", many},
		{"1500 blanks", sized("", 1500), image()},
		{"1501 blanks", sized("", 1501), many},
		{"one word of 1500 bytes", strings.Repeat("a", 1500), wordsCode(impl.ErrText, 0)},
		{"one word of 1501 bytes", strings.Repeat("a", 1501), many},
		{"1500 bytes, not as many runes", strings.Repeat("é", 750), wordsCode(impl.ErrText, 0)},
		{"1502 bytes, not as many runes", strings.Repeat("é", 751), many},
		{"a very long text", strings.Repeat("halt\n", 100000), many},
		{"80 lines", lines(80, "halt\n"), image(halts...)},
		{"80 lines, the last one without a line feed", lines(79, "halt\n") + "halt", image(halts...)},
		{"81 lines", lines(81, "halt\n"), many},
		{"81 lines, the last one without a line feed", lines(80, "halt\n") + "halt", many},
		{"80 lines and a blank", lines(80, "halt\n") + " ", many},
		{"79 lines and a blank", lines(79, "halt\n") + " ", image(halts[:79]...)},
		{"80 line feeds", lines(80, "\n"), image()},
		{"81 line feeds", lines(81, "\n"), many},
		{"80 lines of blanks", lines(80, "  \n"), image()},
		{"81 lines of blanks", lines(81, "  \n"), many},
		{"80 lines, of which one is a word", lines(79, "\n") + "halt", image(op(26, 0, 0, 0))},
		{"81 lines, of which one is a word", lines(80, "\n") + "halt", many},
		{"80 lines in 1500 bytes", sized(lines(79, "halt\n")+"halt", 1500), image(halts...)},
		{"81 lines in 1501 bytes", sized(lines(80, "halt\n")+"halt", 1501), many},
		// Beside lines that are wrong, of labels and of words.
		{"1501 bytes and a wrong label", sized("\nlabel", 1501), many},
		{"1500 bytes and a wrong label", sized("\nlabel", 1500), wordsCode(impl.ErrText, 1)},
		{"1501 bytes and a label twice", sized("label x\nlabel x", 1501), many},
		{"81 lines and a wrong label", "label\n" + lines(80, "halt\n"), many},
		{"80 lines and a wrong label", "label\n" + lines(79, "halt\n"), wordsCode(impl.ErrText, 0)},
		{"81 lines, the last one a wrong label", lines(80, "halt\n") + "label", many},
		{"80 lines, the last one a wrong label", lines(79, "halt\n") + "label", wordsCode(impl.ErrText, 79)},
		{"81 lines and a label twice", lines(2, "label x\n") + lines(79, "\n"), many},
		{"80 lines and a label twice", lines(2, "label x\n") + lines(78, "\n"), wordsCode(impl.ErrTaken, 1)},
		{"81 lines and a wrong word", "\nwink\n" + lines(79, "\n"), many},
		{"80 lines and a wrong word", "\nwink\n" + lines(78, "\n"), wordsCode(impl.ErrText, 1)},
		{"80 lines, the last one a wrong word", lines(79, "halt\n") + "word 4294967296", wordsCode(impl.ErrRange, 79)},
		{"both and a wrong line", sized("label\nwink\n"+lines(80, "\n"), 1501), many},
	}
	for _, x := range table {
		askImageWords(t, assembledIn(x.text), x.want, "the second reader of ", x.name)
		askImageWords(t, impl.Assemble(x.text), x.want, "Assemble of ", x.name)
		askLabels(t, impl.LabelsOf(x.text), labelsIn(x.text), "LabelsOf ", x.name)
	}
	askLabels(t, impl.LabelsOf(lines(80, "halt\n")+"halt"), labelsCode(impl.ErrMany, 0), "LabelsOf 81 lines")
	askLabels(t, impl.LabelsOf(sized("label x", 1501)), labelsCode(impl.ErrMany, 0), "LabelsOf 1501 bytes")
	askLabels(t, impl.LabelsOf(sized("label x", 1500)), labelled("x", 0), "LabelsOf 1500 bytes")
	askLabels(t, impl.LabelsOf(lines(79, "halt\n")+"label x"), labelled("x", 79), "LabelsOf 80 lines")
	if impl.MaxSource != 1500 {
		t.Errorf("MaxSource is %d", impl.MaxSource)
	}
}

type textRow struct {
	text string
	want impl.WordsResult
}

func askTextRows(t *testing.T, table []textRow) {
	t.Helper()
	for _, x := range table {
		askImageWords(t, assembledIn(x.text), x.want, "the second reader ", asked(x.text))
		askImageWords(t, impl.Assemble(x.text), x.want, "Assemble ", asked(x.text))
	}
}

func TestAssembleByHand(t *testing.T) {
	halt, wait := op(26, 0, 0, 0), op(25, 0, 0, 0)
	askTextRows(t, []textRow{
		{"", image()}, {"\n", image()}, {" ", image()}, {"\n \n\n  \n", image()}, {"label x\n", image()}, {"label x\n\nlabel y", image()},
		{"label loop\naddi 1 1 1\njump 0 @loop", image(202440705, op(19, 0, 0, 65535))},
		{"addi 1 0 5", image(202375173)}, {"addi 1 0 5\n", image(202375173)},
		{"halt\nwait", image(halt, wait)}, {"halt\nwait\n", image(halt, wait)}, {"halt\n\n\nwait\n\n", image(halt, wait)}, {"\n\nhalt\n   \nwait\n ", image(halt, wait)},
		{"  addi   1    0  5  ", image(202375173)}, {"   halt", image(halt)}, {"halt   ", image(halt)}, {"word   7 \n halt ", image(7, halt)},
		{"word 0", image(0)}, {"word 7\nword 7\n", image(7, 7)}, {"word 4294967295", image(4294967295)}, {"word 436207616", image(halt)},
		{"set 3 10\nget 3 10\nhigh 15 65535", image(op(22, 0, 3, 10), op(21, 3, 0, 10), op(13, 15, 0, 65535))},
		// A program of some lines: it counts down and writes out.
		{"label start\n  addi 1 0 3\nlabel again\n  store 1 0 56\n  addi 1 1 65535\n  ne 1 0 @again\n  eq 1 0 @done\n  jump 2 @start\n\nlabel done\n  halt\nlabel data\n  word 77\n",
			image(op(12, 1, 0, 3), op(15, 1, 0, 56), op(12, 1, 1, 65535), op(17, 1, 0, 65534), op(16, 1, 0, 2), op(19, 2, 0, 65531), halt, 77)},
	})
}

// TestAssembledProgramsRun asks of what a program does: the words are those that a machine runs.
func TestAssembledProgramsRun(t *testing.T) {
	text := "addi 1 0 3\nlabel again\nstore 1 0 56\naddi 1 1 65535\nne 1 0 @again\njump 4 @end\nword 0\nlabel end\nhalt\n"
	p := impl.Policy{Own: [][]int64{{4}}, Plan: []impl.Slot{slot(0, 1)}}
	x := impl.SoloOf(p, 0, impl.Assemble(text).Words, nil)
	got := impl.RunSolo(x.Solo, 100)
	if got.Code != impl.OK || !got.Solo.Hart.Halted || !slices.Equal(got.Solo.Hart.Out, []int64{3, 2, 1}) || got.Solo.Hart.Pc != 6 || got.Solo.Hart.Regs[4] != 5 {
		t.Errorf("a program that counts down: %v", got)
	}
}

// lineOf is a line of an op with so many numbers 0.
func lineOf(first string, numbers int) string {
	return first + strings.Repeat(" 0", numbers)
}

func TestAssembleCountsNumbers(t *testing.T) {
	firsts := []string{"word"}
	for _, shape := range opShapes {
		firsts = append(firsts, shape.name)
	}
	for k, first := range firsts {
		many := 1
		if k > 0 {
			many = len(opShapes[k-1].told)
		}
		for n := range 6 {
			text := "halt\n\n" + lineOf(first, n)
			want := image(op(26, 0, 0, 0), int64(k)*16777216)
			if n != many {
				want = wordsCode(impl.ErrText, 2)
			}
			askImageWords(t, impl.Assemble(text), want, "Assemble ", asked(text))
			askSource(t, text+"\nhalt\n")
		}
	}
}

func TestAssembleFirstWords(t *testing.T) {
	for _, first := range []string{"wink", "ADD", "Halt", "HALT", "words", "wor", "Word", "WORD", "labels", "LABEL", "Label", "labe", "haltt", "hal", "0", "7", "202375173", "@x", "x", "x:", "#", "\thalt", "halt\t", "halt\r", "halt\x00", "\xff", "é", "addi,", "addi;", "nop", "jmp"} {
		for _, told := range []string{"", " 0", " 0 0", " 0 0 0", " 1 2 @x"} {
			text := "label x\n" + first + told
			askImageWords(t, impl.Assemble(text), wordsCode(impl.ErrText, 1), "Assemble ", asked(text))
			askSource(t, text)
		}
	}
	// Other bytes than a blank part no words.
	for _, text := range []string{"word\t7", "word 7\t", "word 7\r\n", "word 7\x00", "word\u00a07", "addi 1\t0 5", "word 7\v", "word,7", "addi 1,0,5", "addi 1 0 5;", "\u2003halt"} {
		askImageWords(t, impl.Assemble(text), wordsCode(impl.ErrText, 0), "Assemble ", asked(text))
	}
}

// TestAssembleNumbers asks what a number is, at each place of a line at which one stands.
func TestAssembleNumbers(t *testing.T) {
	text, rng := wordsCode(impl.ErrText, 0), wordsCode(impl.ErrRange, 0)
	askTextRows(t, []textRow{
		{"word 0", image(0)}, {"word 9", image(9)}, {"word 00", image(0)}, {"word 07", image(7)}, {"word 0000000000", image(0)}, {"word 0000000009", image(9)}, {"word 0123456789", image(123456789)},
		{"word 1000000000", image(1000000000)}, {"word 999999999", image(999999999)}, {"word 4294967294", image(4294967294)}, {"word 4294967295", image(4294967295)}, {"word 4294967296", rng}, {"word 4294967297", rng}, {"word 8589934592", rng}, {"word 9999999999", rng},
		{"word 00000000000", text}, {"word 00000000009", text}, {"word 04294967295", text}, {"word 10000000000", text}, {"word 99999999999", text}, {"word 42949672960", text},
		{"word 18446744073709551616", text}, {"word " + strings.Repeat("0", 100) + "1", text},
		{"word +7", text}, {"word -7", text}, {"word -0", text}, {"word +", text}, {"word -", text}, {"word 7a", text}, {"word a7", text}, {"word a", text}, {"word 0x7", text}, {"word 0b1", text}, {"word 0o7", text}, {"word 1_0", text}, {"word 1e3", text}, {"word 7.", text}, {"word 1.0", text},
		{"word /", text}, {"word :", text}, {"word 1:", text}, {"word 1/", text}, {"word ٣", text}, {"word 7\x00", text}, {"word \xff", text}, {"word @x", text}, {"word word", text}, {"word halt", text},
		{"addi 0000000001 00 0000000005", image(202375173)}, {"addi 00000000001 0 5", text}, {"addi 1 00000000000 5", text}, {"addi 1 0 00000000005", text}, {"addi 1 0 -1", text}, {"addi +1 0 5", text}, {"addi 1 x 5", text}, {"addi r1 r0 5", text},
		{"addi 1 0 65535", image(op(12, 1, 0, 65535))}, {"addi 1 0 65536", rng}, {"addi 1 0 9999999999", rng}, {"addi 9999999999 0 5", rng}, {"addi 1 9999999999 5", rng}, {"addi 1 0 4294967301", rng}, {"addi 4294967297 0 5", rng},
		{"eq 1 2 0000000003", image(op(16, 1, 2, 3))}, {"eq 1 2 00000000003", text}, {"jump 1 4294967295", rng}, {"jump 1 65536", rng}, {"jump 1 -1", text},
	})
	// Each of the places, with what is none and with such as have just so many digits.
	for _, shape := range opShapes {
		for k := range len(shape.told) {
			for _, word := range []string{"0", "0000000000", "00000000000", "9999999999", "10000000000", "-0", "+0", "0a", "a", "x0", "@", "@x", "@y", "@X", "@0", "0@x", "x@", "@@x"} {
				words := append([]string{shape.name}, slices.Repeat([]string{"0"}, len(shape.told))...)
				words[k+1] = word
				askSource(t, "halt\nlabel x\n"+strings.Join(words, " "))
			}
		}
	}
}

// numbersTold are numbers as lines have them: from 0 on, of 10 digits at most.
func numbersTold() []int64 {
	return []int64{0, 1, 7, 9, 10, 11, 14, 15, 16, 17, 31, 255, 256, 32767, 32768, 65534, 65535, 65536, 65537, 131072, 1 << 31, 1<<32 - 1, 1 << 32, 1<<32 + 1, 1<<32 + 5, 9999999999}
}

// TestAssembleFields asks each op with each of its fields at its bounds and beyond them.
func TestAssembleFields(t *testing.T) {
	right := 0
	for k, shape := range opShapes {
		if shape.told == "" {
			continue
		}
		for _, d := range numbersTold() {
			for _, a := range numbersTold() {
				for _, imm := range numbersTold() {
					x := impl.Ins{Op: int64(k) + 1}
					fields := map[rune]int64{'D': d, 'A': a, 'I': imm}
					line := shape.name
					for _, field := range shape.told {
						line += fmt.Sprintf(" %d", fields[field])
						*map[rune]*int64{'D': &x.D, 'A': &x.A, 'I': &x.Imm}[field] = fields[field]
					}
					want := wordsCode(faultIn(x), 1)
					if want.Code == impl.OK {
						want = image(7, insWord(x))
						right++
					}
					askImageWords(t, impl.Assemble("word 7\n"+line), want, "Assemble ", asked(line))
				}
			}
		}
	}
	if right < 1000 {
		t.Errorf("only %d lines are right", right)
	}
	form, rng := wordsCode(impl.ErrForm, 0), wordsCode(impl.ErrRange, 0)
	askTextRows(t, []textRow{
		{"add 15 15 15", image(op(1, 15, 15, 15))}, {"add 1 2 16", form}, {"less 1 2 16", form}, {"add 1 2 65535", form}, {"add 1 2 65536", rng}, {"add 16 2 3", rng}, {"add 1 16 3", rng}, {"add 16 2 16", rng},
		{"high 16 1", rng}, {"high 15 65536", rng}, {"load 16 0 0", rng}, {"store 0 16 0", rng}, {"jumpr 0 0 65536", rng}, {"get 1 11", form}, {"get 16 11", rng}, {"get 1 65536", rng}, {"set 1 11", form}, {"set 16 10", rng}, {"set 15 10", image(op(22, 0, 15, 10))},
	})
}

// TestAssembleLabels asks each way from a line to a label, in programs of 80 lines at most.
func TestAssembleLabels(t *testing.T) {
	ways := []struct {
		text string
		op   int64
		d, a int64
	}{{"eq 3 4 @here", 16, 3, 4}, {"ne 5 0 @here", 17, 5, 0}, {"lt 15 15 @here", 18, 15, 15}, {"jump 9 @here", 19, 9, 0}}
	for _, size := range []int{1, 2, 3, 30, 79} {
		for from := range size {
			for to := range size + 1 {
				way := ways[(from+to)%len(ways)]
				var lines []string
				want := impl.WordsResult{}
				for k := range size {
					if k == to {
						lines = append(lines, "label here")
					}
					if k == from {
						lines = append(lines, way.text)
						want.Words = append(want.Words, op(way.op, way.d, way.a, int64((to-from+65536)%65536)))
					} else {
						lines = append(lines, "halt")
						want.Words = append(want.Words, op(26, 0, 0, 0))
					}
				}
				if to == size {
					lines = append(lines, "label here")
				}
				askImageWords(t, impl.Assemble(strings.Join(lines, "\n")), want, way.text, " from ", from, " to ", to, " of ", size)
			}
		}
	}
}

func TestAssembleLabelsByHand(t *testing.T) {
	jump := func(way int64) int64 { return op(19, 0, 0, way) }
	askTextRows(t, []textRow{
		{"label x\njump 0 @x", image(jump(0))}, {"jump 0 @x\nlabel x", image(jump(1))}, {"label x\nhalt\njump 0 @x", image(op(26, 0, 0, 0), jump(65535))}, {"jump 0 @x\nhalt\nlabel x\nhalt", image(jump(2), op(26, 0, 0, 0), op(26, 0, 0, 0))},
		{"label x\n\n  \nlabel y\n\njump 0 @x\njump 0 @y\n\nlabel z\njump 0 @z\njump 0 @x\njump 0 @z", image(jump(0), jump(65535), jump(0), jump(65533), jump(65534))},
		{"jump 0 @b\nlabel a\njump 0 @a\nlabel b\njump 0 @a\njump 0 @c\nlabel c", image(jump(2), jump(0), jump(65535), jump(1))},
		{"label abcdefgh\njump 1 @abcdefgh", image(op(19, 1, 0, 0))}, {"label jump\njump 1 @jump", image(op(19, 1, 0, 0))}, {"label label\neq 1 2 @label", image(op(16, 1, 2, 0))}, {"  ne  1   2  @x  \n  label  x ", image(op(17, 1, 2, 1))},
		{"label a\nhalt\nlabel ab\nhalt\nlabel abc\njump 0 @a\njump 0 @ab\njump 0 @abc", image(op(26, 0, 0, 0), op(26, 0, 0, 0), jump(65534), jump(65534), jump(65534))},
	})
	text, none, rng := int64(impl.ErrText), int64(impl.ErrNone), int64(impl.ErrRange)
	table := []struct {
		line string
		code int64
	}{
		{"jump 0 @none", none}, {"eq 0 0 @none", none}, {"ne 0 0 @none", none}, {"lt 0 0 @none", none}, {"jump 0 @xx", none}, {"jump 0 @y", none}, {"jump 0 @zzzzzzzz", none}, {"jump 0 @word", none}, {"jump 0 @halt", none}, {"jump 0 @label", none},
		// What stands behind the sign is no name.
		{"jump 0 @", text}, {"eq 0 0 @", text}, {"ne 0 0 @", text}, {"lt 0 0 @", text}, {"jump 0 @X", text}, {"jump 0 @xX", text}, {"jump 0 @x1", text}, {"jump 0 @0", text}, {"jump 0 @1", text}, {"jump 0 @@x", text}, {"jump 0 @x@", text}, {"jump 0 @abcdefghi", text}, {"jump 0 @x:", text}, {"jump 0 @-x", text}, {"jump 0 @x\t", text}, {"jump 0 @\xff", text}, {"jump 0 @é", text}, {"jump 0 @`", text}, {"jump 0 @{", text}, {"jump 0 @_x", text},
		{"jump 0 @ x", text}, {"jump 0 x", text}, {"jump 0 x@", text}, {"jump 0 0@x", text}, {"jump 0 +@x", text}, {"jump 0 &x", text}, {"jump 0 A", text},
		// As another one than the last one, and of other ops.
		{"jump @x 0", text}, {"jump @x @x", text}, {"eq @x 0 0", text}, {"eq 0 @x 0", text}, {"eq 0 @x @x", text}, {"ne 0 @x 0", text}, {"lt @x 0 @x", text}, {"jump @x", text}, {"eq 0 @x", text}, {"jump 0 0 @x", text}, {"jump 0 @x @x", text},
		{"add 0 0 @x", text}, {"addi 0 0 @x", text}, {"less 0 0 @x", text}, {"high 0 @x", text}, {"load 0 0 @x", text}, {"store 0 0 @x", text}, {"jumpr 0 0 @x", text}, {"get 0 @x", text}, {"set 0 @x", text}, {"call @x", text}, {"halt @x", text}, {"word @x", text}, {"word @none", text}, {"addi 0 0 @none", text},
		// Two codes in one line: what is no number, then what is no label, then what is too great.
		{"jump a @none", text}, {"jump -1 @none", text}, {"jump 00000000000 @none", text}, {"eq 0 @x @none", text}, {"eq x 0 @none", text}, {"eq 0 0 0 @none", text}, {"wink @none", text},
		{"jump 16 @none", none}, {"jump 9999999999 @none", none}, {"eq 16 16 @none", none}, {"lt 0 9999999999 @none", none}, {"jump 16 @x", rng}, {"eq 0 16 @x", rng}, {"eq 16 0 @x", rng}, {"eq 16 a @x", text}, {"jump 16 @", text}, {"jump 16 a", text},
		{"word 4294967296 7", text}, {"word 4294967296 x", text}, {"word 9999999999", rng}, {"add 16 a 0", text}, {"add 16 0 16", rng}, {"add 0 0 16", int64(impl.ErrForm)}, {"get 16 11", rng}, {"add 16 0", text}, {"halt 16", text},
	}
	for _, x := range table {
		for _, program := range []struct {
			text string
			at   int64
		}{{"label x\n" + x.line, 1}, {x.line + "\nlabel x", 0}, {"\n\nhalt\nlabel x\n \nhalt\n" + x.line + "\nhalt\nwink", 6}, {"label x\nhalt\n\n" + x.line + "\njump 0 @none\nword 9999999999\n", 3}} {
			askTextRows(t, []textRow{{program.text, wordsCode(x.code, program.at)}})
		}
	}
}

// TestAssembleOrder asks each two codes in two lines: the line that comes first is told, but labels are asked ahead of all.
func TestAssembleOrder(t *testing.T) {
	wrong := []struct {
		line string
		code int64
	}{{"wink", impl.ErrText}, {"add 1 2", impl.ErrText}, {"word x", impl.ErrText}, {"jump 0 @none", impl.ErrNone}, {"word 4294967296", impl.ErrRange}, {"addi 16 0 0", impl.ErrRange}, {"add 0 0 16", impl.ErrForm}, {"set 1 11", impl.ErrForm}}
	labels := []struct {
		line string
		code int64
	}{{"label", impl.ErrText}, {"label X", impl.ErrText}, {"label a b", impl.ErrText}, {"label x", impl.ErrTaken}}
	for _, first := range wrong {
		for _, second := range wrong {
			text := "label x\n\n" + first.line + "\nhalt\n" + second.line
			askImageWords(t, impl.Assemble(text), wordsCode(first.code, 2), "Assemble ", asked(text))
			askLabels(t, impl.LabelsOf(text), labelled("x", 0), "LabelsOf ", asked(text))
		}
		for _, second := range labels {
			text := "label x\n\n" + first.line + "\nhalt\n" + second.line
			askImageWords(t, impl.Assemble(text), wordsCode(second.code, 4), "Assemble ", asked(text))
			askLabels(t, impl.LabelsOf(text), labelsCode(second.code, 4), "LabelsOf ", asked(text))
			text = "label x\n" + second.line + "\n" + first.line
			askImageWords(t, impl.Assemble(text), wordsCode(second.code, 1), "Assemble ", asked(text))
		}
	}
	for _, first := range labels {
		for _, second := range labels {
			text := "label x\n" + first.line + "\n\n" + second.line
			askImageWords(t, impl.Assemble(text), wordsCode(first.code, 1), "Assemble ", asked(text))
		}
	}
}

// mixedText is a program of some lines, right for the most part; told by a steady count.
func mixedText(next func(n int64) int64) string {
	names := []string{"a", "b", "loop", "abcdefgh", "word", "x"}
	pick := func(list ...string) string { return list[next(int64(len(list)))] }
	number := func(top int64) string {
		return pick(fmt.Sprint(next(top+1)), fmt.Sprint(next(top+1)), fmt.Sprint(top), fmt.Sprintf("%05d", next(top+1)))
	}
	var lines []string
	for range next(14) {
		switch kind := next(20); {
		case kind < 2:
			lines = append(lines, pick("", " ", "    "))
		case kind < 6:
			lines = append(lines, "label "+names[next(6)])
		case kind < 8:
			lines = append(lines, "word "+number(4294967295))
		case kind < 12:
			lines = append(lines, pick("eq 1 2 @", "ne 3 0 @", "lt 1 1 @", "jump 5 @")+names[next(6)])
		case kind < 19:
			shape := opShapes[next(26)]
			words := []string{shape.name}
			for _, field := range shape.told {
				words = append(words, number(map[rune]int64{'D': shape.topD, 'A': shape.topA, 'I': shape.topIm}[field]))
			}
			lines = append(lines, strings.Join(words, pick(" ", " ", "  ")))
		default:
			lines = append(lines, pick("wink", "label", "label a b", "add 16 0 0", "add 1 2", "word 4294967296", "jump 1 @Q", "jump 16 @a", "get 1 11", "\thalt", "word 99999999999"))
		}
	}
	return strings.Join(lines, "\n") + pick("", "\n", "\n\n", " ")
}

func TestMixedTexts(t *testing.T) {
	next := steadyNext(14)
	codes := map[int64]int{}
	for range 30000 {
		text := mixedText(next)
		askSource(t, text)
		codes[assembledIn(text).Code]++
	}
	for _, code := range []int64{impl.OK, impl.ErrText, impl.ErrTaken, impl.ErrNone, impl.ErrRange, impl.ErrForm} {
		if codes[code] < 100 {
			t.Errorf("only %d texts have the code %d", codes[code], code)
		}
	}
}

// TestTurnedTexts turns, leaves out and doubles each byte of programs.
func TestTurnedTexts(t *testing.T) {
	for _, text := range []string{
		"label loop\naddi 1 1 1\njump 0 @loop\nword 7\n",
		"  eq 1 2 @b\n\nlabel a\n set 1 10\nlabel b\nlt 15 0 @a\nword 4294967295",
		"jump 3 @abcdefgh\nlabel abcdefgh\nlabel ab\nhalt\nget 2 0000000010\n",
	} {
		for at := range len(text) {
			askSource(t, text[:at])
			askSource(t, text[at:])
			askSource(t, text[:at]+text[at+1:])
			for _, b := range []byte(" \n\t\r@az`{AZ0159/:+-x\x00\xff") {
				askSource(t, text[:at]+string([]byte{b})+text[at+1:])
				askSource(t, text[:at]+string([]byte{b})+text[at:])
			}
		}
	}
	// Each byte as a word's own sign, as a name and as a line.
	for b := range 256 {
		sign := string([]byte{byte(b)})
		for _, text := range []string{sign, "halt" + sign + "wait", "label " + sign, "label a" + sign + "b", "word " + sign, "word 1" + sign + "2", "label x\njump 0 @" + sign, "label x\njump 0" + sign + "@x", sign + "label x\nlabel y", "jump 0 " + sign + "x\nlabel x"} {
			askSource(t, text)
		}
	}
}

// someImages are lists of words: instructions and such as are none, at the edges of words, 80 at most.
func someImages() [][]int64 {
	list := [][]int64{nil, {}, {0}, {impl.WordTop}, {0, impl.WordTop}, {202375173}, {1, 2, 3}, queueOf(79, 16777216), queueOf(80, 0), slices.Repeat([]int64{op(20, 15, 15, 65535)}, 80), slices.Repeat([]int64{impl.WordTop}, 80)}
	var edges []int64
	for _, x := range someIns() {
		if faultIn(x) == 0 {
			edges = append(edges, insWord(x))
		}
	}
	for _, n := range wordNumbers() {
		edges = append(edges, bigWord(n).Int64())
	}
	for words := range slices.Chunk(edges, 80) {
		list = append(list, slices.Clone(words))
	}
	next := steadyNext(41)
	for range 300 {
		words := make([]int64, next(81))
		for k := range words {
			words[k] = []int64{mixedIns(next), mixedIns(next), next(1 << 32), next(27 << 24)}[next(4)]
		}
		list = append(list, words)
	}
	return list
}

func TestDisassembleByHand(t *testing.T) {
	table := []struct {
		words []int64
		want  impl.TextResult
	}{
		{nil, impl.TextResult{}}, {[]int64{}, impl.TextResult{}},
		{[]int64{0}, impl.TextResult{Text: "word 0\n"}}, {[]int64{7, 7}, impl.TextResult{Text: "word 7\nword 7\n"}},
		{[]int64{202375173}, impl.TextResult{Text: "addi 1 0 5\n"}}, {[]int64{436207616, 436207617, 436207615}, impl.TextResult{Text: "halt\nword 436207617\nword 436207615\n"}},
		{[]int64{op(19, 0, 0, 65535), op(21, 3, 0, 10), op(22, 0, 3, 10), op(13, 4, 0, 9), op(16, 1, 2, 3), op(23, 0, 0, 0), op(20, 1, 2, 3)}, impl.TextResult{Text: "jump 0 65535\nget 3 10\nset 3 10\nhigh 4 9\neq 1 2 3\ncall\njumpr 1 2 3\n"}},
		{[]int64{op(1, 1, 2, 15), op(1, 1, 2, 16), op(27, 0, 0, 0), 16777215, 16777216}, impl.TextResult{Text: "add 1 2 15\nword 17956880\nword 452984832\nword 16777215\nadd 0 0 0\n"}},
		{[]int64{impl.WordTop}, impl.TextResult{Text: "word 4294967295\n"}}, {[]int64{impl.WordTop + 1}, impl.TextResult{Code: impl.ErrRange}}, {[]int64{-1}, impl.TextResult{Code: impl.ErrRange}},
		{[]int64{math.MinInt64}, impl.TextResult{Code: impl.ErrRange}}, {[]int64{math.MaxInt64}, impl.TextResult{Code: impl.ErrRange}}, {[]int64{202375173 + 1<<32}, impl.TextResult{Code: impl.ErrRange}}, {[]int64{1, 2, -1, 3}, impl.TextResult{Code: impl.ErrRange}},
		{make([]int64, 80), impl.TextResult{Text: strings.Repeat("word 0\n", 80)}}, {make([]int64, 81), impl.TextResult{Code: impl.ErrMany}}, {make([]int64, 100000), impl.TextResult{Code: impl.ErrMany}},
		// Of both it is told that there are too many.
		{slices.Repeat([]int64{-1}, 81), impl.TextResult{Code: impl.ErrMany}}, {slices.Repeat([]int64{-1}, 80), impl.TextResult{Code: impl.ErrRange}}, {append([]int64{impl.WordTop + 1}, make([]int64, 80)...), impl.TextResult{Code: impl.ErrMany}}, {append(make([]int64, 79), -1), impl.TextResult{Code: impl.ErrRange}}, {append(make([]int64, 80), -1), impl.TextResult{Code: impl.ErrMany}},
	}
	for _, x := range table {
		askText(t, disassembledIn(x.words), x.want, "the second reader of ", x.words)
		askText(t, impl.Disassemble(x.words), x.want, "Disassemble ", x.words)
	}
}

func TestDisassembleWrongWords(t *testing.T) {
	for _, n := range wordNumbers() {
		for _, at := range []int{0, 1, 40, 79} {
			words := queueOf(80, 202375173)
			words[at] = n
			askText(t, impl.Disassemble(words), disassembledIn(words), "Disassemble with ", n, " at ", at)
		}
	}
}

// TestWordsAreReadBackFromTheirLines holds promise 15: of all words, the longest lines of 80 too.
func TestWordsAreReadBackFromTheirLines(t *testing.T) {
	for _, words := range someImages() {
		text := impl.Disassemble(words)
		askText(t, text, disassembledIn(words), "Disassemble ", words)
		askImageWords(t, impl.Assemble(text.Text), image(words...), "the words of ", asked(text.Text))
		askLabels(t, impl.LabelsOf(text.Text), labelled(), "LabelsOf ", asked(text.Text))
		if bare := strings.TrimSuffix(text.Text, "\n"); bare != "" {
			askImageWords(t, impl.Assemble(bare), image(words...), "without the last line feed the words of ", asked(bare))
		}
	}
}

// TestTextsAreToldAgain asks that what is assembled is told by lines that are assembled as the same words, whatever labels the text had.
func TestTextsAreToldAgain(t *testing.T) {
	next := steadyNext(1500)
	for range 3000 {
		read := impl.Assemble(mixedText(next))
		if read.Code != impl.OK {
			continue
		}
		told := impl.Disassemble(read.Words)
		again := impl.Assemble(told.Text)
		askImageWords(t, again, read, "told again ", asked(told.Text))
		askText(t, impl.Disassemble(again.Words), told, "told once more")
	}
}

func patchPlaces(size int) []int64 {
	n := int64(size)
	return []int64{math.MinInt64, -1 << 32, -1, 0, 1, n / 2, n - 1, n, n + 1, n + 2, 79, 80, 81, 1 << 32, 1<<32 + 1, math.MaxInt64 - 1, math.MaxInt64}
}

func TestPatchImageByHand(t *testing.T) {
	type ints = []int64
	rng, many := wordsCode(impl.ErrRange, 0), wordsCode(impl.ErrMany, 0)
	full := queueOf(80, 100)
	table := []struct {
		words ints
		at    int64
		more  ints
		want  impl.WordsResult
	}{
		{ints{1, 2, 3}, 1, ints{9}, image(1, 9, 3)}, {ints{1, 2, 3}, 0, ints{9}, image(9, 2, 3)}, {ints{1, 2, 3}, 2, ints{9}, image(1, 2, 9)}, {ints{1, 2, 3}, 3, ints{9}, image(1, 2, 3, 9)}, {ints{1, 2, 3}, 4, ints{9}, rng}, {ints{1, 2, 3}, -1, ints{9}, rng},
		{ints{1, 2, 3}, 0, ints{7, 8}, image(7, 8, 3)}, {ints{1, 2, 3}, 1, ints{7, 8}, image(1, 7, 8)}, {ints{1, 2, 3}, 2, ints{7, 8}, image(1, 2, 7, 8)}, {ints{1, 2, 3}, 3, ints{7, 8}, image(1, 2, 3, 7, 8)}, {ints{1, 2, 3}, 0, ints{7, 8, 9}, image(7, 8, 9)}, {ints{1, 2, 3}, 0, ints{6, 7, 8, 9}, image(6, 7, 8, 9)},
		{ints{1, 2, 3}, 0, nil, image(1, 2, 3)}, {ints{1, 2, 3}, 3, nil, image(1, 2, 3)}, {ints{1, 2, 3}, 2, ints{}, image(1, 2, 3)}, {ints{1, 2, 3}, 4, nil, rng}, {ints{1, 2, 3}, -1, nil, rng}, {nil, 0, nil, image()}, {nil, 0, ints{5}, image(5)}, {ints{}, 0, ints{}, image()}, {nil, 1, nil, rng}, {nil, 1, ints{5}, rng}, {nil, -1, nil, rng}, {nil, math.MaxInt64, ints{5}, rng}, {nil, math.MinInt64, ints{5}, rng}, {ints{1}, math.MaxInt64, ints{5, 6}, rng},
		// 80 words behind it and 81.
		{full, 0, nil, image(full...)}, {full, 80, nil, image(full...)}, {full, 0, full, image(full...)}, {nil, 0, full, image(full...)}, {full[:79], 79, ints{179}, image(full...)}, {full, 79, ints{179}, image(full...)}, {full, 79, ints{5}, image(append(queueOf(79, 100), 5)...)}, {full[:79], 78, ints{178, 179}, image(full...)},
		{full, 80, ints{5}, many}, {full, 79, ints{5, 6}, many}, {full, 1, full, many}, {full[:79], 79, ints{5, 6}, many}, {nil, 0, queueOf(81, 1), many}, {queueOf(81, 1), 0, nil, many}, {queueOf(81, 1), 81, nil, many}, {queueOf(81, 1), 0, ints{1}, many}, {queueOf(100000, 1), 5, ints{1}, many}, {ints{1}, 1, queueOf(100000, 1), many},
		// What is no word, in either, in place of it too.
		{ints{1, -1, 3}, 0, nil, rng}, {ints{1, -1, 3}, 1, ints{9}, rng}, {ints{1, impl.WordTop + 1, 3}, 0, ints{1, 2, 3}, rng}, {ints{1, 2, 3}, 1, ints{-1}, rng}, {ints{1, 2, 3}, 3, ints{1, impl.WordTop + 1}, rng}, {ints{math.MinInt64}, 0, nil, rng}, {nil, 0, ints{math.MaxInt64}, rng}, {ints{0, impl.WordTop}, 1, ints{0, impl.WordTop}, image(0, 0, impl.WordTop)},
		// Two codes: the place, then how many, then what is no word.
		{queueOf(81, -1), 82, nil, rng}, {queueOf(81, 1), -1, nil, rng}, {full, 81, ints{1}, rng}, {full, 80, ints{-1}, many}, {queueOf(81, -5), 0, nil, many}, {append(queueOf(80, 1), -1), 3, ints{1}, many}, {ints{-1}, 2, ints{1}, rng}, {ints{-1}, 1, queueOf(80, 1), many}, {ints{-1}, 1, queueOf(79, 1), rng}, {ints{1}, 1, append(queueOf(79, 1), -1), many},
	}
	for _, x := range table {
		askImageWords(t, patchedIn(x.words, x.at, x.more), x.want, "the second reader of ", x.words, x.at, x.more)
		askImageWords(t, impl.PatchImage(x.words, x.at, x.more), x.want, "PatchImage ", x.words, " at ", x.at, " with ", x.more)
	}
}

func TestPatchImage(t *testing.T) {
	sizes := []int{0, 1, 2, 7, 40, 78, 79, 80, 81, 82, 200}
	for _, size := range sizes {
		for _, many := range sizes {
			words, more := queueOf(size, 1000), queueOf(many, 5000)
			for _, at := range patchPlaces(size) {
				askImageWords(t, impl.PatchImage(words, at, more), patchedIn(words, at, more), "PatchImage ", size, " words at ", at, " with ", many)
			}
		}
	}
	for _, n := range wordNumbers() {
		for _, at := range []int64{-1, 0, 1, 2, 3, 4} {
			for _, place := range []int{0, 1, 2} {
				words, more := queueOf(3, 1), queueOf(3, 11)
				words[place] = n
				askImageWords(t, impl.PatchImage(words, at, more), patchedIn(words, at, more), "PatchImage with ", n, " in words at ", place)
				words[place], more[place] = 1, n
				askImageWords(t, impl.PatchImage(words, at, more), patchedIn(words, at, more), "PatchImage with ", n, " in more at ", place)
			}
		}
	}
}

// TestWhatIsPatchedIsThere holds promise 15: what is patched is there, and all other words stay.
func TestWhatIsPatchedIsThere(t *testing.T) {
	images := someImages()
	patched := 0
	for k, words := range images {
		more := images[(k*7+3)%len(images)]
		more = more[:min(len(more), k%13)]
		for at := range len(words) + 1 {
			got := impl.PatchImage(words, int64(at), more)
			if max(len(words), at+len(more)) > 80 {
				askImageWords(t, got, wordsCode(impl.ErrMany, 0), "PatchImage ", len(words), " words at ", at, " with ", len(more))
				continue
			}
			if got.Code != impl.OK || got.At != 0 || len(got.Words) != max(len(words), at+len(more)) {
				t.Fatalf("PatchImage %v at %d with %v: %v", words, at, more, got)
			}
			for place, w := range got.Words {
				if place >= at && place < at+len(more) {
					patched++
					if w != more[place-at] {
						t.Fatalf("PatchImage %v at %d with %v: %d stands at %d", words, at, more, w, place)
					}
				} else if w != words[place] {
					t.Fatalf("PatchImage %v at %d with %v turns the word at %d", words, at, more, place)
				}
			}
		}
	}
	if patched < 1000 {
		t.Errorf("only %d words were patched", patched)
	}
}

// written are arguments of all the chapter's functions.
type written struct {
	text  string
	words []int64
	at    int64
	more  []int64
}

func someWritten() []written {
	texts := []string{"", "\n", "label loop\naddi 1 1 1\njump 0 @loop\nword 7\n", "halt\nlabel x\nhalt\nlabel y\neq 1 2 @x\nne 1 2 @y", "label x\nlabel x", "wink", "jump 0 @none", strings.Repeat("halt\n", 81), sized("halt", 1501), "word 4294967296", "add 1 2 16"}
	lists := append([][]int64{{-1}, {1, impl.WordTop + 1, 3}, queueOf(81, 1), {5, 6, 7}, {202375173, 9}}, someImages()[:20]...)
	var list []written
	for k, words := range lists {
		for j, more := range lists {
			list = append(list, written{texts[(k+j)%len(texts)], words, int64((k*5+j)%90 - 1), more}, written{texts[j%len(texts)], words, int64(len(words)), more}, written{texts[k%len(texts)], words, 0, more})
		}
	}
	return list
}

func writtenAnswers(x written) string {
	return fmt.Sprint(impl.Assemble(x.text), impl.LabelsOf(x.text), impl.Disassemble(x.words), impl.Disassemble(x.more), impl.PatchImage(x.words, x.at, x.more), impl.OpNumber(x.text))
}

// TestWritingChangesNothing asks that no argument, nor the room behind its list, is another one behind a call or a write into its answer.
func TestWritingChangesNothing(t *testing.T) {
	for _, x := range someWritten() {
		words, wholeWords := roomy(x.words)
		more, wholeMore := roomy(x.more)
		beforeWords, beforeMore := slices.Clone(wholeWords), slices.Clone(wholeMore)
		kept := func(what string) {
			t.Helper()
			if !slices.Equal(wholeWords, beforeWords) || !slices.Equal(wholeMore, beforeMore) {
				t.Fatalf("%s changes %v or %v", what, x.words, x.more)
			}
		}
		impl.Disassemble(words)
		impl.Disassemble(more)
		kept("Disassemble")
		first, second := impl.PatchImage(words, x.at, more), impl.PatchImage(words, x.at, more)
		kept("PatchImage")
		want := patchedIn(x.words, x.at, x.more)
		askImageWords(t, first, want, "PatchImage ", x.words, " at ", x.at, " with ", x.more)
		turnAll(first.Words[:cap(first.Words)])
		kept("a write into what PatchImage answers")
		askImageWords(t, second, want, "behind a write into another answer")
		askImageWords(t, impl.PatchImage(words, x.at, more), want, "asked again")
		turnAll(wholeWords)
		turnAll(wholeMore)
		askImageWords(t, second, want, "behind a write into the arguments")
	}
}

// TestPatchesOfOneMemory asks of two lists that are pieces of one another.
func TestPatchesOfOneMemory(t *testing.T) {
	for from := range 10 {
		for at := range int64(11) {
			whole := queueOf(20, 1)
			got := impl.PatchImage(whole[:10], at, whole[from:from+7])
			want := patchedIn(queueOf(10, 1), at, queueOf(7, int64(from)+1))
			askImageWords(t, got, want, "PatchImage at ", at, " with a piece from ", from)
			turnAll(got.Words[:cap(got.Words)])
			if !slices.Equal(whole, queueOf(20, 1)) {
				t.Fatalf("a write into what PatchImage answers is seen in %v", whole)
			}
		}
	}
}

// TestReadAnswersAreNew asks that a write into what was read is seen in no other answer.
func TestReadAnswersAreNew(t *testing.T) {
	next := steadyNext(77)
	for range 2000 {
		text := mixedText(next)
		words, labels := impl.Assemble(text), impl.LabelsOf(text)
		second, other := impl.Assemble(text), impl.LabelsOf(text)
		turnAll(words.Words[:cap(words.Words)])
		for k := range labels.Labels[:cap(labels.Labels)] {
			labels.Labels[:cap(labels.Labels)][k] = impl.Label{Name: "turned", Place: -5}
		}
		askImageWords(t, second, assembledIn(text), "behind a write into another answer: Assemble ", asked(text))
		askLabels(t, other, labelsIn(text), "behind a write into another answer: LabelsOf ", asked(text))
		askSource(t, text)
	}
}

// TestLabelNamesAreNewMemory asks that a name is no piece of the text, which would be kept by it.
func TestLabelNamesAreNewMemory(t *testing.T) {
	text := strings.Clone("label a\nhalt\nlabel abcdefgh\nwait\nlabel loop")
	from := uintptr(unsafe.Pointer(unsafe.StringData(text)))
	got := impl.LabelsOf(text).Labels
	for _, label := range got {
		if at := uintptr(unsafe.Pointer(unsafe.StringData(label.Name))); at >= from && at < from+uintptr(len(text)) {
			t.Errorf("the name %q is a piece of the text", label.Name)
		}
	}
	if len(got) != 3 {
		t.Errorf("LabelsOf %q: %v", text, got)
	}
}

// TestWritingHangsOnItsArgumentsAlone asks all once more, from the last one on: what was kept from a call would show.
func TestWritingHangsOnItsArgumentsAlone(t *testing.T) {
	list := someWritten()
	next := steadyNext(5)
	for range 500 {
		list = append(list, written{text: mixedText(next)})
	}
	var said []string
	for _, x := range list {
		said = append(said, writtenAnswers(x))
	}
	for k := len(list) - 1; k >= 0; k-- {
		if got := writtenAnswers(list[k]); got != said[k] {
			t.Fatalf("%v: first %s, then %s", list[k], said[k], got)
		}
	}
}
