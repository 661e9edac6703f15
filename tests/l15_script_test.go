package tests

import (
	"fmt"
	"math"
	"math/big"
	"regexp"
	"slices"
	"strconv"
	"strings"
	"testing"

	"loop.example/g00213/impl"
)

func askScript(t *testing.T, got, want impl.ScriptResult, what ...any) {
	t.Helper()
	if got.Code != want.Code || got.Said != want.Said || !sameHost(got.Host, want.Host) {
		t.Fatalf("%s:\n%d %q %v, not\n%d %q %v", fmt.Sprint(what...), got.Code, got.Said, got.Host, want.Code, want.Said, want.Host)
	}
}

func scriptCode(code int64) impl.ScriptResult { return impl.ScriptResult{Code: code} }

func says(x impl.Host, said string) impl.ScriptResult { return impl.ScriptResult{Host: x, Said: said} }

// The functions that end in In go through what the document says, word by word.
func digestIn(m []int64) impl.IntResult {
	if fault := memoryFaultIn(m); fault != 0 {
		return impl.IntResult{Code: fault}
	}
	h := big.NewInt(5)
	for _, w := range m {
		h.Mul(h, big.NewInt(131)).Add(h, big.NewInt(w)).Add(h, big.NewInt(1)).Mod(h, big.NewInt(1000000007))
	}
	return impl.IntResult{Value: h.Int64()}
}

func hostTextIn(x impl.Host) impl.TextResult {
	if fault := hostFaultIn(x); fault != 0 {
		return impl.TextResult{Code: fault}
	}
	text := fmt.Sprintf("clock %d %d %d\n", x.Clock, x.Slot, x.Left)
	for guest, h := range x.Harts {
		text += fmt.Sprintf("guest %d %d %d %d %d\n", guest, h.Pc, h.Done, len(h.In), len(h.Out))
	}
	return impl.TextResult{Text: text + fmt.Sprintf("memory %d\n", digestIn(x.Memory).Value)}
}

// commandShape is a line with one blank between its words.
var commandShape = regexp.MustCompile(`\A(?:turn|(?:run|view|out|word) [0-9]{1,9}|feed [0-9]{1,9} [0-9]{1,9})\z`)

func stepScriptIn(x impl.Host, line string) impl.ScriptResult {
	if fault := hostFaultIn(x); fault != 0 {
		return scriptCode(fault)
	}
	words := lineWordsIn(line)
	if strings.Contains(line, "\n") || len(words) > 0 && !commandShape.MatchString(strings.Join(words, " ")) {
		return scriptCode(impl.ErrText)
	}
	if len(words) == 0 {
		return says(cloneHost(x), "")
	}
	var n [2]int64
	for k, word := range words[1:] {
		n[k], _ = strconv.ParseInt(word, 10, 64)
	}
	then, said := commandIn(x, words[0], n[0], n[1])
	if then.Code != 0 {
		return scriptCode(then.Code)
	}
	return says(then.Host, said)
}

func commandIn(x impl.Host, first string, n, word int64) (then impl.HostResult, said string) {
	then.Host = cloneHost(x)
	switch first {
	case "run":
		then = runHostIn(x, n)
		said = fmt.Sprintf("at %d", then.Host.Clock)
	case "feed":
		then, said = feedHostIn(x, n, []int64{word}), "ok"
	case "view":
		v := viewOfIn(x, n)
		then.Code, said = v.Code, viewTextIn(v.View).Text
	case "out":
		if !guestIn(x.Policy, n) {
			return impl.HostResult{Code: impl.ErrNone}, ""
		}
		said = outTextIn(x.Harts[n])
	case "turn":
		at := turnAtIn(x.Policy, x.Clock)
		said = fmt.Sprintf("turn %d %d", at.Slot.Guest, at.Slot.Steps)
	case "word":
		if n > 191 {
			return impl.HostResult{Code: impl.ErrRange}, ""
		}
		said = fmt.Sprintf("word %d", x.Memory[n])
	}
	return then, said
}

func runScriptIn(x impl.Host, text string) impl.ScriptResult {
	if fault := hostFaultIn(x); fault != 0 {
		return scriptCode(fault)
	}
	lines := linesIn(text)
	if len(text) > 1000 || len(lines) > 40 {
		return scriptCode(impl.ErrMany)
	}
	all := says(cloneHost(x), "")
	for _, line := range lines {
		one := stepScriptIn(all.Host, line)
		if one.Code != 0 {
			all.Said += fmt.Sprintf("! %d\n", one.Code)
			continue
		}
		all.Host = one.Host
		all.Said += one.Said
		if one.Said != "" && !strings.HasSuffix(one.Said, "\n") {
			all.Said += "\n"
		}
	}
	return all
}

// echoHost has two guests: the first one counts by 3 and writes it out, the second one writes out what it is fed.
func echoHost() impl.Host {
	count := []int64{202440707, 252706872, 318832638} // addi 1 1 3, store 1 0 56, jump 0 65534
	echo := []int64{235929657, 252706872, 318832638}  // load 1 0 57, store 1 0 56, jump 0 65534
	return impl.BootHost(twoGuests(), [][]int64{count, echo}, [][]int64{nil, nil}).Host
}

// scriptHosts have no fault: of one, two and three guests, at the start, behind some steps, and at the last clock.
func scriptHosts() []impl.Host {
	list := []impl.Host{echoHost(), impl.RunHost(echoHost(), 7).Host}
	for _, p := range []impl.Policy{oneGuest(), twoGuests(), threeGuests(), looseGuests(), fullPolicy()} {
		for _, clock := range []int64{0, 1, 2, 4, 6, 50, 999500, 999999, 1000000} {
			list = append(list, countedHost(p, clock))
		}
	}
	return append(list, mixedHosts(60)...)
}

func TestScriptConstants(t *testing.T) {
	if impl.MaxScript != 1000 || impl.MaxLines != 40 {
		t.Error("constants")
	}
}

func TestDigestByHand(t *testing.T) {
	top := int64(impl.WordTop)
	count := func(size int) []int64 { return queueOf(size, 0) }
	table := []struct {
		m    []int64
		want int64
	}{
		{make([]int64, 8), 716104070}, {make([]int64, 16), 612831130}, {make([]int64, 192), 879181223},
		{slices.Repeat([]int64{top}, 8), 742927495}, {slices.Repeat([]int64{top}, 192), 438714067},
		{count(8), 680770454}, {queueOf(8, 1), 87400410}, {count(192), 578021810}, {countedMemory(192), 323147294},
		{[]int64{0, 1, top, 2147483648, 5, top - 1, 65536, 999999999}, 792458518},
		// The same words in another order.
		{[]int64{7, 6, 5, 4, 3, 2, 1, 0}, 597847406}, {[]int64{1, 0, 2, 3, 4, 5, 6, 7}, 384927921}, {[]int64{0, 1, 2, 3, 4, 5, 7, 6}, 680770584},
		// What the modulus leaves: words that are it are told as 0 is.
		{slices.Repeat([]int64{1000000006}, 8), 309474107}, {slices.Repeat([]int64{1000000007}, 8), 716104070},
	}
	for _, x := range table {
		askInt(t, digestIn(x.m), impl.IntResult{Value: x.want}, "the second reader of ", x.m)
		askInt(t, impl.DigestOf(x.m), impl.IntResult{Value: x.want}, "DigestOf ", x.m)
	}
}

func TestDigestOf(t *testing.T) {
	for _, m := range goodMemories() {
		askInt(t, impl.DigestOf(m), digestIn(m), "DigestOf ", m)
	}
	for pages := int64(1); pages <= 24; pages++ {
		next := steadyNext(uint64(pages))
		for range 20 {
			m := mixedMemory(pages, next)
			askInt(t, impl.DigestOf(m), digestIn(m), "DigestOf ", m)
		}
	}
	for _, n := range wordNumbers() {
		for _, at := range []int{0, 1, 100, 191} {
			m := withWordAt(192, at, n)
			askInt(t, impl.DigestOf(m), digestIn(m), "DigestOf with ", n, " at ", at)
		}
	}
	for _, bad := range badMemories() {
		askInt(t, digestIn(bad.m), impl.IntResult{Code: bad.fault}, "the second reader of ", bad.m)
		askInt(t, impl.DigestOf(bad.m), impl.IntResult{Code: bad.fault}, "DigestOf ", bad.m)
	}
}

func TestHostTextByHand(t *testing.T) {
	echo := echoHost()
	fed := impl.RunHost(impl.FeedHost(impl.FeedHost(echo, 1, []int64{41, 42, 43}).Host, 0, []int64{7, 8}).Host, 7).Host
	one := hostIn(oneGuest(), 12, make([]int64, 192), newHartIn())
	one.Memory[32] = 9
	three := countedHost(threeGuests(), 1000000)
	three.Harts[0], three.Harts[2] = newHartIn(), withQueues(countedHart(), 40, 40)
	three.Harts[2].Pc, three.Harts[2].Done = 4294967295, 0
	table := []struct {
		name string
		x    impl.Host
		want string
	}{
		{"two guests at the start", echo, "clock 0 0 2\nguest 0 0 0 0 0\nguest 1 0 0 0 0\nmemory 479597821\n"},
		{"two guests behind seven steps", fed, "clock 7 1 3\nguest 0 1 4 2 1\nguest 1 0 3 2 1\nmemory 479597821\n"},
		{"one guest", one, "clock 12 0 1\nguest 0 0 0 0 0\nmemory 43153216\n"},
		{"three guests at the last clock", three, "clock 1000000 1 24\nguest 0 0 0 0 0\nguest 1 33 700 5 4\nguest 2 4294967295 0 40 40\nmemory 323147294\n"},
	}
	for _, x := range table {
		askText(t, hostTextIn(x.x), impl.TextResult{Text: x.want}, "the second reader of ", x.name)
		askText(t, impl.HostText(x.x), impl.TextResult{Text: x.want}, "HostText of ", x.name)
	}
}

func TestHostText(t *testing.T) {
	for _, x := range append(viewedHosts(), scriptHosts()...) {
		askText(t, impl.HostText(x), hostTextIn(x), "HostText of ", x)
	}
	for _, x := range scriptHosts()[:30] {
		for range 6 {
			if x = impl.RunHost(x, 3).Host; x.Clock == 0 {
				break
			}
			askText(t, impl.HostText(x), hostTextIn(x), "HostText behind steps of ", x)
		}
	}
	// Each number that is told, and the host's words, turn the text.
	told := impl.HostText(countedHost(twoGuests(), 6)).Text
	for k, edit := range []func(x *impl.Host){
		func(x *impl.Host) { x.Clock, x.Slot, x.Left = 7, 1, 3 }, func(x *impl.Host) { x.Clock = 11 }, func(x *impl.Host) { x.Harts[0].Pc++ }, func(x *impl.Host) { x.Harts[1].Pc++ },
		func(x *impl.Host) { x.Harts[0].Done++ }, func(x *impl.Host) { x.Harts[1].Done++ }, func(x *impl.Host) { x.Harts[0].In = nil }, func(x *impl.Host) { x.Harts[1].In = nil },
		func(x *impl.Host) { x.Harts[0].Out = nil }, func(x *impl.Host) { x.Harts[1].Out = nil }, func(x *impl.Host) { x.Memory[0]++ }, func(x *impl.Host) { x.Memory[191]++ },
	} {
		x := countedHost(twoGuests(), 6)
		edit(&x)
		if got := impl.HostText(x); got.Code != impl.OK || got.Text == told {
			t.Errorf("edit %d: HostText tells %v", k, got)
		}
	}
	for _, bad := range someBadHosts() {
		askText(t, impl.HostText(bad.x), impl.TextResult{Code: bad.fault}, "HostText of a host with a fault")
	}
}

type stepRow struct {
	line string
	code int64
	said string
}

// askQuietRows asks lines with which nothing changes: a code with nothing beside it, or the host as it was and what is said.
func askQuietRows(t *testing.T, x impl.Host, table []stepRow) {
	t.Helper()
	for _, row := range table {
		want := scriptCode(row.code)
		if row.code == impl.OK {
			want = says(x, row.said)
		}
		askScript(t, stepScriptIn(x, row.line), want, "the second reader ", asked(row.line))
		askScript(t, impl.StepScript(x, row.line), want, "StepScript ", asked(row.line))
	}
}

func TestStepScriptByHand(t *testing.T) {
	x := impl.RunHost(impl.FeedHost(echoHost(), 1, []int64{41, 42}).Host, 4).Host
	askQuietRows(t, x, []stepRow{
		{"turn", 0, "turn 1 1"}, {"out 0", 0, "3\n"}, {"out 1", 0, "41\n"}, {"word 16", 0, "word 202440707"}, {"word 0", 0, "word 0"}, {"word 191", 0, "word 0"}, {"run 0", 0, "at 4"},
		{"view 0", 0, "pc 2\ndone 2\nhalted 0\nwaiting 0\nregs 1:3\nout 3\nown 202440707 252706872 318832638 0 0 0 0 0 0 0 0 0 0 0 0 0\ngives 0 0 0 0 0 0 0 0\n"},
		{"view 1", 0, "pc 2\ndone 2\nhalted 0\nwaiting 0\nregs 1:41\nout 41\nown 235929657 252706872 318832638 0 0 0 0 0\ngives\n"},
		// No words: nothing is said.
		{"", 0, ""}, {" ", 0, ""}, {"          ", 0, ""}, {strings.Repeat(" ", 100000), 0, ""},
		// Blanks ahead, behind and several between.
		{" turn", 0, "turn 1 1"}, {"turn ", 0, "turn 1 1"}, {"   turn   ", 0, "turn 1 1"}, {"word  16", 0, "word 202440707"}, {"  word    16  ", 0, "word 202440707"}, {"   out      0", 0, "3\n"}, {strings.Repeat(" ", 5000) + "turn", 0, "turn 1 1"},
		// A byte 10, wherever it stands.
		{"\n", impl.ErrText, ""}, {"\nturn", impl.ErrText, ""}, {"turn\n", impl.ErrText, ""}, {"tu\nrn", impl.ErrText, ""}, {"word\n16", impl.ErrText, ""}, {"turn\nturn", impl.ErrText, ""}, {" \n ", impl.ErrText, ""}, {"turn \n", impl.ErrText, ""}, {"\n\n", impl.ErrText, ""}, {"word 16\n", impl.ErrText, ""}, {"turn\n ", impl.ErrText, ""},
		// Tabs and other bytes are no blanks.
		{"\t", impl.ErrText, ""}, {"turn\t", impl.ErrText, ""}, {"\tturn", impl.ErrText, ""}, {"word\t16", impl.ErrText, ""}, {"word 16\t", impl.ErrText, ""}, {"word \t16", impl.ErrText, ""}, {"turn\r", impl.ErrText, ""}, {"\r", impl.ErrText, ""}, {"turn\x00", impl.ErrText, ""}, {"\x00", impl.ErrText, ""}, {"turn\v", impl.ErrText, ""},
		{"turn\f", impl.ErrText, ""}, {"\u00a0turn", impl.ErrText, ""}, {"turn\u2028", impl.ErrText, ""}, {"\u0085", impl.ErrText, ""}, {"\xff", impl.ErrText, ""}, {"turn\xff", impl.ErrText, ""}, {"\ufeffturn", impl.ErrText, ""},
		// None of the commands.
		{"wink", impl.ErrText, ""}, {"7", impl.ErrText, ""}, {"16 word", impl.ErrText, ""}, {"words 16", impl.ErrText, ""}, {"wor 16", impl.ErrText, ""}, {"word16", impl.ErrText, ""}, {"w ord 16", impl.ErrText, ""}, {"turn turn", impl.ErrText, ""}, {"turn out 0", impl.ErrText, ""}, {"out 0 turn", impl.ErrText, ""}, {"out out 0", impl.ErrText, ""}, {"step", impl.ErrText, ""}, {"halt", impl.ErrText, ""}, {"# turn", impl.ErrText, ""}, {strings.Repeat("turn ", 5000), impl.ErrText, ""},
		// The codes of the calls.
		{"run 501", impl.ErrRange, ""}, {"feed 2 5", impl.ErrNone, ""}, {"view 2", impl.ErrNone, ""}, {"out 2", impl.ErrNone, ""}, {"word 192", impl.ErrRange, ""},
	})
}

// commandForms are the commands, and how many numbers each of them has.
func commandForms() map[string]int {
	return map[string]int{"run": 1, "feed": 2, "view": 1, "out": 1, "turn": 0, "word": 1}
}

// TestStepScriptCountsNumbers asks each command with just its numbers, with fewer and with more, in other letters, and as a part of a longer word.
func TestStepScriptCountsNumbers(t *testing.T) {
	x := countedHost(twoGuests(), 3)
	for name, many := range commandForms() {
		for numbers := range 5 {
			got := impl.StepScript(x, name+strings.Repeat(" 1", numbers))
			askScript(t, got, stepScriptIn(x, name+strings.Repeat(" 1", numbers)), name, " and ", numbers, " numbers")
			if want := int64(impl.ErrText); numbers != many && got.Code != want || numbers == many && got.Code != impl.OK {
				t.Errorf("%s and %d numbers: %v", name, numbers, got)
			}
		}
		rest := strings.Repeat(" 1", many)
		upper := strings.ToUpper(name)
		others := []string{upper, upper[:1] + name[1:], name[:1] + upper[1:], name + "s", "s" + name, name + name, name[:len(name)-1], name[1:], name + ".", "." + name, name + "\x00", name + ",", name + "1", name[:1] + " " + name[1:]}
		for other := range commandForms() {
			if other != name {
				others = append(others, name+other, name+" "+other, other+" "+name)
			}
		}
		for _, first := range others {
			askScript(t, impl.StepScript(x, first+rest), scriptCode(impl.ErrText), "StepScript ", asked(first+rest))
		}
		line := "  " + name + strings.Repeat("   1", many) + "    "
		askScript(t, impl.StepScript(x, line), impl.StepScript(x, name+rest), "StepScript ", asked(line))
	}
}

// TestStepScriptNumbers asks numbers of all forms in each place where one stands.
func TestStepScriptNumbers(t *testing.T) {
	x := countedHost(threeGuests(), 3)
	good := []string{"0", "1", "2", "3", "9", "00", "01", "007", "000000000", "000000001", "000000002", "10", "40", "191", "192", "193", "500", "501", "000000191", "000000192", "99999999", "999999999", "100000000", "123456789"}
	bad := []string{"0000000000", "0000000001", "1000000000", "9999999999", "4294967295", "4294967296", "00000000000", "99999999999999999999", "18446744073709551616", strings.Repeat("0", 1000), "+1", "-1", "-0", "+", "-", "1+", "1-", "a", "1a", "a1", "0x1", "1x", "1.0", "1,0", "1e1", "1_0", "0b1", "@1", "/", ":", "1/", "1:", "\u0661", "1\u0661", "\u00b2", "1\t", "\t1", "1\x00", "\xff", "1\xff", "1\r", "one", "turn"}
	for name, many := range commandForms() {
		for place := range many {
			ask := func(number string) impl.ScriptResult {
				words := append([]string{name}, slices.Repeat([]string{"1"}, many)...)
				words[1+place] = number
				line := strings.Join(words, " ")
				got := impl.StepScript(x, line)
				askScript(t, got, stepScriptIn(x, line), "StepScript ", asked(line))
				return got
			}
			for _, number := range good {
				if got := ask(number); got.Code == impl.ErrText {
					t.Errorf("%s with %s in place %d: %v", name, number, place, got)
				}
			}
			for _, number := range bad {
				if got := ask(number); got.Code != impl.ErrText {
					t.Errorf("%s with %q in place %d: %v", name, number, place, got)
				}
			}
		}
	}
	// Noughts ahead are counted, and change no number.
	askScript(t, impl.StepScript(x, "word 000000191"), impl.StepScript(x, "word 191"), "noughts ahead")
	askScript(t, impl.StepScript(x, "feed 000000002 000000077"), impl.StepScript(x, "feed 2 77"), "noughts ahead")
}

func TestStepScriptRuns(t *testing.T) {
	for _, x := range scriptHosts() {
		for _, n := range []int64{0, 1, 2, 5, 60} {
			want := runHostIn(x, n)
			got := impl.StepScript(x, fmt.Sprint("run ", n))
			if want.Code != 0 {
				askScript(t, got, scriptCode(want.Code), "run ", n, " of ", x)
				continue
			}
			askScript(t, got, says(want.Host, fmt.Sprint("at ", x.Clock+n)), "run ", n, " of ", x)
		}
		for _, n := range []int64{0, 1, 2, 3, 17, 499, 500, 501, 502, 1000, 999999999} {
			want, got := impl.RunHost(x, n), impl.StepScript(x, fmt.Sprint("run ", n))
			askHost(t, impl.HostResult{Code: got.Code, Host: got.Host}, want, "run ", n, " of ", x)
			if n > 500 || x.Clock+n > 1000000 {
				askScript(t, got, scriptCode(impl.ErrRange), "run ", n, " at ", x.Clock)
			} else {
				askScript(t, got, says(want.Host, fmt.Sprint("at ", x.Clock+n)), "run ", n, " at ", x.Clock)
			}
		}
	}
	x := echoHost()
	got := impl.StepScript(x, "run 4")
	if got.Code != impl.OK || got.Said != "at 4" || got.Host.Clock != 4 || got.Host.Slot != 1 || got.Host.Left != 1 || !slices.Equal(got.Host.Harts[0].Out, []int64{3}) || x.Clock != 0 {
		t.Errorf("run 4: %v", got)
	}
}

func TestStepScriptFeeds(t *testing.T) {
	for _, x := range scriptHosts() {
		for _, guest := range []int64{0, 1, 2, 3, 999999999} {
			for _, word := range []int64{0, 1, 77, 999999999} {
				line := fmt.Sprint("feed ", guest, " ", word)
				got, want := impl.StepScript(x, line), impl.FeedHost(x, guest, []int64{word})
				askHost(t, impl.HostResult{Code: got.Code, Host: got.Host}, want, line, " of ", x)
				askScript(t, got, stepScriptIn(x, line), line, " of ", x)
				if want.Code == impl.OK && got.Said != "ok" || want.Code != impl.OK && got.Said != "" {
					t.Fatalf("%s says %q", line, got.Said)
				}
			}
		}
	}
	for _, p := range []impl.Policy{oneGuest(), twoGuests(), threeGuests()} {
		for guest := range p.Own {
			x := countedHost(p, 2)
			for room := 3; room >= 0; room-- {
				x.Harts[guest] = withQueues(countedHart(), 40-room, 40)
				got := impl.StepScript(x, fmt.Sprintf("feed %d 9", guest))
				if room == 0 {
					askScript(t, got, scriptCode(impl.ErrMany), "a full queue")
				} else if in := got.Host.Harts[guest].In; got.Said != "ok" || len(in) != 41-room || in[40-room] != 9 {
					t.Fatalf("feed with room for %d: %v", room, got)
				}
			}
			// One that is none is told ahead of a queue; a word of ten digits cannot be read.
			askScript(t, impl.StepScript(x, fmt.Sprintf("feed %d 9", len(p.Own))), scriptCode(impl.ErrNone), "feed one that is none")
			askScript(t, impl.StepScript(x, fmt.Sprintf("feed %d 4294967296", guest)), scriptCode(impl.ErrText), "feed what is no word")
			askScript(t, impl.StepScript(x, fmt.Sprintf("feed %d -1", guest)), scriptCode(impl.ErrText), "feed what is no word")
		}
	}
}

// TestStepScriptAsks asks the four commands with which nothing changes.
func TestStepScriptAsks(t *testing.T) {
	for _, x := range append(scriptHosts(), viewedHosts()[300:400]...) {
		for _, guest := range []int64{0, 1, 2, 3, 4, 999999999} {
			view, out := impl.StepScript(x, fmt.Sprint("view ", guest)), impl.StepScript(x, fmt.Sprint("out ", guest))
			if guest >= int64(len(x.Policy.Own)) {
				askScript(t, view, scriptCode(impl.ErrNone), "view ", guest)
				askScript(t, out, scriptCode(impl.ErrNone), "out ", guest)
				continue
			}
			askScript(t, view, says(x, impl.ViewText(impl.ViewOf(x, guest).View).Text), "view ", guest)
			askScript(t, view, says(x, viewTextIn(viewOfIn(x, guest).View).Text), "view ", guest)
			askScript(t, out, says(x, impl.OutText(x.Harts[guest]).Text), "out ", guest)
			askScript(t, out, says(x, outTextIn(x.Harts[guest])), "out ", guest)
		}
		at := impl.TurnAt(x.Policy, x.Clock)
		askScript(t, impl.StepScript(x, "turn"), says(x, fmt.Sprint("turn ", at.Slot.Guest, " ", at.Slot.Steps)), "turn of ", x.Policy.Plan, " at ", x.Clock)
		for _, place := range []int64{0, 1, 7, 8, 100, 190, 191} {
			askScript(t, impl.StepScript(x, fmt.Sprint("word ", place)), says(x, fmt.Sprint("word ", x.Memory[place])), "word ", place)
		}
		for _, place := range []int64{192, 193, 1000, 999999999} {
			askScript(t, impl.StepScript(x, fmt.Sprint("word ", place)), scriptCode(impl.ErrRange), "word ", place)
		}
	}
	x := countedHost(oneGuest(), 5)
	for place, w := range x.Memory {
		askScript(t, impl.StepScript(x, fmt.Sprint("word ", place)), says(x, fmt.Sprint("word ", w)), "word ", place)
	}
	x.Memory[0], x.Memory[191] = impl.WordTop, impl.WordTop
	askQuietRows(t, x, []stepRow{{"word 0", 0, "word 4294967295"}, {"word 191", 0, "word 4294967295"}, {"word 1", 0, "word 20018"}, {"out 0", 0, "801\n802\n803\n804\n"}})
	x.Harts[0].Out = nil
	askQuietRows(t, x, []stepRow{{"out 0", 0, ""}, {"out 1", impl.ErrNone, ""}})
}

func TestStepScriptTellsTurns(t *testing.T) {
	// Guest 0 has 2 steps and guest 1 has 3.
	for clock, want := range []string{"turn 0 2", "turn 0 1", "turn 1 3", "turn 1 2", "turn 1 1", "turn 0 2", "turn 0 1", "turn 1 3"} {
		askQuietRows(t, countedHost(twoGuests(), int64(clock)), []stepRow{{"turn", 0, want}})
	}
	// A slot's guest is not its place, and two slots of one guest are not one.
	p := looseGuests()
	for clock, want := range map[int64]string{0: "turn 2 4", 3: "turn 2 1", 4: "turn 0 5", 8: "turn 0 1", 9: "turn 2 6", 14: "turn 2 1", 15: "turn 2 4", 999999: "turn 2 6", 1000000: "turn 2 5"} {
		askQuietRows(t, countedHost(p, clock), []stepRow{{"turn", 0, want}})
	}
}

func someLines() []string {
	return []string{"", " ", "turn", "run 0", "run 3", "run 501", "feed 0 5", "feed 3 5", "view 0", "view 9", "out 0", "out 9", "word 5", "word 192", "wink", "turn 1", "\n", "turn\n", "\t", "run 0000000001"}
}

// someScripts are scripts of all kinds, with each code among them.
func someScripts() []string {
	return []string{
		"", "\n", " ", "\n\n \n", "turn", "turn\n", "run 1\nrun 2\nrun 3", "turn\nfeed 0 5\nword 16\nrun 1\nturn\nwink\nout 0\n", "run 501\n", "wink", "view 0\nout 0\nword 3\nturn\n", "feed 9 9\nrun 2\nfeed 0 1\nfeed 0 2\nout 0\nview 0",
		"run 5\nrun 501\nrun 5\nword 192\nview 7\nout 7\nrun 2", strings.Repeat("run 2\n", 40), strings.Repeat("feed 0 5\n", 41), sized("turn", 1000), sized("turn", 1001), strings.Repeat("wink\n", 40), strings.Repeat("feed 0 1\n", 40),
	}
}

// askScriptCode asks that a host's fault is told by all three, beside lines and texts that are right and such as are not; where it is OK nothing is asked.
func askScriptCode(t *testing.T, x impl.Host, fault int64) {
	t.Helper()
	if fault == impl.OK {
		return
	}
	for _, line := range someLines() {
		askScript(t, impl.StepScript(x, line), scriptCode(fault), "StepScript of a host with a fault ", asked(line))
	}
	for _, text := range append(someScripts(), strings.Repeat(" ", 5000), strings.Repeat("\n", 1001)) {
		askScript(t, impl.RunScript(x, text), scriptCode(fault), "RunScript of a host with a fault ", asked(text))
	}
	askText(t, impl.HostText(x), impl.TextResult{Code: fault}, "HostText of a host with a fault")
}

func TestScriptsAskTheHostFaultFirst(t *testing.T) {
	for _, bad := range someBadHosts() {
		askScriptCode(t, bad.x, bad.fault)
	}
	edits := hostEdits()
	for _, first := range edits {
		for _, second := range edits {
			if first.order < second.order {
				x := countedHost(clonePolicy(twoGuests()), 6)
				second.do(&x)
				first.do(&x)
				askScriptCode(t, x, first.fault)
			}
		}
	}
}

func TestStepScript(t *testing.T) {
	for _, x := range viewedHosts() {
		for _, line := range someLines() {
			askScript(t, impl.StepScript(x, line), stepScriptIn(x, line), "StepScript ", asked(line), " and ", x)
		}
	}
}

type scriptRow struct {
	text, said string
	clock      int64
	in         []int64
}

// TestRunScriptByHand asks scripts of echoHost: what is said, the clock behind it, and what guest 0 has In, since it reads nothing.
func TestRunScriptByHand(t *testing.T) {
	type ints = []int64
	table := []scriptRow{
		{"", "", 0, nil}, {"\n", "", 0, nil}, {"\n\n\n", "", 0, nil}, {" ", "", 0, nil}, {"  \n\n ", "", 0, nil}, {strings.Repeat("\n", 40), "", 0, nil},
		{"turn", "turn 0 2\n", 0, nil}, {"turn\n", "turn 0 2\n", 0, nil}, {"\nturn\n\n", "turn 0 2\n", 0, nil}, {"turn\n ", "turn 0 2\n", 0, nil}, {"  turn  ", "turn 0 2\n", 0, nil},
		{"run 3", "at 3\n", 3, nil}, {"run 3\nrun 4", "at 3\nat 7\n", 7, nil}, {"run 0\n", "at 0\n", 0, nil}, {"run 500\nrun 500\n", "at 500\nat 1000\n", 1000, nil},
		{"feed 0 5\nfeed 0 6", "ok\nok\n", 0, ints{5, 6}}, {"feed 1 5\nrun 4\nout 1\nout 0\n", "ok\nat 4\n5\n3\n", 4, nil},
		// Empty: nothing at all; several lines: as they are, with none behind them.
		{"out 0", "", 0, nil}, {"out 0\n", "", 0, nil}, {"out 0\nout 1\nturn", "turn 0 2\n", 0, nil}, {"run 11\nout 0\nturn\n", "at 11\n3\n6\nturn 0 1\n", 11, nil},
		{"view 1\nturn", "pc 0\ndone 0\nhalted 0\nwaiting 0\nregs\nout\nown 235929657 252706872 318832638 0 0 0 0 0\ngives\nturn 0 2\n", 0, nil},
		// Each code, alone and between two others: the lines behind it go on from the host as it was.
		{"wink", "! 5\n", 0, nil}, {"run 501", "! 3\n", 0, nil}, {"word 192\n", "! 3\n", 0, nil}, {"out 2", "! 4\n", 0, nil}, {"view 2", "! 4\n", 0, nil}, {"feed 2 1", "! 4\n", 0, nil}, {"\t", "! 5\n", 0, nil}, {"turn\r\nturn\r\n", "! 5\n! 5\n", 0, nil},
		{"run 2\nwink\nrun 2\n", "at 2\n! 5\nat 4\n", 4, nil}, {"run 2\nrun 501\nrun 2\n", "at 2\n! 3\nat 4\n", 4, nil}, {"feed 0 1\nfeed 2 2\nfeed 0 3\n", "ok\n! 4\nok\n", 0, ints{1, 3}}, {"feed 0 1\nfeed 0 4294967296\nfeed 0 3\n", "ok\n! 5\nok\n", 0, ints{1, 3}},
		{"wink\nrun 1", "! 5\nat 1\n", 1, nil}, {"run 1\nwink", "at 1\n! 5\n", 1, nil}, {"wink\nwink\n\nwink", "! 5\n! 5\n! 5\n", 0, nil}, {"run 1\nview 3\nturn\nout 9\nturn", "at 1\n! 4\nturn 0 1\n! 4\nturn 0 1\n", 1, nil},
		{"turn\nfeed 0 5\nword 16\nrun 1\nturn\nwink\nout 0\n", "turn 0 2\nok\nword 202440707\nat 1\nturn 0 1\n! 5\n", 1, ints{5}},
		{strings.Repeat("feed 0 7\n", 40), strings.Repeat("ok\n", 40), 0, slices.Repeat(ints{7}, 40)},
	}
	for _, row := range table {
		x := echoHost()
		for name, got := range map[string]impl.ScriptResult{"the second reader": runScriptIn(x, row.text), "RunScript": impl.RunScript(x, row.text)} {
			if got.Code != impl.OK || got.Said != row.said || got.Host.Clock != row.clock || !slices.Equal(got.Host.Harts[0].In, row.in) {
				t.Errorf("%s of %q: %d %q, clock %d, %v, not %q, clock %d, %v", name, row.text, got.Code, got.Said, got.Host.Clock, got.Host.Harts[0].In, row.said, row.clock, row.in)
			}
		}
		askScript(t, impl.RunScript(x, row.text), runScriptIn(x, row.text), "RunScript ", asked(row.text))
		if !sameHost(x, echoHost()) {
			t.Errorf("RunScript of %q changes its host", row.text)
		}
	}
}

// TestRunScriptTellsEachCode asks for each code that a line can have: none of them is a code of the script.
func TestRunScriptTellsEachCode(t *testing.T) {
	x := countedHost(twoGuests(), 999999)
	x.Harts[0] = withQueues(countedHart(), 40, 0)
	table := []struct {
		text, said string
		clock      int64
	}{
		{"feed 0 1\nturn", "! 2\nturn 1 1\n", 999999}, {"run 2\nrun 1\nrun 1\nturn\nrun 0", "! 3\nat 1000000\n! 3\nturn 0 2\nat 1000000\n", 1000000}, {"run 500\nturn", "! 3\nturn 1 1\n", 999999},
		{"feed 2 1\nfeed 1 1\nfeed 0 1", "! 4\nok\n! 2\n", 999999}, {"feed\nrun\nview\nout\nword\nturn 0", "! 5\n! 5\n! 5\n! 5\n! 5\n! 5\n", 999999},
	}
	for _, row := range table {
		got := impl.RunScript(x, row.text)
		if got.Code != impl.OK || got.Said != row.said || got.Host.Clock != row.clock {
			t.Errorf("RunScript of %q: %d %q, clock %d", row.text, got.Code, got.Said, got.Host.Clock)
		}
		askScript(t, got, runScriptIn(x, row.text), "RunScript ", asked(row.text))
	}
	full := strings.Repeat("feed 1 7\n", 40)
	got := impl.RunScript(x, full)
	if got.Said != strings.Repeat("ok\n", 35)+strings.Repeat("! 2\n", 5) || len(got.Host.Harts[1].In) != 40 {
		t.Errorf("a queue that gets full: %d %q", got.Code, got.Said)
	}
}

func TestScriptBounds(t *testing.T) {
	x := countedHost(twoGuests(), 3)
	lines := func(n int, line string) string { return strings.Repeat(line, n) }
	table := []struct {
		name, text string
		many       bool
		said       string
	}{
		{"1000 bytes", sized("turn", 1000), false, "turn 1 2\n"},
		{"1001 bytes", sized("turn", 1001), true, ""},
		{"1000 bytes, the last one a line feed", sized("turn", 999) + "\n", false, "turn 1 2\n"},
		{"1001 bytes, the last one a line feed", sized("turn", 1000) + "\n", true, ""},
		{"1000 blanks", sized("", 1000), false, ""},
		{"1001 blanks", sized("", 1001), true, ""},
		{"one word of 1000 bytes", strings.Repeat("a", 1000), false, "! 5\n"},
		{"one word of 1001 bytes", strings.Repeat("a", 1001), true, ""},
		{"1000 bytes, not as many runes", strings.Repeat("é", 500), false, "! 5\n"},
		{"1002 bytes, not as many runes", strings.Repeat("é", 501), true, ""},
		{"a very long text", strings.Repeat("turn\n", 100000), true, ""},
		{"40 lines", lines(40, "turn\n"), false, lines(40, "turn 1 2\n")},
		{"40 lines, the last one without a line feed", lines(39, "turn\n") + "turn", false, lines(40, "turn 1 2\n")},
		{"41 lines", lines(41, "turn\n"), true, ""},
		{"41 lines, the last one without a line feed", lines(40, "turn\n") + "turn", true, ""},
		{"40 lines and a blank", lines(40, "turn\n") + " ", true, ""},
		{"39 lines and a blank", lines(39, "turn\n") + " ", false, lines(39, "turn 1 2\n")},
		{"40 line feeds", lines(40, "\n"), false, ""},
		{"41 line feeds", lines(41, "\n"), true, ""},
		{"40 lines of blanks", lines(40, "  \n"), false, ""},
		{"41 lines of blanks", lines(41, "  \n"), true, ""},
		{"40 lines, of which one has words", lines(39, "\n") + "turn", false, "turn 1 2\n"},
		{"41 lines, of which one has words", lines(40, "\n") + "turn", true, ""},
		{"40 lines that are wrong", lines(40, "wink\n"), false, lines(40, "! 5\n")},
		{"41 lines that are wrong", lines(41, "wink\n"), true, ""},
		{"40 lines in 1000 bytes", sized(lines(39, "turn\n")+"turn", 1000), false, lines(40, "turn 1 2\n")},
		{"41 lines in 1000 bytes", sized(lines(40, "turn\n")+"turn", 1000), true, ""},
		{"40 lines in 1001 bytes", sized(lines(39, "turn\n")+"turn", 1001), true, ""},
		{"41 lines in 1001 bytes", sized(lines(40, "turn\n")+"turn", 1001), true, ""},
		{"1001 line feeds", lines(1001, "\n"), true, ""},
	}
	for _, row := range table {
		want := says(x, row.said)
		if row.many {
			want = scriptCode(impl.ErrMany)
		}
		askScript(t, runScriptIn(x, row.text), want, "the second reader of ", row.name)
		askScript(t, impl.RunScript(x, row.text), want, "RunScript of ", row.name)
	}
	// The bounds are a script's: one line may be as long as it will.
	askScript(t, impl.StepScript(x, sized("turn", 5000)), says(x, "turn 1 2"), "a line of 5000 bytes")
}

// mixedScript is a text of lines of all kinds, right ones for the most part, told by a steady count.
func mixedScript(next func(n int64) int64) string {
	pick := func(list ...string) string { return list[next(int64(len(list)))] }
	number := func(top int64) string {
		if next(12) == 0 {
			return pick("501", "999999999", "1000000000", "-1", "x", "", "0x1", "1 1", "000000001")
		}
		return fmt.Sprint(next(top))
	}
	var text strings.Builder
	lines := []int64{next(6), next(20), next(42)}[next(3)]
	for range lines {
		var line string
		switch next(9) {
		case 0, 1:
			line = "run " + number(9)
		case 2:
			line = "feed " + number(4) + " " + number(1000000000)
		case 3:
			line = "view " + number(4)
		case 4:
			line = "out " + number(4)
		case 5:
			line = "turn"
		case 6:
			line = "word " + number(200)
		case 7:
			line = pick("", " ", "    ")
		case 8:
			line = pick("wink", "\t", "TURN", "turn 1", "run", "run 60", "feed 0", "word 191", "word 192", "turn\r", "é", "run 1 2")
		}
		text.WriteString(pick("", "", "", " ", "   ") + strings.ReplaceAll(line, " ", pick(" ", " ", "  ")) + pick("", "", "", " ") + "\n")
	}
	if next(2) == 0 {
		return strings.TrimSuffix(text.String(), "\n")
	}
	return text.String()
}

func TestMixedScripts(t *testing.T) {
	next := steadyNext(1000)
	codes := map[int64]int{}
	for _, x := range append(scriptHosts(), mixedHosts(300)...) {
		for range 3 {
			text := mixedScript(next)
			got := impl.RunScript(x, text)
			askScript(t, got, runScriptIn(x, text), "RunScript ", asked(text))
			codes[got.Code]++
			for code := range int64(11) {
				codes[100+code] += strings.Count("\n"+got.Said, fmt.Sprintf("\n! %d\n", code))
			}
		}
	}
	for _, code := range []int64{impl.OK, impl.ErrMany, 100 + impl.ErrRange, 100 + impl.ErrNone, 100 + impl.ErrText} {
		if codes[code] < 5 {
			t.Errorf("code %d is told %d times", code, codes[code])
		}
	}
}

// TestRunScriptIsStepScript asks that a script is its lines, one behind the other, by the functions themselves.
func TestRunScriptIsStepScript(t *testing.T) {
	next := steadyNext(17)
	for _, x := range scriptHosts() {
		for range 4 {
			text := mixedScript(next)
			lines := linesIn(text)
			if len(lines) > 40 || len(text) > 1000 {
				continue
			}
			want := says(x, "")
			for _, line := range lines {
				one := impl.StepScript(want.Host, line)
				if one.Code != impl.OK {
					askScript(t, one, scriptCode(one.Code), "StepScript ", asked(line))
					want.Said += "! " + fmt.Sprint(one.Code) + "\n"
					continue
				}
				want.Host, want.Said = one.Host, want.Said+one.Said
				if want.Said != "" && !strings.HasSuffix(want.Said, "\n") {
					want.Said += "\n"
				}
			}
			askScript(t, impl.RunScript(x, text), want, "RunScript ", asked(text))
		}
	}
}

// askCuts asks promise 16 of one script, cut behind each of its line feeds.
func askCuts(t *testing.T, x impl.Host, text string) (cuts int) {
	t.Helper()
	whole := impl.RunScript(x, text)
	if whole.Code != impl.OK {
		return 0
	}
	for at := range text {
		if text[at] != '\n' {
			continue
		}
		first := impl.RunScript(x, text[:at+1])
		second := impl.RunScript(first.Host, text[at+1:])
		if first.Code != impl.OK {
			t.Fatalf("the first part of %q cut at %d: %d", text, at, first.Code)
		}
		askScript(t, impl.ScriptResult{Code: second.Code, Host: second.Host, Said: first.Said + second.Said}, whole, "cut behind ", at, " ", asked(text))
		cuts++
	}
	return cuts
}

func TestPromiseOfScripts(t *testing.T) {
	next := steadyNext(16)
	cuts := 0
	for _, x := range scriptHosts() {
		for _, text := range someScripts() {
			cuts += askCuts(t, x, text)
		}
		for range 4 {
			cuts += askCuts(t, x, mixedScript(next))
		}
	}
	x := echoHost()
	for _, text := range []string{"\n", "\n\n", "turn\n", "wink\n", "run 3\nwink\nrun 3", "feed 1 5\nrun 4\nout 1\nview 1\nout 0\nrun 500\nrun 501\nfeed 1 6\nrun 9\nout 1", sized("run 1\nrun 2\nrun 3\n", 1000), strings.Repeat("run 7\n", 39) + "turn"} {
		cuts += askCuts(t, x, text)
	}
	if cuts < 5000 {
		t.Errorf("%d cuts", cuts)
	}
}

// TestPromiseOfScriptsByHand asks a script in one and in two parts, letter for letter.
func TestPromiseOfScriptsByHand(t *testing.T) {
	x := echoHost()
	first := impl.RunScript(x, "feed 1 8\nrun 4\nwink\n")
	second := impl.RunScript(first.Host, "out 1\nturn")
	whole := impl.RunScript(x, "feed 1 8\nrun 4\nwink\nout 1\nturn")
	if first.Said != "ok\nat 4\n! 5\n" || second.Said != "8\nturn 1 1\n" || whole.Said != "ok\nat 4\n! 5\n8\nturn 1 1\n" {
		t.Errorf("%q and %q, and %q", first.Said, second.Said, whole.Said)
	}
	askScript(t, whole, says(second.Host, first.Said+second.Said), "in one part")
}

// scriptCall is a call of this layer on a host, whatever it answers: a host and what is said, or what can be told as a text.
type scriptCall struct {
	name string
	do   func(x impl.Host) impl.ScriptResult
}

func scriptCalls() []scriptCall {
	list := []scriptCall{
		{"HostText", func(x impl.Host) impl.ScriptResult { return impl.ScriptResult{Said: fmt.Sprint(impl.HostText(x))} }},
		{"DigestOf", func(x impl.Host) impl.ScriptResult {
			return impl.ScriptResult{Said: fmt.Sprint(impl.DigestOf(x.Memory))}
		}},
	}
	for _, line := range someLines() {
		list = append(list, scriptCall{fmt.Sprintf("StepScript of %q", line), func(x impl.Host) impl.ScriptResult { return impl.StepScript(x, line) }})
	}
	for _, text := range someScripts() {
		list = append(list, scriptCall{fmt.Sprintf("RunScript of %q", text), func(x impl.Host) impl.ScriptResult { return impl.RunScript(x, text) }})
	}
	return list
}

func TestScriptCallsChangeNothing(t *testing.T) {
	hosts := append(scriptHosts(), goodHosts()[250:400]...)
	for k, bad := range someBadHosts() {
		if k%5 == 0 {
			hosts = append(hosts, bad.x)
		}
	}
	for _, x := range hosts {
		given, whole := roomyHost(x)
		before := cloneHost(whole)
		for _, call := range scriptCalls() {
			call.do(given)
			askHostKept(t, given, x, whole, before, call.name)
		}
	}
}

// TestScriptAnswersAreNew asks that a write into an answer is seen nowhere else, nor one into an argument in the answer.
func TestScriptAnswersAreNew(t *testing.T) {
	hosts := mixedHosts(40)
	for _, p := range []impl.Policy{oneGuest(), twoGuests(), threeGuests(), fullPolicy()} {
		hosts = append(hosts, countedHost(p, 0), countedHost(p, 4))
	}
	for _, x := range hosts {
		for _, call := range scriptCalls() {
			askNewScript(t, call, x)
		}
	}
}

func askNewScript(t *testing.T, call scriptCall, x impl.Host) {
	t.Helper()
	x = cloneHost(x)
	given, whole := roomyHost(x)
	before := cloneHost(whole)
	first, second := call.do(given), call.do(given)
	want := impl.ScriptResult{Code: second.Code, Host: cloneHost(second.Host), Said: second.Said}
	askScript(t, first, want, "asked at once again: ", call.name)
	askHostApart(t, first.Host, call.name)
	askHostKept(t, given, x, whole, before, "a write into what ", call.name, " answers")
	askScript(t, second, want, "behind a write into another answer: ", call.name)
	third := call.do(given)
	askScript(t, third, want, "asked again: ", call.name)
	turnHost(given)
	turnHost(whole)
	clear(given.Policy.Own)
	clear(given.Harts)
	askScript(t, second, want, "behind a write into the arguments: ", call.name)
	askScript(t, third, want, "behind a write into the arguments: ", call.name)
}

// TestScriptsOfSharedArguments asks of lists that are pieces of one another.
func TestScriptsOfSharedArguments(t *testing.T) {
	m := make([]int64, 192)
	copy(m, []int64{0, op(14, 1, 0, 57), op(15, 1, 0, 56), op(15, 0, 0, 61), op(19, 0, 0, 65533)})
	h := impl.Hart{Regs: m[32:48], Csr: m[48:59], In: m[:5], Out: m[1:4], Pc: 1}
	p := impl.Policy{Own: [][]int64{m[:1], {1}, {2}}, Bells: []impl.Bell{bell(0, 1)}, Plan: []impl.Slot{slot(0, 2), slot(1, 1)}}
	x := hostIn(p, 0, m, h, h, h)
	before := cloneHost(x)
	for _, call := range scriptCalls() {
		want, got := call.do(cloneHost(before)), call.do(x)
		askScript(t, got, want, call.name, " of machines on their memory")
		if askHostApart(t, got.Host, call.name, " of machines on their memory"); !sameHost(x, before) {
			t.Fatalf("%s, or a write into its answer, changes machines on their memory", call.name)
		}
	}
	if got := impl.RunScript(x, "run 2\nout 0"); got.Code != impl.OK || !strings.HasPrefix(got.Said, "at 2\n") {
		t.Errorf("RunScript of machines on their memory: %d %q", got.Code, got.Said)
	}
}

// TestScriptsOfNilLists asks that an empty list and nil are the same.
func TestScriptsOfNilLists(t *testing.T) {
	bare, empty := countedHost(oneGuest(), 3), countedHost(oneGuest(), 3)
	bare.Harts[0].In, bare.Harts[0].Out, bare.Policy.Lanes, bare.Policy.Bells = nil, nil, nil, nil
	empty.Harts[0].In, empty.Harts[0].Out, empty.Policy.Lanes, empty.Policy.Bells = []int64{}, []int64{}, []impl.Lane{}, []impl.Bell{}
	for _, call := range scriptCalls() {
		askScript(t, call.do(empty), call.do(bare), call.name, " of empty lists")
	}
	for _, m := range [][]int64{nil, {}} {
		askInt(t, impl.DigestOf(m), impl.IntResult{Code: impl.ErrForm}, "DigestOf no words")
	}
	askScriptCode(t, impl.Host{}, impl.ErrMany)
}

// TestDigestChangesNothing asks that a memory, and the room behind it, is as it was.
func TestDigestChangesNothing(t *testing.T) {
	memories := goodMemories()
	for _, bad := range badMemories() {
		memories = append(memories, bad.m)
	}
	for _, m := range append(memories, withWordAt(192, 7, math.MaxInt64)) {
		list, whole := roomy(m)
		before := slices.Clone(whole)
		first := impl.DigestOf(list)
		if !slices.Equal(whole, before) {
			t.Fatalf("DigestOf changes %v", m)
		}
		askInt(t, impl.DigestOf(slices.Clone(m)), first, "DigestOf a copy")
	}
}

// TestScriptsHangOnTheirArgumentsAlone asks all once more, from the last one on: what was kept from a call would show.
func TestScriptsHangOnTheirArgumentsAlone(t *testing.T) {
	hosts := append(scriptHosts(), goodHosts()[280:360]...)
	for k, bad := range someBadHosts() {
		if k%15 == 0 {
			hosts = append(hosts, bad.x)
		}
	}
	ask := func(n int) string {
		var said []string
		for _, call := range scriptCalls() {
			said = append(said, fmt.Sprint(call.do(hosts[n])))
		}
		return strings.Join(said, " ")
	}
	var said []string
	for n := range hosts {
		said = append(said, ask(n))
	}
	for n := len(said) - 1; n >= 0; n-- {
		if got := ask(n); got != said[n] {
			t.Fatalf("first %s, then %s", said[n], got)
		}
	}
}
