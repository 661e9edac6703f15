package tests

import (
	"fmt"
	"math"
	"math/big"
	"slices"
	"strings"
	"testing"

	"loop.example/g00213/impl"
)

func cloneSolo(x impl.Solo) impl.Solo {
	return impl.Solo{Hart: cloneHart(x.Hart), Pages: slices.Clone(x.Pages), Memory: slices.Clone(x.Memory)}
}

func sameSolo(a, b impl.Solo) bool {
	return sameHart(a.Hart, b.Hart) && slices.Equal(a.Pages, b.Pages) && slices.Equal(a.Memory, b.Memory)
}

func askSolo(t *testing.T, got, want impl.SoloResult, what ...any) {
	t.Helper()
	if got.Code != want.Code || !sameSolo(got.Solo, want.Solo) {
		t.Fatalf("%s:\n%v, not\n%v", fmt.Sprint(what...), got, want)
	}
}

func askWords(t *testing.T, got, want impl.IntsResult, what ...any) {
	t.Helper()
	if !sameInts(got, want) {
		t.Fatalf("%s: %v, not %v", fmt.Sprint(what...), got, want)
	}
}

func askText(t *testing.T, got, want impl.TextResult, what ...any) {
	t.Helper()
	if got != want {
		t.Fatalf("%s: %d %q, not %d %q", fmt.Sprint(what...), got.Code, got.Text, want.Code, want.Text)
	}
}

// The functions that end in In go through what the document says, word by word.
func soloFaultIn(x impl.Solo) int64 {
	if fault := hartFaultIn(x.Hart); fault != 0 {
		return fault
	}
	if fault := pagesFaultIn(x.Pages, 8); fault != 0 {
		return fault
	}
	if len(x.Memory) != 64 || slices.Min(x.Memory) < 0 || slices.Max(x.Memory) > 4294967295 {
		return impl.ErrForm
	}
	return 0
}

func soloOfIn(p impl.Policy, guest int64, image, input []int64) impl.SoloResult {
	if fault := policyFaultIn(p); fault != 0 {
		return impl.SoloResult{Code: fault}
	}
	if !guestIn(p, guest) {
		return impl.SoloResult{Code: impl.ErrNone}
	}
	if len(image) > 8*len(p.Own[guest]) {
		return impl.SoloResult{Code: impl.ErrWrite}
	}
	if len(input) > 40 {
		return impl.SoloResult{Code: impl.ErrMany}
	}
	for _, w := range input {
		if !within(w, 4294967295) {
			return impl.SoloResult{Code: impl.ErrRange}
		}
	}
	alone := impl.Solo{Hart: newHartIn(input...), Pages: blankPages(8), Memory: make([]int64, 64)}
	for k, x := range mapIn(p, guest) {
		if x.To != -1 {
			alone.Pages[k] = entry(int64(k), x.Kinds)
		}
	}
	for at, w := range image {
		alone.Memory[at] = wordIn(big.NewInt(w))
	}
	return impl.SoloResult{Solo: alone}
}

func runSoloIn(x impl.Solo, n int64) impl.SoloResult {
	if fault := soloFaultIn(x); fault != 0 {
		return impl.SoloResult{Code: fault}
	}
	ran := manyStepsIn(seen{x.Hart, x.Pages, x.Memory}, n)
	if ran.Code != 0 {
		return impl.SoloResult{Code: ran.Code}
	}
	return impl.SoloResult{Solo: impl.Solo{Hart: ran.Hart, Pages: x.Pages, Memory: ran.Memory}}
}

func feedSoloIn(x impl.Solo, page int64, words []int64) impl.SoloResult {
	if fault := soloFaultIn(x); fault != 0 {
		return impl.SoloResult{Code: fault}
	}
	if !within(page, 7) {
		return impl.SoloResult{Code: impl.ErrRange}
	}
	if len(words) != 8 || slices.Min(words) < 0 || slices.Max(words) > 4294967295 {
		return impl.SoloResult{Code: impl.ErrForm}
	}
	x = cloneSolo(x)
	for k, w := range words {
		x.Memory[page*8+int64(k)] = w
	}
	return impl.SoloResult{Solo: x}
}

func soloWordsIn(x impl.Solo, page int64) impl.IntsResult {
	if fault := soloFaultIn(x); fault != 0 {
		return impl.IntsResult{Code: fault}
	}
	if !within(page, 7) {
		return impl.IntsResult{Code: impl.ErrRange}
	}
	return wordsOnIn(x.Memory, page)
}

func soloTextIn(x impl.Solo) impl.TextResult {
	if fault := soloFaultIn(x); fault != 0 {
		return impl.TextResult{Code: fault}
	}
	bit := map[bool]int{true: 1}
	regs, out := []string{"regs"}, []string{"out"}
	for k, w := range x.Hart.Regs {
		if w > 0 {
			regs = append(regs, fmt.Sprintf("%d:%d", k, w))
		}
	}
	for _, w := range x.Hart.Out {
		out = append(out, fmt.Sprint(w))
	}
	lines := []string{fmt.Sprint("pc ", x.Hart.Pc), fmt.Sprint("done ", x.Hart.Done), fmt.Sprint("halted ", bit[x.Hart.Halted]), fmt.Sprint("waiting ", bit[x.Hart.Waiting]),
		strings.Join(regs, " "), strings.Join(out, " "), ""}
	return impl.TextResult{Text: strings.Join(lines, "\n")}
}

// plainSolo is a new machine whose 8 pages lead to themselves for all kinds, with the words from the place 0 on.
func plainSolo(words ...int64) impl.Solo {
	x := plain(words...)
	return impl.Solo{Hart: x.h, Pages: x.list, Memory: x.m}
}

// countedSolo has another number in each of its places, and pages that lead to others.
func countedSolo() impl.Solo {
	return impl.Solo{Hart: countedHart(), Pages: steadyPages(8), Memory: countedMemory(64)}
}

// mixedSolos have no fault. Most of their machines can run where they are, and reach some of their places.
func mixedSolos(many int) []impl.Solo {
	var list []impl.Solo
	for _, x := range mixedSeen(many) {
		if len(x.m) == 64 {
			list = append(list, impl.Solo{Hart: x.h, Pages: x.list, Memory: x.m})
		}
	}
	return list
}

// goodSolos have no fault: mixed ones, machines of the layers below, each list and each memory of theirs, and guests of policies.
func goodSolos() []impl.Solo {
	list := append(mixedSolos(900), plainSolo(), countedSolo())
	pages := goodPages(8)
	for k, h := range append(edgeHarts(), mixedHarts(40)...) {
		list = append(list, impl.Solo{Hart: h, Pages: pages[k%len(pages)], Memory: countedMemory(64)})
	}
	for _, m := range [][]int64{make([]int64, 64), withWordAt(64, 0, impl.WordTop), withWordAt(64, 63, impl.WordTop), slices.Repeat([]int64{impl.WordTop}, 64)} {
		list = append(list, impl.Solo{Hart: countedHart(), Pages: itselfPages(), Memory: m})
	}
	next := steadyNext(5)
	for _, p := range append([]impl.Policy{oneGuest(), twoGuests(), threeGuests(), fullPolicy()}, mixedPolicies(20)...) {
		for guest, own := range p.Own {
			image := mixedMemory(int64(len(own)), next)
			list = append(list, soloOfIn(p, int64(guest), image, queueOf(guest*20, 3)).Solo)
		}
	}
	return list
}

type badSolo struct {
	x     impl.Solo
	fault int64
}

// someBadSolos have one fault each: of the machine, of the list, or of the memory.
func someBadSolos() []badSolo {
	list := []badSolo{{impl.Solo{}, impl.ErrForm}}
	for _, bad := range someBadHarts() {
		list = append(list, badSolo{impl.Solo{Hart: bad.h, Pages: steadyPages(8), Memory: countedMemory(64)}, bad.fault})
	}
	for _, bad := range soloBadPages() {
		list = append(list, badSolo{impl.Solo{Hart: countedHart(), Pages: bad.list, Memory: countedMemory(64)}, bad.fault})
	}
	for _, m := range soloBadMemories() {
		list = append(list, badSolo{impl.Solo{Hart: countedHart(), Pages: steadyPages(8), Memory: m}, impl.ErrForm})
	}
	return list
}

// soloBadPages are lists with a fault where there are 8 pages: those of the host lead beyond.
func soloBadPages() []badPages {
	list := someBadPages()
	for at := range 8 {
		for to := int64(8); to < 24; to++ {
			list = append(list, badPages{withPageAt(at, entry(to, to%8)), impl.ErrRange})
		}
	}
	return append(list, badPages{blankPages(8, entry(8, 0)), impl.ErrRange}, badPages{blankPages(8, entry(8, 1), entry(-1, 1)), impl.ErrRange}, badPages{blankPages(8, entry(-1, 1), entry(8, 1)), impl.ErrForm})
}

// soloBadMemories have a fault, or have none and not 8 pages.
func soloBadMemories() [][]int64 {
	var list [][]int64
	for _, bad := range badMemories() {
		list = append(list, bad.m)
	}
	for size := range 200 {
		if size != 64 {
			list = append(list, countedMemory(size))
		}
	}
	for at := range 64 {
		list = append(list, withWordAt(64, at, -1), withWordAt(64, at, impl.WordTop+1))
	}
	return append(list, make([]int64, 56), make([]int64, 72), withWordAt(56, 3, -1), withWordAt(72, 71, -1), withWordAt(64, 9, math.MinInt64), withWordAt(64, 9, math.MaxInt64))
}

func runNumbers() []int64 {
	return []int64{math.MinInt64, -1 << 32, -1, 0, 1, 2, 7, 501, 502, 1 << 32, 1<<32 + 1, math.MaxInt64}
}

func soloPageNumbers() []int64 {
	return []int64{math.MinInt64, -1 << 61, -1 << 32, -8, -1, 0, 1, 2, 3, 4, 5, 6, 7, 8, 9, 56, 63, 64, 1 << 32, 1<<32 + 1, 1 << 61, math.MaxInt64}
}

// fedPages are lists that may stand on a page, and lists that may not.
func fedPages() [][]int64 {
	list := [][]int64{nil, {}, {5}, make([]int64, 8), queueOf(8, 71), slices.Repeat([]int64{impl.WordTop}, 8), {impl.WordTop, 0, 1, 2, 1 << 31, 7, 0, impl.WordTop}}
	for _, size := range []int{1, 7, 9, 16, 64, 1000} {
		list = append(list, queueOf(size, 71), append(queueOf(size-1, 71), -1))
	}
	for at := range 8 {
		for _, w := range []int64{math.MinInt64, -1 << 32, -1, impl.WordTop + 1, 1 << 33, math.MaxInt64} {
			words := queueOf(8, 71)
			words[at] = w
			list = append(list, words)
		}
	}
	return list
}

func TestSoloFault(t *testing.T) {
	for _, x := range goodSolos() {
		if got := impl.SoloFault(x); got != impl.OK || soloFaultIn(x) != impl.OK {
			t.Fatalf("SoloFault of %v: %d", x, got)
		}
	}
	for _, bad := range someBadSolos() {
		if got := impl.SoloFault(bad.x); got != bad.fault || soloFaultIn(bad.x) != bad.fault {
			t.Fatalf("SoloFault of %v: %d, not %d", bad.x, got, bad.fault)
		}
	}
}

func TestSoloFaultByHand(t *testing.T) {
	table := []struct {
		name string
		edit func(x *impl.Solo)
		want int64
	}{
		{"nothing else", func(x *impl.Solo) {}, impl.OK},
		{"nothing", func(x *impl.Solo) { *x = impl.Solo{} }, impl.ErrForm},
		{"no machine", func(x *impl.Solo) { x.Hart = impl.Hart{} }, impl.ErrForm},
		{"Pc -1", func(x *impl.Solo) { x.Hart.Pc = -1 }, impl.ErrRange},
		{"41 words In", func(x *impl.Solo) { x.Hart.In = queueOf(41, 0) }, impl.ErrMany},
		{"no pages", func(x *impl.Solo) { x.Pages = nil }, impl.ErrForm},
		{"an empty list", func(x *impl.Solo) { x.Pages = []impl.Page{} }, impl.ErrForm},
		{"7 pages", func(x *impl.Solo) { x.Pages = blankPages(7) }, impl.ErrForm},
		{"8 pages that lead nowhere", func(x *impl.Solo) { x.Pages = blankPages(8) }, impl.OK},
		{"9 pages", func(x *impl.Solo) { x.Pages = blankPages(9) }, impl.ErrForm},
		{"a page to 7", func(x *impl.Solo) { x.Pages[0] = entry(7, 7) }, impl.OK},
		{"a page to 7 for nothing", func(x *impl.Solo) { x.Pages[0] = entry(7, 0) }, impl.OK},
		{"a page to 8", func(x *impl.Solo) { x.Pages[0] = entry(8, 7) }, impl.ErrRange},
		{"the last page to 8", func(x *impl.Solo) { x.Pages[7] = entry(8, 1) }, impl.ErrRange},
		{"a page to 23", func(x *impl.Solo) { x.Pages[3] = entry(23, 7) }, impl.ErrRange},
		{"a page to -2", func(x *impl.Solo) { x.Pages[3] = entry(-2, 0) }, impl.ErrRange},
		{"a page for 8", func(x *impl.Solo) { x.Pages[3] = entry(3, 8) }, impl.ErrRange},
		{"a page nowhere for 1", func(x *impl.Solo) { x.Pages[3] = entry(-1, 1) }, impl.ErrForm},
		{"no memory", func(x *impl.Solo) { x.Memory = nil }, impl.ErrForm},
		{"56 words", func(x *impl.Solo) { x.Memory = make([]int64, 56) }, impl.ErrForm},
		{"64 words", func(x *impl.Solo) { x.Memory = make([]int64, 64) }, impl.OK},
		{"72 words", func(x *impl.Solo) { x.Memory = make([]int64, 72) }, impl.ErrForm},
		{"8 words", func(x *impl.Solo) { x.Memory = make([]int64, 8) }, impl.ErrForm},
		{"192 words", func(x *impl.Solo) { x.Memory = make([]int64, 192) }, impl.ErrForm},
		{"63 words", func(x *impl.Solo) { x.Memory = make([]int64, 63) }, impl.ErrForm},
		{"no word", func(x *impl.Solo) { x.Memory[63] = -1 }, impl.ErrForm},
		{"a number above all words", func(x *impl.Solo) { x.Memory[0] = impl.WordTop + 1 }, impl.ErrForm},
		{"the greatest word", func(x *impl.Solo) { x.Memory[0] = impl.WordTop }, impl.OK},
		// Two faults: the machine's, the list's, the memory's.
		{"Pc -1 and 7 pages", func(x *impl.Solo) { x.Hart.Pc, x.Pages = -1, blankPages(7) }, impl.ErrRange},
		{"41 words Out and a page to 8", func(x *impl.Solo) { x.Hart.Out, x.Pages[0] = queueOf(41, 0), entry(8, 1) }, impl.ErrMany},
		{"15 registers and a page to 8", func(x *impl.Solo) { x.Hart.Regs, x.Pages[0] = make([]int64, 15), entry(8, 1) }, impl.ErrForm},
		{"Done -1 and no memory", func(x *impl.Solo) { x.Hart.Done, x.Memory = -1, nil }, impl.ErrRange},
		{"a page to 8 and 72 words", func(x *impl.Solo) { x.Pages[7], x.Memory = entry(8, 7), make([]int64, 72) }, impl.ErrRange},
		{"a page to 8 and no memory", func(x *impl.Solo) { x.Pages[7], x.Memory = entry(8, 7), nil }, impl.ErrRange},
		{"a page for -1 and no word", func(x *impl.Solo) { x.Pages[0], x.Memory[0] = entry(0, -1), -1 }, impl.ErrRange},
		{"a page to 7 and 56 words", func(x *impl.Solo) { x.Pages[0], x.Memory = entry(7, 7), make([]int64, 56) }, impl.ErrForm},
	}
	for _, y := range table {
		x := countedSolo()
		y.edit(&x)
		if got := impl.SoloFault(x); got != y.want || soloFaultIn(x) != y.want {
			t.Errorf("SoloFault with %s: %d, not %d", y.name, got, y.want)
		}
		askSoloCode(t, x, y.want)
	}
}

// askSoloCode asks that all functions but SoloOf tell a fault, with numbers and words that are right and such as are not; where it is OK nothing is asked.
func askSoloCode(t *testing.T, x impl.Solo, fault int64) {
	t.Helper()
	if fault == impl.OK {
		return
	}
	want := impl.SoloResult{Code: fault}
	for _, n := range []int64{-1, 0, 1, 500, 501} {
		askSolo(t, impl.RunSolo(x, n), want, "RunSolo ", n, " of a machine with a fault")
	}
	for _, page := range []int64{-1, 0, 7, 8} {
		for _, words := range [][]int64{nil, queueOf(7, 1), queueOf(8, 1), {0, 0, 0, 0, 0, 0, 0, -1}} {
			askSolo(t, impl.FeedSolo(x, page, words), want, "FeedSolo ", page, " of a machine with a fault")
		}
		askWords(t, impl.SoloWords(x, page), impl.IntsResult{Code: fault}, "SoloWords ", page, " of a machine with a fault")
	}
	askText(t, impl.SoloText(x), impl.TextResult{Code: fault}, "SoloText of a machine with a fault")
}

func TestAllAskTheSoloFaultFirst(t *testing.T) {
	for _, bad := range someBadSolos() {
		askSoloCode(t, bad.x, bad.fault)
	}
}

// TestSoloFaultsOfTwo asks each fault of a machine beside some of a list and of a memory, and each of a list beside some of a memory.
func TestSoloFaultsOfTwo(t *testing.T) {
	lists := [][]impl.Page{nil, blankPages(9), blankPages(8, entry(8, 1)), blankPages(8, entry(-1, 1)), steadyPages(8)}
	memories := [][]int64{nil, countedMemory(56), countedMemory(72), withWordAt(64, 3, -1), countedMemory(64)}
	for _, bad := range someBadHarts() {
		for _, list := range lists {
			for _, m := range memories {
				x := impl.Solo{Hart: bad.h, Pages: list, Memory: m}
				if got := impl.SoloFault(x); got != bad.fault {
					t.Fatalf("SoloFault of %v: %d, not %d", x, got, bad.fault)
				}
			}
		}
		askSoloCode(t, impl.Solo{Hart: bad.h}, bad.fault)
	}
	for _, bad := range soloBadPages() {
		for _, m := range memories {
			x := impl.Solo{Hart: countedHart(), Pages: bad.list, Memory: m}
			if got := impl.SoloFault(x); got != bad.fault {
				t.Fatalf("SoloFault of %v: %d, not %d", x, got, bad.fault)
			}
		}
		askSoloCode(t, impl.Solo{Hart: countedHart(), Pages: bad.list}, bad.fault)
	}
}

// soloImages are nil, of one word, around each page, of all words that there is room for and of one more; words that are none among them.
func soloImages(pages int) [][]int64 {
	list := [][]int64{nil, {}, {7}, {-1}, {impl.WordTop + 1}}
	for _, size := range []int{2, 7, 8, 9, 39, 40, 41, 48, 64, 65, 8*pages - 1, 8 * pages, 8*pages + 1, 8*pages + 8, 1000} {
		list = append(list, wideWords(size, int64(pages)))
	}
	return list
}

func soloInputs() [][]int64 {
	return [][]int64{nil, {}, {0}, {impl.WordTop}, {3, 1, 2}, queueOf(39, 5), queueOf(40, 5), queueOf(41, 5), {-1}, {5, impl.WordTop + 1}, append(queueOf(39, 5), -1), append(queueOf(40, 5), -1), append(queueOf(41, 5), math.MinInt64)}
}

func TestSoloOf(t *testing.T) {
	for _, p := range goodPolicies() {
		for guest := int64(-1); guest <= int64(len(p.Own)); guest++ {
			pages := 1
			if guestIn(p, guest) {
				pages = len(p.Own[guest])
			}
			for k, image := range soloImages(pages) {
				inputs := soloInputs()
				for _, input := range [][]int64{nil, inputs[k%len(inputs)], inputs[(k*5+3)%len(inputs)]} {
					got := impl.SoloOf(p, guest, image, input)
					askSolo(t, got, soloOfIn(p, guest, image, input), "SoloOf ", guest, " of ", p, " with ", image, " and ", input)
					if got.Code == impl.OK && impl.SoloFault(got.Solo) != impl.OK {
						t.Fatalf("SoloOf %d of %v has a fault", guest, p)
					}
				}
			}
		}
	}
}

// TestSoloOfEachImageAndInput asks all of both together, of guests with one page and with five, and of those that are none.
func TestSoloOfEachImageAndInput(t *testing.T) {
	for _, p := range []impl.Policy{oneGuest(), threeGuests()} {
		for _, guest := range guestNumbers() {
			for _, image := range slices.Concat(soloImages(1), soloImages(5)) {
				for _, input := range soloInputs() {
					askSolo(t, impl.SoloOf(p, guest, image, input), soloOfIn(p, guest, image, input), "SoloOf ", guest, " of ", p, " with ", image, " and ", input)
				}
			}
		}
	}
}

func TestSoloOfPagesByHand(t *testing.T) {
	no := entry(-1, 0)
	own := func(many int, five, six impl.Page) []impl.Page {
		list := blankPages(8)
		for k := range many {
			list[k] = entry(int64(k), 7)
		}
		list[5], list[6] = five, six
		return list
	}
	apart := impl.Policy{Own: [][]int64{{9, 8}, {7}, {0}}, Lanes: []impl.Lane{lane(1, 0, 23, 6, 5), lane(0, 1, 22, 6, 5)}, Plan: []impl.Slot{slot(0, 1)}}
	given := impl.Policy{Own: [][]int64{{1}, {2}, {3}}, Lanes: []impl.Lane{lane(0, 1, 4, 5, 6), lane(0, 2, 5, 6, 5), lane(1, 2, 6, 5, 6)}, Plan: []impl.Slot{slot(0, 1)}}
	table := []struct {
		name  string
		p     impl.Policy
		guest int64
		want  []impl.Page
	}{
		{"one page", oneGuest(), 0, own(1, no, no)},
		{"two pages and a lane from it", twoGuests(), 0, own(2, entry(5, 3), no)},
		{"a page and a lane to it", twoGuests(), 1, own(1, entry(5, 1), no)},
		{"three pages, a lane from it and one to it", threeGuests(), 0, own(3, entry(5, 3), entry(6, 1))},
		{"a page, a lane from it and one to it", threeGuests(), 1, own(1, entry(5, 3), entry(6, 1))},
		{"five pages, a lane to it and one from it", threeGuests(), 2, own(5, entry(5, 1), entry(6, 3))},
		{"the first of three alone", looseGuests(), 0, own(1, no, no)},
		{"the second of three alone, which has no slot", looseGuests(), 1, own(2, no, no)},
		{"lanes both ways", apart, 0, own(2, entry(5, 1), entry(6, 3))},
		{"lanes both ways, the other one", apart, 1, own(1, entry(5, 1), entry(6, 3))},
		{"a page that no lane of others touches", apart, 2, own(1, no, no)},
		{"two lanes from it", given, 0, own(1, entry(5, 3), entry(6, 3))},
		{"two lanes to it", given, 2, own(1, entry(5, 1), entry(6, 1))},
	}
	for _, x := range table {
		for _, image := range [][]int64{nil, {5, 6}} {
			want := impl.Solo{Hart: newHartIn(4), Pages: x.want, Memory: append(slices.Clone(image), make([]int64, 64-len(image))...)}
			askSolo(t, impl.SoloOf(x.p, x.guest, image, []int64{4}), impl.SoloResult{Solo: want}, "SoloOf a guest with ", x.name)
		}
	}
}

// TestSoloOfWordsByHand asks that an image stands from 0 on in one piece, whichever pages are owned, and all else is 0.
func TestSoloOfWordsByHand(t *testing.T) {
	p := threeGuests()
	for guest, own := range p.Own {
		for size := range 8*len(own) + 1 {
			got := impl.SoloOf(p, int64(guest), queueOf(size, 100), nil)
			if want := append(queueOf(size, 100), make([]int64, 64-size)...); got.Code != impl.OK || !slices.Equal(got.Solo.Memory, want) {
				t.Fatalf("SoloOf %d with %d words: %v", guest, size, got)
			}
		}
		askSolo(t, impl.SoloOf(p, int64(guest), queueOf(8*len(own)+1, 100), nil), impl.SoloResult{Code: impl.ErrWrite}, "SoloOf ", guest, " with one word too many")
	}
	image := []int64{-1, impl.WordTop, impl.WordTop + 1, impl.WordTop + 6, math.MinInt64, math.MaxInt64, 0, -2}
	got := impl.SoloOf(oneGuest(), 0, image, nil).Solo.Memory
	if !slices.Equal(got[:8], []int64{impl.WordTop, impl.WordTop, 0, 5, 0, impl.WordTop, 0, impl.WordTop - 1}) || !slices.Equal(got[8:], make([]int64, 56)) {
		t.Errorf("SoloOf with words that go round: %v", got)
	}
	for _, size := range []int{0, 1, 39, 40} {
		if h := impl.SoloOf(oneGuest(), 0, nil, queueOf(size, 9)).Solo.Hart; !sameHart(h, newHartIn(queueOf(size, 9)...)) {
			t.Errorf("SoloOf with %d words of input: %v", size, h)
		}
	}
}

// TestSoloOfCodes asks for each code beside those behind it.
func TestSoloOfCodes(t *testing.T) {
	long, many, none := make([]int64, 1000), queueOf(41, 0), []int64{-1}
	bare := looseGuests()
	bare.Own[1] = nil
	table := []struct {
		p            impl.Policy
		guest        int64
		image, input []int64
		want         int64
	}{
		{impl.Policy{}, 0, nil, nil, impl.ErrMany},
		{impl.Policy{}, -1, long, none, impl.ErrMany},
		{bare, 1, nil, nil, impl.ErrMany}, {bare, 3, long, none, impl.ErrMany},
		{oneGuest(), -1, nil, nil, impl.ErrNone}, {oneGuest(), 1, nil, nil, impl.ErrNone}, {oneGuest(), 1, long, many, impl.ErrNone}, {oneGuest(), 0, nil, nil, impl.OK},
		{twoGuests(), -1, nil, none, impl.ErrNone}, {twoGuests(), 2, nil, nil, impl.ErrNone}, {twoGuests(), 1, nil, nil, impl.OK},
		{threeGuests(), -1, long, nil, impl.ErrNone}, {threeGuests(), 3, nil, nil, impl.ErrNone}, {threeGuests(), 2, nil, nil, impl.OK},
		{threeGuests(), math.MinInt64, nil, nil, impl.ErrNone}, {threeGuests(), math.MaxInt64, nil, nil, impl.ErrNone}, {threeGuests(), 1 << 32, nil, nil, impl.ErrNone},
		{oneGuest(), 0, make([]int64, 8), nil, impl.OK}, {oneGuest(), 0, make([]int64, 9), nil, impl.ErrWrite}, {oneGuest(), 0, make([]int64, 9), many, impl.ErrWrite}, {oneGuest(), 0, long, none, impl.ErrWrite},
		{threeGuests(), 2, make([]int64, 40), nil, impl.OK}, {threeGuests(), 2, make([]int64, 41), nil, impl.ErrWrite}, {threeGuests(), 1, make([]int64, 9), nil, impl.ErrWrite},
		{oneGuest(), 0, nil, queueOf(40, 0), impl.OK}, {oneGuest(), 0, nil, many, impl.ErrMany}, {oneGuest(), 0, []int64{-1}, none, impl.ErrRange}, {oneGuest(), 0, nil, []int64{impl.WordTop + 1}, impl.ErrRange},
		{oneGuest(), 0, nil, append([]int64{-1}, queueOf(39, 0)...), impl.ErrRange}, {oneGuest(), 0, nil, append([]int64{-1}, queueOf(40, 0)...), impl.ErrMany},
	}
	for _, x := range table {
		got := impl.SoloOf(x.p, x.guest, x.image, x.input)
		if got.Code != x.want || x.want != impl.OK && !sameSolo(got.Solo, impl.Solo{}) {
			t.Errorf("SoloOf %d of %v with %d words and %v: %v, not %d", x.guest, x.p, len(x.image), x.input, got, x.want)
		}
	}
	for _, bad := range someBadPolicies() {
		for _, guest := range []int64{-1, 0, 1, 2, 3} {
			for _, image := range [][]int64{nil, {1}, long} {
				for _, input := range [][]int64{nil, many, none} {
					askSolo(t, impl.SoloOf(bad.p, guest, image, input), impl.SoloResult{Code: bad.fault}, "SoloOf ", guest, " of ", bad.p)
				}
			}
		}
	}
}

func TestRunSolo(t *testing.T) {
	for k, x := range goodSolos() {
		for _, n := range runNumbers() {
			askSolo(t, impl.RunSolo(x, n), runSoloIn(x, n), "RunSolo ", n, " of ", x)
		}
		if k%20 == 0 {
			for _, n := range []int64{100, 499, 500} {
				askSolo(t, impl.RunSolo(x, n), runSoloIn(x, n), "RunSolo ", n, " of ", x)
			}
		}
	}
}

// TestRunSoloIsStepMany asks by the functions alone, and in two parts.
func TestRunSoloIsStepMany(t *testing.T) {
	for _, x := range goodSolos() {
		for _, n := range []int64{-1, 0, 1, 23, 500, 501} {
			got, many := impl.RunSolo(x, n), impl.StepMany(x.Hart, x.Pages, x.Memory, n)
			want := impl.SoloResult{Code: many.Code}
			if many.Code == impl.OK {
				want.Solo = impl.Solo{Hart: many.Hart, Pages: x.Pages, Memory: many.Memory}
			}
			askSolo(t, got, want, "RunSolo ", n, " and StepMany of ", x)
		}
		askSolo(t, impl.RunSolo(x, 0), impl.SoloResult{Solo: x}, "RunSolo 0 of ", x)
		askSolo(t, impl.RunSolo(impl.RunSolo(x, 13).Solo, 17), impl.RunSolo(x, 30), "13 steps and 17 of ", x)
	}
}

func TestRunSoloByHand(t *testing.T) {
	x := plainSolo(op(12, 1, 1, 1), op(15, 1, 0, 40), op(19, 0, 0, 65534))
	for _, y := range []struct{ n, pc, done, count, word int64 }{{0, 0, 0, 0, 0}, {1, 1, 1, 1, 0}, {2, 2, 2, 1, 1}, {3, 0, 3, 1, 1}, {499, 1, 499, 167, 166}, {500, 2, 500, 167, 167}} {
		want := cloneSolo(x)
		want.Hart.Pc, want.Hart.Done, want.Hart.Regs[1], want.Memory[40] = y.pc, y.done, y.count, y.word
		askSolo(t, impl.RunSolo(x, y.n), impl.SoloResult{Solo: want}, "RunSolo ", y.n, " of a loop")
	}
	for _, n := range []int64{math.MinInt64, -1, 501, 502, math.MaxInt64} {
		askSolo(t, impl.RunSolo(x, n), impl.SoloResult{Code: impl.ErrRange}, "RunSolo ", n)
	}
	// A page that leads to another one is its words' other name.
	y := plainSolo(op(12, 1, 0, 9), op(15, 1, 0, 17), op(26, 0, 0, 0))
	y.Pages[2] = entry(4, 3)
	got := impl.RunSolo(y, 9).Solo
	if got.Memory[33] != 9 || got.Memory[17] != 0 || !got.Hart.Halted || got.Hart.Done != 3 || !slices.Equal(got.Pages, y.Pages) {
		t.Errorf("a store by a page that leads to another one: %v", got)
	}
	// There is nobody to be rung, itself neither.
	z := plainSolo(op(12, 1, 0, 0), op(15, 1, 0, 61), op(26, 0, 0, 0))
	if got := impl.RunSolo(z, 5); got.Code != impl.OK || got.Solo.Hart.Rung || got.Solo.Hart.Done != 3 {
		t.Errorf("a ring: %v", got)
	}
}

// storesEverywhere tries to store at each place from 8 on, words that differ, and goes on behind each trap. It needs page 0 to run, and is done within 500 steps.
func storesEverywhere(pages []impl.Page) impl.Solo {
	x := impl.Solo{Hart: newHartIn(), Pages: pages, Memory: make([]int64, 64)}
	copy(x.Memory, []int64{op(15, 1, 1, 0), op(12, 1, 1, 1), op(17, 1, 3, 65534), op(26, 0, 0, 0), op(21, 4, 0, 2), op(12, 4, 4, 1), op(22, 0, 4, 2), op(24, 0, 0, 0)})
	x.Hart.Csr[1], x.Hart.Regs[1], x.Hart.Regs[3] = 4, 8, 70
	return x
}

// mayTurn tells the pages of a memory whose words a lonely machine may turn.
func mayTurn(x impl.Solo) [8]bool {
	var may [8]bool
	for _, p := range x.Pages[:7] {
		if p.To != -1 && leadsFor(p.Kinds, 2) {
			may[p.To] = true
		}
	}
	return may
}

// askTurned asks that words of pages alone are turned to which it may write, and tells how many are.
func askTurned(t *testing.T, x impl.Solo, got impl.SoloResult) int {
	t.Helper()
	if got.Code != impl.OK || impl.SoloFault(got.Solo) != impl.OK || !slices.Equal(got.Solo.Pages, x.Pages) {
		t.Fatalf("steps of %v: %v", x, got)
	}
	may, turned := mayTurn(x), 0
	for at, w := range got.Solo.Memory {
		if w == x.Memory[at] {
			continue
		}
		if turned++; !may[at/8] {
			t.Fatalf("steps of %v turn the word at %d", x, at)
		}
	}
	return turned
}

// TestStoresEverywhereByHand asks of each guest of a policy that all words of its own pages and of lanes from it are turned, and no others.
func TestStoresEverywhereByHand(t *testing.T) {
	for _, p := range goodPolicies() {
		for guest, own := range p.Own {
			alone := impl.SoloOf(p, int64(guest), nil, nil).Solo
			x := storesEverywhere(alone.Pages)
			got := impl.RunSolo(x, 500)
			askTurned(t, x, got)
			want := slices.Clone(x.Memory)
			for at := int64(8); at < 56; at++ {
				fromIt := slices.ContainsFunc(p.Lanes, func(l impl.Lane) bool { return l.From == int64(guest) && l.AtFrom == at/8 })
				if at < int64(8*len(own)) || fromIt {
					want[at] = at
				}
			}
			if !got.Solo.Hart.Halted || !slices.Equal(got.Solo.Memory, want) {
				t.Fatalf("stores everywhere of guest %d of %v: %v, not %v", guest, p, got, want)
			}
		}
	}
}

// TestStoresEverywhereByEachKind asks the same where the pages lead to others, and to none, for each sum of kinds.
func TestStoresEverywhereByEachKind(t *testing.T) {
	for kinds := range int64(8) {
		for from := 1; from < 8; from++ {
			for to := int64(1); to < 8; to++ {
				x := storesEverywhere(blankPages(8, entry(0, 5)))
				x.Pages[from] = entry(to, kinds)
				want := slices.Clone(x.Memory)
				for k := range int64(8) {
					if leadsFor(kinds, 2) && from < 7 {
						want[to*8+k] = int64(from)*8 + k
					}
				}
				got := impl.RunSolo(x, 500)
				askTurned(t, x, got)
				if !got.Solo.Hart.Halted || !slices.Equal(got.Solo.Memory, want) {
					t.Fatalf("stores everywhere, page %d to %d for %d: %v", from, to, kinds, got)
				}
			}
		}
	}
}

// TestPromiseOfLonelyMachines asks promise 12 behind each of many steps, by programs of all kinds.
func TestPromiseOfLonelyMachines(t *testing.T) {
	turned := 0
	for _, x := range goodSolos() {
		at := x
		for _, n := range []int64{1, 1, 1, 2, 3, 5, 8, 13, 100, 500} {
			got := impl.RunSolo(at, n)
			turned += askTurned(t, at, got)
			at = got.Solo
		}
		askTurned(t, x, impl.SoloResult{Solo: at})
	}
	for _, list := range mixedPages(8, 300) {
		list[0].To, list[0].Kinds = 0, list[0].Kinds|4
		x := storesEverywhere(list)
		turned += askTurned(t, x, impl.RunSolo(x, 500))
	}
	if turned < 1000 {
		t.Errorf("%d words are turned", turned)
	}
}

func TestFeedSolo(t *testing.T) {
	solos := goodSolos()
	for k, x := range solos {
		for j, words := range fedPages() {
			pages := []int64{soloPageNumbers()[(k+j)%len(soloPageNumbers())], int64(k+j) % 8}
			for _, page := range pages {
				got := impl.FeedSolo(x, page, words)
				askSolo(t, got, feedSoloIn(x, page, words), "FeedSolo ", page, " with ", words, " to ", x)
				if got.Code == impl.OK && impl.SoloFault(got.Solo) != impl.OK {
					t.Fatalf("FeedSolo %d with %v to %v has a fault", page, words, x)
				}
			}
		}
	}
	for _, x := range []impl.Solo{plainSolo(), countedSolo()} {
		for _, page := range soloPageNumbers() {
			for _, words := range fedPages() {
				askSolo(t, impl.FeedSolo(x, page, words), feedSoloIn(x, page, words), "FeedSolo ", page, " with ", words, " to ", x)
			}
		}
	}
}

// TestFeedSoloByHand asks each page of machines whose pages lead to others, and nowhere: the words stand in the page itself.
func TestFeedSoloByHand(t *testing.T) {
	words := []int64{0, impl.WordTop, 3, 4, 5, 6, 7, 1 << 31}
	for _, pages := range [][]impl.Page{itselfPages(), steadyPages(8), blankPages(8), slices.Repeat([]impl.Page{entry(3, 1)}, 8)} {
		for page := range int64(8) {
			x := countedSolo()
			x.Pages = pages
			want := cloneSolo(x)
			copy(want.Memory[page*8:], words)
			got := impl.FeedSolo(x, page, words)
			askSolo(t, got, impl.SoloResult{Solo: want}, "FeedSolo ", page)
			for other := range int64(8) {
				list := x.Memory[other*8 : other*8+8]
				if other == page {
					list = words
				}
				askWords(t, impl.SoloWords(got.Solo, other), impl.IntsResult{List: list}, "SoloWords ", other, " behind FeedSolo ", page)
			}
			again := impl.FeedSolo(got.Solo, page, queueOf(8, 40))
			askWords(t, impl.SoloWords(again.Solo, page), impl.IntsResult{List: queueOf(8, 40)}, "SoloWords behind FeedSolo twice")
			askSolo(t, impl.FeedSolo(again.Solo, page, x.Memory[page*8:page*8+8]), impl.SoloResult{Solo: x}, "FeedSolo of what stood there")
		}
	}
}

func TestFeedSoloCodes(t *testing.T) {
	good := queueOf(8, 1)
	wrong := func(at int, w int64) []int64 {
		words := queueOf(8, 1)
		words[at] = w
		return words
	}
	table := []struct {
		page  int64
		words []int64
		want  int64
	}{
		{-1, good, impl.ErrRange}, {0, good, impl.OK}, {7, good, impl.OK}, {8, good, impl.ErrRange}, {math.MinInt64, good, impl.ErrRange}, {math.MaxInt64, good, impl.ErrRange}, {1 << 61, good, impl.ErrRange},
		{0, nil, impl.ErrForm}, {0, []int64{}, impl.ErrForm}, {0, queueOf(7, 1), impl.ErrForm}, {0, queueOf(9, 1), impl.ErrForm}, {7, queueOf(9, 1), impl.ErrForm}, {7, queueOf(16, 1), impl.ErrForm},
		{0, wrong(0, -1), impl.ErrForm}, {0, wrong(7, -1), impl.ErrForm}, {3, wrong(3, impl.WordTop+1), impl.ErrForm}, {3, wrong(3, impl.WordTop), impl.OK}, {3, wrong(3, 0), impl.OK}, {3, wrong(7, math.MinInt64), impl.ErrForm}, {3, wrong(7, math.MaxInt64), impl.ErrForm},
		// Two codes: the page is asked ahead of the words.
		{-1, nil, impl.ErrRange}, {8, nil, impl.ErrRange}, {8, queueOf(7, 1), impl.ErrRange}, {8, queueOf(9, 1), impl.ErrRange}, {-1, wrong(0, -1), impl.ErrRange},
	}
	for _, x := range table {
		got := impl.FeedSolo(countedSolo(), x.page, x.words)
		if got.Code != x.want || x.want != impl.OK && !sameSolo(got.Solo, impl.Solo{}) {
			t.Errorf("FeedSolo %d with %v: %v, not %d", x.page, x.words, got, x.want)
		}
	}
}

// TestFedPagesAreSeen asks that a machine reads what it is fed on a page of a lane to it, and can't turn it.
func TestFedPagesAreSeen(t *testing.T) {
	image := []int64{op(14, 1, 0, 42), op(15, 1, 0, 9), op(15, 0, 0, 42), op(26, 0, 0, 0)}
	x := impl.SoloOf(impl.Policy{Own: [][]int64{{4, 5}, {6}}, Lanes: []impl.Lane{lane(1, 0, 9, 6, 5)}, Plan: []impl.Slot{slot(0, 1)}}, 0, image, nil).Solo
	for _, from := range []int64{70, 170} {
		fed := impl.FeedSolo(x, 5, queueOf(8, from)).Solo
		got := impl.RunSolo(fed, 3).Solo
		if got.Hart.Regs[1] != from+2 || got.Memory[9] != from+2 || got.Hart.Csr[3] != impl.CauseStore || got.Hart.Csr[4] != 42 {
			t.Errorf("a machine that is fed: %v", got)
		}
		askWords(t, impl.SoloWords(got, 5), impl.IntsResult{List: queueOf(8, from)}, "SoloWords of what was fed")
	}
}

func TestSoloWords(t *testing.T) {
	for _, x := range goodSolos() {
		for _, page := range soloPageNumbers() {
			askWords(t, impl.SoloWords(x, page), soloWordsIn(x, page), "SoloWords ", page, " of ", x)
		}
	}
	x := plainSolo(queueOf(64, 100)...)
	x.Pages = blankPages(8, entry(3, 7))
	for page := range int64(8) {
		askWords(t, impl.SoloWords(x, page), impl.IntsResult{List: queueOf(8, 100+8*page)}, "SoloWords ", page)
	}
	for _, page := range []int64{math.MinInt64, -1, 8, 9, math.MaxInt64} {
		askWords(t, impl.SoloWords(x, page), impl.IntsResult{Code: impl.ErrRange}, "SoloWords ", page)
	}
}

func TestSoloText(t *testing.T) {
	for _, x := range goodSolos() {
		got := impl.SoloText(x)
		askText(t, got, soloTextIn(x), "SoloText of ", x)
		if strings.Count(got.Text, "\n") != 6 || !strings.HasSuffix(got.Text, "\n") {
			t.Fatalf("SoloText of %v has not 6 lines: %q", x, got.Text)
		}
	}
}

func TestSoloTextByHand(t *testing.T) {
	table := []struct {
		name string
		edit func(h *impl.Hart)
		want string
	}{
		{"nothing", func(h *impl.Hart) {}, "pc 0\ndone 0\nhalted 0\nwaiting 0\nregs\nout\n"},
		{"its place", func(h *impl.Hart) { h.Pc = 63 }, "pc 63\ndone 0\nhalted 0\nwaiting 0\nregs\nout\n"},
		{"the last place", func(h *impl.Hart) { h.Pc = impl.WordTop }, "pc 4294967295\ndone 0\nhalted 0\nwaiting 0\nregs\nout\n"},
		{"much done", func(h *impl.Hart) { h.Done = 1e9 }, "pc 0\ndone 1000000000\nhalted 0\nwaiting 0\nregs\nout\n"},
		{"halted", func(h *impl.Hart) { h.Halted = true }, "pc 0\ndone 0\nhalted 1\nwaiting 0\nregs\nout\n"},
		{"waiting", func(h *impl.Hart) { h.Waiting = true }, "pc 0\ndone 0\nhalted 0\nwaiting 1\nregs\nout\n"},
		{"halted and waiting", func(h *impl.Hart) { h.Halted, h.Waiting = true, true }, "pc 0\ndone 0\nhalted 1\nwaiting 1\nregs\nout\n"},
		{"what is not told", func(h *impl.Hart) { h.Rung, h.In, h.Csr[1], h.Csr[5] = true, []int64{5}, 6, 7 }, "pc 0\ndone 0\nhalted 0\nwaiting 0\nregs\nout\n"},
		{"the first register", func(h *impl.Hart) { h.Regs[1] = 1 }, "pc 0\ndone 0\nhalted 0\nwaiting 0\nregs 1:1\nout\n"},
		{"the last register", func(h *impl.Hart) { h.Regs[15] = impl.WordTop }, "pc 0\ndone 0\nhalted 0\nwaiting 0\nregs 15:4294967295\nout\n"},
		{"two registers", func(h *impl.Hart) { h.Regs[10], h.Regs[9] = 20, 30 }, "pc 0\ndone 0\nhalted 0\nwaiting 0\nregs 9:30 10:20\nout\n"},
		{"all registers", func(h *impl.Hart) { copy(h.Regs[1:], queueOf(15, 101)) },
			"pc 0\ndone 0\nhalted 0\nwaiting 0\nregs 1:101 2:102 3:103 4:104 5:105 6:106 7:107 8:108 9:109 10:110 11:111 12:112 13:113 14:114 15:115\nout\n"},
		{"a word Out", func(h *impl.Hart) { h.Out = []int64{7} }, "pc 0\ndone 0\nhalted 0\nwaiting 0\nregs\nout 7\n"},
		{"a word 0 Out", func(h *impl.Hart) { h.Out = []int64{0} }, "pc 0\ndone 0\nhalted 0\nwaiting 0\nregs\nout 0\n"},
		{"words Out", func(h *impl.Hart) { h.Out = []int64{3, 0, impl.WordTop, 3} }, "pc 0\ndone 0\nhalted 0\nwaiting 0\nregs\nout 3 0 4294967295 3\n"},
		{"an empty Out", func(h *impl.Hart) { h.Out = []int64{} }, "pc 0\ndone 0\nhalted 0\nwaiting 0\nregs\nout\n"},
		{"40 words Out", func(h *impl.Hart) { h.Out = slices.Repeat([]int64{0}, 40) }, "pc 0\ndone 0\nhalted 0\nwaiting 0\nregs\nout" + strings.Repeat(" 0", 40) + "\n"},
		{"40 great words Out", func(h *impl.Hart) { h.Out = slices.Repeat([]int64{impl.WordTop}, 40) }, "pc 0\ndone 0\nhalted 0\nwaiting 0\nregs\nout" + strings.Repeat(" 4294967295", 40) + "\n"},
	}
	for _, y := range table {
		for _, x := range []impl.Solo{plainSolo(), {Hart: newHartIn(), Pages: steadyPages(8), Memory: countedMemory(64)}} {
			y.edit(&x.Hart)
			askText(t, impl.SoloText(x), impl.TextResult{Text: y.want}, "SoloText with ", y.name)
		}
	}
	counted := "pc 33\ndone 700\nhalted 0\nwaiting 0\nregs 1:101 2:102 3:103 4:104 5:105 6:106 7:107 8:108 9:109 10:110 11:111 12:112 13:113 14:114 15:115\nout 801 802 803 804\n"
	askText(t, impl.SoloText(countedSolo()), impl.TextResult{Text: counted}, "SoloText of a machine with another number in each place")
}

// soloCall is a call of this layer on a lonely machine, whatever it answers: a lonely machine, or a list.
type soloCall struct {
	name string
	do   func(x impl.Solo, words []int64) (impl.SoloResult, []int64)
}

func soloCalls() []soloCall {
	list := []soloCall{
		{"SoloFault", func(x impl.Solo, _ []int64) (impl.SoloResult, []int64) {
			return impl.SoloResult{Code: impl.SoloFault(x)}, nil
		}},
		{"SoloText", func(x impl.Solo, _ []int64) (impl.SoloResult, []int64) {
			got := impl.SoloText(x)
			return impl.SoloResult{Code: got.Code}, []int64{int64(len(got.Text))}
		}},
	}
	for _, n := range []int64{-1, 0, 1, 2, 40, 501} {
		list = append(list, soloCall{fmt.Sprint("RunSolo ", n), func(x impl.Solo, _ []int64) (impl.SoloResult, []int64) {
			return impl.RunSolo(x, n), nil
		}})
	}
	for _, page := range []int64{-1, 0, 5, 7, 8} {
		list = append(list, soloCall{fmt.Sprint("FeedSolo ", page), func(x impl.Solo, words []int64) (impl.SoloResult, []int64) {
			return impl.FeedSolo(x, page, words), nil
		}}, soloCall{fmt.Sprint("SoloWords ", page), func(x impl.Solo, _ []int64) (impl.SoloResult, []int64) {
			got := impl.SoloWords(x, page)
			return impl.SoloResult{Code: got.Code}, got.List
		}})
	}
	return list
}

// roomySolo has room behind each of its lists; whole has what stands there.
func roomySolo(x impl.Solo) (roomed, whole impl.Solo) {
	roomed.Hart, whole.Hart = roomyHart(x.Hart)
	roomed.Pages, whole.Pages = withRoom(x.Pages, entry(0, 7))
	roomed.Memory, whole.Memory = roomy(x.Memory)
	return roomed, whole
}

func turnSolo(x impl.Solo) {
	for _, list := range append(listsOf(x.Hart), x.Memory[:cap(x.Memory)]) {
		turnAll(list)
	}
	turnPages(x.Pages[:cap(x.Pages)])
}

// askSoloApart writes into the lists of an answer, one behind the other, and asks that no other one of them is another one then.
func askSoloApart(t *testing.T, x impl.Solo, what ...any) {
	t.Helper()
	lists := append(listsOf(x.Hart), x.Memory[:cap(x.Memory)])
	pages := slices.Clone(x.Pages)
	for k, list := range lists {
		kept := cloneLists(lists)
		turnAll(list)
		for j, other := range lists {
			if j != k && !slices.Equal(other, kept[j]) || !slices.Equal(pages, x.Pages) {
				t.Fatalf("%s: two lists of the answer share memory", fmt.Sprint(what...))
			}
		}
	}
	kept := cloneLists(lists)
	turnPages(x.Pages[:cap(x.Pages)])
	if !sameLists(lists, kept) {
		t.Fatalf("%s: the pages of the answer share memory with another list of it", fmt.Sprint(what...))
	}
}

func TestSoloCallsChangeNothing(t *testing.T) {
	solos := goodSolos()
	for k, bad := range someBadSolos() {
		if k%3 == 0 {
			solos = append(solos, bad.x)
		}
	}
	for k, x := range solos {
		given, whole := roomySolo(x)
		before := cloneSolo(whole)
		for n, call := range soloCalls() {
			words, wholeWords := roomy([][]int64{queueOf(8, 5), fedPages()[(k+n)%len(fedPages())]}[n%2])
			wordsBefore := slices.Clone(wholeWords)
			call.do(given, words)
			if !sameSolo(given, x) || !sameSolo(whole, before) || !slices.Equal(wholeWords, wordsBefore) {
				t.Fatalf("%s changes %v or %v", call.name, x, words)
			}
		}
	}
}

// TestSoloAnswersAreNew asks that a write into an answer is seen nowhere else, nor one into an argument in the answer.
func TestSoloAnswersAreNew(t *testing.T) {
	solos := append(mixedSolos(300), plainSolo(), countedSolo())
	for k := range int64(8) {
		x := plainSolo(op(14, 1, 0, 56+k), op(15, 1, 0, 56+k), op(15, 1, 0, 20))
		x.Hart.In, x.Hart.Out = queueOf(3, 5), queueOf(4, 9)
		solos = append(solos, x)
	}
	for _, x := range solos {
		for _, call := range soloCalls() {
			askNewSolo(t, call, x)
		}
	}
}

func askNewSolo(t *testing.T, call soloCall, x impl.Solo) {
	t.Helper()
	given, whole := roomySolo(x)
	words, wholeWords := roomy(queueOf(8, 301))
	before, wordsBefore := cloneSolo(whole), slices.Clone(wholeWords)
	first, firstList := call.do(given, words)
	second, secondList := call.do(given, words)
	want, wantList := impl.SoloResult{Code: second.Code, Solo: cloneSolo(second.Solo)}, slices.Clone(secondList)
	askSoloApart(t, first.Solo, call.name)
	turnAll(firstList[:cap(firstList)])
	if !sameSolo(given, x) || !sameSolo(whole, before) || !slices.Equal(wholeWords, wordsBefore) {
		t.Fatalf("a write into what %s answers is seen in %v", call.name, x)
	}
	ask := func(got impl.SoloResult, list []int64, when string) {
		t.Helper()
		askSolo(t, got, want, when, call.name)
		askWords(t, impl.IntsResult{List: list}, impl.IntsResult{List: wantList}, when, call.name)
	}
	ask(second, secondList, "behind a write into another answer: ")
	third, thirdList := call.do(given, words)
	ask(third, thirdList, "asked again: ")
	turnSolo(whole)
	turnAll(wholeWords)
	ask(second, secondList, "behind a write into the arguments: ")
	ask(third, thirdList, "behind a write into the arguments: ")
}

func TestSoloOfChangesNothingAndIsNew(t *testing.T) {
	for k, p := range goodPolicies() {
		for guest, own := range p.Own {
			q, wholeP, room := roomyPolicy(p)
			image, wholeImage := roomy(wideWords(k%(8*len(own)+2), 3))
			input, wholeInput := roomy(queueOf(k%42, 5))
			before, imageBefore, inputBefore := clonePolicy(wholeP), slices.Clone(wholeImage), slices.Clone(wholeInput)
			first, second := impl.SoloOf(q, int64(guest), image, input), impl.SoloOf(q, int64(guest), image, input)
			want := soloOfIn(p, int64(guest), slices.Clone(image), slices.Clone(input))
			askSoloApart(t, first.Solo, "SoloOf")
			written := slices.ContainsFunc(room, func(own []int64) bool { return own != nil })
			if written || !samePolicies(q, p) || !samePolicies(wholeP, before) || !slices.Equal(wholeImage, imageBefore) || !slices.Equal(wholeInput, inputBefore) {
				t.Fatalf("SoloOf, or a write into its answer, changes %v, %v or %v", p, image, input)
			}
			askSolo(t, second, want, "behind a write into another answer of SoloOf")
			askSolo(t, impl.SoloOf(q, int64(guest), image, input), want, "SoloOf asked again")
			turnPolicy(q)
			turnAll(wholeImage)
			turnAll(wholeInput)
			askSolo(t, second, want, "behind a write into the arguments of SoloOf")
		}
	}
	for _, bad := range someBadPolicies() {
		q, whole, _ := roomyPolicy(bad.p)
		before := clonePolicy(whole)
		impl.SoloOf(q, 0, []int64{1}, []int64{2})
		if !samePolicies(q, bad.p) || !samePolicies(whole, before) {
			t.Fatalf("SoloOf changes %v", bad.p)
		}
	}
}

// TestSoloOfSharedArguments asks of lists that are pieces of one another.
func TestSoloOfSharedArguments(t *testing.T) {
	words := queueOf(8, 500)
	want := soloOfIn(oneGuest(), 0, queueOf(8, 500), queueOf(8, 500))
	got := impl.SoloOf(oneGuest(), 0, words, words)
	askSolo(t, got, want, "SoloOf with one list as image and input")
	turnSolo(got.Solo)
	if !slices.Equal(words, queueOf(8, 500)) {
		t.Error("a write into what SoloOf answers is seen in its image and input")
	}
	m := make([]int64, 64)
	copy(m, []int64{0, op(14, 1, 0, 57), op(15, 1, 0, 56), op(15, 1, 0, 20), op(26, 0, 0, 0)})
	x := impl.Solo{Hart: impl.Hart{Regs: m[32:48], Csr: m[48:59], In: m[:5], Out: m[1:4], Pc: 1}, Pages: itselfPages(), Memory: m}
	before := cloneSolo(x)
	for _, call := range soloCalls() {
		wanted, wantedList := call.do(before, slices.Clone(m[:8]))
		got, list := call.do(x, m[:8])
		askSolo(t, got, wanted, call.name, " of a machine on its memory")
		askWords(t, impl.IntsResult{List: list}, impl.IntsResult{List: wantedList}, call.name, " of a machine on its memory")
		askSoloApart(t, got.Solo, call.name, " of a machine on its memory")
		turnAll(list)
		if !sameSolo(x, before) {
			t.Fatalf("%s, or a write into its answer, changes a machine on its memory", call.name)
		}
	}
}

// soloAnswers tells all that is answered.
func soloAnswers(x impl.Solo, n, page int64, words []int64, p impl.Policy, guest int64) string {
	return fmt.Sprint(impl.SoloFault(x), impl.SoloOf(p, guest, words, x.Hart.Out), impl.RunSolo(x, n), impl.FeedSolo(x, page, words), impl.SoloWords(x, page), impl.SoloText(x))
}

// TestSolosHangOnTheirArgumentsAlone asks all once more, from the last one on: what was kept from a call would show.
func TestSolosHangOnTheirArgumentsAlone(t *testing.T) {
	solos := goodSolos()
	for k, bad := range someBadSolos() {
		if k%5 == 0 {
			solos = append(solos, bad.x)
		}
	}
	policies := goodPolicies()
	for _, bad := range someBadPolicies() {
		policies = append(policies, bad.p)
	}
	ask := func(n int) string {
		return soloAnswers(solos[n%len(solos)], runNumbers()[n%12], int64(n%10)-1, fedPages()[n%len(fedPages())], policies[n%len(policies)], int64(n%5)-1)
	}
	var said []string
	for n := range 2 * len(solos) {
		said = append(said, ask(n))
	}
	for n := len(said) - 1; n >= 0; n-- {
		if got := ask(n); got != said[n] {
			t.Fatalf("first %s, then %s", said[n], got)
		}
	}
}
