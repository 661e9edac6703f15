package tests

import (
	"fmt"
	"math"
	"math/big"
	"slices"
	"testing"

	"loop.example/g00213/impl"
)

// seen is a machine with what it sees: a list of pages and a memory.
type seen struct {
	h    impl.Hart
	list []impl.Page
	m    []int64
}

func (x seen) clone() seen {
	return seen{cloneHart(x.h), slices.Clone(x.list), slices.Clone(x.m)}
}

func (x seen) step() impl.StepResult {
	return impl.StepHart(x.h, x.list, x.m)
}

func (x seen) many(n int64) impl.StepResult {
	return impl.StepMany(x.h, x.list, x.m, n)
}

func (x seen) space() impl.PagesResult {
	return impl.SpaceOf(x.h, x.list, x.m)
}

func (x seen) place(at, kind int64) impl.IntResult {
	return impl.PlaceOf(x.h, x.list, x.m, at, kind)
}

func (x seen) next() impl.InsResult {
	return impl.NextIns(x.h, x.list, x.m)
}

// behind is what is seen behind a step.
func (x seen) behind(got impl.StepResult) seen {
	return seen{got.Hart, x.list, got.Memory}
}

// sameStep asks for Cause and Ring beside OK alone: TestNothingBesideACodeOfAStep asks for them beside the others.
func sameStep(a, b impl.StepResult) bool {
	told := a.Code != impl.OK || a.Cause == b.Cause && a.Ring == b.Ring
	return a.Code == b.Code && told && sameHart(a.Hart, b.Hart) && slices.Equal(a.Memory, b.Memory)
}

func askStep(t *testing.T, got, want impl.StepResult, what ...any) {
	t.Helper()
	if !sameStep(got, want) {
		t.Fatalf("%s:\n%v, not\n%v", fmt.Sprint(what...), got, want)
	}
}

func askSpace(t *testing.T, got, want impl.PagesResult, what ...any) {
	t.Helper()
	if !samePages(got, want) {
		t.Fatalf("%s: %v, not %v", fmt.Sprint(what...), got, want)
	}
}

func cloneStep(x impl.StepResult) impl.StepResult {
	x.Hart, x.Memory = cloneHart(x.Hart), slices.Clone(x.Memory)
	return x
}

// The functions that end in In go through what the document says, word by word.
func seenFaultIn(x seen) int64 {
	if fault := hartFaultIn(x.h); fault != 0 {
		return fault
	}
	if fault := pagesFaultIn(x.list, 24); fault != 0 {
		return fault
	}
	if !slices.Contains([]int{8, 16, 24, 32, 40, 48, 56, 64, 72, 80, 88, 96, 104, 112, 120, 128, 136, 144, 152, 160, 168, 176, 184, 192}, len(x.m)) {
		return impl.ErrForm
	}
	for _, w := range x.m {
		if !within(w, impl.WordTop) {
			return impl.ErrForm
		}
	}
	for _, p := range x.list {
		if p.To*8+7 > int64(len(x.m))-1 {
			return impl.ErrForm
		}
	}
	return 0
}

func itselfPages() []impl.Page {
	list := blankPages(8)
	for k := range list {
		list[k] = entry(int64(k), 7)
	}
	return list
}

func spaceIn(x seen) impl.PagesResult {
	if fault := seenFaultIn(x); fault != 0 {
		return impl.PagesResult{Code: fault}
	}
	table := x.h.Csr[10]
	if table == 0 {
		return impl.PagesResult{Pages: itselfPages()}
	}
	at := walkIn(x.list, (table-1)*8, 1)
	if at.Code != 0 || table == 8 {
		return impl.PagesResult{Code: impl.ErrRead}
	}
	return pagesFromIn(x.m[at.Value : at.Value+8])
}

func placeOfIn(x seen, at, kind int64) impl.IntResult {
	if fault := seenFaultIn(x); fault != 0 {
		return impl.IntResult{Code: fault}
	}
	if codeOfKind(kind) == 0 {
		return impl.IntResult{Code: impl.ErrRange}
	}
	own := spaceIn(x)
	if own.Code != 0 {
		return impl.IntResult{Code: own.Code}
	}
	first := walkIn(own.Pages, at, kind)
	if first.Code != 0 {
		return first
	}
	if first.Value >= 56 && kind == 4 {
		return impl.IntResult{Code: impl.ErrRun}
	}
	if first.Value >= 56 {
		return impl.IntResult{Value: 1000 + first.Value - 56}
	}
	return walkIn(x.list, first.Value, kind)
}

func decodeIn(word int64) (impl.Ins, bool) {
	x := impl.Ins{Op: word / 16777216, D: word / 1048576 % 16, A: word / 65536 % 16, Imm: word % 65536}
	return x, faultIn(x) == 0
}

func sumIn(a, b int64) int64 {
	return wordIn(new(big.Int).Add(big.NewInt(a), big.NewInt(b)))
}

func nextInsIn(x seen) impl.InsResult {
	place := placeOfIn(x, x.h.Pc, 4)
	if place.Code != 0 {
		return impl.InsResult{Code: place.Code}
	}
	ins, ok := decodeIn(x.m[place.Value])
	if !ok {
		return impl.InsResult{Code: impl.ErrText}
	}
	return impl.InsResult{Ins: ins}
}

// wordsMeetIn tells whether two numbers below 8 have a bit in common.
func wordsMeetIn(a, b int64) bool {
	for _, bit := range []int64{1, 2, 4} {
		if a/bit%2 == 1 && b/bit%2 == 1 {
			return true
		}
	}
	return false
}

func trapsIn(x seen, cause, tval int64) impl.StepResult {
	return impl.StepResult{Cause: cause, Ring: -1, Hart: trapIn(x.h, cause, tval).Hart, Memory: slices.Clone(x.m)}
}

func restsIn(x seen) impl.StepResult {
	x = x.clone()
	return impl.StepResult{Cause: -1, Ring: -1, Hart: x.h, Memory: x.m}
}

func stepIn(x seen) impl.StepResult {
	if fault := seenFaultIn(x); fault != 0 {
		return impl.StepResult{Code: fault}
	}
	x = x.clone()
	if x.h.Halted {
		return restsIn(x)
	}
	if due := dueIn(x.h); due.Code == 0 {
		return trapsIn(x, 16+due.Value, 0)
	}
	if x.h.Waiting && !wordsMeetIn(pendingIn(x.h), x.h.Csr[7]) {
		return restsIn(x)
	}
	x.h.Waiting = false
	place := placeOfIn(x, x.h.Pc, 4)
	if place.Code != 0 {
		return trapsIn(x, 2, x.h.Pc)
	}
	word := x.m[place.Value]
	ins, ok := decodeIn(word)
	if !ok {
		return trapsIn(x, 1, word)
	}
	return doneIn(x, ins)
}

// doneIn is what one instruction does; x is its own to change.
func doneIn(x seen, ins impl.Ins) impl.StepResult {
	offset := ins.Imm
	if offset >= 32768 {
		offset -= 65536
	}
	d, a := x.h.Regs[ins.D], x.h.Regs[ins.A]
	near, far, s := sumIn(x.h.Pc, offset), sumIn(a, offset), sumIn(x.h.Pc, 1)
	pc, result, ring := s, d, int64(-1)
	switch ins.Op {
	default:
		result = aluIn(ins.Op, a, x.h.Regs[ins.Imm])
	case 12:
		result = far
	case 13:
		result = ins.Imm * 65536
	case 14:
		place := placeOfIn(x, far, 1)
		if place.Code != 0 {
			return trapsIn(x, 3, far)
		}
		if place.Value >= 1000 {
			read := deviceReadIn(x.h, place.Value-1000)
			x.h, result = read.Hart, read.Value
		} else {
			result = x.m[place.Value]
		}
	case 15:
		place := placeOfIn(x, far, 2)
		if place.Code != 0 {
			return trapsIn(x, 4, far)
		}
		if place.Value >= 1000 {
			written := deviceWriteIn(x.h, place.Value-1000, d)
			x.h, ring = written.Hart, written.Ring
		} else {
			x.m[place.Value] = d
		}
	case 16, 17, 18:
		if [3]bool{d == a, d != a, bigSigned(d).Cmp(bigSigned(a)) < 0}[ins.Op-16] {
			pc = near
		}
	case 19:
		pc, result = near, s
	case 20:
		pc, result = far, s
	case 21:
		result = csrIn(x.h, ins.Imm).Value
	case 22:
		x.h = withCsrIn(x.h, ins.Imm, a).Hart
	case 23:
		return trapsIn(x, 5, 0)
	case 24:
		x.h = backIn(x.h).Hart
		pc = x.h.Pc
	case 25:
		x.h.Waiting = true
	case 26:
		x.h.Halted = true
		pc = x.h.Pc
	}
	x.h.Regs[ins.D] = result
	x.h.Regs[0] = 0
	x.h.Pc, x.h.Done = pc, min(x.h.Done+1, 1e9)
	return impl.StepResult{Cause: -1, Ring: ring, Hart: x.h, Memory: x.m}
}

func manyStepsIn(x seen, n int64) impl.StepResult {
	if fault := seenFaultIn(x); fault != 0 {
		return impl.StepResult{Code: fault}
	}
	if !within(n, 500) {
		return impl.StepResult{Code: impl.ErrRange}
	}
	all := restsIn(x)
	for range n {
		one := stepIn(x)
		if all.Hart, all.Memory = one.Hart, one.Memory; one.Cause != -1 {
			all.Cause = one.Cause
		}
		if one.Ring != -1 {
			all.Ring = one.Ring
		}
		x = x.behind(one)
	}
	return all
}

func op(op, d, a, imm int64) int64 {
	return insWord(impl.Ins{Op: op, D: d, A: a, Imm: imm})
}

// plain is a new machine that sees 8 pages, each of them by a page of its number, with the words from the place 0 on.
func plain(words ...int64) seen {
	x := seen{newHartIn(), itselfPages(), make([]int64, 64)}
	copy(x.m, words)
	return x
}

// counted is a machine with another number in each place, which is at the instruction at the place 33, and may be interrupted by nothing.
func counted(word int64) seen {
	x := seen{countedHart(), itselfPages(), countedMemory(64)}
	x.h.Csr[7], x.h.Csr[10] = 0, 0
	x.m[33] = word
	return x
}

// steadyNext is a steady count: each call tells a number from 0 on, below n.
func steadyNext(seed uint64) func(n int64) int64 {
	return func(n int64) int64 {
		seed = seed*6364136223846793005 + 1442695040888963407
		return int64(seed>>33) % n
	}
}

func mixedIns(next func(n int64) int64) int64 {
	kind := []int64{next(26), next(26), 13 + next(2)}[next(3)]
	shape := opShapes[kind]
	x := impl.Ins{Op: kind + 1, D: next(shape.topD + 1), A: next(shape.topA + 1), Imm: next(shape.topIm + 1)}
	if shape.topA > 0 && next(2) == 0 {
		x.A = 0
	}
	if shape.topIm > 15 && next(4) > 0 {
		x.Imm = []int64{next(64), next(64), 65536 - next(20) - 1, 56 + next(8)}[next(4)]
	}
	return insWord(x)
}

// mixedMemory has instructions for the most part, and words that are none.
func mixedMemory(pages int64, next func(n int64) int64) []int64 {
	m := make([]int64, pages*8)
	for k := range m {
		m[k] = []int64{next(1 << 32), next(72), impl.WordTop, 0}[next(4)]
		if next(5) > 0 {
			m[k] = mixedIns(next)
		}
	}
	return m
}

func mixedList(pages int64, next func(n int64) int64) []impl.Page {
	list := blankPages(8)
	for k := range list {
		switch next(6) {
		case 0:
		case 1:
			list[k] = entry(next(pages), next(8))
		default:
			list[k] = entry(next(pages), 7)
		}
	}
	return list
}

// mixedSeen have no fault. Most of their machines can run where they are, and reach some of their places.
func mixedSeen(many int) []seen {
	next := steadyNext(977)
	var things []seen
	for _, h := range mixedHarts(many) {
		pages := []int64{1, 2, 3, 8, 23, 24}[next(6)]
		x := seen{h, mixedList(pages, next), mixedMemory(pages, next)}
		for k := range x.h.Regs[1:] {
			if next(2) == 0 {
				x.h.Regs[k+1] = next(66)
			}
		}
		if next(2) == 0 {
			x.h.Csr[10] = 0
		}
		if next(4) > 0 {
			x.h.Halted, x.h.Waiting = false, false
		}
		if next(2) == 0 {
			x.h.Csr[7] = 0
		}
		if table := x.h.Csr[10] - 1; table >= 0 && x.list[table].To >= 0 && next(5) > 0 {
			for k := range int64(8) {
				x.m[x.list[table].To*8+k] = next(8)*8 + []int64{7, 7, next(8)}[next(3)]
			}
		}
		if runs := runPlacesIn(x); len(runs) > 0 && next(6) > 0 {
			// What traps and goes where nothing is run would do nothing else any more.
			x.h.Pc, x.h.Csr[1] = runs[next(int64(len(runs)))], runs[next(int64(len(runs)))]
		}
		things = append(things, x)
	}
	return things
}

func runPlacesIn(x seen) []int64 {
	var places []int64
	for at := range int64(64) {
		if placeOfIn(x, at, 4).Code == 0 {
			places = append(places, at)
		}
	}
	return places
}

// goodSeen are things without a fault: mixed ones, and machines of the layers below before lists and memories of theirs.
func goodSeen() []seen {
	things := mixedSeen(600)
	harts := append(edgeHarts(), mixedHarts(40)...)
	for k, h := range harts {
		lists := goodPages([]int64{1, 8, 24}[k%3])
		list := lists[k%len(lists)]
		size := 192
		if seenFaultIn(seen{h, list, countedMemory(8)}) == 0 {
			size = 8
		}
		things = append(things, seen{h, list, countedMemory(size)})
	}
	return things
}

func TestStepConstants(t *testing.T) {
	got := []int64{impl.CauseBad, impl.CauseRun, impl.CauseLoad, impl.CauseStore, impl.CauseCall, impl.CauseDue}
	if !slices.Equal(got, []int64{1, 2, 3, 4, 5, 16}) {
		t.Errorf("causes: %v", got)
	}
}

func TestSpaceOf(t *testing.T) {
	for _, x := range goodSeen() {
		for table := range int64(9) {
			x.h = cloneHart(x.h)
			x.h.Csr[10] = table
			askSpace(t, x.space(), spaceIn(x), "SpaceOf table ", table, " in ", x)
		}
	}
}

// TestSpaceOfByHand asks for each table of a list whose pages lead to others, for each sum of kinds.
func TestSpaceOfByHand(t *testing.T) {
	nowhere := entry(-1, 0)
	words := []int64{0, 7, 8, 11, 62, 63, 64, impl.WordTop}
	want := []impl.Page{nowhere, entry(0, 7), nowhere, entry(1, 3), entry(7, 6), entry(7, 7), nowhere, nowhere}
	for table := int64(1); table <= 8; table++ {
		for kinds := range int64(8) {
			for _, to := range []int64{0, 5, 22, 23} {
				x := seen{newHartIn(), blankPages(8), countedMemory(192)}
				x.h.Csr[10] = table
				askSpace(t, x.space(), impl.PagesResult{Code: impl.ErrRead}, "SpaceOf a page that leads nowhere")
				x.list[table-1] = entry(to, kinds)
				copy(x.m[to*8:], words)
				told := impl.PagesResult{Code: impl.ErrRead}
				if kinds%2 == 1 && table != 8 {
					told = impl.PagesResult{Pages: want}
				}
				askSpace(t, x.space(), told, "SpaceOf table ", table, " at ", to, " for ", kinds)
				x.h.Csr[10] = 0
				askSpace(t, x.space(), impl.PagesResult{Pages: itselfPages()}, "SpaceOf no table")
			}
		}
	}
}

// TestSpaceOfItsOwnPage asks that the number tells the page, less 1, where all pages can be read, and that the list's pages alone are asked.
func TestSpaceOfItsOwnPage(t *testing.T) {
	x := seen{newHartIn(), blankPages(8), make([]int64, 192)}
	for k := range int64(8) {
		x.list[k] = entry(23-k, 1)
		for n := range int64(8) {
			x.m[(23-k)*8+n] = (n+k)%8*8 + k%7 + 1
		}
	}
	for table := int64(1); table <= 7; table++ {
		x.h.Csr[10] = table
		want := blankPages(8)
		for n := range int64(8) {
			want[n] = entry((n+table-1)%8, (table-1)%7+1)
		}
		askSpace(t, x.space(), impl.PagesResult{Pages: want}, "SpaceOf table ", table)
	}
	x.h.Csr[10] = 8
	askSpace(t, x.space(), impl.PagesResult{Code: impl.ErrRead}, "SpaceOf the device page")
	for _, m := range [][]int64{make([]int64, 8), countedMemory(192)} {
		askSpace(t, seen{newHartIn(), blankPages(8), m}.space(), impl.PagesResult{Pages: itselfPages()}, "SpaceOf where nothing leads anywhere")
	}
}

func placeNumbers() []int64 {
	return append(walkPlaces(), 1000, 1007, impl.WordTop-1, impl.WordTop, impl.WordTop+1)
}

func TestPlaceOf(t *testing.T) {
	for k, x := range goodSeen() {
		kinds := []int64{1, 2, 4}
		if k%5 == 0 {
			kinds = kindNumbers()
		}
		for _, at := range placeNumbers() {
			for _, kind := range kinds {
				askInt(t, x.place(at, kind), placeOfIn(x, at, kind), "PlaceOf ", at, " for ", kind, " in ", x)
			}
		}
	}
}

func TestPlaceOfByHand(t *testing.T) {
	const read, write, run, top = impl.KindRead, impl.KindWrite, impl.KindRun, impl.WordTop
	list := blankPages(8, entry(2, 7), entry(0, 1), entry(3, 2), entry(3, 4), entry(-1, 0), entry(1, 0), entry(3, 7), entry(-1, 0))
	// Page 0: itself; 1: to page 6; 2: to the device page; 3: to the device page for KindRun alone; 4: to page 1 for all; 5: nowhere; 6: to page 4; 7: to page 0.
	table := []int64{7, 55, 59, 60, 15, 64, 39, 5}
	table0 := []struct{ at, kind, code, value int64 }{
		{0, read, 0, 16}, {0, write, 0, 16}, {7, run, 0, 23}, {8, read, 0, 0}, {15, read, 0, 7}, {8, write, impl.ErrWrite, 0}, {8, run, impl.ErrRun, 0},
		{16, read, impl.ErrRead, 0}, {17, write, 0, 25}, {16, run, impl.ErrRun, 0}, {24, read, impl.ErrRead, 0}, {24, write, impl.ErrWrite, 0}, {31, run, 0, 31},
		{32, read, impl.ErrRead, 0}, {33, write, impl.ErrWrite, 0}, {39, run, impl.ErrRun, 0}, {40, read, impl.ErrRead, 0}, {40, write, impl.ErrWrite, 0}, {40, run, impl.ErrRun, 0},
		{48, read, 0, 24}, {55, read, 0, 31}, {55, write, 0, 31}, {55, run, 0, 31}, {56, read, 0, 1000}, {56, write, 0, 1000}, {56, run, impl.ErrRun, 0},
		{61, read, 0, 1005}, {63, read, 0, 1007}, {63, write, 0, 1007}, {63, run, impl.ErrRun, 0}, {64, read, impl.ErrRead, 0}, {64, write, impl.ErrWrite, 0}, {64, run, impl.ErrRun, 0},
		{-1, read, impl.ErrRead, 0}, {-1, write, impl.ErrWrite, 0}, {-1, run, impl.ErrRun, 0}, {top, read, impl.ErrRead, 0}, {top, write, impl.ErrWrite, 0}, {top, run, impl.ErrRun, 0},
		{math.MinInt64, read, impl.ErrRead, 0}, {math.MaxInt64, run, impl.ErrRun, 0}, {0, 0, impl.ErrRange, 0}, {0, 3, impl.ErrRange, 0}, {56, 7, impl.ErrRange, 0}, {-1, 8, impl.ErrRange, 0},
	}
	table1 := []struct{ at, kind, code, value int64 }{
		{0, read, 0, 16}, {0, write, 0, 16}, {7, run, 0, 23}, {8, read, 0, 24}, {9, write, 0, 25}, {10, run, 0, 26},
		{16, read, 0, 1000}, {23, write, 0, 1007}, {17, run, impl.ErrRun, 0}, {24, read, impl.ErrRead, 0}, {24, write, impl.ErrWrite, 0}, {24, run, impl.ErrRun, 0},
		{32, read, 0, 0}, {33, read, 0, 1}, {32, write, impl.ErrWrite, 0}, {32, run, impl.ErrRun, 0}, {40, read, impl.ErrRead, 0}, {40, write, impl.ErrWrite, 0}, {40, run, impl.ErrRun, 0},
		{48, read, impl.ErrRead, 0}, {48, write, impl.ErrWrite, 0}, {48, run, impl.ErrRun, 0}, {56, read, 0, 16}, {63, run, 0, 23}, {57, write, impl.ErrWrite, 0},
		{64, read, impl.ErrRead, 0}, {-1, write, impl.ErrWrite, 0}, {top, run, impl.ErrRun, 0}, {16, 6, impl.ErrRange, 0}, {40, 0, impl.ErrRange, 0},
	}
	x := seen{newHartIn(), list, make([]int64, 32)}
	copy(x.m[16:], table)
	for _, y := range table0 {
		askInt(t, x.place(y.at, y.kind), impl.IntResult{Code: y.code, Value: y.value}, "PlaceOf ", y.at, " for ", y.kind)
	}
	x.h.Csr[10] = 1
	for _, y := range table1 {
		askInt(t, x.place(y.at, y.kind), impl.IntResult{Code: y.code, Value: y.value}, "PlaceOf ", y.at, " for ", y.kind, " by a table")
	}
	// A table that cannot be read tells so for each kind, but not where kind is none.
	for _, table := range []int64{3, 4, 5, 6, 8} {
		x.h.Csr[10] = table
		for _, at := range []int64{-1, 0, 56, 64} {
			for _, kind := range []int64{read, write, run} {
				askInt(t, x.place(at, kind), impl.IntResult{Code: impl.ErrRead}, "PlaceOf ", at, " for ", kind, " by table ", table)
			}
			for _, kind := range []int64{-1, 0, 3, 5, 8} {
				askInt(t, x.place(at, kind), impl.IntResult{Code: impl.ErrRange}, "PlaceOf ", at, " for ", kind, " by table ", table)
			}
		}
	}
}

// TestDevicePageWhateverListSays asks for each place of the page 7, wherever the list leads it.
func TestDevicePageWhateverListSays(t *testing.T) {
	for _, page := range []impl.Page{entry(-1, 0), entry(0, 0), entry(0, 1), entry(5, 2), entry(7, 4), entry(7, 7)} {
		x := plain()
		x.list[7] = page
		for k := range int64(8) {
			askInt(t, x.place(56+k, 1), impl.IntResult{Value: 1000 + k}, "PlaceOf ", 56+k, " to read")
			askInt(t, x.place(56+k, 2), impl.IntResult{Value: 1000 + k}, "PlaceOf ", 56+k, " to write")
			askInt(t, x.place(56+k, 4), impl.IntResult{Code: impl.ErrRun}, "PlaceOf ", 56+k, " to run")
		}
	}
}

// TestPlacesAreWhereBothStagesLead asks promise 11 by the composed stages, where the own view does not lead to the device page.
func TestPlacesAreWhereBothStagesLead(t *testing.T) {
	found := 0
	for _, x := range goodSeen() {
		own := x.space()
		if own.Code != impl.OK {
			continue
		}
		composed := impl.ComposePages(own.Pages, x.list).Pages
		for at := range int64(64) {
			for _, kind := range []int64{1, 2, 4} {
				got := x.place(at, kind)
				if own.Pages[at/8].To == 7 {
					continue
				}
				askInt(t, got, impl.WalkPages(composed, at, kind), "PlaceOf ", at, " for ", kind, " in ", x)
				if got.Code == impl.OK {
					found++
				}
			}
		}
	}
	if found < 1000 {
		t.Errorf("%d places were found", found)
	}
}

func TestStepHart(t *testing.T) {
	causes, ops, rings := map[int64]int{}, map[int64]int{}, 0
	for _, x := range goodSeen() {
		for range 4 {
			got := x.step()
			askStep(t, got, stepIn(x), "StepHart of ", x)
			if causes[got.Cause]++; got.Ring != -1 {
				rings++
			}
			if next := nextInsIn(x); next.Code == 0 && got.Hart.Done > x.h.Done {
				ops[next.Ins.Op]++
			}
			x = x.behind(got)
		}
	}
	for _, cause := range []int64{-1, 1, 2, 3, 4, 5, 16, 17, 18} {
		if causes[cause] == 0 {
			t.Errorf("no step has the cause %d", cause)
		}
	}
	for kind := int64(1); kind <= 26; kind++ {
		if (ops[kind] == 0) != (kind == 23) {
			t.Errorf("%d steps do the op %d", ops[kind], kind)
		}
	}
	if rings == 0 {
		t.Errorf("no step rings")
	}
}

// TestEachInstruction does each op with registers and Imm at their edges, from machines with words at theirs.
func TestEachInstruction(t *testing.T) {
	next := steadyNext(41)
	words := []int64{0, 1, 2, 31, 32, 33, 55, 56, 57, 58, 59, 60, 61, 62, 63, 64, 1<<31 - 1, 1 << 31, 1<<31 + 1, impl.WordTop - 1, impl.WordTop}
	for kind, shape := range opShapes {
		for _, d := range []int64{0, 1, 7, 15} {
			for _, a := range []int64{0, 1, 7, 15} {
				for _, imm := range []int64{0, 1, 7, 10, 15, 56, 61, 63, 64, 32767, 32768, 65528, 65535} {
					ins := impl.Ins{Op: int64(kind) + 1, D: min(d, shape.topD), A: min(a, shape.topA), Imm: min(imm, shape.topIm)}
					x := counted(insWord(ins))
					for range 6 {
						for _, k := range []int64{1, 7, 10, 15} {
							x.h.Regs[k] = words[next(int64(len(words)))]
						}
						x.h.Csr[9], x.h.Rung = words[next(int64(len(words)))], next(2) == 0
						askStep(t, x.step(), stepIn(x), "StepHart of ", impl.InsText(ins).Text, " in ", x)
					}
				}
			}
		}
	}
}

// wants is what a step leaves of a counted machine: all that is not told is as it was, but Pc 34 and Done 701.
func wants(x seen, edit func(h *impl.Hart, m []int64)) impl.StepResult {
	x = x.clone()
	x.h.Pc, x.h.Done = 34, 701
	edit(&x.h, x.m)
	return impl.StepResult{Cause: -1, Ring: -1, Hart: x.h, Memory: x.m}
}

// TestResultsByHand is of all ops with a result that hang on registers and Imm alone.
func TestResultsByHand(t *testing.T) {
	const top, half = impl.WordTop, 1 << 31
	table := []struct{ op, b, c, want int64 }{
		{1, 5, 7, 12}, {1, top, 2, 1}, {1, half, half, 0}, {2, 5, 7, top - 1}, {2, 7, 5, 2}, {2, 0, half, half}, {3, 6, 7, 42}, {3, top, top, 1}, {3, 65536, 65536, 0},
		{4, 4294967289, 2, 4294967293}, {4, 7, 2, 3}, {4, 7, 0, top}, {4, half, top, half}, {5, 4294967289, 2, top}, {5, 7, 0, 7}, {5, 7, top - 1, 1}, {5, half, top, 0},
		{6, 12, 10, 8}, {6, top, half, half}, {7, 12, 10, 14}, {7, half, 1, half + 1}, {8, 12, 10, 6}, {8, top, top, 0},
		{9, 1, 31, half}, {9, 1, 32, 1}, {9, top, 4, top - 15}, {10, half, 31, 1}, {10, top, 33, half - 1}, {10, 5, 32, 5},
		{11, 1, 2, 1}, {11, 2, 1, 0}, {11, 2, 2, 0}, {11, top, 0, 1}, {11, 0, top, 0}, {11, half, half - 1, 1}, {11, half - 1, half, 0},
	}
	for _, y := range table {
		x := counted(op(y.op, 3, 4, 5))
		x.h.Regs[4], x.h.Regs[5] = y.b, y.c
		askStep(t, x.step(), wants(x, func(h *impl.Hart, m []int64) { h.Regs[3] = y.want }), "op ", y.op, " of ", y.b, " and ", y.c)
		// D may be A, Imm or both, and is 0 where it is the register 0.
		x.m[33] = op(y.op, 4, 4, 5)
		askStep(t, x.step(), wants(x, func(h *impl.Hart, m []int64) { h.Regs[4] = y.want }), "op ", y.op, " into A")
		x.m[33] = op(y.op, 5, 4, 5)
		askStep(t, x.step(), wants(x, func(h *impl.Hart, m []int64) { h.Regs[5] = y.want }), "op ", y.op, " into Imm")
		x.m[33] = op(y.op, 0, 4, 5)
		askStep(t, x.step(), wants(x, func(h *impl.Hart, m []int64) {}), "op ", y.op, " into 0")
	}
	for _, y := range []struct{ word, reg, want int64 }{
		{op(12, 3, 4, 0), 3, 104}, {op(12, 3, 4, 5), 3, 109}, {op(12, 3, 4, 32767), 3, 32871}, {op(12, 3, 4, 32768), 3, 4294934632}, {op(12, 3, 4, 65535), 3, 103}, {op(12, 3, 0, 65535), 3, top},
		{op(12, 4, 4, 65535), 4, 103}, {op(12, 0, 4, 1), 0, 0}, {op(12, 15, 1, 65536-102), 15, top}, {op(13, 3, 0, 0), 3, 0}, {op(13, 3, 0, 1), 3, 65536}, {op(13, 3, 0, 32768), 3, half},
		{op(13, 3, 0, 65535), 3, 4294901760}, {op(13, 0, 0, 65535), 0, 0}, {op(13, 15, 0, 2), 15, 131072},
	} {
		x := counted(y.word)
		askStep(t, x.step(), wants(x, func(h *impl.Hart, m []int64) { h.Regs[y.reg] = y.want }), "the word ", y.word)
	}
}

// TestLoadsAndStoresByHand is of those that are done, where pages lead to themselves and where they lead aside.
func TestLoadsAndStoresByHand(t *testing.T) {
	const top = impl.WordTop
	for _, y := range []struct{ at, imm, place int64 }{{0, 0, 0}, {0, 55, 55}, {20, 5, 25}, {20, 65516, 0}, {55, 0, 55}, {56, 65535, 55}, {top, 1, 0}, {top, 40, 39}, {0, 33, 33}, {32768, 32768, 0}} {
		for _, move := range []int64{0, 3} {
			x := counted(op(14, 3, 4, y.imm))
			x.h.Regs[4] = y.at
			for k := range x.list {
				x.list[k] = entry((int64(k)+move)%8, 7)
			}
			real := (y.place + move*8) % 64
			x.m[(33+move*8)%64] = op(14, 3, 4, y.imm)
			askStep(t, x.step(), wants(x, func(h *impl.Hart, m []int64) { h.Regs[3] = m[real] }), "load at ", y.at, " and ", y.imm)
			x.m[(33+move*8)%64] = op(14, 4, 4, y.imm)
			askStep(t, x.step(), wants(x, func(h *impl.Hart, m []int64) { h.Regs[4] = m[real] }), "load into A at ", y.at, " and ", y.imm)
			x.m[(33+move*8)%64] = op(14, 0, 4, y.imm)
			askStep(t, x.step(), wants(x, func(h *impl.Hart, m []int64) {}), "load into 0 at ", y.at, " and ", y.imm)
			for _, w := range []int64{0, 77, top} {
				x.h.Regs[3] = w
				x.m[(33+move*8)%64] = op(15, 3, 4, y.imm)
				askStep(t, x.step(), wants(x, func(h *impl.Hart, m []int64) { m[real] = w }), "store of ", w, " at ", y.at, " and ", y.imm)
			}
			x.m[(33+move*8)%64] = op(15, 0, 4, y.imm)
			askStep(t, x.step(), wants(x, func(h *impl.Hart, m []int64) { m[real] = 0 }), "store of the register 0 at ", y.at, " and ", y.imm)
			x.m[(33+move*8)%64] = op(15, 4, 4, y.imm)
			askStep(t, x.step(), wants(x, func(h *impl.Hart, m []int64) { m[real] = y.at }), "store of A at ", y.at, " and ", y.imm)
		}
	}
}

// trappedAt33 is what a trap leaves of a counted machine at the place 33.
func trappedAt33(x seen, cause, tval int64) impl.StepResult {
	x = x.clone()
	status := []int64{0, 2, 0, 2}[x.h.Csr[0]]
	x.h.Csr[0], x.h.Csr[2], x.h.Csr[3], x.h.Csr[4] = status, 33, cause, tval
	x.h.Pc, x.h.Waiting = 201, false
	return impl.StepResult{Cause: cause, Ring: -1, Hart: x.h, Memory: x.m}
}

// TestWhatCannotBeReached asks for each kind by each sum of kinds, and for places that are none, with the cause and the word that tell of it.
func TestWhatCannotBeReached(t *testing.T) {
	const top = impl.WordTop
	for kinds := range int64(8) {
		for _, status := range []int64{0, 1, 2, 3} {
			x := counted(op(14, 3, 4, 65535))
			x.h.Csr[0] = status
			x.list[2] = entry(5, kinds)
			x.h.Regs[4] = 18
			want := trappedAt33(x, 3, 17)
			if kinds%2 == 1 {
				want = wants(x, func(h *impl.Hart, m []int64) { h.Regs[3] = m[41] })
			}
			askStep(t, x.step(), want, "load where kinds are ", kinds)
			x.m[33] = op(15, 3, 4, 65535)
			want = trappedAt33(x, 4, 17)
			if kinds/2%2 == 1 {
				want = wants(x, func(h *impl.Hart, m []int64) { m[41] = 103 })
			}
			askStep(t, x.step(), want, "store where kinds are ", kinds)
			x.m[33] = op(1, 3, 4, 4)
			x.list[4] = entry(4, kinds)
			want = trappedAt33(x, 2, 33)
			if kinds/4 == 1 {
				want = wants(x, func(h *impl.Hart, m []int64) { h.Regs[3] = 36 })
			}
			askStep(t, x.step(), want, "run where kinds are ", kinds)
		}
	}
	for _, y := range []struct{ at, imm, place int64 }{{16, 0, 16}, {0, 16, 16}, {24, 65535, 23}, {64, 0, 64}, {60, 4, 64}, {0, 65535, top}, {1, 65534, top}, {top, 0, top}, {top, 65535, top - 1}, {1 << 31, 32768, 1<<31 - 32768}, {1000, 0, 1000}, {192, 0, 192}} {
		x := counted(op(14, 3, 4, y.imm))
		x.list[2] = entry(-1, 0)
		x.h.Regs[4] = y.at
		askStep(t, x.step(), trappedAt33(x, 3, y.place), "load at ", y.at, " and ", y.imm)
		x.m[33] = op(14, 0, 4, y.imm)
		askStep(t, x.step(), trappedAt33(x, 3, y.place), "load into 0 at ", y.at, " and ", y.imm)
		x.m[33] = op(15, 3, 4, y.imm)
		askStep(t, x.step(), trappedAt33(x, 4, y.place), "store at ", y.at, " and ", y.imm)
	}
}

// TestWhatCannotBeRun asks for the device page, places that are none, and words that are no instruction.
func TestWhatCannotBeRun(t *testing.T) {
	for _, pc := range []int64{56, 57, 63, 64, 71, 1000, 1 << 31, impl.WordTop - 1, impl.WordTop} {
		x := counted(0)
		x.h.Pc = pc
		for k := range x.m {
			x.m[k] = op(26, 0, 0, 0)
		}
		want := trapsIn(x, 2, pc)
		if want.Hart.Csr[2] != pc || want.Hart.Csr[4] != pc || want.Hart.Pc != 201 {
			t.Fatalf("the trap of %d: %v", pc, want)
		}
		askStep(t, x.step(), want, "StepHart at ", pc)
	}
	for _, word := range []int64{0, 1, 16777215, op(1, 0, 0, 16), op(13, 0, 1, 0), op(21, 0, 0, 11), op(21, 1, 1, 0), op(22, 1, 0, 0), op(23, 0, 0, 1), op(26, 1, 0, 0), op(27, 0, 0, 0), impl.WordTop} {
		x := counted(word)
		askStep(t, x.step(), trappedAt33(x, 1, word), "StepHart of the word ", word)
		if got := x.next(); got != (impl.InsResult{Code: impl.ErrText}) {
			t.Errorf("NextIns of the word %d: %v", word, got)
		}
	}
}

// TestDevicePageInSteps asks each place of it by loads and stores, whatever list says.
func TestDevicePageInSteps(t *testing.T) {
	for _, page := range []impl.Page{entry(-1, 0), entry(7, 7), entry(4, 4)} {
		for k := range int64(8) {
			for _, in := range []int{0, 1, 5, 40} {
				for _, out := range []int{0, 1, 39, 40} {
					for d := range int64(2) {
						x := counted(op(14, d*3, 0, 56+k))
						x.h.In, x.h.Out = queueOf(in, 501), queueOf(out, 601)
						x.list[7] = page
						askDeviceStep(t, x, k, d*3, in, out)
					}
				}
			}
		}
	}
}

// askDeviceStep is of a machine whose instruction is a load from the place k of the device page into d.
func askDeviceStep(t *testing.T, x seen, k, d int64, in, out int) {
	t.Helper()
	read := []int64{0, 501, 700, 209, 5, 0, int64(in), 0}[k]
	if in == 0 {
		read = []int64{0, 0, 700, 209, 1, 0, 0, 0}[k]
	}
	askStep(t, x.step(), wants(x, func(h *impl.Hart, m []int64) {
		if h.Regs[d] = read; d == 0 {
			h.Regs[0] = 0
		}
		if k == 1 && in > 0 {
			h.In = h.In[1:]
		}
	}), "load of ", 56+k, " into ", d, " with ", in, " words In")
	for _, rung := range []bool{false, true} {
		x.h.Rung = rung
		x.m[33] = op(15, d, 2, 65536-102+56+k)
		want := wants(x, func(h *impl.Hart, m []int64) {
			switch {
			case k == 0 && out < 40:
				h.Out = append(h.Out, h.Regs[d])
			case k == 3:
				h.Csr[9] = h.Regs[d]
			case k == 4:
				h.Rung = rung && h.Regs[d]%4 < 2
			}
		})
		if k == 5 {
			want.Ring = x.h.Regs[d]
		}
		askStep(t, x.step(), want, "store of ", d, " at ", 56+k, " with ", out, " words Out")
	}
}

func TestBranchesByHand(t *testing.T) {
	const top, half = impl.WordTop, 1 << 31
	table := []struct {
		d, a         int64
		eq, ne, less bool
	}{
		{0, 0, true, false, false}, {1, 1, true, false, false}, {0, 1, false, true, true}, {1, 0, false, true, false}, {top, top, true, false, false}, {half, half, true, false, false},
		{top, 0, false, true, true}, {0, top, false, true, false}, {half, half - 1, false, true, true}, {half - 1, half, false, true, false}, {half, top, false, true, true}, {top, half, false, true, false},
		{half, 0, false, true, true}, {0, half, false, true, false}, {half + 1, half, false, true, false}, {half, half + 1, false, true, true},
	}
	for _, y := range table {
		for _, z := range []struct{ imm, pc int64 }{{0, 33}, {1, 34}, {2, 35}, {7, 40}, {32767, 32800}, {32768, 4294934561}, {65535, 32}, {65503, 0}, {65502, top}} {
			for k, taken := range []bool{y.eq, y.ne, y.less} {
				x := counted(op(16+int64(k), 3, 4, z.imm))
				x.h.Regs[3], x.h.Regs[4] = y.d, y.a
				pc := int64(34)
				if taken {
					pc = z.pc
				}
				askStep(t, x.step(), wants(x, func(h *impl.Hart, m []int64) { h.Pc = pc }), "op ", 16+k, " of ", y.d, " and ", y.a, " by ", z.imm)
				x.m[33] = op(16+int64(k), 4, 4, z.imm)
				if pc = 34; k == 0 {
					pc = z.pc
				}
				askStep(t, x.step(), wants(x, func(h *impl.Hart, m []int64) { h.Pc = pc }), "op ", 16+k, " of ", y.a, " and itself")
			}
		}
	}
}

func TestJumpsByHand(t *testing.T) {
	const top = impl.WordTop
	for _, z := range []struct{ imm, near, far int64 }{{0, 33, 104}, {1, 34, 105}, {7, 40, 111}, {32767, 32800, 32871}, {32768, 4294934561, 4294934632}, {65535, 32, 103}, {65503, 0, 71}, {65502, top, 70}} {
		for _, d := range []int64{0, 3, 4, 15} {
			x := counted(op(19, d, 0, z.imm))
			asks := func(pc int64) impl.StepResult {
				return wants(x, func(h *impl.Hart, m []int64) {
					if h.Pc = pc; d != 0 {
						h.Regs[d] = 34
					}
				})
			}
			askStep(t, x.step(), asks(z.near), "jump by ", z.imm, " with ", d)
			x.m[33] = op(20, d, 4, z.imm)
			askStep(t, x.step(), asks(z.far), "jumpr by ", z.imm, " with ", d)
			x.m[33] = op(20, d, 0, z.imm)
			askStep(t, x.step(), asks(sumIn(z.far, -104)), "jumpr of 0 by ", z.imm, " with ", d)
		}
	}
}

func TestGetAndSetByHand(t *testing.T) {
	for k, want := range []int64{1, 201, 202, 203, 204, 205, 5, 0, 700, 209, 0} {
		for _, d := range []int64{0, 3, 15} {
			x := counted(op(21, d, 0, int64(k)))
			askStep(t, x.step(), wants(x, func(h *impl.Hart, m []int64) {
				if d != 0 {
					h.Regs[d] = want
				}
			}), "get ", k, " into ", d)
		}
	}
	for k := range int64(11) {
		for _, w := range []int64{0, 1, 2, 3, 4, 5, 7, 8, 9, 15, 16, 1 << 31, impl.WordTop - 1, impl.WordTop} {
			x := counted(op(22, 0, 4, k))
			x.h.Regs[4], x.h.Rung = w, true
			askStep(t, x.step(), wants(x, func(h *impl.Hart, m []int64) {
				switch k {
				case 0:
					h.Csr[0] = w % 4
				case 6:
					h.Rung = w%4 < 2
				case 7:
					h.Csr[7] = w % 8
				case 8:
				case 10:
					if h.Csr[10] = w; w > 8 {
						h.Csr[10] = 0
					}
				default:
					h.Csr[k] = w
				}
			}), "set ", k, " to ", w)
		}
	}
}

func TestCallBackWaitAndHaltByHand(t *testing.T) {
	for status := range int64(4) {
		x := counted(op(23, 0, 0, 0))
		x.h.Csr[0] = status
		askStep(t, x.step(), trappedAt33(x, 5, 0), "call with status ", status)
		x.m[33] = op(24, 0, 0, 0)
		askStep(t, x.step(), wants(x, func(h *impl.Hart, m []int64) { h.Pc, h.Csr[0] = 202, []int64{2, 2, 3, 3}[status] }), "back with status ", status)
		x.m[33] = op(25, 0, 0, 0)
		askStep(t, x.step(), wants(x, func(h *impl.Hart, m []int64) { h.Waiting = true }), "wait with status ", status)
		x.m[33] = op(26, 0, 0, 0)
		askStep(t, x.step(), wants(x, func(h *impl.Hart, m []int64) { h.Pc, h.Halted = 33, true }), "halt with status ", status)
	}
	// A wait is done, and the next step waits, for what was pending then, too, if the mask has it not.
	x := counted(op(25, 0, 0, 0))
	once, twice := x.step(), x.many(2)
	askStep(t, twice, once, "a second step of what waits")
}

// TestWhatComesFirst asks for halted, due and waiting machines beside each other, at places that can be run and that cannot.
func TestWhatComesFirst(t *testing.T) {
	for _, pc := range []int64{33, 34, 56, 64, impl.WordTop} {
		for flags := range 32 {
			for mask := range int64(8) {
				for status := range int64(4) {
					x := counted(op(12, 3, 0, 9))
					x.m[34] = 0
					x.h.Pc, x.h.Csr[0], x.h.Csr[7] = pc, status, mask
					x.h.Halted, x.h.Waiting, x.h.Rung = flags&1 != 0, flags&2 != 0, flags&4 != 0
					if flags&8 == 0 {
						x.h.In = nil
					}
					if flags&16 == 0 {
						x.h.Csr[9] = 701
					}
					askFirst(t, x, int64(flags>>4+flags>>2&1*2+flags>>3&1*4))
				}
			}
		}
	}
}

// askFirst is of a counted machine with an addi at 33 and no instruction at 34; pending is what pends.
func askFirst(t *testing.T, x seen, pending int64) {
	t.Helper()
	askInt(t, impl.PendingOf(x.h), impl.IntResult{Value: pending}, "PendingOf ", x.h)
	wanted := pending & x.h.Csr[7]
	got := x.step()
	told := fmt.Sprint("StepHart of ", x.h, " with ", pending, " pending")
	rests := impl.StepResult{Cause: -1, Ring: -1, Hart: x.h, Memory: x.m}
	trap := func(cause, tval int64) {
		t.Helper()
		want := trappedAt33(x, cause, tval)
		want.Hart.Csr[2] = x.h.Pc
		askStep(t, got, want, told)
	}
	switch {
	case x.h.Halted:
		askStep(t, got, rests, told)
	case x.h.Csr[0]%2 == 1 && wanted != 0:
		trap(16+map[int64]int64{1: 0, 3: 0, 5: 0, 7: 0, 2: 1, 6: 1, 4: 2}[wanted], 0)
	case x.h.Waiting && wanted == 0:
		askStep(t, got, rests, told)
	case x.h.Pc == 33:
		askStep(t, got, wants(x, func(h *impl.Hart, m []int64) { h.Regs[3], h.Waiting = 9, false }), told)
	case x.h.Pc == 34:
		trap(1, 0)
	default:
		trap(2, x.h.Pc)
	}
}

// TestFirstByHand names the answers of some machines, one by one.
func TestFirstByHand(t *testing.T) {
	halted := plain()
	halted.h.Halted, halted.h.Csr[0], halted.h.Csr[7], halted.h.Rung = true, 1, 7, true
	askStep(t, halted.step(), restsIn(halted), "halted beside due")
	due := plain(op(12, 1, 0, 5))
	due.h.Csr[0], due.h.Csr[7], due.h.Rung, due.h.Waiting, due.h.Csr[1] = 1, 6, true, true, 40
	got := due.step()
	if got.Cause != 17 || got.Hart.Pc != 40 || got.Hart.Waiting || got.Hart.Done != 0 || got.Hart.Csr[0] != 2 || got.Hart.Csr[3] != 17 || got.Hart.Csr[4] != 0 || got.Hart.Regs[1] != 0 || !got.Hart.Rung {
		t.Errorf("due beside waiting: %v", got)
	}
	due.h.Pc = 60
	if got := due.step(); got.Cause != 17 || got.Hart.Csr[2] != 60 || got.Hart.Csr[4] != 0 {
		t.Errorf("due where nothing can be run: %v", got)
	}
	waits := plain(op(12, 1, 0, 5))
	waits.h.Waiting, waits.h.Csr[7], waits.h.Rung = true, 5, true
	askStep(t, waits.step(), restsIn(waits), "waiting for what the mask has not")
	waits.h.Csr[7] = 2
	if got := waits.step(); got.Cause != -1 || got.Hart.Pc != 1 || got.Hart.Done != 1 || got.Hart.Waiting || got.Hart.Regs[1] != 5 {
		t.Errorf("waiting for what came, with status 0: %v", got)
	}
	waits.h.Csr[0] = 1
	if got := waits.step(); got.Cause != 17 || got.Hart.Pc != 0 || got.Hart.Done != 0 || got.Hart.Waiting || got.Hart.Regs[1] != 0 {
		t.Errorf("waiting for what came, with status 1: %v", got)
	}
	ended := plain()
	ended.h.Waiting, ended.h.Csr[7], ended.h.Rung, ended.h.Pc = true, 2, true, 63
	if got := ended.step(); got.Cause != 2 || got.Hart.Waiting || got.Hart.Csr[4] != 63 {
		t.Errorf("waiting for what came, where nothing can be run: %v", got)
	}
	// Going back from a trap does not end a wait that is not there, and a wait behind a wait is one.
	again := plain(op(25, 0, 0, 0), op(25, 0, 0, 0))
	again.h.Csr[7], again.h.Rung = 2, true
	if got := again.many(2); got.Hart.Done != 2 || !got.Hart.Waiting || got.Hart.Pc != 2 {
		t.Errorf("two waits with a ring: %v", got)
	}
}

// TestRunAtTheLastWord asks that Pc goes round: nothing is run at the last word, but one jumps there and behind it.
func TestRunAtTheLastWord(t *testing.T) {
	x := plain(op(19, 1, 0, 65535))
	got := x.step()
	if got.Hart.Pc != impl.WordTop || got.Hart.Regs[1] != 1 || got.Cause != -1 {
		t.Fatalf("a jump to the last word: %v", got)
	}
	last := x.behind(got).step()
	askStep(t, last, trapsIn(x.behind(got), 2, impl.WordTop), "a step at the last word")
	if last.Hart.Csr[2] != impl.WordTop || last.Hart.Csr[4] != impl.WordTop {
		t.Errorf("a step at the last word: %v", last)
	}
	back := x.behind(got)
	back.h.Pc = impl.WordTop
	askInt(t, back.place(impl.WordTop, 4), impl.IntResult{Code: impl.ErrRun}, "PlaceOf the last word")
}

// TestDone asks that what traps or rests is not done, all else once, up to the bound.
func TestDone(t *testing.T) {
	for _, done := range []int64{0, 1, 700, 1e9 - 2, 1e9 - 1, 1e9} {
		x := plain(op(12, 1, 1, 1), op(21, 2, 0, 8), op(14, 3, 0, 58), op(23, 0, 0, 0))
		x.h.Done = done
		first := x.many(1)
		after := min(done+1, 1e9)
		if first.Hart.Done != after || first.Hart.Regs[1] != 1 || first.Cause != -1 {
			t.Fatalf("a step from %d: %v", done, first)
		}
		// An instruction that asks the time is told how many were done ahead of it.
		third := x.many(3)
		if third.Hart.Regs[2] != after || third.Hart.Regs[3] != min(after+1, 1e9) || third.Hart.Done != min(after+2, 1e9) {
			t.Fatalf("steps that ask the time from %d: %v", done, third)
		}
		if fourth := x.many(4); fourth.Hart.Done != third.Hart.Done || fourth.Cause != 5 || impl.HartFault(fourth.Hart) != impl.OK {
			t.Fatalf("a call from %d: %v", done, fourth)
		}
	}
}

// TestAlarmReachedByAStep asks that an alarm is reached once the instruction is done, and traps ahead of the next one.
func TestAlarmReachedByAStep(t *testing.T) {
	x := plain(op(21, 1, 0, 6), op(21, 2, 0, 6), op(21, 3, 0, 6))
	x.h.Done, x.h.Csr[9] = 9, 11
	got := x.many(3)
	if got.Hart.Regs[1] != 0 || got.Hart.Regs[2] != 0 || got.Hart.Regs[3] != 1 || got.Cause != -1 {
		t.Errorf("an alarm in steps: %v", got)
	}
	x.h.Csr[0], x.h.Csr[7], x.h.Csr[1] = 1, 1, 50
	if two := x.many(2); two.Cause != -1 || two.Hart.Pc != 2 {
		t.Errorf("two steps ahead of an alarm: %v", two)
	}
	if three := x.many(3); three.Cause != 16 || three.Hart.Pc != 50 || three.Hart.Csr[2] != 2 || three.Hart.Done != 11 {
		t.Errorf("an alarm that traps: %v", three)
	}
	// An alarm that an instruction sets is asked behind it, with the instruction itself counted.
	sets := plain(op(22, 0, 4, 9), op(12, 1, 0, 1))
	sets.h.Done, sets.h.Regs[4], sets.h.Csr[0], sets.h.Csr[7] = 9, 10, 1, 1
	if got := sets.step(); got.Cause != -1 || got.Hart.Done != 10 || impl.DueOf(got.Hart).Code != impl.OK {
		t.Errorf("an alarm that is set: %v", got)
	}
	if got := sets.many(2); got.Cause != 16 || got.Hart.Done != 10 || got.Hart.Regs[1] != 0 {
		t.Errorf("an alarm that is set, and traps: %v", got)
	}
}

// TestTablesInSteps asks that the own view leads runs, loads and stores, and that a table that cannot be read traps each.
func TestTablesInSteps(t *testing.T) {
	x := plain()
	copy(x.m[16:], []int64{31, 25, 26, 28, 7, 59, 15, 15}) // table 3: page 0 to 3 for all, 1 to 3 to read, 2 to 3 to write, 3 to 3 to run, 4 to 0, 5 to the device page, 6 and 7 to 1
	copy(x.m[24:], []int64{op(14, 1, 0, 10), op(15, 1, 0, 20), op(15, 1, 0, 40), op(14, 2, 0, 41), op(15, 1, 0, 57), op(22, 0, 0, 10)})
	x.h.Csr[10], x.h.In = 3, []int64{88}
	got := x.many(6)
	want := x.clone()
	// The store at 20 lands on the fifth instruction: what is run there then is a second store at 40.
	want.m[28] = x.m[26]
	want.h.Pc, want.h.Done, want.h.In, want.h.Out = 6, 6, nil, []int64{x.m[26], x.m[26]}
	want.h.Regs[1], want.h.Regs[2], want.h.Csr[10] = x.m[26], 88, 0
	askStep(t, got, impl.StepResult{Cause: -1, Ring: -1, Hart: want.h, Memory: want.m}, "steps by a table")
	for _, y := range []struct{ pc, word, cause, tval int64 }{{3, op(14, 1, 0, 16), 3, 16}, {3, op(14, 1, 0, 24), 3, 24}, {3, op(15, 1, 0, 8), 4, 8}, {3, op(15, 1, 0, 31), 4, 31}, {8, 0, 2, 8}, {16, 0, 2, 16}, {40, 0, 2, 40}, {64, 0, 2, 64}} {
		z := x.clone()
		z.h.Pc, z.m[24+y.pc%8] = y.pc, y.word
		askStep(t, z.step(), trapsIn(z, y.cause, y.tval), "a step at ", y.pc, " by a table")
	}
	run := x.clone()
	run.h.Pc, run.m[24+1] = 25, op(12, 5, 0, 6)
	if got := run.step(); got.Hart.Regs[5] != 6 || got.Hart.Pc != 26 {
		t.Errorf("a step on a page to run alone: %v", got)
	}
	for _, page := range []impl.Page{entry(-1, 0), entry(2, 0), entry(2, 6)} {
		z := x.clone()
		z.list[2] = page
		askStep(t, z.step(), trapsIn(z, 2, 0), "a step by a table that cannot be read")
	}
	x.h.Csr[10] = 8
	askStep(t, x.step(), trapsIn(x, 2, 0), "a step by a table on the device page")
}

// TestTableLostInAStep asks for loads and stores whose table cannot be read though they could be run: a set changes the next step alone.
func TestTableLostInAStep(t *testing.T) {
	x := plain(op(22, 0, 4, 10), op(14, 1, 0, 0))
	for _, table := range []int64{1, 8, 9, impl.WordTop} {
		x.h.Regs[4] = table
		got := x.step()
		want := table
		if table > 8 {
			want = 0
		}
		if got.Cause != -1 || got.Hart.Pc != 1 || got.Hart.Csr[10] != want {
			t.Fatalf("a set of the table to %d: %v", table, got)
		}
	}
	x.h.Regs[4] = 8
	if two := x.many(2); two.Cause != 2 || two.Hart.Csr[4] != 1 || two.Hart.Csr[2] != 1 {
		t.Errorf("the step behind the set: %v", two)
	}
}

// TestStepOnItsOwnCode asks that what a store writes is what is run then.
func TestStepOnItsOwnCode(t *testing.T) {
	x := plain(op(14, 1, 0, 10), op(15, 1, 0, 2), 0)
	x.m[10] = op(12, 7, 0, 9)
	got := x.many(3)
	if got.Cause != -1 || got.Hart.Regs[7] != 9 || got.Hart.Done != 3 || got.Memory[2] != x.m[10] || x.m[2] != 0 {
		t.Errorf("steps on their own code: %v", got)
	}
	// Two pages that lead to one share its words.
	x.list[1] = entry(0, 3)
	x.m[1] = op(15, 1, 0, 10)
	x.m[0] = op(13, 1, 0, 0x0c70)
	if got := x.many(2); got.Memory[2] != 0x0c700000 || got.Memory[10] != x.m[10] {
		t.Errorf("a store by another page: %v", got)
	}
}

func TestSmallestAndGreatestMemories(t *testing.T) {
	for _, size := range []int{8, 16, 184, 192} {
		last := int64(size/8 - 1)
		x := seen{newHartIn(), slices.Repeat([]impl.Page{entry(last, 7)}, 8), make([]int64, size)}
		copy(x.m[size-8:], []int64{op(12, 1, 0, 77), op(15, 1, 0, 55), op(14, 2, 0, 47), op(26, 0, 0, 0)})
		got := x.many(500)
		want := x.clone()
		want.h.Regs[1], want.h.Regs[2], want.h.Pc, want.h.Done, want.h.Halted = 77, 77, 3, 4, true
		want.m[size-1] = 77
		askStep(t, got, impl.StepResult{Cause: -1, Ring: -1, Hart: want.h, Memory: want.m}, "steps on the last page of ", size)
		// One page further there is none.
		for at := range 8 {
			for _, kinds := range []int64{0, 1, 7} {
				beyond := x.clone()
				beyond.list[at] = entry(last+1, kinds)
				askSeenCode(t, beyond, map[bool]int64{true: impl.ErrRange, false: impl.ErrForm}[last == 23], "a page beyond ", size)
			}
		}
	}
}

// askSeenCode asks all functions for a code, with numbers that are right and such as are not.
func askSeenCode(t *testing.T, x seen, code int64, what ...any) {
	t.Helper()
	told := fmt.Sprint(what...)
	askSpace(t, x.space(), impl.PagesResult{Code: code}, "SpaceOf: ", told)
	for _, kind := range []int64{1, 2, 4, 0, 3} {
		for _, at := range []int64{0, 56, -1} {
			askInt(t, x.place(at, kind), impl.IntResult{Code: code}, "PlaceOf: ", told)
		}
	}
	askStep(t, x.step(), impl.StepResult{Code: code}, "StepHart: ", told)
	for _, n := range []int64{-1, 0, 1, 500, 501} {
		askStep(t, x.many(n), impl.StepResult{Code: code}, "StepMany: ", told)
	}
	if got := x.next(); got != (impl.InsResult{Code: code}) {
		t.Fatalf("NextIns: %s: %v, not %d", told, got, code)
	}
}

func TestStepFaults(t *testing.T) {
	for k, x := range goodSeen() {
		if fault := seenFaultIn(x); fault != 0 {
			t.Fatalf("the thing %d has the fault %d", k, fault)
		}
	}
	good := plain(op(26, 0, 0, 0))
	for _, bad := range someBadHarts() {
		askSeenCode(t, seen{bad.h, good.list, good.m}, bad.fault, "with ", bad.h)
	}
	for _, bad := range someBadPages() {
		askSeenCode(t, seen{good.h, bad.list, good.m}, bad.fault, "with ", bad.list)
	}
	for _, bad := range badMemories() {
		askSeenCode(t, seen{good.h, blankPages(8), bad.m}, impl.ErrForm, "with ", bad.m)
		askSeenCode(t, seen{good.h, good.list, bad.m}, impl.ErrForm, "with ", bad.m)
	}
	askSeenCode(t, seen{}, impl.ErrForm, "with nothing")
	askSeenCode(t, seen{good.h, nil, nil}, impl.ErrForm, "with a machine alone")
	askSeenCode(t, seen{good.h, good.list, nil}, impl.ErrForm, "without a memory")
}

// TestStepFaultsOfTwo asks that a machine's is told ahead of a list's, and that ahead of a memory's.
func TestStepFaultsOfTwo(t *testing.T) {
	bad := plain()
	bad.h.Done = -1
	for _, x := range someBadPages() {
		askSeenCode(t, seen{bad.h, x.list, nil}, impl.ErrRange, "with two faults")
		for _, m := range [][]int64{nil, countedMemory(9), withWordAt(8, 3, -1), withWordAt(192, 191, impl.WordTop+1)} {
			askSeenCode(t, seen{plain().h, x.list, m}, x.fault, "with a list ", x.list, " and a memory of ", len(m))
		}
	}
	for _, y := range someBadHarts() {
		askSeenCode(t, seen{y.h, nil, nil}, y.fault, "with two faults")
		askSeenCode(t, seen{y.h, blankPages(8, entry(24, 1)), countedMemory(8)}, y.fault, "with two faults")
		askSeenCode(t, seen{y.h, blankPages(8, entry(1, 1)), countedMemory(8)}, y.fault, "with two faults")
	}
	// A list with a fault of its own behind a page that leads beyond the memory.
	askSeenCode(t, seen{plain().h, blankPages(8, entry(9, 7), entry(-1, 1)), make([]int64, 64)}, impl.ErrForm, "beyond, and not right")
	askSeenCode(t, seen{plain().h, blankPages(8, entry(9, 7), entry(0, 8)), make([]int64, 64)}, impl.ErrRange, "beyond, and out of range")
	askSeenCode(t, seen{plain().h, blankPages(8, entry(8, 0)), make([]int64, 64)}, impl.ErrForm, "beyond for no kind")
	askSeenCode(t, seen{plain().h, blankPages(8, entry(7, 7), entry(23, 7)), withWordAt(64, 0, -1)}, impl.ErrForm, "beyond, and no word")
}

// TestNothingBesideACodeOfAStep asks the general rule of Cause and Ring, too: the chapter speaks of no answer with a code.
func TestNothingBesideACodeOfAStep(t *testing.T) {
	good, bad := plain(op(15, 0, 0, 61)), plain()
	bad.h.Pc = -1
	for _, got := range []impl.StepResult{bad.step(), bad.many(0), bad.many(2), bad.many(-1), good.many(-1), good.many(501), seen{}.step(), {Code: 1, Hart: seen{}.many(3).Hart, Memory: seen{}.many(3).Memory}} {
		if got.Code == impl.OK || got.Cause != 0 || got.Ring != 0 || !sameHart(got.Hart, impl.Hart{}) || len(got.Memory) != 0 {
			t.Errorf("beside a code: %v", got)
		}
	}
}

func TestStepMany(t *testing.T) {
	for k, x := range goodSeen() {
		for _, n := range []int64{math.MinInt64, -1, 0, 1, 2, 7, 501, 502, 1 << 32, math.MaxInt64} {
			askStep(t, x.many(n), manyStepsIn(x, n), "StepMany ", n, " of ", x)
		}
		if k%20 == 0 {
			for _, n := range []int64{100, 499, 500} {
				askStep(t, x.many(n), manyStepsIn(x, n), "StepMany ", n, " of ", x)
			}
		}
	}
}

// TestManyStepsAreSingleOnes asks by the functions alone, one step at a time, and in two parts.
func TestManyStepsAreSingleOnes(t *testing.T) {
	for _, x := range goodSeen() {
		at, cause, ring := x, int64(-1), int64(-1)
		for n := range int64(30) {
			askStep(t, x.many(n), impl.StepResult{Cause: cause, Ring: ring, Hart: at.h, Memory: at.m}, "StepMany ", n, " of ", x)
			one := at.step()
			if one.Cause != -1 {
				cause = one.Cause
			}
			if one.Ring != -1 {
				ring = one.Ring
			}
			at = at.behind(one)
		}
		rest := x.behind(x.many(13)).many(17)
		if !sameHart(rest.Hart, at.h) || !slices.Equal(rest.Memory, at.m) {
			t.Fatalf("13 steps and 17 are not 30 of %v", x)
		}
	}
}

func TestStepManyByHand(t *testing.T) {
	x := plain(op(12, 1, 1, 1), op(15, 1, 0, 61), op(23, 0, 0, 0), op(0, 0, 0, 0), op(24, 0, 0, 0))
	x.h.Csr[1] = 4 // the vector goes back to where the trap was, over and over
	for _, y := range []struct{ n, cause, ring, done, pc int64 }{{0, -1, -1, 0, 0}, {1, -1, -1, 1, 1}, {2, -1, 1, 2, 2}, {3, 5, 1, 2, 4}, {4, 5, 1, 3, 2}, {5, 5, 1, 3, 4}, {499, 5, 1, 250, 4}, {500, 5, 1, 251, 2}} {
		got := x.many(y.n)
		if got.Code != impl.OK || got.Cause != y.cause || got.Ring != y.ring || got.Hart.Done != y.done || got.Hart.Pc != y.pc || !slices.Equal(got.Memory, x.m) {
			t.Errorf("StepMany %d: %v", y.n, got)
		}
	}
	for _, n := range []int64{math.MinInt64, -1, 501, 502, math.MaxInt64} {
		askStep(t, x.many(n), impl.StepResult{Code: impl.ErrRange}, "StepMany ", n)
	}
	// The last cause and the last ring, wherever they were: a ring with 0 and a cause behind another one.
	y := plain(op(15, 2, 0, 61), op(15, 0, 0, 61), op(14, 1, 0, 64), 0, op(12, 1, 0, 1))
	y.h.Regs[2], y.h.Csr[1] = impl.WordTop, 3
	for n, want := range [][2]int64{{-1, -1}, {-1, impl.WordTop}, {-1, 0}, {3, 0}, {1, 0}, {1, 0}} {
		if got := y.many(int64(n)); got.Cause != want[0] || got.Ring != want[1] {
			t.Errorf("StepMany %d: cause %d, ring %d, not %v", n, got.Cause, got.Ring, want)
		}
	}
	// A ring stays the last one behind writes to the other places of the device page, and behind loads of all.
	for k := range int64(8) {
		z := plain(op(15, 2, 0, 61), op(14, 1, 0, 56+k), op(15, 3, 0, 56+k), op(15, 3, 0, 9), op(26, 0, 0, 0))
		z.h.Regs[2], z.h.Regs[3] = 6, 7
		want := int64(6)
		if k == 5 {
			want = 7
		}
		if got := z.many(10); got.Ring != want || got.Cause != -1 {
			t.Errorf("a ring ahead of a store at %d: %v", 56+k, got)
		}
	}
	// A loop counts as far as 500 steps go.
	loop := plain(op(12, 1, 1, 1), op(19, 0, 0, 65535))
	if got := loop.many(500); got.Hart.Regs[1] != 250 || got.Hart.Pc != 0 || got.Hart.Done != 500 || got.Cause != -1 || got.Ring != -1 {
		t.Errorf("500 steps of a loop: %v", got)
	}
}

// TestNextIns asks by the second reader, and that it tells what the next step does, where it does an instruction at all.
func TestNextIns(t *testing.T) {
	for _, x := range goodSeen() {
		got := x.next()
		if got != nextInsIn(x) {
			t.Fatalf("NextIns of %v: %v, not %v", x, got, nextInsIn(x))
		}
		runs := x.clone()
		runs.h.Halted, runs.h.Waiting, runs.h.Csr[7] = false, false, 0
		step := runs.step()
		switch got.Code {
		case impl.OK:
			askStep(t, step, doneIn(runs.clone(), got.Ins), "StepHart of ", got.Ins, " in ", runs)
		case impl.ErrText:
			if step.Cause != impl.CauseBad {
				t.Fatalf("NextIns tells %v, and the step of %v %v", got, x, step)
			}
		default:
			if step.Cause != impl.CauseRun || step.Hart.Csr[4] != x.h.Pc {
				t.Fatalf("NextIns tells %v, and the step of %v %v", got, x, step)
			}
		}
	}
}

func TestNextInsByHand(t *testing.T) {
	x := plain(op(12, 1, 0, 5), op(26, 0, 0, 0), 0)
	for _, y := range []struct {
		pc, table int64
		want      impl.InsResult
	}{
		{0, 0, impl.InsResult{Ins: impl.Ins{Op: 12, D: 1, Imm: 5}}}, {1, 0, impl.InsResult{Ins: impl.Ins{Op: 26}}}, {2, 0, impl.InsResult{Code: impl.ErrText}},
		{8, 0, impl.InsResult{Code: impl.ErrRun}}, {16, 0, impl.InsResult{Code: impl.ErrRun}}, {55, 0, impl.InsResult{Code: impl.ErrText}}, {56, 0, impl.InsResult{Code: impl.ErrRun}}, {64, 0, impl.InsResult{Code: impl.ErrRun}},
		{impl.WordTop, 0, impl.InsResult{Code: impl.ErrRun}}, {0, 8, impl.InsResult{Code: impl.ErrRead}}, {0, 3, impl.InsResult{Code: impl.ErrRead}}, {64, 3, impl.InsResult{Code: impl.ErrRead}}, {0, 5, impl.InsResult{Code: impl.ErrRun}},
		{0, 6, impl.InsResult{Ins: impl.Ins{Op: 12, D: 1, Imm: 5}}}, {9, 6, impl.InsResult{Ins: impl.Ins{Op: 26}}}, {16, 6, impl.InsResult{Code: impl.ErrRun}},
	} {
		x.list[1], x.list[2] = entry(0, 3), entry(-1, 0)
		x.m[40], x.m[41] = 7, 4
		for flags := range 4 {
			x.h.Pc, x.h.Csr[10] = y.pc, y.table
			// Whether a step does it at all is not asked.
			x.h.Halted, x.h.Waiting = flags&1 != 0, flags&2 != 0
			if got := x.next(); got != y.want {
				t.Errorf("NextIns at %d by table %d: %v, not %v", y.pc, y.table, got, y.want)
			}
		}
	}
}

// TestPromiseOfSteps asks promise 11 by what is left: no fault, one instruction at most, and one word at most turned, on a page that may be written.
func TestPromiseOfSteps(t *testing.T) {
	turned, stores := 0, 0
	for _, x := range goodSeen() {
		for range 12 {
			got := x.step()
			if got.Code != impl.OK || impl.HartFault(got.Hart) != impl.OK || impl.MemoryFault(got.Memory) != impl.OK || len(got.Memory) != len(x.m) {
				t.Fatalf("StepHart of %v: %v", x, got)
			}
			if more := got.Hart.Done - x.h.Done; more < 0 || more > 1 || more == 1 && got.Cause != -1 {
				t.Fatalf("StepHart of %v does %d", x, more)
			}
			many := 0
			for at, w := range x.m {
				if got.Memory[at] == w {
					continue
				}
				many++
				if !slices.ContainsFunc(x.list[:7], func(p impl.Page) bool { return p.To == int64(at/8) && leadsFor(p.Kinds, 2) }) {
					t.Fatalf("StepHart of %v turns the word at %d", x, at)
				}
			}
			if many > 1 {
				t.Fatalf("StepHart of %v turns %d words", x, many)
			}
			if turned += many; got.Cause == impl.CauseStore {
				stores++
			}
			askTrap(t, x, got)
			x = x.behind(got)
		}
	}
	if turned < 20 || stores < 20 {
		t.Errorf("%d words are turned, %d stores trap", turned, stores)
	}
}

// askTrap asks that a trap's cause and word tell why, by the other functions of the layer.
func askTrap(t *testing.T, x seen, got impl.StepResult) {
	t.Helper()
	if got.Cause == -1 {
		return
	}
	tval := got.Hart.Csr[4]
	if got.Hart.Csr[3] != got.Cause || got.Hart.Csr[2] != x.h.Pc || got.Hart.Pc != x.h.Csr[1] || !slices.Equal(got.Memory, x.m) || got.Hart.Done != x.h.Done {
		t.Fatalf("the trap of %v: %v", x, got)
	}
	next := x.next()
	switch got.Cause {
	case 1:
		if next.Code != impl.ErrText || impl.DecodeIns(tval).Code != impl.ErrText {
			t.Fatalf("the trap of %v: %v, and next %v", x, got, next)
		}
	case 2:
		if tval != x.h.Pc || x.place(tval, impl.KindRun).Code == impl.OK {
			t.Fatalf("the trap of %v: %v", x, got)
		}
	case 3, 4:
		kind, kindOp := int64(impl.KindRead), int64(impl.OpLoad)
		if got.Cause == 4 {
			kind, kindOp = impl.KindWrite, impl.OpStore
		}
		if next.Ins.Op != kindOp || x.place(tval, kind).Code == impl.OK {
			t.Fatalf("the trap of %v: %v, and next %v", x, got, next)
		}
	case 5:
		if next.Ins.Op != impl.OpCall || tval != 0 {
			t.Fatalf("the trap of %v: %v, and next %v", x, got, next)
		}
	default:
		if due := impl.DueOf(x.h); due.Code != impl.OK || got.Cause != 16+due.Value || tval != 0 {
			t.Fatalf("the trap of %v: %v, and due %v", x, got, due)
		}
	}
}

// TestHandlerOfItsOwn asks that the guest itself goes back from a trap, to where it sets epc.
func TestHandlerOfItsOwn(t *testing.T) {
	// At 0: the vector is 8, call, and then an addi; at 8: get epc, addi 1, set epc, back.
	x := plain(op(12, 1, 0, 8), op(22, 0, 1, 1), op(23, 0, 0, 0), op(12, 2, 0, 6), op(26, 0, 0, 0))
	copy(x.m[8:], []int64{op(21, 3, 0, 2), op(12, 3, 3, 1), op(22, 0, 3, 2), op(24, 0, 0, 0)})
	got := x.many(20)
	if got.Hart.Regs[2] != 6 || got.Hart.Regs[3] != 3 || !got.Hart.Halted || got.Hart.Pc != 4 || got.Hart.Done != 8 || got.Cause != 5 || got.Hart.Csr[3] != 5 {
		t.Errorf("a handler: %v", got)
	}
}

// stepCall is a call of this layer, whatever it answers.
type stepCall struct {
	name string
	do   func(x seen) (impl.StepResult, []impl.Page)
}

func stepCalls() []stepCall {
	list := []stepCall{
		{"SpaceOf", func(x seen) (impl.StepResult, []impl.Page) {
			got := x.space()
			return impl.StepResult{Code: got.Code}, got.Pages
		}},
		{"StepHart", func(x seen) (impl.StepResult, []impl.Page) { return x.step(), nil }},
		{"NextIns", func(x seen) (impl.StepResult, []impl.Page) {
			got := x.next()
			return impl.StepResult{Code: got.Code, Cause: got.Ins.Op, Ring: got.Ins.Imm}, nil
		}},
	}
	for _, n := range []int64{-1, 0, 1, 2, 40} {
		list = append(list, stepCall{fmt.Sprint("StepMany ", n), func(x seen) (impl.StepResult, []impl.Page) { return x.many(n), nil }})
	}
	for _, kind := range []int64{1, 2, 4, 3} {
		list = append(list, stepCall{fmt.Sprint("PlaceOf for ", kind), func(x seen) (impl.StepResult, []impl.Page) {
			got := x.place(20, kind)
			return impl.StepResult{Code: got.Code, Cause: got.Value}, nil
		}})
	}
	return list
}

// roomySeen has room behind each of its lists; whole has what stands there.
func roomySeen(x seen) (roomed, whole seen) {
	roomed.h, whole.h = roomyHart(x.h)
	roomed.list, whole.list = withRoom(x.list, entry(0, 7))
	roomed.m, whole.m = roomy(x.m)
	return roomed, whole
}

func sameSeen(a, b seen) bool {
	return sameHart(a.h, b.h) && slices.Equal(a.list, b.list) && slices.Equal(a.m, b.m)
}

func TestStepCallsChangeNothing(t *testing.T) {
	things := goodSeen()
	good := plain(op(15, 1, 0, 9))
	for _, bad := range someBadHarts() {
		things = append(things, seen{bad.h, good.list, good.m})
	}
	for _, bad := range someBadPages() {
		things = append(things, seen{good.h, bad.list, good.m})
	}
	for _, bad := range badMemories() {
		things = append(things, seen{good.h, good.list, bad.m})
	}
	for _, x := range things {
		given, whole := roomySeen(x)
		before := whole.clone()
		for _, call := range stepCalls() {
			call.do(given)
			if !sameSeen(given, x) || !sameSeen(whole, before) {
				t.Fatalf("%s changes %v", call.name, x)
			}
		}
	}
}

// TestStepAnswersAreNew asks that a write into an answer is seen nowhere else, nor one into an argument in the answer.
func TestStepAnswersAreNew(t *testing.T) {
	things := mixedSeen(80)
	for k := range int64(8) {
		// Loads from the device page and stores to it, which take words from In and put some behind Out.
		x := plain(op(14, 1, 0, 56+k), op(15, 1, 0, 56+k), op(15, 1, 0, 20))
		x.h.In, x.h.Out = queueOf(3, 5), queueOf(4, 9)
		things = append(things, x)
	}
	for _, x := range things {
		for _, call := range stepCalls() {
			askNewStep(t, call, x)
		}
	}
}

func askNewStep(t *testing.T, call stepCall, x seen) {
	t.Helper()
	given, whole := roomySeen(x)
	before := whole.clone()
	first, firstPages := call.do(given)
	second, secondPages := call.do(given)
	want, wantPages := cloneStep(second), slices.Clone(secondPages)
	askApart(t, first.Hart, call.name, " of ", x)
	kept := cloneLists(listsOf(first.Hart))
	turnAll(first.Memory[:cap(first.Memory)])
	turnPages(firstPages[:cap(firstPages)])
	if !sameLists(kept, listsOf(first.Hart)) {
		t.Fatalf("%s: the memory of the answer is shared with its machine", call.name)
	}
	if !sameSeen(given, x) || !sameSeen(whole, before) {
		t.Fatalf("a write into what %s answers is seen in %v", call.name, x)
	}
	ask := func(got impl.StepResult, pages []impl.Page, when string) {
		t.Helper()
		askStep(t, got, want, when, call.name)
		askSpace(t, impl.PagesResult{Pages: pages}, impl.PagesResult{Pages: wantPages}, when, call.name)
	}
	ask(second, secondPages, "behind a write into another answer: ")
	third, thirdPages := call.do(given)
	ask(third, thirdPages, "asked again: ")
	for _, list := range append(listsOf(whole.h), whole.m) {
		turnAll(list)
	}
	turnPages(whole.list)
	ask(second, secondPages, "behind a write into the arguments: ")
	// The other way round: a write into the machine of an answer is not seen in its memory.
	memory := slices.Clone(third.Memory)
	for _, list := range listsOf(third.Hart) {
		turnAll(list)
	}
	if !slices.Equal(memory, third.Memory) {
		t.Fatalf("%s: the machine of the answer is shared with its memory", call.name)
	}
}

// TestSharedArguments asks of a machine whose lists are pieces of the memory itself.
func TestSharedArguments(t *testing.T) {
	m := make([]int64, 64)
	copy(m, []int64{0, op(14, 1, 0, 57), op(15, 1, 0, 56), op(15, 1, 0, 20), op(26, 0, 0, 0)})
	h := impl.Hart{Regs: m[32:48], Csr: m[48:59], In: m[:5], Out: m[1:4], Pc: 1}
	x := seen{h, itselfPages(), m}
	before := x.clone()
	want := manyStepsIn(before, 4)
	got := x.many(4)
	askStep(t, got, want, "steps of a machine on its memory")
	if !sameSeen(x, before) {
		t.Errorf("steps of a machine on its memory change it")
	}
	turnAll(got.Memory)
	for _, list := range listsOf(got.Hart) {
		turnAll(list)
	}
	if !sameSeen(x, before) {
		t.Errorf("a write into the answer is seen in a machine on its memory")
	}
}

// stepAnswers tells all that is answered of what is seen.
func stepAnswers(x seen, at, kind, n int64) string {
	return fmt.Sprint(x.space(), x.place(at, kind), x.step(), x.many(n), x.next())
}

// TestStepsHangOnTheirArgumentsAlone asks all once more, from the last one on: what was kept from a call would show.
func TestStepsHangOnTheirArgumentsAlone(t *testing.T) {
	things := goodSeen()
	for _, bad := range someBadHarts() {
		things = append(things, seen{bad.h, itselfPages(), make([]int64, 64)})
	}
	ask := func(n int) string {
		return stepAnswers(things[n%len(things)], placeNumbers()[n%60], kindNumbers()[n%11], int64(n%9)-1)
	}
	var said []string
	for n := range 2 * len(things) {
		said = append(said, ask(n))
	}
	for n := len(said) - 1; n >= 0; n-- {
		if got := ask(n); got != said[n] {
			t.Fatalf("first %s, then %s", said[n], got)
		}
	}
}
