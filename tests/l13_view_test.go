package tests

import (
	"fmt"
	"math"
	"slices"
	"strings"
	"testing"

	"loop.example/g00213/impl"
)

func cloneView(v impl.View) impl.View {
	return impl.View{Hart: cloneHart(v.Hart), Own: slices.Clone(v.Own), Gives: slices.Clone(v.Gives)}
}

func sameView(a, b impl.View) bool {
	return sameHart(a.Hart, b.Hart) && slices.Equal(a.Own, b.Own) && slices.Equal(a.Gives, b.Gives)
}

func askView(t *testing.T, got, want impl.ViewResult, what ...any) {
	t.Helper()
	if got.Code != want.Code || !sameView(got.View, want.View) {
		t.Fatalf("%s:\n%v, not\n%v", fmt.Sprint(what...), got, want)
	}
}

// The functions that end in In go through what the document says, word by word.
func viewOfIn(x impl.Host, guest int64) impl.ViewResult {
	if fault := hostFaultIn(x); fault != 0 {
		return impl.ViewResult{Code: fault}
	}
	if !guestIn(x.Policy, guest) {
		return impl.ViewResult{Code: impl.ErrNone}
	}
	v := impl.View{Hart: cloneHart(x.Harts[guest]), Own: wordsOnIn(x.Memory, x.Policy.Own[guest]...).List}
	for _, l := range x.Policy.Lanes {
		if l.From == guest {
			v.Gives = append(v.Gives, wordsOnIn(x.Memory, l.Page).List...)
		}
	}
	return impl.ViewResult{View: v}
}

func soloViewIn(p impl.Policy, x impl.Solo, guest int64) impl.ViewResult {
	if fault := policyFaultIn(p); fault != 0 {
		return impl.ViewResult{Code: fault}
	}
	if !guestIn(p, guest) {
		return impl.ViewResult{Code: impl.ErrNone}
	}
	if fault := soloFaultIn(x); fault != 0 {
		return impl.ViewResult{Code: fault}
	}
	v := impl.View{Hart: cloneHart(x.Hart), Own: slices.Clone(x.Memory[:8*len(p.Own[guest])])}
	for _, l := range p.Lanes {
		if l.From == guest {
			v.Gives = append(v.Gives, x.Memory[8*l.AtFrom:8*l.AtFrom+8]...)
		}
	}
	return impl.ViewResult{View: v}
}

func viewTextIn(v impl.View) impl.TextResult {
	if fault := hartFaultIn(v.Hart); fault != 0 {
		return impl.TextResult{Code: fault}
	}
	for _, w := range slices.Concat(v.Own, v.Gives) {
		if !within(w, 4294967295) {
			return impl.TextResult{Code: impl.ErrRange}
		}
	}
	text := soloTextIn(impl.Solo{Hart: v.Hart, Pages: blankPages(8), Memory: make([]int64, 64)}).Text
	return impl.TextResult{Text: text + wordsLineIn("own", v.Own) + wordsLineIn("gives", v.Gives)}
}

func wordsLineIn(name string, words []int64) string {
	line := []string{name}
	for _, w := range words {
		line = append(line, fmt.Sprint(w))
	}
	return strings.Join(line, " ") + "\n"
}

func memoryFaultIn(m []int64) int64 {
	if len(m) == 0 || len(m) > 192 || len(m)%8 > 0 {
		return impl.ErrForm
	}
	if slices.Min(m) < 0 || slices.Max(m) > 4294967295 {
		return impl.ErrRange
	}
	return 0
}

func changedPagesIn(a, b []int64) impl.IntsResult {
	if fault := memoryFaultIn(a); fault != 0 {
		return impl.IntsResult{Code: fault}
	}
	if fault := memoryFaultIn(b); fault != 0 {
		return impl.IntsResult{Code: fault}
	}
	if len(a) != len(b) {
		return impl.IntsResult{Code: impl.ErrForm}
	}
	var list []int64
	for at := range a {
		if page := int64(at / 8); a[at] != b[at] && !slices.Contains(list, page) {
			list = append(list, page)
		}
	}
	return impl.IntsResult{List: list}
}

func mayChangeIn(p impl.Policy, guest int64) impl.IntsResult {
	if fault := policyFaultIn(p); fault != 0 {
		return impl.IntsResult{Code: fault}
	}
	if !guestIn(p, guest) {
		return impl.IntsResult{Code: impl.ErrNone}
	}
	list := slices.Clone(p.Own[guest])
	for _, l := range p.Lanes {
		if l.From == guest {
			list = append(list, l.Page)
		}
	}
	slices.Sort(list)
	return impl.IntsResult{List: list}
}

func strangersIn(p impl.Policy, guest int64) impl.IntsResult {
	if fault := policyFaultIn(p); fault != 0 {
		return impl.IntsResult{Code: fault}
	}
	if !guestIn(p, guest) {
		return impl.IntsResult{Code: impl.ErrNone}
	}
	_, reach := linkTable(p)
	var list []int64
	for other := range p.Own {
		if !reach[other][guest] && int64(other) != guest {
			list = append(list, int64(other))
		}
	}
	return impl.IntsResult{List: list}
}

// gapIn goes through three rounds step by step.
func gapIn(p impl.Policy, guest int64) impl.IntResult {
	if fault := policyFaultIn(p); fault != 0 {
		return impl.IntResult{Code: fault}
	}
	if !guestIn(p, guest) {
		return impl.IntResult{Code: impl.ErrNone}
	}
	round := roundIn(p.Plan)
	last, most := -1, -1
	for clock := range 3 * len(round) {
		if round[clock%len(round)].Slot.Guest != guest {
			continue
		}
		if last >= 0 {
			most = max(most, clock-last-1)
		}
		last = clock
	}
	if last == -1 {
		return impl.IntResult{Code: impl.ErrBusy}
	}
	return impl.IntResult{Value: int64(most)}
}

// countedView has another number in each of its places, and a fault in none.
func countedView() impl.View {
	return impl.View{Hart: countedHart(), Own: queueOf(16, 1001), Gives: queueOf(8, 2001)}
}

// lanePolicies have no fault: a guest gives by no lane, by one and by two, at AtFrom 5 and at 6, in each order, and is given some.
func lanePolicies() []impl.Policy {
	laid := [][]impl.Lane{
		nil, {}, {lane(0, 1, 9, 5, 5)}, {lane(0, 1, 9, 6, 5)}, {lane(1, 0, 9, 5, 6)}, {lane(0, 1, 9, 5, 5), lane(0, 2, 3, 6, 5)}, {lane(0, 1, 9, 6, 5), lane(0, 2, 3, 5, 5)},
		{lane(0, 2, 3, 5, 5), lane(0, 1, 9, 6, 5)}, {lane(0, 1, 9, 5, 5), lane(0, 1, 3, 6, 6)}, {lane(0, 1, 9, 5, 5), lane(1, 0, 3, 6, 6)}, {lane(1, 0, 3, 6, 6), lane(0, 1, 9, 5, 5)},
		{lane(1, 0, 3, 6, 6), lane(2, 0, 9, 5, 5)}, {lane(2, 1, 8, 6, 5), lane(1, 0, 9, 6, 5), lane(2, 0, 3, 5, 6)}, {lane(2, 1, 8, 5, 5), lane(1, 0, 0, 6, 5), lane(2, 0, 23, 6, 6)},
	}
	var list []impl.Policy
	for k, lanes := range laid {
		p := impl.Policy{Own: [][]int64{{14, 2, 12}, {13, 11, 1, 15, 10}, {7}}, Lanes: lanes, Plan: plansFor(3)[k%len(plansFor(3))]}
		list = append(list, p)
	}
	return list
}

// fourLanes have the fault that there are four: three guests have six places for the eight ends.
func fourLanes() impl.Policy {
	p := threeGuests()
	p.Lanes = append(p.Lanes, lane(1, 0, 10, 6, 5))
	return p
}

func viewedHosts() []impl.Host {
	list := goodHosts()
	for k, p := range lanePolicies() {
		list = append(list, countedHost(p, int64(k*3)))
	}
	return list
}

func TestViewOf(t *testing.T) {
	for _, x := range viewedHosts() {
		for _, guest := range guestNumbers() {
			got := impl.ViewOf(x, guest)
			askView(t, got, viewOfIn(x, guest), "ViewOf guest ", guest, " of ", x)
			if got.Code != impl.OK {
				continue
			}
			// By the functions that the document names for its parts.
			var gives []int64
			for k, l := range x.Policy.Lanes {
				if l.From == guest {
					gives = append(gives, impl.LaneWords(x.Policy, x.Memory, int64(k)).List...)
				}
			}
			own := impl.WordsOf(x.Policy, x.Memory, guest).List
			askView(t, got, impl.ViewResult{View: impl.View{Hart: x.Harts[guest], Own: own, Gives: gives}}, "ViewOf guest ", guest, " by its parts")
		}
	}
}

func TestViewOfByHand(t *testing.T) {
	m := make([]int64, 192)
	for k := range m {
		m[k] = int64(k)
	}
	type ints = []int64
	page := func(pages ...int64) ints {
		var list ints
		for _, n := range pages {
			list = append(list, queueOf(8, n*8)...)
		}
		return list
	}
	askInts := func(name string, x impl.Host, guest int64, own, gives ints) {
		t.Helper()
		want := impl.View{Hart: x.Harts[guest], Own: own, Gives: gives}
		askView(t, viewOfIn(x, guest), impl.ViewResult{View: want}, "the second reader: ", name)
		askView(t, impl.ViewOf(x, guest), impl.ViewResult{View: want}, name)
	}
	harts := func(many int) []impl.Hart {
		var list []impl.Hart
		for k := range many {
			h := countedHart()
			h.Pc, h.Rung = int64(k)+40, k == 1
			list = append(list, h)
		}
		return list
	}
	one := impl.Policy{Own: [][]int64{{23}}, Plan: []impl.Slot{slot(0, 1)}}
	askInts("one guest, the last page", hostIn(one, 0, m, harts(1)...), 0, ints{184, 185, 186, 187, 188, 189, 190, 191}, nil)
	askInts("two guests, the one that gives", hostIn(twoGuests(), 3, m, harts(2)...), 0, page(2, 5), ints{72, 73, 74, 75, 76, 77, 78, 79})
	askInts("two guests, the one that is given", hostIn(twoGuests(), 3, m, harts(2)...), 1, page(3), nil)
	x := hostIn(threeGuests(), 1000000, m, harts(3)...)
	askInts("three guests, the first", x, 0, page(0, 23, 7), page(8))
	askInts("three guests, the second", x, 1, page(1), page(9))
	askInts("three guests, the third", x, 2, page(2, 3, 4, 5, 6), page(22))
	// Pages that do not rise stand in the order in which they are owned, and lanes in that of lanes, whatever their pages and places are.
	p := impl.Policy{Own: [][]int64{{14, 2, 12}, {13, 1}, {7}}, Lanes: []impl.Lane{lane(0, 1, 9, 6, 5), lane(2, 1, 4, 6, 6), lane(0, 2, 3, 5, 5)}, Plan: []impl.Slot{slot(0, 1)}}
	x = hostIn(p, 6, m, harts(3)...)
	askInts("two lanes from one guest", x, 0, page(14, 2, 12), page(9, 3))
	askInts("two lanes to one guest", x, 1, page(13, 1), nil)
	askInts("a lane to a guest and one from it", x, 2, page(7), page(4))
	p.Lanes = []impl.Lane{p.Lanes[2], p.Lanes[1], p.Lanes[0]}
	askInts("the same lanes in another order", hostIn(p, 6, m, harts(3)...), 0, page(14, 2, 12), page(3, 9))
	p.Lanes = []impl.Lane{}
	askInts("an empty list of lanes", hostIn(p, 6, m, harts(3)...), 0, page(14, 2, 12), nil)
}

// askViewCode asks a code of a host of ViewOf, with guests that are there and such as are not; where it is OK nothing is asked.
func askViewCode(t *testing.T, x impl.Host, fault int64) {
	t.Helper()
	if fault == impl.OK {
		return
	}
	for _, guest := range []int64{math.MinInt64, -1, 0, 1, 2, 3, math.MaxInt64} {
		askView(t, impl.ViewOf(x, guest), impl.ViewResult{Code: fault}, "ViewOf guest ", guest, " of a host with a fault")
	}
}

func TestViewOfCodes(t *testing.T) {
	for _, p := range []impl.Policy{oneGuest(), twoGuests(), threeGuests()} {
		x, last := countedHost(p, 7), int64(len(p.Own))
		for _, guest := range []int64{math.MinInt64, -1 << 32, -1, last, last + 1, 1 << 32, math.MaxInt64} {
			askView(t, impl.ViewOf(x, guest), impl.ViewResult{Code: impl.ErrNone}, "ViewOf guest ", guest)
		}
		for guest := range last {
			if got := impl.ViewOf(x, guest); got.Code != impl.OK {
				t.Errorf("ViewOf guest %d: %v", guest, got)
			}
		}
	}
	// The host's fault is told ahead of a guest that is none.
	for _, bad := range someBadHosts() {
		askViewCode(t, bad.x, bad.fault)
	}
	x := countedHost(threeGuests(), 7)
	x.Policy = fourLanes()
	askViewCode(t, x, impl.ErrTaken)
}

// TestViewOfHostsWithTwoFaults asks that the fault is the one that HostFault tells.
func TestViewOfHostsWithTwoFaults(t *testing.T) {
	edits := hostEdits()
	for _, first := range edits {
		for _, second := range edits {
			if first.order < second.order {
				x := countedHost(clonePolicy(twoGuests()), 6)
				second.do(&x)
				first.do(&x)
				askViewCode(t, x, first.fault)
			}
		}
	}
}

func TestSoloView(t *testing.T) {
	policies := append(goodPolicies(), lanePolicies()...)
	for k, x := range goodSolos() {
		for j := range 6 {
			p := policies[(k*7+j*31)%len(policies)]
			for guest := int64(-1); guest <= int64(len(p.Own)); guest++ {
				askView(t, impl.SoloView(p, x, guest), soloViewIn(p, x, guest), "SoloView guest ", guest, " of ", p, " and ", x)
			}
		}
	}
	for _, p := range policies {
		for _, guest := range guestNumbers() {
			askView(t, impl.SoloView(p, countedSolo(), guest), soloViewIn(p, countedSolo(), guest), "SoloView guest ", guest, " of ", p)
		}
	}
}

func TestSoloViewByHand(t *testing.T) {
	x := plainSolo(queueOf(64, 100)...)
	x.Hart = countedHart()
	five := []int64{4, 3, 2, 1, 0}
	table := []struct {
		name       string
		own        []int64
		lanes      []impl.Lane
		words      int
		gives      []int64
		otherGives []int64
	}{
		{"one page, no lanes", []int64{23}, nil, 8, nil, nil},
		{"two pages", []int64{23, 0}, nil, 16, nil, nil},
		{"five pages", five, []impl.Lane{}, 40, nil, nil},
		{"a lane at 5", five, []impl.Lane{lane(0, 1, 9, 5, 6)}, 40, queueOf(8, 140), nil},
		{"a lane at 6", []int64{23}, []impl.Lane{lane(0, 1, 9, 6, 5)}, 8, queueOf(8, 148), nil},
		{"lanes at 5 and at 6", []int64{23}, []impl.Lane{lane(0, 1, 9, 5, 5), lane(0, 1, 8, 6, 6)}, 8, queueOf(16, 140), nil},
		{"lanes at 6 and at 5", five, []impl.Lane{lane(0, 1, 9, 6, 5), lane(0, 1, 8, 5, 6)}, 40, append(queueOf(8, 148), queueOf(8, 140)...), nil},
		{"a lane to it", []int64{23}, []impl.Lane{lane(1, 0, 9, 5, 6)}, 8, nil, queueOf(8, 140)},
		{"a lane from it and one to it", []int64{23}, []impl.Lane{lane(1, 0, 9, 6, 5), lane(0, 1, 8, 6, 5)}, 8, queueOf(8, 148), queueOf(8, 148)},
	}
	for _, y := range table {
		p := impl.Policy{Own: [][]int64{y.own, {20, 19}}, Lanes: y.lanes, Plan: []impl.Slot{slot(1, 3)}}
		for _, pages := range [][]impl.Page{itselfPages(), blankPages(8), steadyPages(8)} {
			// Where its pages lead is not asked: the words are those of the pages themselves.
			x.Pages = pages
			want := impl.View{Hart: countedHart(), Own: queueOf(y.words, 100), Gives: y.gives}
			askView(t, impl.SoloView(p, x, 0), impl.ViewResult{View: want}, "SoloView with ", y.name)
			other := impl.View{Hart: countedHart(), Own: queueOf(16, 100), Gives: y.otherGives}
			askView(t, impl.SoloView(p, x, 1), impl.ViewResult{View: other}, "SoloView of the other one with ", y.name)
		}
	}
}

// TestSoloViewCodes asks for each code beside those behind it.
func TestSoloViewCodes(t *testing.T) {
	badSolos := someBadSolos()
	guests := []int64{math.MinInt64, -1, 0, 1, 2, 3, math.MaxInt64}
	for k, bad := range append(someBadPolicies(), badPolicy{fourLanes(), impl.ErrTaken}) {
		for _, guest := range guests {
			for _, x := range []impl.Solo{countedSolo(), {}, badSolos[k*11%len(badSolos)].x} {
				askView(t, impl.SoloView(bad.p, x, guest), impl.ViewResult{Code: bad.fault}, "SoloView guest ", guest, " of ", bad.p)
			}
		}
	}
	for _, p := range []impl.Policy{oneGuest(), twoGuests(), threeGuests()} {
		last := int64(len(p.Own))
		for k, guest := range []int64{math.MinInt64, -1 << 32, -1, last, last + 1, 1 << 32, math.MaxInt64} {
			for _, x := range []impl.Solo{countedSolo(), {}, badSolos[k*17%len(badSolos)].x} {
				askView(t, impl.SoloView(p, x, guest), impl.ViewResult{Code: impl.ErrNone}, "SoloView guest ", guest)
			}
		}
		for _, bad := range badSolos {
			for guest := range last {
				askView(t, impl.SoloView(p, bad.x, guest), impl.ViewResult{Code: bad.fault}, "SoloView guest ", guest, " of ", bad.x)
			}
			askView(t, impl.SoloView(p, bad.x, last), impl.ViewResult{Code: impl.ErrNone}, "SoloView one more than the last of ", bad.x)
			askView(t, impl.SoloView(p, bad.x, -1), impl.ViewResult{Code: impl.ErrNone}, "SoloView guest -1 of ", bad.x)
		}
	}
	// Two faults of the lonely machine: its machine's, its pages', its memory's.
	two := []badSolo{
		{impl.Solo{Hart: impl.Hart{Pc: -1}, Pages: blankPages(8, entry(8, 1))}, impl.ErrForm},
		{impl.Solo{Hart: withQueues(countedHart(), 41, 0), Pages: blankPages(7)}, impl.ErrMany},
		{impl.Solo{Hart: countedHart(), Pages: blankPages(8, entry(8, 1)), Memory: countedMemory(56)}, impl.ErrRange},
		{impl.Solo{Hart: countedHart(), Pages: steadyPages(8), Memory: withWordAt(72, 3, -1)}, impl.ErrForm},
	}
	for _, bad := range two {
		askView(t, impl.SoloView(twoGuests(), bad.x, 1), impl.ViewResult{Code: bad.fault}, "SoloView of ", bad.x)
	}
}

// TestViewsAtTheBeginning asks that a guest of a host that was booted has the view that it has alone.
func TestViewsAtTheBeginning(t *testing.T) {
	for k, p := range append(goodPolicies(), lanePolicies()...) {
		images := imagesFor(p)[k%10]
		x := impl.BootHost(p, images, slices.Repeat([][]int64{queueOf(k%41, 5)}, len(p.Own)))
		if x.Code != impl.OK {
			continue
		}
		for guest := range int64(len(p.Own)) {
			alone := impl.SoloOf(p, guest, images[guest], queueOf(k%41, 5)).Solo
			a, b := impl.ViewOf(x.Host, guest), impl.SoloView(p, alone, guest)
			askView(t, a, b, "guest ", guest, " of ", p)
			if !impl.SameViews(a.View, b.View) || a.Code != impl.OK || len(a.View.Own) != 8*len(p.Own[guest]) {
				t.Fatalf("guest %d of %v: %v and %v", guest, p, a, b)
			}
		}
	}
}

// viewEdit turns a view into another one.
type viewEdit struct {
	name string
	do   func(v *impl.View)
}

// viewEdits turn one field each, or one place of one list, or how many there are.
func viewEdits() []viewEdit {
	list := []viewEdit{
		{"Pc", func(v *impl.View) { v.Hart.Pc++ }},
		{"Pc by 2^32", func(v *impl.View) { v.Hart.Pc += 1 << 32 }},
		{"Pc's sign", func(v *impl.View) { v.Hart.Pc = -v.Hart.Pc }},
		{"Done", func(v *impl.View) { v.Hart.Done++ }},
		{"Done by 2^32", func(v *impl.View) { v.Hart.Done += 1 << 32 }},
		{"Halted", func(v *impl.View) { v.Hart.Halted = !v.Hart.Halted }},
		{"Waiting", func(v *impl.View) { v.Hart.Waiting = !v.Hart.Waiting }},
		{"Rung", func(v *impl.View) { v.Hart.Rung = !v.Hart.Rung }},
	}
	lists := []struct {
		name string
		of   func(v *impl.View) *[]int64
	}{
		{"Regs", func(v *impl.View) *[]int64 { return &v.Hart.Regs }}, {"Csr", func(v *impl.View) *[]int64 { return &v.Hart.Csr }},
		{"In", func(v *impl.View) *[]int64 { return &v.Hart.In }}, {"Out", func(v *impl.View) *[]int64 { return &v.Hart.Out }},
		{"Own", func(v *impl.View) *[]int64 { return &v.Own }}, {"Gives", func(v *impl.View) *[]int64 { return &v.Gives }},
	}
	first := countedView()
	for _, x := range lists {
		for at := range *x.of(&first) {
			for _, by := range []int64{1, -1, 1 << 32, math.MinInt64} {
				list = append(list, viewEdit{fmt.Sprint(x.name, " at ", at, " by ", by), func(v *impl.View) { (*x.of(v))[at] += by }})
			}
		}
		list = append(list,
			viewEdit{x.name + " without the last", func(v *impl.View) { *x.of(v) = (*x.of(v))[:len(*x.of(v))-1] }},
			viewEdit{x.name + " without the first", func(v *impl.View) { *x.of(v) = (*x.of(v))[1:] }},
			viewEdit{x.name + " empty", func(v *impl.View) { *x.of(v) = []int64{} }},
			viewEdit{x.name + " with a 0 more", func(v *impl.View) { *x.of(v) = append(*x.of(v), 0) }},
			viewEdit{x.name + " twice", func(v *impl.View) { *x.of(v) = append(*x.of(v), *x.of(v)...) }},
			viewEdit{x.name + " backward", func(v *impl.View) { slices.Reverse(*x.of(v)) }},
		)
	}
	return append(list,
		viewEdit{"In and Out for each other", func(v *impl.View) { v.Hart.In, v.Hart.Out = v.Hart.Out, v.Hart.In }},
		viewEdit{"Own and Gives for each other", func(v *impl.View) { v.Own, v.Gives = v.Gives, v.Own }},
		viewEdit{"Regs and Csr for each other", func(v *impl.View) { v.Hart.Regs, v.Hart.Csr = v.Hart.Csr, v.Hart.Regs }},
		viewEdit{"Pc and Done for each other", func(v *impl.View) { v.Hart.Pc, v.Hart.Done = v.Hart.Done, v.Hart.Pc }},
		viewEdit{"a word of Own in Gives", func(v *impl.View) {
			v.Own, v.Gives = v.Own[:15], append([]int64{v.Own[15]}, v.Gives...)
		}},
		viewEdit{"a word of In in Out", func(v *impl.View) {
			v.Hart.In, v.Hart.Out = v.Hart.In[:4], append([]int64{v.Hart.In[4]}, v.Hart.Out...)
		}},
	)
}

// askSame asks it both ways round, of copies.
func askSame(t *testing.T, a, b impl.View, want bool, what ...any) {
	t.Helper()
	if impl.SameViews(a, cloneView(b)) != want || impl.SameViews(b, cloneView(a)) != want {
		t.Fatalf("SameViews %s: not %v", fmt.Sprint(what...), want)
	}
}

func TestSameViews(t *testing.T) {
	edits := viewEdits()
	var views []impl.View
	for _, x := range edits {
		v := countedView()
		x.do(&v)
		views = append(views, v)
		askSame(t, v, v, true, x.name, " and itself")
		askSame(t, v, countedView(), false, x.name)
	}
	for k, a := range views {
		for j, b := range views[:k] {
			askSame(t, a, b, sameView(a, b), edits[k].name, " and ", edits[j].name)
		}
	}
	for k, h := range goodHarts() {
		a := impl.View{Hart: h, Own: queueOf(8*(k%6), 3), Gives: queueOf(8*(k%3), 9)}
		askSame(t, a, a, true, a)
		for j, other := range goodHarts() {
			if (k+j)%7 == 0 {
				b := impl.View{Hart: other, Own: a.Own, Gives: a.Gives}
				askSame(t, a, b, sameHart(h, other), a, " and ", b)
			}
		}
	}
}

// TestSameViewsAsksNoFault asks of views that no function would take.
func TestSameViewsAsksNoFault(t *testing.T) {
	with := func(edit func(v *impl.View)) impl.View {
		v := countedView()
		edit(&v)
		return v
	}
	table := []struct {
		name string
		a, b impl.View
		want bool
	}{
		{"nothing", impl.View{}, impl.View{}, true},
		{"nil and empty lists", impl.View{}, impl.View{Hart: impl.Hart{Regs: []int64{}, Csr: []int64{}, In: []int64{}, Out: []int64{}}, Own: []int64{}, Gives: []int64{}}, true},
		{"nil and empty Own", with(func(v *impl.View) { v.Own = nil }), with(func(v *impl.View) { v.Own = []int64{} }), true},
		{"nil and empty Gives", with(func(v *impl.View) { v.Gives = nil }), with(func(v *impl.View) { v.Gives = []int64{} }), true},
		{"nil and empty In", with(func(v *impl.View) { v.Hart.In = nil }), with(func(v *impl.View) { v.Hart.In = []int64{} }), true},
		{"nil and empty Out", with(func(v *impl.View) { v.Hart.Out = nil }), with(func(v *impl.View) { v.Hart.Out = []int64{} }), true},
		{"nil Own and a word 0", with(func(v *impl.View) { v.Own = nil }), with(func(v *impl.View) { v.Own = []int64{0} }), false},
		{"nil Gives and a word 0", with(func(v *impl.View) { v.Gives = nil }), with(func(v *impl.View) { v.Gives = []int64{0} }), false},
		{"nothing and a counted one", impl.View{}, countedView(), false},
		{"the same numbers that are no words", with(func(v *impl.View) { v.Own[3], v.Hart.Pc = -1, math.MinInt64 }), with(func(v *impl.View) { v.Own[3], v.Hart.Pc = -1, math.MinInt64 }), true},
		{"-1 and the greatest word", with(func(v *impl.View) { v.Own[3] = -1 }), with(func(v *impl.View) { v.Own[3] = impl.WordTop }), false},
		{"0 and 2^32", with(func(v *impl.View) { v.Gives[7] = 0 }), with(func(v *impl.View) { v.Gives[7] = 1 << 32 }), false},
		{"the least and the greatest number", with(func(v *impl.View) { v.Hart.Pc = math.MinInt64 }), with(func(v *impl.View) { v.Hart.Pc = math.MaxInt64 }), false},
		{"17 registers", with(func(v *impl.View) { v.Hart.Regs = queueOf(17, 5) }), with(func(v *impl.View) { v.Hart.Regs = queueOf(17, 5) }), true},
		{"16 of 17 registers", with(func(v *impl.View) { v.Hart.Regs = queueOf(17, 5) }), with(func(v *impl.View) { v.Hart.Regs = queueOf(16, 5) }), false},
		{"register 0", with(func(v *impl.View) { v.Hart.Regs[0] = 1 }), countedView(), false},
		{"Csr's pending", with(func(v *impl.View) { v.Hart.Csr[6] = 1 }), countedView(), false},
		{"41 words In", with(func(v *impl.View) { v.Hart.In = queueOf(41, 5) }), with(func(v *impl.View) { v.Hart.In = queueOf(41, 5) }), true},
		{"Done -1", with(func(v *impl.View) { v.Hart.Done = -1 }), with(func(v *impl.View) { v.Hart.Done = -1 }), true},
		{"very long lists", impl.View{Own: make([]int64, 100000)}, impl.View{Own: make([]int64, 100000)}, true},
		{"very long lists, the last word", impl.View{Own: make([]int64, 100000)}, impl.View{Own: append(make([]int64, 99999), 1)}, false},
	}
	for _, x := range table {
		askSame(t, x.a, x.b, x.want, "of ", x.name)
	}
	for _, bad := range someBadHarts() {
		v := countedView()
		v.Hart = bad.h
		askSame(t, v, v, true, "of ", bad.h)
		askSame(t, v, countedView(), false, "of ", bad.h)
	}
	// A list that is a piece of the other one's memory.
	v := countedView()
	w := v
	w.Own = v.Own[:15]
	if impl.SameViews(v, w) || impl.SameViews(w, v) || !impl.SameViews(v, v) {
		t.Error("SameViews of lists in one memory")
	}
}

func TestViewText(t *testing.T) {
	for k, h := range append(goodHarts(), mixedHarts(100)...) {
		v := impl.View{Hart: h, Own: wideWords(8*(k%6), int64(k)), Gives: queueOf(8*(k%3), 9)}
		for at, w := range v.Own {
			v.Own[at] = impl.WrapWord(w)
		}
		askText(t, impl.ViewText(v), viewTextIn(v), "ViewText of ", v)
	}
	for _, x := range viewedHosts() {
		for guest := range int64(len(x.Policy.Own)) {
			v := viewOfIn(x, guest).View
			got := impl.ViewText(v)
			askText(t, got, viewTextIn(v), "ViewText of ", v)
			alone := impl.SoloText(impl.Solo{Hart: v.Hart, Pages: steadyPages(8), Memory: countedMemory(64)})
			if strings.Count(got.Text, "\n") != 8 || !strings.HasPrefix(got.Text, alone.Text+"own ") || !strings.HasSuffix(got.Text, "\n") {
				t.Fatalf("ViewText of %v: %q", v, got.Text)
			}
		}
	}
}

func TestViewTextByHand(t *testing.T) {
	type ints = []int64
	none := "pc 0\ndone 0\nhalted 0\nwaiting 0\nregs\nout\n"
	table := []struct {
		name       string
		own, gives ints
		want       string
	}{
		{"nothing", nil, nil, none + "own\ngives\n"},
		{"empty lists", ints{}, ints{}, none + "own\ngives\n"},
		{"a word in Own", ints{7}, nil, none + "own 7\ngives\n"},
		{"a word in Gives", nil, ints{7}, none + "own\ngives 7\n"},
		{"words 0", ints{0}, ints{0, 0}, none + "own 0\ngives 0 0\n"},
		{"the greatest word", ints{impl.WordTop, 1}, ints{2, impl.WordTop}, none + "own 4294967295 1\ngives 2 4294967295\n"},
		{"two pages and one", queueOf(16, 95), queueOf(8, 5), none + "own 95 96 97 98 99 100 101 102 103 104 105 106 107 108 109 110\ngives 5 6 7 8 9 10 11 12\n"},
		{"more than there are", make(ints, 200), make(ints, 300), none + "own" + strings.Repeat(" 0", 200) + "\ngives" + strings.Repeat(" 0", 300) + "\n"},
	}
	for _, x := range table {
		v := impl.View{Hart: newHartIn(), Own: x.own, Gives: x.gives}
		askText(t, viewTextIn(v), impl.TextResult{Text: x.want}, "the second reader: ", x.name)
		askText(t, impl.ViewText(v), impl.TextResult{Text: x.want}, "ViewText with ", x.name)
	}
	counted := "pc 33\ndone 700\nhalted 0\nwaiting 0\nregs 1:101 2:102 3:103 4:104 5:105 6:106 7:107 8:108 9:109 10:110 11:111 12:112 13:113 14:114 15:115\nout 801 802 803 804\n" +
		"own 1001 1002 1003 1004 1005 1006 1007 1008 1009 1010 1011 1012 1013 1014 1015 1016\ngives 2001 2002 2003 2004 2005 2006 2007 2008\n"
	askText(t, impl.ViewText(countedView()), impl.TextResult{Text: counted}, "ViewText of a view with another number in each place")
	v := countedView()
	v.Hart.Halted, v.Hart.Waiting, v.Hart.Rung, v.Hart.In = true, true, true, nil
	want := strings.Replace(counted, "halted 0\nwaiting 0", "halted 1\nwaiting 1", 1)
	askText(t, impl.ViewText(v), impl.TextResult{Text: want}, "ViewText of one that is halted, waiting and rung")
}

// TestViewTextOfLongLists asks that lists of any length are told, which no page has.
func TestViewTextOfLongLists(t *testing.T) {
	v := impl.View{Hart: newHartIn(), Own: queueOf(200000, 4294000000), Gives: make([]int64, 300000)}
	askText(t, impl.ViewText(v), viewTextIn(v), "ViewText of very long lists")
	v.Gives[299999] = -1
	askText(t, impl.ViewText(v), impl.TextResult{Code: impl.ErrRange}, "ViewText of very long lists, the last no word")
}

func TestViewTextCodes(t *testing.T) {
	edges := []struct{ w, want int64 }{
		{math.MinInt64, impl.ErrRange}, {-1 << 32, impl.ErrRange}, {-1, impl.ErrRange}, {0, impl.OK}, {1, impl.OK}, {impl.WordTop, impl.OK}, {impl.WordTop + 1, impl.ErrRange}, {1 << 33, impl.ErrRange}, {math.MaxInt64, impl.ErrRange},
	}
	for _, x := range edges {
		for at := range 16 {
			v := countedView()
			v.Own[at] = x.w
			askText(t, impl.ViewText(v), viewTextIn(v), "ViewText with ", x.w, " in Own at ", at)
			w := countedView()
			w.Gives[at%8] = x.w
			askText(t, impl.ViewText(w), viewTextIn(w), "ViewText with ", x.w, " in Gives at ", at%8)
			if impl.ViewText(v).Code != x.want || impl.ViewText(w).Code != x.want {
				t.Fatalf("ViewText with %d at %d: %v, %v", x.w, at, impl.ViewText(v), impl.ViewText(w))
			}
		}
		for _, v := range []impl.View{{Hart: newHartIn(), Own: []int64{x.w}}, {Hart: newHartIn(), Gives: []int64{x.w}}} {
			if got := impl.ViewText(v); got.Code != x.want || (got.Text == "") != (x.want != impl.OK) {
				t.Fatalf("ViewText with %d alone: %v", x.w, got)
			}
		}
	}
	// The machine's fault is told ahead of a number that is no word.
	for _, bad := range someBadHarts() {
		for _, lists := range [][2][]int64{{nil, nil}, {queueOf(8, 1), queueOf(8, 1)}, {{-1}, nil}, {nil, {impl.WordTop + 1}}, {{-1}, {-1}}} {
			v := impl.View{Hart: bad.h, Own: lists[0], Gives: lists[1]}
			askText(t, impl.ViewText(v), impl.TextResult{Code: bad.fault}, "ViewText of ", v)
		}
	}
	askText(t, impl.ViewText(impl.View{}), impl.TextResult{Code: impl.ErrForm}, "ViewText of nothing")
}

func TestChangedPages(t *testing.T) {
	memories := goodMemories()
	for _, bad := range badMemories() {
		memories = append(memories, bad.m)
	}
	for _, a := range memories {
		for _, b := range memories {
			askWords(t, impl.ChangedPages(a, b), changedPagesIn(a, b), "ChangedPages of ", a, " and ", b)
		}
	}
	next := steadyNext(77)
	for k := range 500 {
		a := mixedMemory(int64(k%24)+1, next)
		b := slices.Clone(a)
		for range next(6) {
			b[next(int64(len(b)))] = []int64{0, next(1 << 32), impl.WordTop}[next(3)]
		}
		askWords(t, impl.ChangedPages(a, b), changedPagesIn(a, b), "ChangedPages of ", a, " and ", b)
		askWords(t, impl.ChangedPages(b, a), changedPagesIn(a, b), "ChangedPages the other way round of ", a, " and ", b)
	}
}

func TestChangedPagesByHand(t *testing.T) {
	for _, pages := range []int{1, 2, 3, 23, 24} {
		m, last := countedMemory(8*pages), pages*8-1
		with := func(places ...int) []int64 {
			b := slices.Clone(m)
			for _, at := range places {
				b[at] = 3
			}
			return b
		}
		type changed struct {
			name string
			b    []int64
			want []int64
		}
		table := []changed{
			{"itself", m, nil}, {"a copy", with(), nil},
			{"the first word", with(0), []int64{0}}, {"the last word of the first page", with(7), []int64{0}}, {"two words on the first page", with(2, 5), []int64{0}}, {"all words of the first page", with(0, 1, 2, 3, 4, 5, 6, 7), []int64{0}},
			{"the last word", with(last), []int64{int64(pages) - 1}}, {"the first word of the last page", with(last - 7), []int64{int64(pages) - 1}}, {"two words on the last page", with(last, last-3), []int64{int64(pages) - 1}},
		}
		if pages > 1 {
			table = append(table, changed{"the last word and the first one", with(last, 0), []int64{0, int64(pages) - 1}})
		}
		for _, x := range table {
			askWords(t, impl.ChangedPages(m, x.b), impl.IntsResult{List: x.want}, pages, " pages, ", x.name)
			askWords(t, impl.ChangedPages(x.b, m), impl.IntsResult{List: x.want}, pages, " pages, the other way round, ", x.name)
		}
		var all []int64
		for page := range pages {
			all = append(all, int64(page))
			for k := range 8 {
				askWords(t, impl.ChangedPages(m, with(page*8+k)), impl.IntsResult{List: []int64{int64(page)}}, "the word ", k, " of the page ", page)
			}
		}
		askWords(t, impl.ChangedPages(m, make([]int64, 8*pages)), impl.IntsResult{List: all}, pages, " pages, all words")
	}
	m := make([]int64, 192)
	for _, at := range []int{100, 3, 188, 101, 64} {
		m[at] = impl.WordTop
	}
	askWords(t, impl.ChangedPages(m, make([]int64, 192)), impl.IntsResult{List: []int64{0, 8, 12, 23}}, "pages here and there")
}

// TestChangedPagesCodes asks for the fault of the first memory beside that of the second one, and for both ahead of how many words they have.
func TestChangedPagesCodes(t *testing.T) {
	good, other := countedMemory(16), countedMemory(192)
	bads := badMemories()
	for k, bad := range bads {
		for _, m := range [][]int64{good, other, bads[k*7%len(bads)].m, bads[(k+1)%len(bads)].m, nil, {-1}, withWordAt(16, 3, -1)} {
			askWords(t, impl.ChangedPages(bad.m, m), impl.IntsResult{Code: bad.fault}, "ChangedPages of ", bad.m, " and ", m)
		}
		for _, m := range [][]int64{good, other, countedMemory(8)} {
			askWords(t, impl.ChangedPages(m, bad.m), impl.IntsResult{Code: bad.fault}, "ChangedPages of ", m, " and ", bad.m)
		}
	}
	table := []struct {
		name string
		a, b []int64
		want int64
	}{
		{"as many words", good, countedMemory(16), impl.OK},
		{"not as many", good, other, impl.ErrForm}, {"not as many, the other way round", other, good, impl.ErrForm}, {"one page more", good, countedMemory(24), impl.ErrForm}, {"one page less", good, countedMemory(8), impl.ErrForm},
		{"a first one with no word and a second one without words", withWordAt(16, 0, -1), nil, impl.ErrRange}, {"a first one without words and a second one with no word", nil, withWordAt(16, 0, -1), impl.ErrForm},
		{"a second one with no word and not as many", good, withWordAt(8, 0, -1), impl.ErrRange}, {"a first one with no word and not as many", withWordAt(8, 0, -1), good, impl.ErrRange},
		{"a first one of 9 words and a second one with no word", countedMemory(9), withWordAt(16, 5, -1), impl.ErrForm}, {"a second one of 17 words", good, countedMemory(17), impl.ErrForm}, {"the greatest words", withWordAt(16, 2, impl.WordTop), good, impl.OK},
		{"nothing", nil, nil, impl.ErrForm}, {"empty ones", []int64{}, []int64{}, impl.ErrForm}, {"200 words both", countedMemory(200), countedMemory(200), impl.ErrForm},
	}
	for _, x := range table {
		if got := impl.ChangedPages(x.a, x.b); got.Code != x.want || x.want != impl.OK && len(got.List) > 0 {
			t.Errorf("ChangedPages with %s: %v, not %d", x.name, got, x.want)
		}
	}
}

// askGuestCodes asks that the three that are told a policy and a guest tell a code and nothing else.
func askGuestCodes(t *testing.T, p impl.Policy, guest, code int64) {
	t.Helper()
	askWords(t, impl.MayChange(p, guest), impl.IntsResult{Code: code}, "MayChange guest ", guest, " of ", p)
	askWords(t, impl.StrangersTo(p, guest), impl.IntsResult{Code: code}, "StrangersTo guest ", guest, " of ", p)
	askInt(t, impl.GapOf(p, guest), impl.IntResult{Code: code}, "GapOf guest ", guest, " of ", p)
}

func TestCodesOfGuests(t *testing.T) {
	// The policy's fault is told ahead of a guest that is none.
	for _, bad := range append(someBadPolicies(), badPolicy{fourLanes(), impl.ErrTaken}) {
		for _, guest := range guestNumbers() {
			askGuestCodes(t, bad.p, guest, bad.fault)
		}
	}
	// A guest that is none is told ahead of one that has no slot.
	for _, p := range append(goodPolicies(), lanePolicies()...) {
		last := int64(len(p.Own))
		for _, guest := range []int64{math.MinInt64, -1 << 32, -1, last, last + 1, 1 << 32, math.MaxInt64} {
			askGuestCodes(t, p, guest, impl.ErrNone)
		}
	}
}

func viewedPolicies() []impl.Policy {
	return slices.Concat(goodPolicies(), plannedPolicies(), lanePolicies())
}

func TestMayChange(t *testing.T) {
	for _, p := range viewedPolicies() {
		for _, guest := range guestNumbers() {
			got := impl.MayChange(p, guest)
			askWords(t, got, mayChangeIn(p, guest), "MayChange guest ", guest, " of ", p)
			if got.Code != impl.OK {
				continue
			}
			for page := range int64(24) {
				writes := slices.ContainsFunc(impl.PagesFor(p, guest).Pages, func(x impl.Page) bool { return x.To == page && leadsFor(x.Kinds, 2) })
				if writes != slices.Contains(got.List, page) {
					t.Fatalf("MayChange guest %d of %v: %v, and the page %d", guest, p, got, page)
				}
			}
		}
	}
}

func TestMayChangeByHand(t *testing.T) {
	type ints = []int64
	full := impl.Policy{Own: [][]int64{{23, 0, 21, 20, 19}, {9}}, Lanes: []impl.Lane{lane(0, 1, 22, 6, 5), lane(0, 1, 1, 5, 6)}, Plan: []impl.Slot{slot(1, 1)}}
	table := []struct {
		name string
		p    impl.Policy
		want []ints
	}{
		{"one guest", oneGuest(), []ints{{4}}},
		{"two guests", twoGuests(), []ints{{2, 5, 9}, {3}}},
		{"three guests", threeGuests(), []ints{{0, 7, 8, 23}, {1, 9}, {2, 3, 4, 5, 6, 22}}},
		{"guests without a link", looseGuests(), []ints{{10}, {11, 12}, {13}}},
		{"five pages and two lanes, of which none rises", full, []ints{{0, 1, 19, 20, 21, 22, 23}, {9}}},
	}
	for _, x := range table {
		for guest, want := range x.want {
			askWords(t, impl.MayChange(x.p, int64(guest)), impl.IntsResult{List: want}, "MayChange guest ", guest, " of ", x.name)
		}
	}
}

func TestStrangersTo(t *testing.T) {
	for _, p := range viewedPolicies() {
		for _, guest := range guestNumbers() {
			got := impl.StrangersTo(p, guest)
			askWords(t, got, strangersIn(p, guest), "StrangersTo guest ", guest, " of ", p)
			if got.Code != impl.OK {
				continue
			}
			reach := impl.ReachTo(p, guest).List
			for other := range int64(len(p.Own)) {
				near := other == guest || slices.Contains(reach, other)
				if near == slices.Contains(got.List, other) {
					t.Fatalf("StrangersTo guest %d of %v: %v, and %v reach it", guest, p, got, reach)
				}
			}
		}
	}
}

func TestStrangersToByHand(t *testing.T) {
	type ints = []int64
	table := []struct {
		name  string
		lanes []impl.Lane
		bells []impl.Bell
		want  [3]ints
	}{
		{"nobody reaches anybody", nil, nil, [3]ints{{1, 2}, {0, 2}, {0, 1}}},
		{"empty lists", []impl.Lane{}, []impl.Bell{}, [3]ints{{1, 2}, {0, 2}, {0, 1}}},
		{"a lane", []impl.Lane{lane(0, 1, 0, 5, 5)}, nil, [3]ints{{1, 2}, {2}, {0, 1}}},
		{"a bell", nil, []impl.Bell{bell(2, 0)}, [3]ints{{1}, {0, 2}, {0, 1}}},
		{"a lane and a bell between the same", []impl.Lane{lane(0, 1, 0, 5, 5)}, []impl.Bell{bell(0, 1)}, [3]ints{{1, 2}, {2}, {0, 1}}},
		// One that reaches itself is no stranger to itself, nor is one that does not.
		{"two in a circle of bells", nil, []impl.Bell{bell(0, 1), bell(1, 0)}, [3]ints{{2}, {2}, {0, 1}}},
		{"two in a circle of lanes", []impl.Lane{lane(2, 1, 0, 5, 5), lane(1, 2, 1, 6, 6)}, nil, [3]ints{{1, 2}, {0}, {0}}},
		{"two in a circle of a lane and a bell", []impl.Lane{lane(2, 0, 0, 5, 5)}, []impl.Bell{bell(0, 2)}, [3]ints{{1}, {0, 2}, {1}}},
		{"all in a circle", []impl.Lane{lane(0, 1, 0, 5, 5)}, []impl.Bell{bell(1, 2), bell(2, 0)}, [3]ints{}},
		{"one over another one", []impl.Lane{lane(2, 1, 0, 5, 5)}, []impl.Bell{bell(1, 0)}, [3]ints{nil, {0}, {0, 1}}},
		{"all reach the last one", nil, []impl.Bell{bell(1, 2), bell(0, 2)}, [3]ints{{1, 2}, {0, 2}, nil}},
		{"one reaches all", nil, []impl.Bell{bell(1, 2), bell(1, 0)}, [3]ints{{2}, {0, 2}, {0}}},
		{"a circle that reaches the third one", nil, []impl.Bell{bell(1, 2), bell(2, 1), bell(2, 0)}, [3]ints{nil, {0}, {0}}},
	}
	for _, x := range table {
		p := looseGuests()
		p.Lanes, p.Bells = x.lanes, x.bells
		for guest, want := range x.want {
			askWords(t, impl.StrangersTo(p, int64(guest)), impl.IntsResult{List: want}, "StrangersTo guest ", guest, ", ", x.name)
		}
	}
	askWords(t, impl.StrangersTo(oneGuest(), 0), impl.IntsResult{}, "StrangersTo the only guest")
	askWords(t, impl.StrangersTo(twoGuests(), 0), impl.IntsResult{List: []int64{1}}, "StrangersTo one that gives alone")
	askWords(t, impl.StrangersTo(twoGuests(), 1), impl.IntsResult{}, "StrangersTo one that is given")
}

func TestGapOf(t *testing.T) {
	for _, p := range viewedPolicies() {
		for _, guest := range guestNumbers() {
			askInt(t, impl.GapOf(p, guest), gapIn(p, guest), "GapOf guest ", guest, " of ", p.Plan)
		}
	}
	// All plans of up to four slots of one, two and five steps of two guests, and of one of a third one.
	p := looseGuests()
	kinds := []impl.Slot{slot(0, 1), slot(0, 5), slot(1, 2), slot(1, 50), slot(2, 1)}
	for many := 1; many <= 4; many++ {
		for n := range int(math.Pow(5, float64(many))) {
			p.Plan = nil
			for range many {
				p.Plan, n = append(p.Plan, kinds[n%5]), n/5
			}
			for guest := range int64(3) {
				askInt(t, impl.GapOf(p, guest), gapIn(p, guest), "GapOf guest ", guest, " of ", p.Plan)
			}
		}
	}
}

func TestGapOfByHand(t *testing.T) {
	busy := impl.IntResult{Code: impl.ErrBusy}
	is := func(n int64) impl.IntResult { return impl.IntResult{Value: n} }
	table := []struct {
		name string
		plan []impl.Slot
		want [3]impl.IntResult
	}{
		{"one slot of one step", []impl.Slot{slot(0, 1)}, [3]impl.IntResult{is(0), busy, busy}},
		{"one slot of fifty steps", []impl.Slot{slot(2, 50)}, [3]impl.IntResult{busy, busy, is(0)}},
		{"two slots", []impl.Slot{slot(0, 2), slot(1, 3)}, [3]impl.IntResult{is(3), is(2), busy}},
		{"a slot each", []impl.Slot{slot(2, 4), slot(0, 7), slot(1, 30)}, [3]impl.IntResult{is(34), is(11), is(37)}},
		{"two slots side by side", []impl.Slot{slot(0, 2), slot(0, 9), slot(1, 3)}, [3]impl.IntResult{is(3), is(11), busy}},
		{"two slots side by side at the end", []impl.Slot{slot(1, 3), slot(0, 2), slot(0, 9)}, [3]impl.IntResult{is(3), is(11), busy}},
		{"two slots side by side over the end", []impl.Slot{slot(0, 2), slot(1, 3), slot(0, 9)}, [3]impl.IntResult{is(3), is(11), busy}},
		{"two slots side by side in the middle", []impl.Slot{slot(1, 3), slot(0, 2), slot(0, 9), slot(2, 5)}, [3]impl.IntResult{is(8), is(16), is(14)}},
		{"the greater gap within the plan", []impl.Slot{slot(0, 1), slot(1, 9), slot(0, 1), slot(1, 2)}, [3]impl.IntResult{is(9), is(1), busy}},
		{"the greater gap over the end", []impl.Slot{slot(1, 5), slot(0, 1), slot(1, 9), slot(0, 1), slot(1, 6)}, [3]impl.IntResult{is(11), is(1), busy}},
		{"the greater gap at the end", []impl.Slot{slot(0, 1), slot(1, 9), slot(0, 1), slot(1, 10)}, [3]impl.IntResult{is(10), is(1), busy}},
		{"the greater gap at the beginning", []impl.Slot{slot(1, 10), slot(0, 1), slot(1, 9), slot(0, 1)}, [3]impl.IntResult{is(10), is(1), busy}},
		{"gaps of several others", []impl.Slot{slot(0, 1), slot(1, 4), slot(2, 4), slot(1, 4), slot(0, 1), slot(2, 11)}, [3]impl.IntResult{is(12), is(13), is(5)}},
		{"eight slots of one guest", slices.Repeat([]impl.Slot{slot(1, 50)}, 8), [3]impl.IntResult{busy, is(0), busy}},
		{"eight slots, the last another one's", append(slices.Repeat([]impl.Slot{slot(1, 50)}, 7), slot(0, 3)), [3]impl.IntResult{is(350), is(3), busy}},
		{"eight slots, the first another one's", append([]impl.Slot{slot(0, 3)}, slices.Repeat([]impl.Slot{slot(1, 50)}, 7)...), [3]impl.IntResult{is(350), is(3), busy}},
		{"eight slots by turns", []impl.Slot{slot(0, 1), slot(1, 2), slot(2, 3), slot(0, 4), slot(2, 5), slot(1, 6), slot(0, 7), slot(1, 8)}, [3]impl.IntResult{is(11), is(12), is(24)}},
	}
	for _, x := range table {
		p := looseGuests()
		p.Plan = x.plan
		for guest, want := range x.want {
			askInt(t, gapIn(p, int64(guest)), want, "the second reader: guest ", guest, " of ", x.name)
			askInt(t, impl.GapOf(p, int64(guest)), want, "GapOf guest ", guest, " of ", x.name)
		}
		for _, guest := range []int64{-1, 3} {
			askInt(t, impl.GapOf(p, guest), impl.IntResult{Code: impl.ErrNone}, "GapOf guest ", guest, " of ", x.name)
		}
	}
}

// askStepKeeps asks promise 14 of one step: words of pages alone are turned that its guest may change, and of the others nothing, but that they may be rung. It tells how many pages are changed, and how many guests rung.
func askStepKeeps(t *testing.T, x, next impl.Host, guest int64) (pages, rung int) {
	t.Helper()
	changed, may := impl.ChangedPages(x.Memory, next.Memory), impl.MayChange(x.Policy, guest)
	if changed.Code != impl.OK || may.Code != impl.OK {
		t.Fatalf("a step of guest %d of %v: %v, %v", guest, x, changed, may)
	}
	for _, page := range changed.List {
		if !slices.Contains(may.List, page) {
			t.Fatalf("a step of guest %d of %v changes the page %d; it may change %v", guest, x, page, may.List)
		}
	}
	for other := range int64(len(x.Policy.Own)) {
		if other == guest {
			continue
		}
		a, b := impl.ViewOf(x, other), impl.ViewOf(next, other)
		if b.View.Hart.Rung && !a.View.Hart.Rung {
			rung++
			if !slices.Contains(impl.ReachTo(x.Policy, other).List, guest) {
				t.Fatalf("a step of guest %d of %v rings the stranger %d", guest, x, other)
			}
		}
		if a.View.Hart.Rung && !b.View.Hart.Rung {
			t.Fatalf("a step of guest %d of %v takes a ring of %d back", guest, x, other)
		}
		a.View.Hart.Rung, b.View.Hart.Rung = false, false
		if a.Code != impl.OK || b.Code != impl.OK || !impl.SameViews(a.View, b.View) || !sameView(a.View, b.View) {
			t.Fatalf("a step of guest %d of %v turns what %d sees:\n%v\n%v", guest, x, other, a, b)
		}
	}
	return len(changed.List), rung
}

// TestPromiseOfStepsInAHost asks it behind many steps of hosts of all kinds, and of guests that store everywhere.
func TestPromiseOfStepsInAHost(t *testing.T) {
	pages, rung := 0, 0
	run := func(x impl.Host, steps int) {
		for range steps {
			guest := impl.TurnAt(x.Policy, x.Clock).Slot.Guest
			next := impl.StepHost(x)
			if next.Code != impl.OK {
				return
			}
			changed, rang := askStepKeeps(t, x, next.Host, guest)
			pages, rung = pages+changed, rung+rang
			x = next.Host
		}
	}
	for _, x := range viewedHosts() {
		run(x, 12)
	}
	for _, p := range append(lanePolicies(), threeGuests(), fullPolicy()) {
		for _, images := range imageKinds(p) {
			x := impl.BootHost(p, images, make([][]int64, len(p.Own)))
			run(x.Host, 20)
		}
		for guest, own := range p.Own {
			q := clonePolicy(p)
			q.Plan = []impl.Slot{slot(int64(guest), 37)}
			x := countedHost(q, 0)
			program := storesEverywhere(mapIn(q, int64(guest)))
			x.Harts[guest] = program.Hart
			copy(x.Memory[own[0]*8:], program.Memory[:8])
			run(x, 300)
		}
	}
	if pages < 1000 || rung < 20 {
		t.Errorf("%d pages are changed, %d guests are rung", pages, rung)
	}
}

// TestPromiseIsNotEmpty asks that each page of MayChange is changed by a guest that stores everywhere, and is seen by it alone in its view.
func TestPromiseIsNotEmpty(t *testing.T) {
	for _, p := range append(lanePolicies(), oneGuest(), twoGuests(), threeGuests(), fullPolicy()) {
		for guest, own := range p.Own {
			q := clonePolicy(p)
			q.Plan = []impl.Slot{slot(int64(guest), 50)}
			x := countedHost(q, 0)
			program := storesEverywhere(mapIn(q, int64(guest)))
			x.Harts[guest] = program.Hart
			got := cloneHost(x)
			copy(got.Memory[own[0]*8:], program.Memory[:8])
			got = impl.RunHost(got, 500).Host
			askWords(t, impl.ChangedPages(x.Memory, got.Memory), impl.MayChange(q, int64(guest)), "guest ", guest, " of ", q, " stores everywhere")
			for other := range p.Own {
				a, b := impl.ViewOf(x, int64(other)), impl.ViewOf(got, int64(other))
				if impl.SameViews(a.View, b.View) != (other != guest) {
					t.Fatalf("guest %d of %v stores everywhere, and %d sees %v", guest, q, other, b)
				}
			}
		}
	}
}

// TestPromiseOfGaps asks that between two turns of a guest there are never more steps than is told, and somewhere just as many; turns are told by the clock, and by hosts that run.
func TestPromiseOfGaps(t *testing.T) {
	for _, p := range viewedPolicies() {
		round := impl.RoundOf(p).Value
		for guest := range int64(len(p.Own)) {
			gap := impl.GapOf(p, guest)
			if impl.FramesOf(p, guest).Value == 0 {
				askInt(t, gap, impl.IntResult{Code: impl.ErrBusy}, "GapOf guest ", guest, " without a slot of ", p.Plan)
				continue
			}
			last, most := int64(-1), int64(0)
			// In three rounds each gap is met, the one over the plan's end among them.
			for clock := range 3 * round {
				if impl.TurnAt(p, clock).Slot.Guest != guest {
					continue
				}
				if last >= 0 {
					most = max(most, clock-last-1)
				}
				last = clock
			}
			askInt(t, gap, impl.IntResult{Value: most}, "GapOf guest ", guest, " of ", p.Plan)
		}
	}
	circle := []int64{op(19, 0, 0, 0)}
	for _, p := range plannedPolicies() {
		x := impl.BootHost(p, slices.Repeat([][]int64{circle}, len(p.Own)), make([][]int64, len(p.Own))).Host
		var idle, most [3]int64
		begun := [3]bool{}
		for range 2*impl.RoundOf(p).Value + 50 {
			next := impl.StepHost(x).Host
			for guest, h := range next.Harts {
				if h.Done > x.Harts[guest].Done {
					if begun[guest] {
						most[guest] = max(most[guest], idle[guest])
					}
					begun[guest], idle[guest] = true, 0
				} else {
					idle[guest]++
				}
			}
			x = next
		}
		for guest := range p.Own {
			if gap := impl.GapOf(p, int64(guest)); begun[guest] != (gap.Code == impl.OK) || most[guest] != gap.Value {
				t.Fatalf("guest %d of %v rests for %d steps at the most, and %v are told", guest, p.Plan, most[guest], gap)
			}
		}
	}
}

// TestPromiseOfFeeds asks that what one guest is fed changes no view of the others then, and of its own In alone.
func TestPromiseOfFeeds(t *testing.T) {
	fed := 0
	for k, x := range viewedHosts() {
		for guest := range int64(len(x.Policy.Own)) {
			words := feedLists()[(k+int(guest))%len(feedLists())]
			got := impl.FeedHost(x, guest, words)
			if got.Code != impl.OK {
				continue
			}
			askWords(t, impl.ChangedPages(x.Memory, got.Host.Memory), impl.IntsResult{}, "FeedHost ", guest)
			for other := range int64(len(x.Policy.Own)) {
				a, b := impl.ViewOf(x, other), impl.ViewOf(got.Host, other)
				if other == guest {
					fed += len(words)
					a.View.Hart.In = append(slices.Clone(a.View.Hart.In), words...)
				}
				if a.Code != impl.OK || b.Code != impl.OK || !impl.SameViews(a.View, b.View) || !sameView(a.View, b.View) {
					t.Fatalf("guest %d of %v is fed %v, and %d sees %v", guest, x, words, other, b)
				}
			}
		}
	}
	if fed < 1000 {
		t.Errorf("%d words are fed", fed)
	}
}

// looked are arguments of all calls of this layer.
type looked struct {
	x     impl.Host
	alone impl.Solo
	v, w  impl.View
	m     []int64
}

// viewAnswer is what a call answers, whatever it is: a view, a list, or what can be told as a text.
type viewAnswer struct {
	view impl.ViewResult
	list impl.IntsResult
	said string
}

func cloneAnswer(a viewAnswer) viewAnswer {
	a.view.View, a.list.List = cloneView(a.view.View), slices.Clone(a.list.List)
	return a
}

func askAnswer(t *testing.T, got, want viewAnswer, what ...any) {
	t.Helper()
	askView(t, got.view, want.view, what...)
	askWords(t, got.list, want.list, what...)
	if got.said != want.said {
		t.Fatalf("%s: %s, not %s", fmt.Sprint(what...), got.said, want.said)
	}
}

type viewCall struct {
	name string
	do   func(x looked) viewAnswer
}

func viewCalls() []viewCall {
	list := []viewCall{
		{"SameViews", func(x looked) viewAnswer { return viewAnswer{said: fmt.Sprint(impl.SameViews(x.v, x.w))} }},
		{"ViewText", func(x looked) viewAnswer { return viewAnswer{said: fmt.Sprint(impl.ViewText(x.v))} }},
		{"ChangedPages", func(x looked) viewAnswer { return viewAnswer{list: impl.ChangedPages(x.x.Memory, x.m)} }},
		{"ChangedPages of itself", func(x looked) viewAnswer { return viewAnswer{list: impl.ChangedPages(x.m, x.m)} }},
	}
	for _, guest := range []int64{-1, 0, 1, 2, 3} {
		list = append(list,
			viewCall{fmt.Sprint("ViewOf ", guest), func(x looked) viewAnswer { return viewAnswer{view: impl.ViewOf(x.x, guest)} }},
			viewCall{fmt.Sprint("SoloView ", guest), func(x looked) viewAnswer { return viewAnswer{view: impl.SoloView(x.x.Policy, x.alone, guest)} }},
			viewCall{fmt.Sprint("MayChange ", guest), func(x looked) viewAnswer { return viewAnswer{list: impl.MayChange(x.x.Policy, guest)} }},
			viewCall{fmt.Sprint("StrangersTo ", guest), func(x looked) viewAnswer { return viewAnswer{list: impl.StrangersTo(x.x.Policy, guest)} }},
			viewCall{fmt.Sprint("GapOf ", guest), func(x looked) viewAnswer { return viewAnswer{said: fmt.Sprint(impl.GapOf(x.x.Policy, guest))} }},
		)
	}
	return list
}

func cloneLooked(x looked) looked {
	return looked{x: cloneHost(x.x), alone: cloneSolo(x.alone), v: cloneView(x.v), w: cloneView(x.w), m: slices.Clone(x.m)}
}

func roomyView(v impl.View) (roomed, whole impl.View) {
	roomed.Hart, whole.Hart = roomyHart(v.Hart)
	roomed.Own, whole.Own = roomy(v.Own)
	roomed.Gives, whole.Gives = roomy(v.Gives)
	return roomed, whole
}

// roomyLooked has room behind each of its lists; whole has what stands there.
func roomyLooked(x looked) (roomed, whole looked) {
	roomed.x, whole.x = roomyHost(x.x)
	roomed.alone, whole.alone = roomySolo(x.alone)
	roomed.v, whole.v = roomyView(x.v)
	roomed.w, whole.w = roomyView(x.w)
	roomed.m, whole.m = roomy(x.m)
	return roomed, whole
}

// askLookedKept asks that all arguments, with the room behind their lists, are as they were.
func askLookedKept(t *testing.T, given, x, whole, before looked, what ...any) {
	t.Helper()
	askHostKept(t, given.x, x.x, whole.x, before.x, what...)
	if !sameSolo(given.alone, x.alone) || !sameSolo(whole.alone, before.alone) {
		t.Fatalf("%s changes %v", fmt.Sprint(what...), x.alone)
	}
	if !sameView(given.v, x.v) || !sameView(whole.v, before.v) || !sameView(given.w, x.w) || !sameView(whole.w, before.w) {
		t.Fatalf("%s changes %v or %v", fmt.Sprint(what...), x.v, x.w)
	}
	if !slices.Equal(given.m, x.m) || !slices.Equal(whole.m, before.m) {
		t.Fatalf("%s changes %v", fmt.Sprint(what...), x.m)
	}
}

func viewLists(v impl.View) [][]int64 {
	return append(listsOf(v.Hart), v.Own[:cap(v.Own)], v.Gives[:cap(v.Gives)])
}

func turnLooked(x looked) {
	turnHost(x.x)
	clear(x.x.Policy.Own)
	clear(x.x.Harts)
	turnSolo(x.alone)
	for _, list := range append(viewLists(x.v), viewLists(x.w)...) {
		turnAll(list)
	}
	turnAll(x.m[:cap(x.m)])
}

// askAnswerApart writes into the lists of an answer, one behind the other, and asks that no other one of them is another one then.
func askAnswerApart(t *testing.T, a viewAnswer, what ...any) {
	t.Helper()
	askListsApart(t, append(viewLists(a.view.View), a.list.List[:cap(a.list.List)]), what...)
}

// someLooked are arguments of all kinds, with faults and without.
func someLooked(hosts []impl.Host, solos []impl.Solo) []looked {
	memories := append(goodMemories(), nil, countedMemory(191), withWordAt(192, 5, -1))
	edits := viewEdits()
	var list []looked
	for k, x := range hosts {
		v, w := countedView(), countedView()
		edits[k%len(edits)].do(&v)
		if k%3 == 0 {
			w = cloneView(v)
		}
		list = append(list, looked{x: x, alone: solos[k%len(solos)], v: v, w: w, m: memories[k%len(memories)]})
	}
	return list
}

func TestViewCallsChangeNothing(t *testing.T) {
	hosts, solos := viewedHosts(), goodSolos()
	for k, bad := range someBadHosts() {
		if k%4 == 0 {
			hosts = append(hosts, bad.x)
		}
	}
	for k, bad := range someBadSolos() {
		if k%6 == 0 {
			solos = append(solos, bad.x)
		}
	}
	for _, x := range someLooked(hosts, solos) {
		given, whole := roomyLooked(x)
		before := cloneLooked(whole)
		for _, call := range viewCalls() {
			call.do(given)
			askLookedKept(t, given, x, whole, before, call.name)
		}
	}
}

// TestViewAnswersAreNew asks that a write into an answer is seen nowhere else, nor one into an argument in the answer.
func TestViewAnswersAreNew(t *testing.T) {
	hosts := mixedHosts(60)
	for _, p := range append(lanePolicies(), oneGuest(), twoGuests(), threeGuests(), fullPolicy()) {
		hosts = append(hosts, countedHost(p, 0), countedHost(p, 4))
	}
	for _, x := range someLooked(hosts, append(mixedSolos(90), countedSolo(), plainSolo())) {
		for _, call := range viewCalls() {
			askNewAnswer(t, call, x)
		}
	}
}

func askNewAnswer(t *testing.T, call viewCall, x looked) {
	t.Helper()
	x = cloneLooked(x)
	given, whole := roomyLooked(x)
	before := cloneLooked(whole)
	first, second := call.do(given), call.do(given)
	want := cloneAnswer(second)
	askAnswer(t, first, want, "asked at once again: ", call.name)
	askAnswerApart(t, first, call.name)
	askLookedKept(t, given, x, whole, before, "a write into what ", call.name, " answers")
	askAnswer(t, second, want, "behind a write into another answer: ", call.name)
	third := call.do(given)
	askAnswer(t, third, want, "asked again: ", call.name)
	turnLooked(given)
	turnLooked(whole)
	askAnswer(t, second, want, "behind a write into the arguments: ", call.name)
	askAnswer(t, third, want, "behind a write into the arguments: ", call.name)
}

// TestViewsOfSharedArguments asks of lists that are pieces of one another.
func TestViewsOfSharedArguments(t *testing.T) {
	m := make([]int64, 192)
	copy(m, []int64{0, op(14, 1, 0, 57), op(15, 1, 0, 56), 1, 2, 3, 4, 5})
	h := impl.Hart{Regs: m[32:48], Csr: m[48:59], In: m[:5], Out: m[1:4], Pc: 1}
	p := impl.Policy{Own: [][]int64{m[:1], m[3:5], {7}}, Lanes: []impl.Lane{lane(0, 1, 0, 5, 5), lane(1, 2, 9, 6, 6), lane(0, 2, 8, 6, 5)}, Plan: []impl.Slot{slot(0, 2), slot(1, 1)}}
	p.Lanes[0].Page = 10
	x := looked{x: hostIn(p, 1, m, h, h, h), alone: impl.Solo{Hart: h, Pages: itselfPages(), Memory: m[:64]}, v: impl.View{Hart: h, Own: m[:16], Gives: m[:8]}, w: impl.View{Hart: h, Own: m[:16], Gives: m[8:16]}, m: m[:64]}
	before := cloneLooked(x)
	for _, call := range viewCalls() {
		want, got := call.do(cloneLooked(before)), call.do(x)
		askAnswer(t, got, want, call.name, " of lists in one memory")
		askAnswerApart(t, got, call.name, " of lists in one memory")
		if !sameHost(x.x, before.x) || !sameSolo(x.alone, before.alone) || !sameView(x.v, before.v) || !sameView(x.w, before.w) {
			t.Fatalf("%s, or a write into its answer, changes lists in one memory", call.name)
		}
	}
	if got := impl.ViewOf(x.x, 0); got.Code != impl.OK || len(got.View.Gives) != 16 {
		t.Errorf("ViewOf a guest of lists in one memory: %v", got)
	}
}

// TestViewsHangOnTheirArgumentsAlone asks all once more, from the last one on: what was kept from a call would show.
func TestViewsHangOnTheirArgumentsAlone(t *testing.T) {
	hosts, solos := viewedHosts(), goodSolos()
	for k, bad := range someBadHosts() {
		if k%9 == 0 {
			hosts = append(hosts, bad.x)
		}
	}
	all := someLooked(hosts, solos)
	ask := func(n int) string {
		var said []string
		for _, call := range viewCalls() {
			said = append(said, fmt.Sprint(call.do(all[n])))
		}
		return strings.Join(said, " ")
	}
	var said []string
	for n := range all {
		said = append(said, ask(n))
	}
	for n := len(said) - 1; n >= 0; n-- {
		if got := ask(n); got != said[n] {
			t.Fatalf("first %s, then %s", said[n], got)
		}
	}
}
