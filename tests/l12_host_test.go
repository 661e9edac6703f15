package tests

import (
	"fmt"
	"math"
	"slices"
	"testing"

	"loop.example/g00213/impl"
)

func cloneHost(x impl.Host) impl.Host {
	var harts []impl.Hart
	for _, h := range x.Harts {
		harts = append(harts, cloneHart(h))
	}
	x.Policy, x.Memory, x.Harts = clonePolicy(x.Policy), slices.Clone(x.Memory), harts
	return x
}

func sameHost(a, b impl.Host) bool {
	return samePolicies(a.Policy, b.Policy) && slices.Equal(a.Memory, b.Memory) && slices.EqualFunc(a.Harts, b.Harts, sameHart) &&
		a.Slot == b.Slot && a.Left == b.Left && a.Clock == b.Clock
}

func askHost(t *testing.T, got, want impl.HostResult, what ...any) {
	t.Helper()
	if got.Code != want.Code || !sameHost(got.Host, want.Host) {
		t.Fatalf("%s:\n%v, not\n%v", fmt.Sprint(what...), got, want)
	}
}

func askTurn(t *testing.T, got, want impl.SlotResult, what ...any) {
	t.Helper()
	if got != want {
		t.Fatalf("%s: %v, not %v", fmt.Sprint(what...), got, want)
	}
}

// roundIn are the steps of a plan, one by one, each as TurnAt tells it.
func roundIn(plan []impl.Slot) []impl.SlotResult {
	var round []impl.SlotResult
	for at, x := range plan {
		for left := x.Steps; left > 0; left-- {
			round = append(round, impl.SlotResult{At: int64(at), Slot: slot(x.Guest, left)})
		}
	}
	return round
}

// The functions that end in In go through what the document says, word by word.
func turnAtIn(p impl.Policy, clock int64) impl.SlotResult {
	if fault := policyFaultIn(p); fault != 0 {
		return impl.SlotResult{Code: fault}
	}
	if !within(clock, 1e6) {
		return impl.SlotResult{Code: impl.ErrRange}
	}
	round := roundIn(p.Plan)
	return round[clock%int64(len(round))]
}

func turnsBeforeIn(p impl.Policy, clock, guest int64) impl.IntResult {
	if at := turnAtIn(p, clock); at.Code != 0 {
		return impl.IntResult{Code: at.Code}
	}
	if !guestIn(p, guest) {
		return impl.IntResult{Code: impl.ErrNone}
	}
	round, turns := roundIn(p.Plan), int64(0)
	for k := range clock {
		if round[k%int64(len(round))].Slot.Guest == guest {
			turns++
		}
	}
	return impl.IntResult{Value: turns}
}

func hostFaultIn(x impl.Host) int64 {
	if fault := policyFaultIn(x.Policy); fault != 0 {
		return fault
	}
	if len(x.Memory) != 192 || slices.Min(x.Memory) < 0 || slices.Max(x.Memory) > 4294967295 || len(x.Harts) != len(x.Policy.Own) {
		return impl.ErrForm
	}
	for _, h := range x.Harts {
		if fault := hartFaultIn(h); fault != 0 {
			return fault
		}
	}
	at := turnAtIn(x.Policy, x.Clock)
	if at.Code != 0 {
		return at.Code
	}
	if x.Slot != at.At || x.Left != at.Slot.Steps {
		return impl.ErrForm
	}
	return 0
}

func inputCodeIn(input []int64) int64 {
	if len(input) > 40 {
		return impl.ErrMany
	}
	if slices.ContainsFunc(input, func(w int64) bool { return !within(w, 4294967295) }) {
		return impl.ErrRange
	}
	return 0
}

func bootHostIn(p impl.Policy, images, inputs [][]int64) impl.HostResult {
	loaded := loadedImagesIn(p, images)
	if loaded.Code != 0 {
		return impl.HostResult{Code: loaded.Code}
	}
	if len(inputs) != len(p.Own) {
		return impl.HostResult{Code: impl.ErrMany}
	}
	x := impl.Host{Policy: clonePolicy(p), Memory: loaded.Memory, Left: p.Plan[0].Steps}
	for _, input := range inputs {
		if code := inputCodeIn(input); code != 0 {
			return impl.HostResult{Code: code}
		}
		x.Harts = append(x.Harts, newHartIn(input...))
	}
	return impl.HostResult{Host: x}
}

func stepHostIn(x impl.Host) impl.HostResult {
	if fault := hostFaultIn(x); fault != 0 {
		return impl.HostResult{Code: fault}
	}
	if x.Clock == 1e6 {
		return impl.HostResult{Code: impl.ErrRange}
	}
	x = cloneHost(x)
	guest := x.Policy.Plan[x.Slot].Guest
	one := stepIn(seen{x.Harts[guest], mapIn(x.Policy, guest), x.Memory})
	x.Harts[guest], x.Memory = one.Hart, one.Memory
	for _, b := range x.Policy.Bells {
		if b.From == guest && b.To == one.Ring {
			x.Harts[b.To].Rung = true
		}
	}
	x.Clock++
	next := turnAtIn(x.Policy, x.Clock)
	x.Slot, x.Left = next.At, next.Slot.Steps
	return impl.HostResult{Host: x}
}

func runHostIn(x impl.Host, n int64) impl.HostResult {
	if fault := hostFaultIn(x); fault != 0 {
		return impl.HostResult{Code: fault}
	}
	if !within(n, 500) {
		return impl.HostResult{Code: impl.ErrRange}
	}
	all := impl.HostResult{Host: x}
	for range n {
		if all = stepHostIn(all.Host); all.Code != 0 {
			return all
		}
	}
	return all
}

func feedHostIn(x impl.Host, guest int64, words []int64) impl.HostResult {
	if fault := hostFaultIn(x); fault != 0 {
		return impl.HostResult{Code: fault}
	}
	if !guestIn(x.Policy, guest) {
		return impl.HostResult{Code: impl.ErrNone}
	}
	x = cloneHost(x)
	fed := feedIn(x.Harts[guest], words)
	if fed.Code != 0 {
		return impl.HostResult{Code: fed.Code}
	}
	x.Harts[guest] = fed.Hart
	return impl.HostResult{Host: x}
}

func restIn(x impl.Host) impl.IntResult {
	if fault := hostFaultIn(x); fault != 0 {
		return impl.IntResult{Code: fault}
	}
	round, rest := roundIn(x.Policy.Plan), int64(0)
	for (x.Clock+rest)%int64(len(round)) != 0 {
		rest++
	}
	return impl.IntResult{Value: rest}
}

// hostIn is a host without a fault behind so many steps, if what it is told has none.
func hostIn(p impl.Policy, clock int64, m []int64, harts ...impl.Hart) impl.Host {
	at := turnAtIn(p, clock)
	return impl.Host{Policy: p, Memory: m, Harts: harts, Slot: at.At, Left: at.Slot.Steps, Clock: clock}
}

// countedHost has another number in each place of its memory and of each machine.
func countedHost(p impl.Policy, clock int64) impl.Host {
	x := hostIn(p, clock, countedMemory(192))
	for range p.Own {
		x.Harts = append(x.Harts, countedHart())
	}
	return x
}

// plansFor are plans of 1 and of 8 slots, with slots of 1 and of 50 steps, and some of one guest side by side.
func plansFor(guests int64) [][]impl.Slot {
	last := guests - 1
	return [][]impl.Slot{
		{slot(0, 1)}, {slot(last, 50)}, {slot(last, 2), slot(0, 3)}, {slot(0, 1), slot(last, 1)}, {slot(0, 50), slot(last, 50)},
		{slot(last, 3), slot(last, 2)}, {slot(0, 4), slot(last, 1), slot(last, 5)}, {slot(last, 2), slot(0, 2), slot(last, 2)},
		slices.Repeat([]impl.Slot{slot(0, 1)}, 8), slices.Repeat([]impl.Slot{slot(last, 50)}, 8),
		{slot(0, 1), slot(last, 50), slot(last, 1), slot(0, 7), slot(0, 2), slot(guests/2, 50), slot(last, 49), slot(0, 1)},
	}
}

// plannedPolicies have no fault: policies of one, two and three guests, each with plans of all kinds.
func plannedPolicies() []impl.Policy {
	var list []impl.Policy
	for _, p := range []impl.Policy{oneGuest(), twoGuests(), threeGuests(), looseGuests()} {
		list = append(list, p)
		for _, plan := range plansFor(int64(len(p.Own))) {
			q := clonePolicy(p)
			q.Plan = plan
			list = append(list, q)
		}
	}
	return append(list, fullPolicy())
}

// clocksOf are clocks at the beginning, around the end of each slot of the first rounds, and around the last one that there may be.
func clocksOf(p impl.Policy) []int64 {
	list := []int64{0, 1, 999, 123456, 999998, 999999, 1000000}
	end := int64(0)
	for range 3 {
		for _, x := range p.Plan {
			end += x.Steps
			list = append(list, end-1, end, end+1)
		}
	}
	return list
}

func clockNumbers() []int64 {
	return []int64{math.MinInt64, -1 << 32, -1000000, -1, 0, 1, 999999, 1000000, 1000001, 1 << 32, 1<<32 + 1, math.MaxInt64}
}

// mixedHosts have no fault. Most of their guests can run where they are, and some ring others.
func mixedHosts(many int) []impl.Host {
	next := steadyNext(4099)
	policies := append([]impl.Policy{twoGuests(), threeGuests(), fullPolicy()}, mixedPolicies(60)...)
	for mask := range 64 {
		policies = append(policies, linkedGuests(mask))
	}
	harts := mixedHarts(3 * many)
	var list []impl.Host
	for k := range many {
		p := clonePolicy(policies[k%len(policies)])
		if next(2) == 0 {
			// Short slots: guests come to their turns soon.
			for at := range p.Plan {
				p.Plan[at].Steps = next(4) + 1
			}
		}
		clocks := clocksOf(p)
		x := hostIn(p, []int64{0, next(1000), clocks[next(int64(len(clocks)))]}[next(3)], mixedMemory(24, next))
		for guest := range p.Own {
			x.Harts = append(x.Harts, mixedGuest(x, int64(guest), harts[3*k+guest], next))
		}
		list = append(list, x)
	}
	return list
}

// mixedGuest is a machine that runs on its pages for the most part; x has no machines yet, and its memory is written.
func mixedGuest(x impl.Host, guest int64, h impl.Hart, next func(n int64) int64) impl.Hart {
	for k := range h.Regs[1:] {
		h.Regs[k+1] = []int64{h.Regs[k+1], next(66), next(4)}[next(3)]
	}
	if next(4) > 0 {
		h.Halted, h.Waiting, h.Csr[10] = false, false, 0
	}
	if runs := runPlacesIn(seen{h, mapIn(x.Policy, guest), x.Memory}); len(runs) > 0 && next(6) > 0 {
		h.Pc, h.Csr[1] = runs[next(int64(len(runs)))], runs[next(int64(len(runs)))]
	}
	h.Rung = h.Rung && next(3) == 0
	// Near where it is it rings one whose number is small.
	for k := range next(4) {
		if place := placeOfIn(seen{h, mapIn(x.Policy, guest), x.Memory}, h.Pc+k, 4); place.Code == 0 {
			d := next(15) + 1
			x.Memory[place.Value], h.Regs[d] = op(15, d, 0, 61), next(4)
		}
	}
	return h
}

// goodHosts have no fault: mixed ones, and machines of the layers below in policies of one, two and three guests at clocks of all kinds.
func goodHosts() []impl.Host {
	list := mixedHosts(300)
	harts := append(edgeHarts(), mixedHarts(40)...)
	k := 0
	for _, p := range plannedPolicies() {
		for _, clock := range clocksOf(p)[:10] {
			x := hostIn(p, clock, [][]int64{countedMemory(192), make([]int64, 192), slices.Repeat([]int64{impl.WordTop}, 192)}[k%3])
			for range p.Own {
				x.Harts = append(x.Harts, harts[k%len(harts)])
				k++
			}
			list = append(list, x)
		}
	}
	return list
}

type badHost struct {
	x     impl.Host
	fault int64
}

// hostBadMemories have a fault, or have none and not 24 pages.
func hostBadMemories() [][]int64 {
	var list [][]int64
	for _, bad := range badMemories() {
		list = append(list, bad.m)
	}
	for size := range 210 {
		if size != 192 {
			list = append(list, countedMemory(size))
		}
	}
	for at := range 192 {
		list = append(list, withWordAt(192, at, -1), withWordAt(192, at, impl.WordTop+1))
	}
	return append(list, withWordAt(192, 100, math.MinInt64), withWordAt(192, 100, math.MaxInt64))
}

// someBadHosts have one fault each: of the policy, of the memory, of how many machines there are, of one of them, of the clock, or of where the plan is.
func someBadHosts() []badHost {
	list := []badHost{{impl.Host{}, impl.ErrMany}}
	for _, bad := range someBadPolicies() {
		x := countedHost(looseGuests(), 3)
		x.Policy = bad.p
		list = append(list, badHost{x, bad.fault})
	}
	for k, m := range hostBadMemories() {
		x := countedHost([]impl.Policy{oneGuest(), twoGuests(), threeGuests()}[k%3], int64(k))
		x.Memory = m
		list = append(list, badHost{x, impl.ErrForm})
	}
	for _, p := range []impl.Policy{oneGuest(), twoGuests(), threeGuests()} {
		for _, many := range []int{0, 1, 2, 3, 4, 100} {
			x := countedHost(p, 5)
			if x.Harts = slices.Repeat([]impl.Hart{countedHart()}, many); many != len(p.Own) {
				list = append(list, badHost{x, impl.ErrForm})
			}
		}
	}
	for k, bad := range someBadHarts() {
		x := countedHost([]impl.Policy{oneGuest(), twoGuests(), threeGuests()}[k%3], int64(k))
		x.Harts[k/3%len(x.Harts)] = bad.h
		list = append(list, badHost{x, bad.fault})
	}
	for k, clock := range clockNumbers() {
		x := countedHost([]impl.Policy{oneGuest(), twoGuests(), threeGuests()}[k%3], 0)
		if x.Clock = clock; !within(clock, 1e6) {
			list = append(list, badHost{x, impl.ErrRange})
		}
	}
	return append(list, badTurns()...)
}

// badTurns are hosts of which Slot or Left alone, or both, are not those of the clock.
func badTurns() []badHost {
	var list []badHost
	for _, p := range []impl.Policy{oneGuest(), twoGuests(), threeGuests(), fullPolicy()} {
		for _, clock := range clocksOf(p)[:16] {
			good := countedHost(p, clock)
			for _, n := range []int64{math.MinInt64, -1, -good.Slot - 1, good.Slot - 1, good.Slot + 1, int64(len(p.Plan)), 8, 1<<32 + good.Slot, math.MaxInt64} {
				x := good
				x.Slot = n
				list = append(list, badHost{x, impl.ErrForm})
			}
			for _, n := range []int64{math.MinInt64, -1, -good.Left, 0, good.Left - 1, good.Left + 1, 51, 1<<32 + good.Left, math.MaxInt64} {
				x := good
				x.Left = n
				y := x
				y.Slot = good.Slot + 1
				list = append(list, badHost{x, impl.ErrForm}, badHost{y, impl.ErrForm})
			}
		}
	}
	return list
}

func TestHostConstants(t *testing.T) {
	if impl.MaxClock != 1000000 {
		t.Error("constants")
	}
}

func TestHostFault(t *testing.T) {
	for _, x := range goodHosts() {
		if got := impl.HostFault(x); got != impl.OK || hostFaultIn(x) != impl.OK {
			t.Fatalf("HostFault of %v: %d", x, got)
		}
	}
	for _, bad := range someBadHosts() {
		if got := impl.HostFault(bad.x); got != bad.fault || hostFaultIn(bad.x) != bad.fault {
			t.Fatalf("HostFault of %v: %d, not %d", bad.x, got, bad.fault)
		}
	}
}

// askHostCode asks that all functions that ask it first tell a fault, with numbers and words that are right and such as are not; where it is OK nothing is asked.
func askHostCode(t *testing.T, x impl.Host, fault int64) {
	t.Helper()
	if fault == impl.OK {
		return
	}
	want := impl.HostResult{Code: fault}
	askHost(t, impl.StepHost(x), want, "StepHost of a host with a fault")
	for _, n := range []int64{-1, 0, 1, 500, 501} {
		askHost(t, impl.RunHost(x, n), want, "RunHost ", n, " of a host with a fault")
	}
	for _, guest := range []int64{-1, 0, 1, 3} {
		for _, words := range [][]int64{nil, {5}, {-1}, queueOf(41, 0)} {
			askHost(t, impl.FeedHost(x, guest, words), want, "FeedHost ", guest, " of a host with a fault")
		}
	}
	askInt(t, impl.RestOf(x), impl.IntResult{Code: fault}, "RestOf a host with a fault")
}

func TestAllAskTheHostFaultFirst(t *testing.T) {
	for _, bad := range someBadHosts() {
		askHostCode(t, bad.x, bad.fault)
	}
}

// TestTurnsAskNoHost asks that those that are told a policy and no host go by it alone.
func TestTurnsAskNoHost(t *testing.T) {
	for _, bad := range someBadPolicies() {
		for _, clock := range clockNumbers() {
			askTurn(t, impl.TurnAt(bad.p, clock), impl.SlotResult{Code: bad.fault}, "TurnAt ", clock, " of ", bad.p)
			for _, guest := range []int64{-1, 0, 2, 3} {
				askInt(t, impl.TurnsBefore(bad.p, clock, guest), impl.IntResult{Code: bad.fault}, "TurnsBefore ", clock, " of ", bad.p)
			}
		}
	}
}

func TestHostFaultByHand(t *testing.T) {
	// Guest 0 has 2 steps and guest 1 has 3: behind 6 steps the slot is 0, and 1 is left.
	table := []struct {
		name string
		edit func(x *impl.Host)
		want int64
	}{
		{"nothing else", func(x *impl.Host) {}, impl.OK},
		{"nothing", func(x *impl.Host) { *x = impl.Host{} }, impl.ErrMany},
		{"no policy", func(x *impl.Host) { x.Policy = impl.Policy{} }, impl.ErrMany},
		{"a page 24", func(x *impl.Host) { x.Policy.Own[0][0] = 24 }, impl.ErrRange},
		{"a page owned twice", func(x *impl.Host) { x.Policy.Own[0][0] = 3 }, impl.ErrTaken},
		{"a lane to nobody", func(x *impl.Host) { x.Policy.Lanes[0].To = 2 }, impl.ErrNone},
		{"a lane to itself", func(x *impl.Host) { x.Policy.Lanes[0].To = 0 }, impl.ErrForm},
		{"no lanes", func(x *impl.Host) { x.Policy.Lanes = nil }, impl.OK},
		{"an empty list of lanes and of bells", func(x *impl.Host) { x.Policy.Lanes, x.Policy.Bells = []impl.Lane{}, []impl.Bell{} }, impl.OK},
		{"no plan", func(x *impl.Host) { x.Policy.Plan = nil }, impl.ErrMany},
		{"no memory", func(x *impl.Host) { x.Memory = nil }, impl.ErrForm},
		{"an empty memory", func(x *impl.Host) { x.Memory = []int64{} }, impl.ErrForm},
		{"23 pages", func(x *impl.Host) { x.Memory = make([]int64, 184) }, impl.ErrForm},
		{"24 pages", func(x *impl.Host) { x.Memory = make([]int64, 192) }, impl.OK},
		{"25 pages", func(x *impl.Host) { x.Memory = make([]int64, 200) }, impl.ErrForm},
		{"8 pages", func(x *impl.Host) { x.Memory = make([]int64, 64) }, impl.ErrForm},
		{"191 words", func(x *impl.Host) { x.Memory = make([]int64, 191) }, impl.ErrForm},
		{"193 words", func(x *impl.Host) { x.Memory = make([]int64, 193) }, impl.ErrForm},
		{"no word", func(x *impl.Host) { x.Memory[191] = -1 }, impl.ErrForm},
		{"a number above all words", func(x *impl.Host) { x.Memory[0] = impl.WordTop + 1 }, impl.ErrForm},
		{"the greatest word", func(x *impl.Host) { x.Memory[0] = impl.WordTop }, impl.OK},
		{"no machines", func(x *impl.Host) { x.Harts = nil }, impl.ErrForm},
		{"an empty list of machines", func(x *impl.Host) { x.Harts = []impl.Hart{} }, impl.ErrForm},
		{"one machine too few", func(x *impl.Host) { x.Harts = x.Harts[:1] }, impl.ErrForm},
		{"one machine too many", func(x *impl.Host) { x.Harts = append(x.Harts, countedHart()) }, impl.ErrForm},
		{"a machine that is none", func(x *impl.Host) { x.Harts[1] = impl.Hart{} }, impl.ErrForm},
		{"the first machine's Pc -1", func(x *impl.Host) { x.Harts[0].Pc = -1 }, impl.ErrRange},
		{"the last machine's Pc -1", func(x *impl.Host) { x.Harts[1].Pc = -1 }, impl.ErrRange},
		{"the last machine's In 41", func(x *impl.Host) { x.Harts[1].In = queueOf(41, 0) }, impl.ErrMany},
		{"the first machine's mask 8", func(x *impl.Host) { x.Harts[0].Csr[7] = 8 }, impl.ErrForm},
		{"machines without words In and Out", func(x *impl.Host) { x.Harts[0].In, x.Harts[0].Out, x.Harts[1].In = nil, nil, []int64{} }, impl.OK},
		{"Clock -1", func(x *impl.Host) { x.Clock = -1 }, impl.ErrRange},
		{"Clock 1000001", func(x *impl.Host) { x.Clock = 1000001 }, impl.ErrRange},
		{"Clock 5", func(x *impl.Host) { x.Clock = 5 }, impl.ErrForm},
		{"Clock 11, a round behind it", func(x *impl.Host) { x.Clock = 11 }, impl.OK},
		{"Clock 0", func(x *impl.Host) { x.Clock, x.Left = 0, 2 }, impl.OK},
		{"Clock 999999, which is the last step of a round", func(x *impl.Host) { x.Clock, x.Slot, x.Left = 999999, 1, 1 }, impl.OK},
		{"Clock 1000000, at which the plan begins", func(x *impl.Host) { x.Clock, x.Slot, x.Left = 1000000, 0, 2 }, impl.OK},
		{"Clock 1000000, and a step too few", func(x *impl.Host) { x.Clock = 1000000 }, impl.ErrForm},
		{"Slot right and Left wrong", func(x *impl.Host) { x.Left = 2 }, impl.ErrForm},
		{"Slot wrong and Left right", func(x *impl.Host) { x.Slot = 1 }, impl.ErrForm},
		{"Slot and Left of another clock", func(x *impl.Host) { x.Slot, x.Left = 1, 3 }, impl.ErrForm},
		{"Left 0", func(x *impl.Host) { x.Left = 0 }, impl.ErrForm},
		{"Left 0 where the slot ends", func(x *impl.Host) { x.Clock, x.Left = 7, 0 }, impl.ErrForm},
		{"the next slot where the slot ends", func(x *impl.Host) { x.Clock, x.Slot, x.Left = 7, 1, 3 }, impl.OK},
		{"Slot behind the plan where the round ends", func(x *impl.Host) { x.Clock, x.Slot, x.Left = 10, 2, 2 }, impl.ErrForm},
		{"Slot -1", func(x *impl.Host) { x.Slot = -1 }, impl.ErrForm},
	}
	for _, y := range table {
		x := countedHost(clonePolicy(twoGuests()), 6)
		y.edit(&x)
		if got := impl.HostFault(x); got != y.want || hostFaultIn(x) != y.want {
			t.Errorf("HostFault with %s: %d, not %d", y.name, got, y.want)
		}
		askHostCode(t, x, y.want)
	}
}

// hostEdit makes a fault; those of a lower order are told ahead of the others.
type hostEdit struct {
	order int
	fault int64
	name  string
	do    func(x *impl.Host)
}

// hostEdits may be done one upon another, in any order, on a host of two guests; of one order the codes are the same but for machines.
func hostEdits() []hostEdit {
	return []hostEdit{
		{1, impl.ErrMany, "a guest without pages", func(x *impl.Host) { x.Policy.Own[1] = nil }},
		{1, impl.ErrTaken, "a page owned twice", func(x *impl.Host) { x.Policy.Own[0] = []int64{2, 2} }},
		{1, impl.ErrNone, "a bell to nobody", func(x *impl.Host) { x.Policy.Bells = []impl.Bell{bell(0, 2)} }},
		{1, impl.ErrRange, "a slot of 51", func(x *impl.Host) { x.Policy.Plan[1].Steps = 51 }},
		{2, impl.ErrForm, "no memory", func(x *impl.Host) { x.Memory = nil }},
		{2, impl.ErrForm, "23 pages", func(x *impl.Host) { x.Memory = countedMemory(184) }},
		{2, impl.ErrForm, "what is no word", func(x *impl.Host) { x.Memory = withWordAt(192, 5, -1) }},
		{2, impl.ErrForm, "a machine too few", func(x *impl.Host) { x.Harts = x.Harts[:min(1, len(x.Harts))] }},
		{2, impl.ErrForm, "a machine too many", func(x *impl.Host) {
			x.Harts = append(x.Harts, slices.Repeat([]impl.Hart{countedHart()}, 3-len(x.Harts))...)
		}},
		{2, impl.ErrForm, "no machines", func(x *impl.Host) { x.Harts = nil }},
		{3, impl.ErrRange, "the first machine's Done -1", func(x *impl.Host) { editHart(x, 0, func(h *impl.Hart) { h.Done = -1 }) }},
		{3, impl.ErrMany, "the first machine's Out of 41", func(x *impl.Host) { editHart(x, 0, func(h *impl.Hart) { h.Out = queueOf(41, 1) }) }},
		{4, impl.ErrMany, "the last machine's In of 41", func(x *impl.Host) { editHart(x, 1, func(h *impl.Hart) { h.In = queueOf(41, 1) }) }},
		{4, impl.ErrRange, "the last machine's Pc -1", func(x *impl.Host) { editHart(x, 1, func(h *impl.Hart) { h.Pc = -1 }) }},
		{4, impl.ErrForm, "the last machine's first register 1", func(x *impl.Host) { editHart(x, 1, func(h *impl.Hart) { h.Regs[0] = 1 }) }},
		{5, impl.ErrRange, "Clock -1", func(x *impl.Host) { x.Clock = -1 }},
		{5, impl.ErrRange, "Clock 1000001", func(x *impl.Host) { x.Clock = 1000001 }},
		{6, impl.ErrForm, "Slot 1", func(x *impl.Host) { x.Slot = 1 }},
		{6, impl.ErrForm, "Slot 2", func(x *impl.Host) { x.Slot = 2 }},
		{6, impl.ErrForm, "Left 0", func(x *impl.Host) { x.Left = 0 }},
		{6, impl.ErrForm, "Left 2", func(x *impl.Host) { x.Left = 2 }},
	}
}

// editHart leaves a machine as it is that is not there any more.
func editHart(x *impl.Host, guest int, edit func(h *impl.Hart)) {
	if guest < len(x.Harts) {
		edit(&x.Harts[guest])
	}
}

// TestHostFaultsOfTwo asks each fault beside each other one, and beside two.
func TestHostFaultsOfTwo(t *testing.T) {
	edits := hostEdits()
	for _, first := range edits {
		for _, second := range edits {
			for _, third := range edits {
				if first.order >= second.order || second.order > third.order {
					continue
				}
				x := countedHost(clonePolicy(twoGuests()), 6)
				third.do(&x)
				second.do(&x)
				first.do(&x)
				if got := impl.HostFault(x); got != first.fault {
					t.Fatalf("HostFault with %s, %s and %s: %d, not %d", first.name, second.name, third.name, got, first.fault)
				}
				askHostCode(t, x, first.fault)
			}
		}
	}
}

// TestHostFaultOfEachMachine asks each fault of a machine at each place, ahead of another machine's and of the clock.
func TestHostFaultOfEachMachine(t *testing.T) {
	bads := someBadHarts()
	for _, p := range []impl.Policy{oneGuest(), twoGuests(), threeGuests()} {
		for k, bad := range bads {
			for guest := range p.Own {
				x := countedHost(p, 7)
				x.Harts[guest] = bad.h
				if got := impl.HostFault(x); got != bad.fault {
					t.Fatalf("HostFault with the machine %d %v: %d, not %d", guest, bad.h, got, bad.fault)
				}
				for behind := guest + 1; behind < len(p.Own); behind++ {
					x.Harts[behind] = bads[(k*7+behind)%len(bads)].h
				}
				x.Clock, x.Slot = -1, 9
				if got := impl.HostFault(x); got != bad.fault {
					t.Fatalf("HostFault with the machine %d %v and those behind it: %d, not %d", guest, bad.h, got, bad.fault)
				}
			}
		}
	}
}

// TestHostFaultOfPolicies asks each fault of a policy ahead of all else that is wrong, and each of a memory ahead of the machines.
func TestHostFaultOfPolicies(t *testing.T) {
	for _, bad := range someBadPolicies() {
		for _, x := range []impl.Host{{}, countedHost(looseGuests(), 2), {Memory: countedMemory(192), Clock: -1}, {Harts: make([]impl.Hart, 3), Slot: 3}} {
			x.Policy = bad.p
			if got := impl.HostFault(x); got != bad.fault {
				t.Fatalf("HostFault with the policy %v: %d, not %d", bad.p, got, bad.fault)
			}
		}
	}
	for _, m := range hostBadMemories() {
		x := countedHost(threeGuests(), 4)
		x.Memory, x.Harts[0].Pc, x.Clock = m, -1, -1
		if got := impl.HostFault(x); got != impl.ErrForm {
			t.Fatalf("HostFault with the memory %v: %d", m, got)
		}
	}
}

// TestHostFaultOfTurns asks that of all Slots and Lefts one pair alone is right at a clock.
func TestHostFaultOfTurns(t *testing.T) {
	for _, p := range plannedPolicies() {
		for _, clock := range clocksOf(p)[:14] {
			x, right := countedHost(p, clock), turnAtIn(p, clock)
			for at := int64(-1); at <= int64(len(p.Plan)); at++ {
				for left := int64(-1); left <= 51; left++ {
					x.Slot, x.Left = at, left
					want := int64(impl.ErrForm)
					if at == right.At && left == right.Slot.Steps {
						want = impl.OK
					}
					if got := impl.HostFault(x); got != want {
						t.Fatalf("HostFault of the plan %v at %d with Slot %d, Left %d: %d, not %d", p.Plan, clock, at, left, got, want)
					}
				}
			}
		}
	}
}

func TestTurnAtByHand(t *testing.T) {
	two := []impl.Slot{slot(0, 2), slot(1, 3)}
	long := []impl.Slot{slot(1, 50)}
	beside := []impl.Slot{slot(1, 2), slot(1, 1), slot(0, 1)}
	eight := []impl.Slot{slot(0, 1), slot(1, 1), slot(0, 1), slot(1, 50), slot(0, 1), slot(1, 1), slot(1, 1), slot(0, 1)}
	table := []struct {
		plan                   []impl.Slot
		clock, at, guest, left int64
	}{
		{two, 0, 0, 0, 2}, {two, 1, 0, 0, 1}, {two, 2, 1, 1, 3}, {two, 3, 1, 1, 2}, {two, 4, 1, 1, 1}, {two, 5, 0, 0, 2}, {two, 6, 0, 0, 1}, {two, 7, 1, 1, 3}, {two, 999999, 1, 1, 1}, {two, 1000000, 0, 0, 2},
		{[]impl.Slot{slot(0, 1)}, 0, 0, 0, 1}, {[]impl.Slot{slot(0, 1)}, 1, 0, 0, 1}, {[]impl.Slot{slot(0, 1)}, 1000000, 0, 0, 1},
		{long, 0, 0, 1, 50}, {long, 1, 0, 1, 49}, {long, 49, 0, 1, 1}, {long, 50, 0, 1, 50}, {long, 51, 0, 1, 49}, {long, 999999, 0, 1, 1}, {long, 1000000, 0, 1, 50},
		{beside, 0, 0, 1, 2}, {beside, 1, 0, 1, 1}, {beside, 2, 1, 1, 1}, {beside, 3, 2, 0, 1}, {beside, 4, 0, 1, 2}, {beside, 999998, 1, 1, 1}, {beside, 1000000, 0, 1, 2},
		{eight, 0, 0, 0, 1}, {eight, 1, 1, 1, 1}, {eight, 2, 2, 0, 1}, {eight, 3, 3, 1, 50}, {eight, 52, 3, 1, 1}, {eight, 53, 4, 0, 1}, {eight, 55, 6, 1, 1}, {eight, 56, 7, 0, 1}, {eight, 57, 0, 0, 1}, {eight, 999951, 0, 0, 1}, {eight, 1000000, 3, 1, 4},
	}
	for _, x := range table {
		p := twoGuests()
		p.Plan = x.plan
		want := impl.SlotResult{At: x.at, Slot: slot(x.guest, x.left)}
		askTurn(t, turnAtIn(p, x.clock), want, "the second reader: ", x.plan, " at ", x.clock)
		askTurn(t, impl.TurnAt(p, x.clock), want, "TurnAt of ", x.plan, " at ", x.clock)
	}
	for _, clock := range []int64{math.MinInt64, -1 << 32, -5, -1, 1000001, 1000005, 1 << 32, math.MaxInt64} {
		askTurn(t, impl.TurnAt(twoGuests(), clock), impl.SlotResult{Code: impl.ErrRange}, "TurnAt ", clock)
	}
}

func TestTurnAt(t *testing.T) {
	for _, p := range append(plannedPolicies(), goodPolicies()...) {
		for _, clock := range append(clocksOf(p), clockNumbers()...) {
			askTurn(t, impl.TurnAt(p, clock), turnAtIn(p, clock), "TurnAt ", clock, " of ", p.Plan)
		}
	}
}

// TestTurnsGoRound goes through whole rounds step by step: the slots follow each other, each for its Steps.
func TestTurnsGoRound(t *testing.T) {
	for _, p := range plannedPolicies() {
		clock := int64(0)
		for range 3 {
			for at, x := range p.Plan {
				for left := x.Steps; left > 0; left-- {
					askTurn(t, impl.TurnAt(p, clock), impl.SlotResult{At: int64(at), Slot: slot(x.Guest, left)}, "TurnAt ", clock, " of ", p.Plan)
					clock++
				}
			}
		}
	}
}

func TestTurnsBeforeByHand(t *testing.T) {
	two := twoGuests()
	beside := impl.Policy{Own: [][]int64{{1}, {2}, {3}}, Plan: []impl.Slot{slot(2, 2), slot(2, 1), slot(0, 50)}}
	table := []struct {
		p                  impl.Policy
		clock, guest, want int64
	}{
		{two, 0, 0, 0}, {two, 0, 1, 0}, {two, 1, 0, 1}, {two, 1, 1, 0}, {two, 2, 0, 2}, {two, 2, 1, 0}, {two, 3, 0, 2}, {two, 3, 1, 1}, {two, 4, 1, 2}, {two, 5, 0, 2}, {two, 5, 1, 3}, {two, 6, 0, 3}, {two, 6, 1, 3}, {two, 7, 0, 4}, {two, 10, 1, 6},
		{two, 999999, 0, 400000}, {two, 999999, 1, 599999}, {two, 1000000, 0, 400000}, {two, 1000000, 1, 600000},
		{oneGuest(), 0, 0, 0}, {oneGuest(), 1, 0, 1}, {oneGuest(), 1000000, 0, 1000000},
		{beside, 2, 2, 2}, {beside, 3, 2, 3}, {beside, 4, 2, 3}, {beside, 53, 2, 3}, {beside, 54, 2, 4}, {beside, 53, 0, 50}, {beside, 55, 0, 50}, {beside, 57, 0, 51},
		// The guest in the middle has no slot.
		{beside, 0, 1, 0}, {beside, 53, 1, 0}, {beside, 1000000, 1, 0}, {looseGuests(), 777, 1, 0},
	}
	for _, x := range table {
		askInt(t, turnsBeforeIn(x.p, x.clock, x.guest), impl.IntResult{Value: x.want}, "the second reader: ", x.p.Plan, " at ", x.clock, " of ", x.guest)
		askInt(t, impl.TurnsBefore(x.p, x.clock, x.guest), impl.IntResult{Value: x.want}, "TurnsBefore ", x.clock, " of ", x.guest, " of ", x.p.Plan)
	}
	// Two codes: the clock is asked ahead of the guest.
	for _, p := range []impl.Policy{oneGuest(), twoGuests(), threeGuests()} {
		last := int64(len(p.Own))
		for _, guest := range []int64{math.MinInt64, -1 << 32, -1, last, last + 1, 1 << 32, math.MaxInt64} {
			for _, clock := range []int64{0, 1, 1000000} {
				askInt(t, impl.TurnsBefore(p, clock, guest), impl.IntResult{Code: impl.ErrNone}, "TurnsBefore ", clock, " of ", guest)
			}
			for _, clock := range []int64{math.MinInt64, -1, 1000001, math.MaxInt64} {
				askInt(t, impl.TurnsBefore(p, clock, guest), impl.IntResult{Code: impl.ErrRange}, "TurnsBefore ", clock, " of ", guest)
				askInt(t, impl.TurnsBefore(p, clock, 0), impl.IntResult{Code: impl.ErrRange}, "TurnsBefore ", clock)
			}
		}
	}
}

// TestTurnsBefore asks also that the turns of all guests before a clock are that clock, and that a step is one turn more of the guest whose turn it is.
func TestTurnsBefore(t *testing.T) {
	for _, p := range append(plannedPolicies(), mixedPolicies(60)...) {
		for _, clock := range clocksOf(p) {
			all, next := int64(0), impl.TurnAt(p, clock).Slot.Guest
			for guest := range int64(len(p.Own)) {
				turns := impl.TurnsBefore(p, clock, guest)
				if clock < 5000 {
					askInt(t, turns, turnsBeforeIn(p, clock, guest), "TurnsBefore ", clock, " of ", guest, " of ", p.Plan)
				}
				all += turns.Value
				if clock == 1000000 {
					continue
				}
				if guest == next {
					turns.Value++
				}
				askInt(t, impl.TurnsBefore(p, clock+1, guest), turns, "TurnsBefore one more than ", clock, " of ", guest, " of ", p.Plan)
			}
			if all != clock {
				t.Fatalf("the turns of all guests before %d of %v are %d", clock, p.Plan, all)
			}
		}
	}
}

// bootInputs are inputs for so many guests: of 0 to 40 words, of 41, and with what is no word, at one guest and at all.
func bootInputs(guests int) [][][]int64 {
	list := [][][]int64{make([][]int64, guests), slices.Repeat([][]int64{{}}, guests), slices.Repeat([][]int64{queueOf(40, 3)}, guests), slices.Repeat([][]int64{queueOf(41, 3)}, guests)}
	for _, input := range soloInputs() {
		for guest := range guests {
			all := slices.Repeat([][]int64{{4, 5}}, guests)
			all[guest] = input
			list = append(list, all)
		}
	}
	return append(list, nil, make([][]int64, guests+1), make([][]int64, guests-1), make([][]int64, 100))
}

func TestBootHost(t *testing.T) {
	for k, p := range goodPolicies() {
		images := imagesFor(p)
		for j, inputs := range bootInputs(len(p.Own)) {
			given := images[(k+j)%len(images)]
			got := impl.BootHost(p, given, inputs)
			askHost(t, got, bootHostIn(p, given, inputs), "BootHost of ", p, " with ", given, " and ", inputs)
			if got.Code == impl.OK && (impl.HostFault(got.Host) != impl.OK || got.Host.Slot != 0 || got.Host.Left != p.Plan[0].Steps || got.Host.Clock != 0) {
				t.Fatalf("BootHost of %v: %v", p, got)
			}
		}
		for _, given := range images {
			askHost(t, impl.BootHost(p, given, make([][]int64, len(p.Own))), bootHostIn(p, given, make([][]int64, len(p.Own))), "BootHost of ", p, " with ", given)
		}
	}
}

func TestBootHostByHand(t *testing.T) {
	p := impl.Policy{Own: [][]int64{{5, 2}, {0}}, Lanes: []impl.Lane{lane(0, 1, 9, 5, 6)}, Bells: []impl.Bell{bell(1, 0)}, Plan: []impl.Slot{slot(1, 7), slot(0, 2)}}
	m := make([]int64, 192)
	copy(m[40:], queueOf(8, 100))
	copy(m[16:], []int64{108, impl.WordTop})
	copy(m, []int64{0, 5})
	h := impl.Hart{Regs: make([]int64, 16), Csr: make([]int64, 11)}
	fed := h
	fed.In = []int64{7, impl.WordTop}
	want := impl.Host{Policy: p, Memory: m, Harts: []impl.Hart{h, fed}, Slot: 0, Left: 7, Clock: 0}
	got := impl.BootHost(p, [][]int64{append(queueOf(9, 100), -1), {impl.WordTop + 1, impl.WordTop + 6}}, [][]int64{nil, {7, impl.WordTop}})
	askHost(t, got, impl.HostResult{Host: want}, "BootHost of two guests")
	want.Memory, want.Harts = make([]int64, 192), []impl.Hart{h, h}
	for _, none := range [][][]int64{make([][]int64, 2), {{}, {}}, {nil, {}}} {
		askHost(t, impl.BootHost(p, none, none), impl.HostResult{Host: want}, "BootHost without words")
	}
	one := impl.Host{Policy: oneGuest(), Memory: make([]int64, 192), Harts: []impl.Hart{h}, Left: 1}
	askHost(t, impl.BootHost(oneGuest(), [][]int64{nil}, [][]int64{nil}), impl.HostResult{Host: one}, "BootHost of one guest")
}

// TestBootHostCodes asks for each code beside those behind it.
func TestBootHostCodes(t *testing.T) {
	type lists = [][]int64
	long, most, many, none := make([]int64, 9), queueOf(40, 0), queueOf(41, 0), []int64{-1}
	manyAndNone := append([]int64{-1}, many...)
	two, taken := twoGuests(), twoGuests()
	taken.Own = lists{{2}, {2}}
	table := []struct {
		name           string
		p              impl.Policy
		images, inputs lists
		want           int64
	}{
		{"all right", two, lists{nil, nil}, lists{nil, nil}, impl.OK},
		{"images and inputs of all words", two, lists{make([]int64, 16), make([]int64, 8)}, lists{most, most}, impl.OK},
		{"what is no word in an image", two, lists{{-1}, {impl.WordTop + 1}}, lists{nil, nil}, impl.OK},
		{"a policy with a fault", taken, lists{nil, nil}, lists{nil, nil}, impl.ErrTaken},
		{"a policy with a fault, no images, no inputs", taken, nil, nil, impl.ErrTaken},
		{"a policy with a fault, one image too long", taken, lists{nil, long}, lists{nil, nil}, impl.ErrTaken},
		{"a policy with a fault, no word", taken, lists{nil, nil}, lists{none, nil}, impl.ErrTaken},
		{"no images", two, nil, lists{nil, nil}, impl.ErrMany},
		{"one image too few", two, lists{nil}, lists{nil, nil}, impl.ErrMany},
		{"one image too many", two, lists{nil, nil, nil}, lists{nil, nil}, impl.ErrMany},
		{"one image too few, too long", two, lists{make([]int64, 17)}, lists{nil, nil}, impl.ErrMany},
		{"one image too many, one too long, no inputs", two, lists{nil, long, long}, nil, impl.ErrMany},
		{"one image too few, no word", two, lists{nil}, lists{nil, none}, impl.ErrMany},
		{"the first image too long", two, lists{make([]int64, 17), nil}, lists{nil, nil}, impl.ErrWrite},
		{"the last image too long", two, lists{nil, long}, lists{nil, nil}, impl.ErrWrite},
		{"an image too long, no inputs", two, lists{nil, long}, nil, impl.ErrWrite},
		{"an image too long, one input too many", two, lists{nil, long}, lists{nil, nil, nil}, impl.ErrWrite},
		{"an image too long, no word", two, lists{nil, long}, lists{none, nil}, impl.ErrWrite},
		{"an image too long, 41 words", two, lists{nil, long}, lists{many, nil}, impl.ErrWrite},
		{"no inputs", two, lists{nil, nil}, nil, impl.ErrMany},
		{"an empty list of inputs", two, lists{nil, nil}, lists{}, impl.ErrMany},
		{"one input too few", two, lists{nil, nil}, lists{nil}, impl.ErrMany},
		{"one input too many", two, lists{nil, nil}, lists{nil, nil, nil}, impl.ErrMany},
		{"one input too few, no word", two, lists{nil, nil}, lists{none}, impl.ErrMany},
		{"one input too many, no word", two, lists{nil, nil}, lists{nil, none, nil}, impl.ErrMany},
		{"one input too many, which alone has no word", two, lists{nil, nil}, lists{nil, nil, none}, impl.ErrMany},
		{"the first input of 41", two, lists{nil, nil}, lists{many, nil}, impl.ErrMany},
		{"the last input of 41", two, lists{nil, nil}, lists{nil, many}, impl.ErrMany},
		{"no word in the first input", two, lists{nil, nil}, lists{none, nil}, impl.ErrRange},
		{"no word in the last input", two, lists{nil, nil}, lists{nil, {5, impl.WordTop + 1}}, impl.ErrRange},
		{"no word in one of 40", two, lists{nil, nil}, lists{nil, append(queueOf(39, 1), -1)}, impl.ErrRange},
		{"no word in one of 41", two, lists{nil, nil}, lists{nil, manyAndNone}, impl.ErrMany},
		{"no word, then 41", two, lists{nil, nil}, lists{none, many}, impl.ErrRange},
		{"41, then no word", two, lists{nil, nil}, lists{many, none}, impl.ErrMany},
		{"no word, then no word in one of 41", two, lists{nil, nil}, lists{none, manyAndNone}, impl.ErrRange},
	}
	for _, x := range table {
		got := impl.BootHost(x.p, x.images, x.inputs)
		if got.Code != x.want || x.want != impl.OK && !sameHost(got.Host, impl.Host{}) {
			t.Errorf("BootHost with %s: %v, not %d", x.name, got, x.want)
		}
		if want := bootHostIn(x.p, x.images, x.inputs); want.Code != x.want {
			t.Errorf("the second reader with %s: %d, not %d", x.name, want.Code, x.want)
		}
	}
	for _, bad := range someBadPolicies() {
		for _, x := range []lists{nil, {nil, nil, nil}, {make([]int64, 1000), many, none}} {
			askHost(t, impl.BootHost(bad.p, x, x), impl.HostResult{Code: bad.fault}, "BootHost of ", bad.p)
		}
	}
}

func TestStepHost(t *testing.T) {
	rung, halted, waiting := 0, 0, 0
	for _, x := range goodHosts() {
		for range 12 {
			got, want := impl.StepHost(x), stepHostIn(x)
			askHost(t, got, want, "StepHost of ", x)
			if want.Code != impl.OK {
				break
			}
			for k, h := range want.Host.Harts {
				if h.Rung && !x.Harts[k].Rung {
					rung++
				}
			}
			at := x.Harts[x.Policy.Plan[x.Slot].Guest]
			if at.Halted {
				halted++
			}
			if at.Waiting {
				waiting++
			}
			x = want.Host
		}
	}
	if rung < 30 || halted < 100 || waiting < 100 {
		t.Errorf("%d are rung, %d are halted, %d wait", rung, halted, waiting)
	}
}

// TestStepHostTurnsThePlan asks each step of three rounds, and those around the last clock: who goes, and where the plan is then.
func TestStepHostTurnsThePlan(t *testing.T) {
	for _, p := range plannedPolicies() {
		for _, clock := range clocksOf(p) {
			x := countedHost(p, clock)
			for k := range x.Harts {
				x.Harts[k].Csr[0], x.Harts[k].Csr[10], x.Harts[k].Pc = 0, 0, 0
			}
			for _, own := range p.Own {
				x.Memory[own[0]*8] = op(12, 1, 1, 1)
			}
			got := impl.StepHost(x)
			if clock == impl.MaxClock {
				askHost(t, got, impl.HostResult{Code: impl.ErrRange}, "StepHost at the last clock")
				continue
			}
			want := cloneHost(x)
			h := &want.Harts[p.Plan[x.Slot].Guest]
			h.Pc, h.Done, h.Regs[1] = 1, h.Done+1, h.Regs[1]+1
			want.Clock++
			if want.Left--; want.Left == 0 {
				if want.Slot++; want.Slot == int64(len(p.Plan)) {
					want.Slot = 0
				}
				want.Left = p.Plan[want.Slot].Steps
			}
			askHost(t, got, impl.HostResult{Host: want}, "StepHost at ", clock, " of ", p.Plan)
		}
	}
}

func TestStepHostAtTheEndOfSlotsByHand(t *testing.T) {
	type where struct{ clock, slot, left int64 }
	at := func(p impl.Policy, clock int64) where {
		x := impl.StepHost(countedHost(p, clock))
		return where{x.Host.Clock, x.Host.Slot, x.Host.Left}
	}
	one, long, beside := oneGuest(), oneGuest(), oneGuest()
	long.Plan, beside.Plan = []impl.Slot{slot(0, 50)}, []impl.Slot{slot(0, 2), slot(0, 2)}
	table := []struct {
		name  string
		p     impl.Policy
		clock int64
		want  where
	}{
		{"the first step of a slot", twoGuests(), 0, where{1, 0, 1}},
		{"the last step of a slot", twoGuests(), 1, where{2, 1, 3}},
		{"a step within the last slot", twoGuests(), 3, where{4, 1, 1}},
		{"the last step of the last slot", twoGuests(), 4, where{5, 0, 2}},
		{"the last step of the last slot of a later round", twoGuests(), 99, where{100, 0, 2}},
		{"a plan of one slot of one step", one, 0, where{1, 0, 1}},
		{"a plan of one slot of one step, later", one, 12345, where{12346, 0, 1}},
		{"a plan of one slot, its first step", long, 0, where{1, 0, 49}},
		{"a plan of one slot, its last step", long, 49, where{50, 0, 50}},
		{"the end of a slot beside one of the same guest", beside, 1, where{2, 1, 2}},
		{"the end of a round, the first slot being of the same guest", beside, 3, where{4, 0, 2}},
		{"the last step that there is", twoGuests(), 999999, where{1000000, 0, 2}},
		{"none that there is", twoGuests(), 1000000, where{}},
	}
	for _, x := range table {
		if got := at(x.p, x.clock); got != x.want {
			t.Errorf("%s: %v, not %v", x.name, got, x.want)
		}
	}
}

// ringers are three guests, of whom one rings whom it is told; the plan is its alone.
func ringers(from, whom int64, bells ...impl.Bell) impl.Host {
	p := looseGuests()
	p.Bells, p.Plan = bells, []impl.Slot{slot(from, 5)}
	x := hostIn(p, 0, make([]int64, 192), newHartIn(), newHartIn(), newHartIn())
	x.Memory[p.Own[from][0]*8] = op(15, 9, 0, 61)
	x.Harts[from].Regs[9] = whom
	return x
}

// TestStepHostRings asks each word that may be written to ring with each set of bells that there may be.
func TestStepHostRings(t *testing.T) {
	ends := []impl.Bell{bell(0, 1), bell(1, 0), bell(2, 1), bell(1, 2), bell(0, 2), bell(2, 0)}
	words := []int64{0, 1, 2, 3, 4, 5, 61, 255, 256, 65536, 65537, 1<<31 + 1, impl.WordTop - 1, impl.WordTop}
	for mask := range 64 {
		var bells []impl.Bell
		for k, b := range ends {
			if mask>>k&1 == 1 {
				bells = append(bells, b)
			}
		}
		if len(bells) > 4 {
			continue
		}
		for from := range int64(3) {
			for _, whom := range words {
				x := ringers(from, whom, bells...)
				want := cloneHost(x)
				want.Harts[from].Pc, want.Harts[from].Done = 1, 1
				want.Clock, want.Left = 1, 4
				for to := range want.Harts {
					if int64(to) == whom && slices.Contains(bells, bell(from, whom)) {
						want.Harts[to].Rung = true
					}
				}
				askHost(t, impl.StepHost(x), impl.HostResult{Host: want}, "guest ", from, " rings ", whom, " with the bells ", bells)
				// Who is Rung already stays so.
				for k := range x.Harts {
					x.Harts[k].Rung, want.Harts[k].Rung = true, true
				}
				askHost(t, impl.StepHost(x), impl.HostResult{Host: want}, "guest ", from, " rings ", whom, " where all are rung, with the bells ", bells)
			}
		}
	}
}

// TestRingsByHand asks who may ring whom, in words.
func TestRingsByHand(t *testing.T) {
	rung := func(x impl.Host) [3]bool {
		h := impl.StepHost(x).Host.Harts
		return [3]bool{h[0].Rung, h[1].Rung, h[2].Rung}
	}
	table := []struct {
		name string
		x    impl.Host
		want [3]bool
	}{
		{"one to whom it has a bell", ringers(0, 1, bell(0, 1)), [3]bool{false, true, false}},
		{"one to whom it has a bell, the last of four", ringers(2, 0, bell(0, 1), bell(1, 0), bell(0, 2), bell(2, 0)), [3]bool{true, false, false}},
		{"one to whom it has none", ringers(0, 1, bell(0, 2)), [3]bool{}},
		{"one that has a bell to it alone", ringers(0, 1, bell(1, 0)), [3]bool{}},
		{"one to whom another one has a bell", ringers(0, 1, bell(2, 1)), [3]bool{}},
		{"one over another one", ringers(0, 2, bell(0, 1), bell(1, 2)), [3]bool{}},
		{"itself", ringers(0, 0, bell(0, 1), bell(1, 0), bell(2, 0)), [3]bool{}},
		{"a number that is no guest", ringers(1, 3, bell(1, 0), bell(1, 2)), [3]bool{}},
		{"the greatest word", ringers(1, impl.WordTop, bell(1, 0), bell(1, 2)), [3]bool{}},
		{"anybody without a bell", ringers(1, 2), [3]bool{}},
	}
	for _, y := range table {
		if got := rung(y.x); got != y.want {
			t.Errorf("a guest rings %s: %v, not %v", y.name, got, y.want)
		}
	}
	// A lane is no bell, and who only would ring rings nobody.
	x := ringers(0, 1)
	x.Policy.Lanes = []impl.Lane{lane(0, 1, 20, 5, 5)}
	y := ringers(0, 1, bell(0, 1))
	y.Harts[0].Halted = true
	z := ringers(0, 1, bell(0, 1))
	z.Harts[0].Csr[0], z.Harts[0].Csr[7], z.Harts[0].Rung = 1, 2, true
	v := ringers(0, 1, bell(0, 1))
	v.Harts[0].Waiting = true
	for _, x := range []impl.Host{x, y, v} {
		if got := rung(x); got != [3]bool{} {
			t.Errorf("%v: %v are rung", x, got)
		}
	}
	if got := rung(z); got != [3]bool{true, false, false} {
		t.Errorf("a guest that is interrupted ahead of its ring: %v", got)
	}
}

// ringAndRest are two guests by turns, a step each: the first one rings the second one at its first step, and then goes in a circle.
func ringAndRest(edit func(h *impl.Hart), image ...int64) impl.Host {
	p := impl.Policy{Own: [][]int64{{3}, {7}}, Bells: []impl.Bell{bell(0, 1)}, Plan: []impl.Slot{slot(0, 1), slot(1, 1)}}
	x := hostIn(p, 0, make([]int64, 192), newHartIn(), newHartIn())
	copy(x.Memory[24:], []int64{op(12, 0, 0, 0), op(12, 0, 0, 0), op(15, 1, 0, 61), op(19, 0, 0, 0)})
	copy(x.Memory[56:], image)
	x.Harts[0].Regs[1] = 1
	edit(&x.Harts[1])
	return x
}

func TestOneThatIsRung(t *testing.T) {
	idle := []int64{op(12, 2, 2, 1), op(19, 0, 0, 65535)}
	behind := func(x impl.Host, n int64) impl.Hart {
		t.Helper()
		got := impl.RunHost(x, n)
		if got.Code != impl.OK {
			t.Fatalf("RunHost %d: %v", n, got)
		}
		return got.Host.Harts[1]
	}
	// It waits for it, and goes on in its own turn.
	waits := ringAndRest(func(h *impl.Hart) { h.Waiting, h.Csr[7] = true, 2 }, idle...)
	if h := behind(waits, 4); !h.Waiting || h.Rung || h.Done != 0 {
		t.Errorf("ahead of the ring: %v", h)
	}
	if h := behind(waits, 5); !h.Waiting || !h.Rung || h.Done != 0 {
		t.Errorf("behind the ring, ahead of its turn: %v", h)
	}
	if h := behind(waits, 6); h.Waiting || !h.Rung || h.Done != 1 || h.Regs[2] != 1 {
		t.Errorf("behind the ring and its turn: %v", h)
	}
	// It waits for something else.
	if h := behind(ringAndRest(func(h *impl.Hart) { h.Waiting, h.Csr[7] = true, 5 }, idle...), 20); !h.Waiting || !h.Rung || h.Done != 0 {
		t.Errorf("one that waits for something else: %v", h)
	}
	// It may be interrupted.
	if h := behind(ringAndRest(func(h *impl.Hart) { h.Waiting, h.Csr[0], h.Csr[1], h.Csr[7] = true, 1, 6, 2 }, idle...), 6); h.Waiting || h.Pc != 6 || h.Csr[3] != 17 || h.Done != 0 {
		t.Errorf("one that may be interrupted: %v", h)
	}
	// It is halted.
	if h := behind(ringAndRest(func(h *impl.Hart) { h.Halted = true }, idle...), 20); !h.Halted || !h.Rung || h.Done != 0 || h.Pc != 0 {
		t.Errorf("one that is halted: %v", h)
	}
	// It takes it back, and is not rung again by the steps of the other one that ring nobody.
	clears := ringAndRest(func(h *impl.Hart) { h.Regs[3] = 2 }, op(22, 0, 3, 6), op(19, 0, 0, 65535))
	if h := behind(clears, 5); !h.Rung {
		t.Errorf("behind the ring: %v", h)
	}
	for n := int64(9); n < 60; n++ {
		if h := behind(clears, n); h.Rung {
			t.Errorf("behind %d steps it is rung again: %v", n, h)
		}
	}
	// Without the bell nothing comes.
	deaf := ringAndRest(func(h *impl.Hart) { h.Waiting, h.Csr[7] = true, 2 }, idle...)
	deaf.Policy.Bells = nil
	if h := behind(deaf, 60); !h.Waiting || h.Rung || h.Done != 0 {
		t.Errorf("one to whom there is no bell: %v", h)
	}
}

// TestHaltedGuestsHaveTheirTurns asks that a turn of one that is halted is nobody else's.
func TestHaltedGuestsHaveTheirTurns(t *testing.T) {
	circle := []int64{op(19, 0, 0, 0)}
	for _, p := range plannedPolicies() {
		for halted := range p.Own {
			images := slices.Repeat([][]int64{circle}, len(p.Own))
			images[halted] = []int64{op(26, 0, 0, 0)}
			x := impl.BootHost(p, images, make([][]int64, len(p.Own))).Host
			for _, n := range []int64{1, 50, 137} {
				got := impl.RunHost(x, n).Host
				for guest, h := range got.Harts {
					turns := turnsBeforeIn(p, n, int64(guest)).Value
					if guest != halted && h.Done != turns || guest == halted && (h.Done != min(1, turns) || h.Halted != (turns > 0)) {
						t.Fatalf("guest %d has done %d behind %d steps of %v, guest %d halted", guest, h.Done, n, p.Plan, halted)
					}
				}
				if got.Clock != n {
					t.Fatalf("behind %d steps the clock is %d", n, got.Clock)
				}
			}
		}
	}
}

// TestStoresEverywhereInAHost asks of each guest of a policy that it turns all words of its own pages and of lanes from it, and no others.
func TestStoresEverywhereInAHost(t *testing.T) {
	for _, p := range append([]impl.Policy{oneGuest(), twoGuests(), threeGuests(), looseGuests(), fullPolicy()}, mixedPolicies(40)...) {
		for guest, own := range p.Own {
			p.Plan = []impl.Slot{slot(int64(guest), 37)}
			x := countedHost(p, 0)
			program := storesEverywhere(mapIn(p, int64(guest)))
			x.Harts[guest] = program.Hart
			copy(x.Memory[own[0]*8:], program.Memory[:8])
			want := cloneHost(x)
			for k, page := range mapIn(p, int64(guest)) {
				for at := range int64(8) {
					if k > 0 && page.Kinds%4 == 3 {
						want.Memory[page.To*8+at] = int64(k)*8 + at
					}
				}
			}
			got := impl.RunHost(x, 500)
			if got.Code != impl.OK || !got.Host.Harts[guest].Halted || !slices.Equal(got.Host.Memory, want.Memory) || impl.HostFault(got.Host) != impl.OK {
				t.Fatalf("stores everywhere of guest %d of %v: %v, not %v", guest, p, got, want)
			}
			for k, h := range got.Host.Harts {
				if k != guest && !sameHart(h, want.Harts[k]) {
					t.Fatalf("stores everywhere of guest %d of %v turn the machine of %d", guest, p, k)
				}
			}
		}
	}
}

// TestLanesOfAHost asks that what one writes on its lane is there for the other one at its next step, and that it can't write back.
func TestLanesOfAHost(t *testing.T) {
	p := twoGuests()
	p.Plan = []impl.Slot{slot(0, 1), slot(1, 1)}
	write := []int64{op(12, 1, 1, 5), op(15, 1, 0, 43), op(19, 0, 0, 65534)}
	read := []int64{op(12, 0, 0, 0), op(14, 2, 0, 43), op(15, 2, 0, 44), op(26, 0, 0, 0)}
	x := impl.BootHost(p, [][]int64{write, read}, make([][]int64, 2)).Host
	for _, y := range []struct{ n, word, seen, cause int64 }{{2, 0, 0, 0}, {3, 5, 0, 0}, {4, 5, 5, 0}, {6, 5, 5, 4}, {9, 10, 5, 4}} {
		got := impl.RunHost(x, y.n).Host
		if got.Memory[9*8+3] != y.word || got.Memory[9*8+4] != 0 || got.Harts[1].Regs[2] != y.seen || got.Harts[1].Csr[3] != y.cause {
			t.Errorf("behind %d steps: %v", y.n, got)
		}
	}
}

func TestRunHost(t *testing.T) {
	for k, x := range goodHosts() {
		for _, n := range runNumbers() {
			askHost(t, impl.RunHost(x, n), runHostIn(x, n), "RunHost ", n, " of ", x)
		}
		if k%25 == 0 {
			for _, n := range []int64{100, 499, 500} {
				askHost(t, impl.RunHost(x, n), runHostIn(x, n), "RunHost ", n, " of ", x)
			}
		}
	}
}

// TestRunHostIsStepHost asks by the functions alone, and in two parts.
func TestRunHostIsStepHost(t *testing.T) {
	for _, x := range goodHosts() {
		askHost(t, impl.RunHost(x, 0), impl.HostResult{Host: x}, "RunHost 0 of ", x)
		askHost(t, impl.RunHost(x, 1), impl.StepHost(x), "RunHost 1 of ", x)
		at := impl.HostResult{Host: x}
		for n := int64(1); n <= 40 && at.Code == impl.OK; n++ {
			if at = impl.StepHost(at.Host); n%13 == 0 || at.Code != impl.OK {
				askHost(t, impl.RunHost(x, n), at, "RunHost ", n, " of ", x)
			}
		}
		if first := impl.RunHost(x, 17); first.Code == impl.OK {
			askHost(t, impl.RunHost(first.Host, 23), impl.RunHost(x, 40), "17 steps and 23 of ", x)
		}
	}
	at := impl.HostResult{Host: mixedHosts(2)[1]}
	at.Host = hostIn(at.Host.Policy, 0, at.Host.Memory, at.Host.Harts...)
	want := impl.RunHost(at.Host, 500)
	for range 500 {
		at = impl.StepHost(at.Host)
	}
	askHost(t, want, at, "RunHost 500")
}

func TestRunHostByHand(t *testing.T) {
	count := []int64{op(12, 1, 1, 1), op(15, 1, 0, 7), op(19, 0, 0, 65534)}
	x := impl.BootHost(twoGuests(), [][]int64{count, count}, make([][]int64, 2)).Host
	table := []struct{ n, slot, left, done, otherDone, count, other int64 }{
		{0, 0, 2, 0, 0, 0, 0}, {1, 0, 1, 1, 0, 1, 0}, {2, 1, 3, 2, 0, 1, 0}, {3, 1, 2, 2, 1, 1, 1}, {5, 0, 2, 2, 3, 1, 1}, {6, 0, 1, 3, 3, 1, 1}, {7, 1, 3, 4, 3, 2, 1}, {499, 1, 1, 200, 299, 67, 100}, {500, 0, 2, 200, 300, 67, 100},
	}
	for _, y := range table {
		got := impl.RunHost(x, y.n)
		h := got.Host.Harts
		if got.Code != impl.OK || got.Host.Clock != y.n || got.Host.Slot != y.slot || got.Host.Left != y.left || h[0].Done != y.done || h[1].Done != y.otherDone || h[0].Regs[1] != y.count || h[1].Regs[1] != y.other {
			t.Errorf("RunHost %d: %v", y.n, got)
		}
	}
	for _, n := range []int64{math.MinInt64, -1 << 32, -1, 501, 502, 1 << 32, 1<<32 + 1, math.MaxInt64} {
		askHost(t, impl.RunHost(x, n), impl.HostResult{Code: impl.ErrRange}, "RunHost ", n)
	}
}

// TestRunHostMeetsTheLastClock asks that so many steps are done as there are, and that nothing is told of those that were where there are not as many.
func TestRunHostMeetsTheLastClock(t *testing.T) {
	for _, p := range plannedPolicies() {
		for _, rest := range []int64{0, 1, 2, 49, 50, 51, 499, 500, 501} {
			x := countedHost(p, impl.MaxClock-rest)
			for _, n := range []int64{0, 1, 2, rest - 1, rest, rest + 1, 500} {
				got := impl.RunHost(x, n)
				if n < 0 || n > rest || n > 500 {
					askHost(t, got, impl.HostResult{Code: impl.ErrRange}, "RunHost ", n, " with ", rest, " left of ", p.Plan)
				} else if got.Code != impl.OK || got.Host.Clock != x.Clock+n || impl.HostFault(got.Host) != impl.OK {
					t.Fatalf("RunHost %d with %d left of %v: %v", n, rest, p.Plan, got)
				}
			}
		}
	}
	x := countedHost(twoGuests(), impl.MaxClock)
	askHost(t, impl.RunHost(x, 0), impl.HostResult{Host: x}, "RunHost 0 at the last clock")
	askHost(t, impl.RunHost(x, -1), impl.HostResult{Code: impl.ErrRange}, "RunHost -1 at the last clock")
	askHost(t, impl.StepHost(x), impl.HostResult{Code: impl.ErrRange}, "StepHost at the last clock")
}

// feedLists are words that may be fed to one that has none, and words that may not.
func feedLists() [][]int64 {
	return append(soloInputs(), queueOf(35, 9), queueOf(36, 9), append(queueOf(35, 9), -1), []int64{math.MinInt64}, []int64{7, math.MaxInt64, 8}, make([]int64, 1000))
}

func TestFeedHost(t *testing.T) {
	for k, x := range goodHosts() {
		for j, words := range feedLists() {
			for _, guest := range []int64{guestNumbers()[(k+j)%len(guestNumbers())], int64(k+j) % 3} {
				got := impl.FeedHost(x, guest, words)
				askHost(t, got, feedHostIn(x, guest, words), "FeedHost ", guest, " with ", words, " to ", x)
				if got.Code == impl.OK && impl.HostFault(got.Host) != impl.OK {
					t.Fatalf("FeedHost %d with %v to %v has a fault", guest, words, x)
				}
			}
		}
	}
}

func TestFeedHostByHand(t *testing.T) {
	for _, p := range []impl.Policy{oneGuest(), twoGuests(), threeGuests()} {
		last := int64(len(p.Own))
		// Each machine has 5 words In.
		table := []struct {
			name  string
			guest int64
			words []int64
			want  int64
		}{
			{"a word for the first", 0, []int64{9}, impl.OK}, {"a word for the last", last - 1, []int64{9}, impl.OK}, {"no words", 0, nil, impl.OK}, {"an empty list", last - 1, []int64{}, impl.OK}, {"edges", 0, []int64{0, impl.WordTop}, impl.OK},
			{"just as many as there is room for", last - 1, queueOf(35, 1), impl.OK}, {"one too many", last - 1, queueOf(36, 1), impl.ErrMany}, {"41 words", 0, queueOf(41, 1), impl.ErrMany}, {"very many", 0, make([]int64, 1000), impl.ErrMany},
			{"no word", 0, []int64{-1}, impl.ErrRange}, {"above all words", last - 1, []int64{3, impl.WordTop + 1}, impl.ErrRange}, {"no word among too many", 0, append(queueOf(36, 1), -1), impl.ErrRange},
			{"guest -1", -1, []int64{9}, impl.ErrNone}, {"one more than the last", last, []int64{9}, impl.ErrNone}, {"one more than the last, no words", last, nil, impl.ErrNone}, {"the least guest", math.MinInt64, nil, impl.ErrNone}, {"the greatest guest", math.MaxInt64, nil, impl.ErrNone}, {"a guest beyond 32 bits", 1 << 32, nil, impl.ErrNone},
			// Two codes: the guest is asked ahead of the words.
			{"guest -1, no word", -1, []int64{-1}, impl.ErrNone}, {"one more than the last, too many", last, queueOf(41, 1), impl.ErrNone}, {"one more than the last, no word", last, []int64{-1}, impl.ErrNone},
		}
		for _, y := range table {
			x := countedHost(p, 4)
			want := impl.HostResult{Code: y.want}
			if y.want == impl.OK {
				want.Host = cloneHost(x)
				want.Host.Harts[y.guest].In = append(want.Host.Harts[y.guest].In, y.words...)
			}
			askHost(t, impl.FeedHost(x, y.guest, y.words), want, "FeedHost with ", y.name)
		}
		// What is fed is not done: it is so at the last clock, too, and of one that is halted.
		x := countedHost(p, impl.MaxClock)
		x.Harts[0].Halted = true
		got := impl.FeedHost(x, 0, []int64{6})
		if got.Code != impl.OK || got.Host.Clock != impl.MaxClock || len(got.Host.Harts[0].In) != 6 || !got.Host.Harts[0].Halted {
			t.Errorf("FeedHost at the last clock: %v", got)
		}
	}
}

func TestRestOfByHand(t *testing.T) {
	eight := fullPolicy()
	table := []struct {
		p           impl.Policy
		clock, want int64
	}{
		{twoGuests(), 0, 0}, {twoGuests(), 1, 4}, {twoGuests(), 2, 3}, {twoGuests(), 3, 2}, {twoGuests(), 4, 1}, {twoGuests(), 5, 0}, {twoGuests(), 6, 4}, {twoGuests(), 9999, 1}, {twoGuests(), 10000, 0}, {twoGuests(), 10001, 4}, {twoGuests(), 999999, 1}, {twoGuests(), 1000000, 0},
		{oneGuest(), 0, 0}, {oneGuest(), 1, 0}, {oneGuest(), 999999, 0}, {oneGuest(), 1000000, 0},
		{eight, 0, 0}, {eight, 1, 399}, {eight, 49, 351}, {eight, 50, 350}, {eight, 399, 1}, {eight, 400, 0}, {eight, 401, 399}, {eight, 999999, 1}, {eight, 1000000, 0},
		{threeGuests(), 60, 1}, {threeGuests(), 61, 0}, {threeGuests(), 62, 60}, {threeGuests(), 1000000, 34},
	}
	for _, x := range table {
		askInt(t, impl.RestOf(countedHost(x.p, x.clock)), impl.IntResult{Value: x.want}, "RestOf ", x.p.Plan, " at ", x.clock)
	}
}

// TestRestOf asks also that behind so many steps the plan is at its beginning, and at no step on the way.
func TestRestOf(t *testing.T) {
	for _, x := range goodHosts() {
		askInt(t, impl.RestOf(x), restIn(x), "RestOf ", x)
	}
	for _, p := range plannedPolicies() {
		for _, clock := range clocksOf(p) {
			x := countedHost(p, clock)
			rest := impl.RestOf(x)
			askInt(t, rest, restIn(x), "RestOf ", p.Plan, " at ", clock)
			if clock+rest.Value > impl.MaxClock {
				continue
			}
			for n := range rest.Value + 1 {
				at := impl.TurnAt(p, clock+n)
				begins := at.At == 0 && at.Slot == p.Plan[0]
				if begins != (n == rest.Value) {
					t.Fatalf("%v at %d has %d to go, but %d behind it is %v", p.Plan, clock, rest.Value, n, at)
				}
			}
		}
	}
}

// imageKinds are images of all kinds for a policy: none, programs that halt, wait, call, go in a circle, ring all, store everywhere, and mixed ones.
func imageKinds(p impl.Policy) [][][]int64 {
	ring := []int64{op(15, 1, 0, 61), op(12, 1, 1, 1), op(19, 0, 0, 65534)}
	store := []int64{op(12, 5, 0, 6), op(22, 0, 5, 1), op(12, 1, 1, 1), op(15, 1, 1, 65530), op(19, 0, 0, 65534), 0, op(19, 0, 0, 65532)}
	turn := []int64{op(12, 2, 2, 3), op(22, 0, 2, 0), op(22, 0, 2, 1), op(22, 0, 2, 7), op(22, 0, 2, 10), op(24, 0, 0, 0), op(19, 0, 0, 65530)}
	kinds := [][]int64{nil, {op(26, 0, 0, 0)}, {op(25, 0, 0, 0)}, {op(23, 0, 0, 0)}, {op(19, 0, 0, 0)}, {impl.WordTop}, {op(14, 1, 0, 57), op(15, 1, 0, 56), op(19, 0, 0, 65534)}, ring, store, turn}
	var list [][][]int64
	for k := range kinds {
		var same, mixed [][]int64
		for guest := range p.Own {
			same, mixed = append(same, kinds[k]), append(mixed, kinds[(k*3+guest*4+1)%len(kinds)])
		}
		list = append(list, same, mixed)
	}
	next := steadyNext(uint64(len(p.Plan)) + 71)
	for range 6 {
		var all [][]int64
		for _, own := range p.Own {
			all = append(all, mixedMemory(int64(len(own)), next))
		}
		list = append(list, all)
	}
	return list
}

// TestPromiseOfHosts asks promise 13: whatever images guests have, a host has no fault behind any steps, and its clock and where its plan is are those of the policy alone.
func TestPromiseOfHosts(t *testing.T) {
	for k, p := range append(plannedPolicies(), mixedPolicies(30)...) {
		for j, images := range imageKinds(p) {
			inputs := make([][]int64, len(p.Own))
			inputs[j%len(p.Own)] = queueOf((k+j)%41, 0)
			at := impl.BootHost(p, images, inputs)
			clock := int64(0)
			for _, n := range []int64{0, 1, 1, 1, 2, 3, 5, 8, 13, 50, 100, 500} {
				at, clock = impl.RunHost(at.Host, n), clock+n
				if at.Code != impl.OK || impl.HostFault(at.Host) != impl.OK || !samePolicies(at.Host.Policy, p) {
					t.Fatalf("%d steps of %v with %v: %v", clock, p, images, at)
				}
				want := turnAtIn(p, clock)
				if at.Host.Clock != clock || at.Host.Slot != want.At || at.Host.Left != want.Slot.Steps {
					t.Fatalf("behind %d steps of %v with %v: clock %d, slot %d, left %d", clock, p, images, at.Host.Clock, at.Host.Slot, at.Host.Left)
				}
				if n == 8 {
					// Words that come in from outside turn no plan.
					if fed := impl.FeedHost(at.Host, int64(j%len(p.Own)), []int64{5}); fed.Code == impl.OK {
						at = fed
					}
				}
			}
		}
	}
}

// TestPromiseOfTurns asks that the machine alone whose turn it is goes on, by mixed hosts: all others stay, but that they may be rung.
func TestPromiseOfTurns(t *testing.T) {
	for _, x := range goodHosts() {
		for range 20 {
			guest := impl.TurnAt(x.Policy, x.Clock).Slot.Guest
			got := impl.StepHost(x)
			if x.Clock == impl.MaxClock {
				askHost(t, got, impl.HostResult{Code: impl.ErrRange}, "StepHost at the last clock")
				break
			}
			if got.Code != impl.OK || impl.HostFault(got.Host) != impl.OK || got.Host.Clock != x.Clock+1 || !samePolicies(got.Host.Policy, x.Policy) {
				t.Fatalf("StepHost of %v: %v", x, got)
			}
			for k, h := range got.Host.Harts {
				rungBy := h.Rung && !x.Harts[k].Rung
				if h.Rung = x.Harts[k].Rung; int64(k) != guest && (!sameHart(h, x.Harts[k]) || rungBy && !slices.Contains(x.Policy.Bells, bell(guest, int64(k)))) {
					t.Fatalf("a step of guest %d of %v turns the machine of %d: %v", guest, x, k, got)
				}
			}
			x = got.Host
		}
	}
}

// hostCall is a call of this layer on a host, whatever it answers: a host, or a number.
type hostCall struct {
	name string
	do   func(x impl.Host, words []int64) (impl.HostResult, int64)
}

func hostCalls() []hostCall {
	list := []hostCall{
		{"HostFault", func(x impl.Host, _ []int64) (impl.HostResult, int64) {
			return impl.HostResult{}, impl.HostFault(x)
		}},
		{"RestOf", func(x impl.Host, _ []int64) (impl.HostResult, int64) {
			got := impl.RestOf(x)
			return impl.HostResult{Code: got.Code}, got.Value
		}},
		{"TurnAt", func(x impl.Host, _ []int64) (impl.HostResult, int64) {
			got := impl.TurnAt(x.Policy, x.Clock)
			return impl.HostResult{Code: got.Code}, got.At*1000 + got.Slot.Steps*10 + got.Slot.Guest
		}},
		{"TurnsBefore", func(x impl.Host, _ []int64) (impl.HostResult, int64) {
			got := impl.TurnsBefore(x.Policy, x.Clock, 1)
			return impl.HostResult{Code: got.Code}, got.Value
		}},
		{"StepHost", func(x impl.Host, _ []int64) (impl.HostResult, int64) {
			return impl.StepHost(x), 0
		}},
	}
	for _, n := range []int64{-1, 0, 1, 3, 60, 501} {
		list = append(list, hostCall{fmt.Sprint("RunHost ", n), func(x impl.Host, _ []int64) (impl.HostResult, int64) {
			return impl.RunHost(x, n), 0
		}})
	}
	for _, guest := range []int64{-1, 0, 1, 2, 3} {
		list = append(list, hostCall{fmt.Sprint("FeedHost ", guest), func(x impl.Host, words []int64) (impl.HostResult, int64) {
			return impl.FeedHost(x, guest, words), 0
		}})
	}
	return list
}

// roomyHost has room behind each of its lists; whole has what stands there.
func roomyHost(x impl.Host) (roomed, whole impl.Host) {
	roomed, whole = x, x
	var room [][]int64
	roomed.Policy, whole.Policy, room = roomyPolicy(x.Policy)
	whole.Policy.Own = append(whole.Policy.Own, room...)
	roomed.Memory, whole.Memory = roomy(x.Memory)
	var harts, inside []impl.Hart
	for _, h := range x.Harts {
		one, all := roomyHart(h)
		harts, inside = append(harts, one), append(inside, all)
	}
	behind := make([]impl.Hart, 3)
	all := append(harts, behind...)
	roomed.Harts, whole.Harts = all[:len(harts)], append(inside, all[len(harts):]...)
	return roomed, whole
}

// askHostKept asks that a host, with the room behind its lists, is as it was: outer lists are asked by what stands behind them.
func askHostKept(t *testing.T, given, x, whole, before impl.Host, what ...any) {
	t.Helper()
	behindOwn := given.Policy.Own[len(given.Policy.Own):cap(given.Policy.Own)]
	behindHarts := given.Harts[len(given.Harts):cap(given.Harts)]
	written := slices.ContainsFunc(behindOwn, func(own []int64) bool { return own != nil }) ||
		slices.ContainsFunc(behindHarts, func(h impl.Hart) bool { return !sameHart(h, impl.Hart{}) })
	if written || !sameHost(given, x) || !sameHost(whole, before) {
		t.Fatalf("%s changes %v into %v", fmt.Sprint(what...), x, given)
	}
}

// hostLists are all lists of numbers of a host, with the room behind them.
func hostLists(x impl.Host) [][]int64 {
	lists := [][]int64{x.Memory[:cap(x.Memory)]}
	for _, own := range x.Policy.Own {
		lists = append(lists, own[:cap(own)])
	}
	for _, h := range x.Harts {
		lists = append(lists, listsOf(h)...)
	}
	return lists
}

// turnHost writes into all that a host has, and into the room behind it.
func turnHost(x impl.Host) {
	for _, list := range hostLists(x) {
		turnAll(list)
	}
	clear(x.Policy.Lanes[:cap(x.Policy.Lanes)])
	clear(x.Policy.Bells[:cap(x.Policy.Bells)])
	clear(x.Policy.Plan[:cap(x.Policy.Plan)])
}

// askHostApart writes into the lists of an answer, one behind the other, and asks that no other one of them is another one then; the lists of lists are the last.
func askHostApart(t *testing.T, x impl.Host, what ...any) {
	t.Helper()
	askListsApart(t, hostLists(x), what...)
	turnHost(x)
	clear(x.Policy.Own[:cap(x.Policy.Own)])
	clear(x.Harts[:cap(x.Harts)])
}

func TestHostCallsChangeNothing(t *testing.T) {
	hosts := goodHosts()
	for k, bad := range someBadHosts() {
		if k%4 == 0 {
			hosts = append(hosts, bad.x)
		}
	}
	for k, x := range hosts {
		given, whole := roomyHost(x)
		before := cloneHost(whole)
		for n, call := range hostCalls() {
			words, wholeWords := roomy(feedLists()[(k+n)%len(feedLists())])
			wordsBefore := slices.Clone(wholeWords)
			call.do(given, words)
			askHostKept(t, given, x, whole, before, call.name)
			if !slices.Equal(wholeWords, wordsBefore) {
				t.Fatalf("%s changes %v", call.name, words)
			}
		}
	}
}

// TestHostAnswersAreNew asks that a write into an answer is seen nowhere else, nor one into an argument in the answer.
func TestHostAnswersAreNew(t *testing.T) {
	hosts := mixedHosts(150)
	for _, p := range []impl.Policy{oneGuest(), twoGuests(), threeGuests(), fullPolicy()} {
		hosts = append(hosts, countedHost(p, 0), countedHost(p, 4))
	}
	for _, x := range hosts {
		for _, call := range hostCalls() {
			askNewHost(t, call, x)
		}
	}
}

func askNewHost(t *testing.T, call hostCall, x impl.Host) {
	t.Helper()
	x = cloneHost(x)
	given, whole := roomyHost(x)
	words, wholeWords := roomy(queueOf(3, 301))
	before, wordsBefore := cloneHost(whole), slices.Clone(wholeWords)
	first, firstNumber := call.do(given, words)
	second, _ := call.do(given, words)
	want := impl.HostResult{Code: second.Code, Host: cloneHost(second.Host)}
	askHost(t, first, want, "asked at once again: ", call.name)
	askHostApart(t, first.Host, call.name)
	askHostKept(t, given, x, whole, before, "a write into what ", call.name, " answers")
	if !slices.Equal(wholeWords, wordsBefore) {
		t.Fatalf("a write into what %s answers is seen in %v", call.name, words)
	}
	askHost(t, second, want, "behind a write into another answer: ", call.name)
	third, number := call.do(given, words)
	askHost(t, third, want, "asked again: ", call.name)
	if number != firstNumber {
		t.Fatalf("%s: first %d, then %d", call.name, firstNumber, number)
	}
	turnHost(given)
	turnHost(whole)
	clear(given.Policy.Own)
	clear(given.Harts)
	turnAll(wholeWords)
	askHost(t, second, want, "behind a write into the arguments: ", call.name)
	askHost(t, third, want, "behind a write into the arguments: ", call.name)
}

func TestBootHostChangesNothingAndIsNew(t *testing.T) {
	for k, p := range goodPolicies() {
		all := bootInputs(len(p.Own))
		images, wholeImages, insideImages := withRoomInside(imagesFor(p)[k%10], 77)
		inputs, wholeInputs, insideInputs := withRoomInside(all[k%len(all)], 78)
		q, wholeP, room := roomyPolicy(p)
		before, imagesBefore, inputsBefore := clonePolicy(wholeP), cloneLists(insideImages), cloneLists(insideInputs)
		outerImages, outerInputs := cloneLists(wholeImages), cloneLists(wholeInputs)
		want := bootHostIn(clonePolicy(p), cloneLists(images), cloneLists(inputs))
		first, second := impl.BootHost(q, images, inputs), impl.BootHost(q, images, inputs)
		askHost(t, first, want, "BootHost")
		askHostApart(t, first.Host, "BootHost")
		written := slices.ContainsFunc(room, func(own []int64) bool { return own != nil })
		if written || !samePolicies(q, p) || !samePolicies(wholeP, before) {
			t.Fatalf("BootHost, or a write into its answer, changes %v", p)
		}
		if !sameLists(insideImages, imagesBefore) || !sameLists(insideInputs, inputsBefore) || !sameLists(wholeImages, outerImages) || !sameLists(wholeInputs, outerInputs) {
			t.Fatalf("BootHost, or a write into its answer, changes %v or %v", images, inputs)
		}
		askHost(t, second, want, "behind a write into another answer of BootHost")
		askHost(t, impl.BootHost(q, images, inputs), want, "BootHost asked again")
		turnPolicy(q)
		clear(q.Own)
		for _, list := range slices.Concat(insideImages, insideInputs) {
			turnAll(list)
		}
		askHost(t, second, want, "behind a write into the arguments of BootHost")
	}
	for _, bad := range someBadPolicies() {
		q, whole, _ := roomyPolicy(bad.p)
		before := clonePolicy(whole)
		impl.BootHost(q, [][]int64{{1}}, [][]int64{{2}})
		impl.TurnAt(q, 3)
		impl.TurnsBefore(q, 3, 0)
		if !samePolicies(q, bad.p) || !samePolicies(whole, before) {
			t.Fatalf("a call changes %v", bad.p)
		}
	}
}

// TestHostsOfSharedArguments asks of lists that are pieces of one another.
func TestHostsOfSharedArguments(t *testing.T) {
	words, pages := queueOf(8, 500), []int64{0, 3, 7, 1, 2, 5}
	p := impl.Policy{Own: [][]int64{pages[:2], pages[2:3], pages[3:4]}, Bells: []impl.Bell{bell(0, 1)}, Plan: []impl.Slot{slot(0, 2), slot(1, 1)}}
	lists := [][]int64{words, words, words}
	want := bootHostIn(clonePolicy(p), cloneLists(lists), cloneLists(lists))
	got := impl.BootHost(p, lists, lists)
	askHost(t, got, want, "BootHost with one list as images and inputs")
	askHostApart(t, got.Host, "BootHost with one list as images and inputs")
	if !slices.Equal(words, queueOf(8, 500)) || !slices.Equal(pages, []int64{0, 3, 7, 1, 2, 5}) {
		t.Error("a write into what BootHost answers is seen in its arguments")
	}
	m := make([]int64, 192)
	copy(m, []int64{0, op(14, 1, 0, 57), op(15, 1, 0, 56), op(15, 0, 0, 61), op(19, 0, 0, 65533)})
	p.Own = [][]int64{m[:1], {1}, {2}}
	h := impl.Hart{Regs: m[32:48], Csr: m[48:59], In: m[:5], Out: m[1:4], Pc: 1}
	x := hostIn(p, 0, m, h, h, h)
	before := cloneHost(x)
	for _, call := range hostCalls() {
		wanted, wantedNumber := call.do(before, slices.Clone(m[:8]))
		got, number := call.do(x, m[:8])
		if askHost(t, got, wanted, call.name, " of machines on their memory"); number != wantedNumber {
			t.Fatalf("%s of machines on their memory: %d, not %d", call.name, number, wantedNumber)
		}
		if askHostApart(t, got.Host, call.name, " of machines on their memory"); !sameHost(x, before) {
			t.Fatalf("%s, or a write into its answer, changes machines on their memory", call.name)
		}
	}
}

// hostAnswers tells all that is answered.
func hostAnswers(x impl.Host, n, clock, guest int64, words []int64, images, inputs [][]int64) string {
	return fmt.Sprint(impl.HostFault(x), impl.BootHost(x.Policy, images, inputs), impl.StepHost(x), impl.RunHost(x, n), impl.TurnAt(x.Policy, clock), impl.TurnsBefore(x.Policy, clock, guest), impl.FeedHost(x, guest, words), impl.RestOf(x))
}

// TestHostsHangOnTheirArgumentsAlone asks all once more, from the last one on: what was kept from a call would show.
func TestHostsHangOnTheirArgumentsAlone(t *testing.T) {
	hosts := goodHosts()
	for k, bad := range someBadHosts() {
		if k%6 == 0 {
			hosts = append(hosts, bad.x)
		}
	}
	ask := func(n int) string {
		x := hosts[n%len(hosts)]
		images, inputs := [][]int64{{1}}, [][]int64{{2}}
		if policyFaultIn(x.Policy) == impl.OK {
			images, inputs = imagesFor(x.Policy)[n%10], bootInputs(len(x.Policy.Own))[n%7]
		}
		return hostAnswers(x, runNumbers()[n%12], clockNumbers()[n%12], int64(n%5)-1, feedLists()[n%len(feedLists())], images, inputs)
	}
	var said []string
	for n := range len(hosts) {
		said = append(said, ask(n))
	}
	for n := len(said) - 1; n >= 0; n-- {
		if got := ask(n); got != said[n] {
			t.Fatalf("first %s, then %s", said[n], got)
		}
	}
}
