package tests

import (
	"fmt"
	"math"
	"regexp"
	"slices"
	"strconv"
	"strings"
	"testing"

	"loop.example/g00213/impl"
)

func lane(from, to, page, atFrom, atTo int64) impl.Lane {
	return impl.Lane{From: from, To: to, Page: page, AtFrom: atFrom, AtTo: atTo}
}

func bell(from, to int64) impl.Bell {
	return impl.Bell{From: from, To: to}
}

func slot(guest, steps int64) impl.Slot {
	return impl.Slot{Guest: guest, Steps: steps}
}

// guestNumbers, hostPageNumbers, atNumbers and stepNumbers are what stands in a policy, at the bounds and beyond them.
func guestNumbers() []int64 {
	return []int64{math.MinInt64, -1 << 32, -1, 0, 1, 2, 3, 1 << 32, 1<<32 + 1, math.MaxInt64}
}

func hostPageNumbers() []int64 {
	return []int64{math.MinInt64, -1 << 32, -1, 0, 1, 7, 9, 22, 23, 24, 1 << 32, 1<<32 + 9, math.MaxInt64}
}

func atNumbers() []int64 {
	return []int64{math.MinInt64, -5, -1, 0, 4, 5, 6, 7, 1<<32 + 5, math.MaxInt64}
}

func stepNumbers() []int64 {
	return []int64{math.MinInt64, -1 << 32, -1, 0, 1, 2, 49, 50, 51, 1 << 32, 1<<32 + 1, math.MaxInt64}
}

// oneGuest, twoGuests and threeGuests have no fault; the last of them has no place for a lane left.
func oneGuest() impl.Policy {
	return impl.Policy{Own: [][]int64{{4}}, Plan: []impl.Slot{slot(0, 1)}}
}

func twoGuests() impl.Policy {
	return impl.Policy{Own: [][]int64{{2, 5}, {3}}, Lanes: []impl.Lane{lane(0, 1, 9, 5, 5)}, Plan: []impl.Slot{slot(0, 2), slot(1, 3)}}
}

func threeGuests() impl.Policy {
	return impl.Policy{
		Own:   [][]int64{{0, 23, 7}, {1}, {2, 3, 4, 5, 6}},
		Lanes: []impl.Lane{lane(0, 1, 8, 5, 6), lane(1, 2, 9, 5, 5), lane(2, 0, 22, 6, 6)},
		Bells: []impl.Bell{bell(0, 1), bell(1, 0), bell(2, 1), bell(0, 2)},
		Plan:  []impl.Slot{slot(0, 1), slot(1, 50), slot(2, 7), slot(0, 3)},
	}
}

// looseGuests are three guests without a link, and the middle one without a slot.
func looseGuests() impl.Policy {
	return impl.Policy{Own: [][]int64{{10}, {12, 11}, {13}}, Plan: []impl.Slot{slot(2, 4), slot(0, 5), slot(2, 6)}}
}

func clonePolicy(p impl.Policy) impl.Policy {
	var own [][]int64
	for _, pages := range p.Own {
		own = append(own, slices.Clone(pages))
	}
	return impl.Policy{Own: own, Lanes: slices.Clone(p.Lanes), Bells: slices.Clone(p.Bells), Plan: slices.Clone(p.Plan)}
}

func samePolicies(a, b impl.Policy) bool {
	return slices.EqualFunc(a.Own, b.Own, func(x, y []int64) bool { return slices.Equal(x, y) }) &&
		slices.Equal(a.Lanes, b.Lanes) && slices.Equal(a.Bells, b.Bells) && slices.Equal(a.Plan, b.Plan)
}

func sameParsed(a, b impl.PolicyResult) bool {
	return a.Code == b.Code && a.At == b.At && samePolicies(a.Policy, b.Policy)
}

func guestIn(p impl.Policy, n int64) bool {
	return within(n, int64(len(p.Own))-1)
}

func ownersIn(p impl.Policy, page int64) []int64 {
	var owners []int64
	for guest, own := range p.Own {
		for _, n := range own {
			if n == page {
				owners = append(owners, int64(guest))
			}
		}
	}
	return owners
}

func ownFaultIn(p impl.Policy) int64 {
	if len(p.Own) == 0 || len(p.Own) > 3 {
		return impl.ErrMany
	}
	for _, own := range p.Own {
		if len(own) == 0 || len(own) > 5 {
			return impl.ErrMany
		}
		if slices.ContainsFunc(own, func(n int64) bool { return !within(n, 23) }) {
			return impl.ErrRange
		}
	}
	for page := range int64(24) {
		if len(ownersIn(p, page)) > 1 {
			return impl.ErrTaken
		}
	}
	return impl.OK
}

func laneFaultIn(p impl.Policy, k int) int64 {
	x := p.Lanes[k]
	if !guestIn(p, x.From) || !guestIn(p, x.To) {
		return impl.ErrNone
	}
	if x.From == x.To {
		return impl.ErrForm
	}
	if !within(x.Page, 23) || x.AtFrom != 5 && x.AtFrom != 6 || x.AtTo != 5 && x.AtTo != 6 {
		return impl.ErrRange
	}
	taken := map[string]int{}
	for _, y := range p.Lanes[:k] {
		taken[fmt.Sprint("page ", y.Page)]++
		taken[fmt.Sprint("guest ", y.From, " at ", y.AtFrom)]++
		taken[fmt.Sprint("guest ", y.To, " at ", y.AtTo)]++
	}
	if len(ownersIn(p, x.Page)) > 0 || taken[fmt.Sprint("page ", x.Page)] > 0 ||
		taken[fmt.Sprint("guest ", x.From, " at ", x.AtFrom)] > 0 || taken[fmt.Sprint("guest ", x.To, " at ", x.AtTo)] > 0 {
		return impl.ErrTaken
	}
	return impl.OK
}

func bellFaultIn(p impl.Policy, k int) int64 {
	x := p.Bells[k]
	if !guestIn(p, x.From) || !guestIn(p, x.To) {
		return impl.ErrNone
	}
	if x.From == x.To {
		return impl.ErrForm
	}
	for _, y := range p.Bells[:k] {
		if x.From == y.From && x.To == y.To {
			return impl.ErrTaken
		}
	}
	return impl.OK
}

func planFaultIn(p impl.Policy) int64 {
	if len(p.Plan) == 0 || len(p.Plan) > 8 {
		return impl.ErrMany
	}
	for _, x := range p.Plan {
		if !guestIn(p, x.Guest) {
			return impl.ErrNone
		}
		if x.Steps < 1 || x.Steps > 50 {
			return impl.ErrRange
		}
	}
	return impl.OK
}

// policyFaultIn goes through what the document says, word by word.
func policyFaultIn(p impl.Policy) int64 {
	if fault := ownFaultIn(p); fault != impl.OK {
		return fault
	}
	if len(p.Lanes) > 4 || len(p.Bells) > 4 {
		return impl.ErrMany
	}
	for k := range p.Lanes {
		if fault := laneFaultIn(p, k); fault != impl.OK {
			return fault
		}
	}
	for k := range p.Bells {
		if fault := bellFaultIn(p, k); fault != impl.OK {
			return fault
		}
	}
	return planFaultIn(p)
}

// mixedPolicies have no fault; told by a steady count.
func mixedPolicies(many int) []impl.Policy {
	seed := uint64(97)
	next := func(n int64) int64 {
		seed = seed*6364136223846793005 + 1442695040888963407
		return int64(seed>>33) % n
	}
	var list []impl.Policy
	for k := range many {
		guests := int64(k%3) + 1
		free := mixedUp(24, next)
		var p impl.Policy
		for range guests {
			size := next(5) + 1
			p.Own, free = append(p.Own, slices.Clone(free[:size])), free[size:]
		}
		for range next(9) {
			x, y := lane(next(guests), next(guests), next(24), next(2)+5, next(2)+5), bell(next(guests), next(guests))
			if with := append(slices.Clone(p.Lanes), x); len(with) <= 4 && laneFaultIn(impl.Policy{Own: p.Own, Lanes: with}, len(p.Lanes)) == impl.OK {
				p.Lanes = with
			}
			if with := append(slices.Clone(p.Bells), y); len(with) <= 4 && bellFaultIn(impl.Policy{Own: p.Own, Bells: with}, len(p.Bells)) == impl.OK {
				p.Bells = with
			}
		}
		for range next(8) + 1 {
			p.Plan = append(p.Plan, slot(next(guests), next(50)+1))
		}
		list = append(list, p)
	}
	return list
}

// mixedUp are the numbers below n in an order that next tells.
func mixedUp(n int64, next func(n int64) int64) []int64 {
	var list []int64
	for k := range n {
		list = slices.Insert(list, int(next(k+1)), k)
	}
	return list
}

// linkedGuests are three guests with the links of a mask: the first four of the six that there are as bells, the others as lanes; or the other way about as far as there is room.
func linkedGuests(mask int) impl.Policy {
	p := looseGuests()
	ends := [][2]int64{{0, 1}, {1, 0}, {2, 1}, {1, 2}, {0, 2}, {2, 0}}
	for k, x := range ends {
		if mask>>k&1 == 0 {
			continue
		}
		if mask>>6 == 0 && k < 4 || mask>>6 == 1 && k >= 2 {
			p.Bells = append(p.Bells, bell(x[0], x[1]))
		} else {
			at := int64(k%2) + 5
			p.Lanes = append(p.Lanes, lane(x[0], x[1], int64(k), at, at))
		}
	}
	return p
}

// fullPolicy has as much of all as there may be, and the greatest steps.
func fullPolicy() impl.Policy {
	p := threeGuests()
	p.Own[0], p.Own[1] = []int64{23, 0, 21, 20, 19}, []int64{10, 11, 12, 13, 14}
	p.Plan = []impl.Slot{slot(2, 50), slot(2, 50), slot(1, 50), slot(0, 50), slot(2, 50), slot(1, 50), slot(0, 50), slot(2, 50)}
	return p
}

// goodPolicies have no fault: of one, two and three guests, with and without lanes and bells.
func goodPolicies() []impl.Policy {
	list := []impl.Policy{oneGuest(), twoGuests(), threeGuests(), looseGuests(), fullPolicy()}
	for mask := range 128 {
		list = append(list, linkedGuests(mask))
	}
	for slots := 1; slots <= 8; slots++ {
		p := twoGuests()
		p.Plan = slices.Repeat([]impl.Slot{slot(int64(slots%2), int64(slots)*6)}, slots)
		list = append(list, p)
	}
	for size := int64(1); size <= 5; size++ {
		p := oneGuest()
		p.Own[0] = []int64{23, 0, 1, 22, 5}[:size]
		list = append(list, p)
	}
	return append(list, mixedPolicies(150)...)
}

// edit turns a policy into one with a fault.
type edit struct {
	do    func(p *impl.Policy)
	fault int64
}

// ownEdits, laneEdits, bellEdits and planEdits turn three guests without links, so that nothing else is wrong about them.
func ownEdits() []edit {
	var list []edit
	add := func(fault int64, own ...[]int64) {
		list = append(list, edit{func(p *impl.Policy) { p.Own = own }, fault})
	}
	add(impl.ErrMany)
	add(impl.ErrMany, []int64{10}, []int64{11}, []int64{12}, []int64{13})
	add(impl.ErrMany, make([][]int64, 1000)...)
	for k := range 3 {
		for _, own := range [][]int64{nil, {}, {15, 16, 17, 18, 19, 20}, make([]int64, 1000)} {
			list = append(list, edit{func(p *impl.Policy) { p.Own[k] = own }, impl.ErrMany})
		}
		for _, n := range []int64{math.MinInt64, -1, 24, math.MaxInt64} {
			list = append(list, edit{func(p *impl.Policy) { p.Own[k] = []int64{n} }, impl.ErrRange}, edit{func(p *impl.Policy) { p.Own[k] = []int64{15, 16, 17, 18, n} }, impl.ErrRange})
		}
		list = append(list, edit{func(p *impl.Policy) { p.Own[k] = []int64{15, 15} }, impl.ErrTaken}, edit{func(p *impl.Policy) { p.Own[k] = []int64{15, 0, 23, 16, 15} }, impl.ErrTaken},
			edit{func(p *impl.Policy) { p.Own[k] = []int64{15, p.Own[(k+1)%3][0]} }, impl.ErrTaken}, edit{func(p *impl.Policy) { p.Own[k] = []int64{p.Own[(k+2)%3][0]} }, impl.ErrTaken})
	}
	return list
}

func laneEdits() []edit {
	list := []edit{{func(p *impl.Policy) { p.Lanes = make([]impl.Lane, 5) }, impl.ErrMany}, {func(p *impl.Policy) { p.Lanes = make([]impl.Lane, 1000) }, impl.ErrMany}}
	add := func(fault int64, lanes ...impl.Lane) {
		list = append(list, edit{func(p *impl.Policy) { p.Lanes = lanes }, fault}, edit{func(p *impl.Policy) { p.Lanes = append([]impl.Lane{lane(2, 1, 1, 6, 6)}, lanes...) }, fault})
	}
	for _, n := range []int64{math.MinInt64, -1, 3, math.MaxInt64} {
		add(impl.ErrNone, lane(n, 1, 0, 5, 5))
		add(impl.ErrNone, lane(0, n, 0, 5, 5))
		add(impl.ErrNone, lane(n, n, 0, 5, 5))
	}
	for n := range int64(3) {
		add(impl.ErrForm, lane(n, n, 0, 5, 5))
		add(impl.ErrForm, lane(n, n, 0, 5, 6))
	}
	for _, n := range []int64{math.MinInt64, -1, 24, math.MaxInt64} {
		add(impl.ErrRange, lane(0, 1, n, 5, 5))
	}
	for _, n := range []int64{math.MinInt64, 0, 4, 7, math.MaxInt64} {
		add(impl.ErrRange, lane(0, 1, 0, n, 5))
		add(impl.ErrRange, lane(0, 1, 0, 5, n))
	}
	for _, n := range []int64{10, 11, 12, 13} {
		add(impl.ErrTaken, lane(0, 1, n, 5, 5))
	}
	add(impl.ErrTaken, lane(0, 1, 0, 5, 5), lane(1, 2, 0, 6, 6))
	add(impl.ErrTaken, lane(0, 1, 0, 5, 5), lane(0, 2, 2, 5, 6))
	add(impl.ErrTaken, lane(0, 1, 0, 5, 5), lane(0, 1, 2, 6, 5))
	add(impl.ErrTaken, lane(0, 1, 0, 5, 5), lane(1, 0, 2, 5, 6))
	add(impl.ErrTaken, lane(0, 1, 0, 5, 5), lane(2, 0, 2, 5, 5))
	add(impl.ErrTaken, lane(0, 1, 0, 5, 5), lane(1, 2, 2, 5, 5))
	add(impl.ErrTaken, lane(0, 1, 0, 5, 5), lane(0, 2, 2, 6, 5), lane(2, 0, 3, 5, 6))
	return list
}

func bellEdits() []edit {
	list := []edit{{func(p *impl.Policy) { p.Bells = make([]impl.Bell, 5) }, impl.ErrMany}, {func(p *impl.Policy) { p.Bells = make([]impl.Bell, 1000) }, impl.ErrMany}}
	add := func(fault int64, bells ...impl.Bell) {
		list = append(list, edit{func(p *impl.Policy) { p.Bells = bells }, fault}, edit{func(p *impl.Policy) { p.Bells = append([]impl.Bell{bell(2, 0)}, bells...) }, fault})
	}
	for _, n := range []int64{math.MinInt64, -1, 3, math.MaxInt64} {
		add(impl.ErrNone, bell(n, 1))
		add(impl.ErrNone, bell(1, n))
		add(impl.ErrNone, bell(n, n))
	}
	for n := range int64(3) {
		add(impl.ErrForm, bell(n, n))
	}
	add(impl.ErrTaken, bell(0, 1), bell(0, 1))
	add(impl.ErrTaken, bell(0, 1), bell(1, 0), bell(0, 1))
	add(impl.ErrTaken, bell(1, 2), bell(1, 0), bell(1, 2))
	return list
}

func planEdits() []edit {
	var list []edit
	add := func(fault int64, plan ...impl.Slot) {
		list = append(list, edit{func(p *impl.Policy) { p.Plan = plan }, fault})
	}
	add(impl.ErrMany)
	add(impl.ErrMany, slices.Repeat([]impl.Slot{slot(0, 1)}, 9)...)
	add(impl.ErrMany, make([]impl.Slot, 1000)...)
	for _, n := range []int64{math.MinInt64, -1, 3, math.MaxInt64} {
		add(impl.ErrNone, slot(n, 1))
		add(impl.ErrNone, slot(0, 1), slot(n, 1))
		add(impl.ErrNone, slot(n, 0))
	}
	for _, n := range []int64{math.MinInt64, -1, 0, 51, math.MaxInt64} {
		add(impl.ErrRange, slot(0, n))
		add(impl.ErrRange, slot(0, 1), slot(2, 50), slot(1, n))
	}
	add(impl.ErrRange, slot(0, 0), slot(3, 1))
	add(impl.ErrNone, slot(3, 1), slot(0, 0))
	return list
}

type badPolicy struct {
	p     impl.Policy
	fault int64
}

// someBadPolicies have one of the faults above each.
func someBadPolicies() []badPolicy {
	var list []badPolicy
	for _, x := range slices.Concat(ownEdits(), laneEdits(), bellEdits(), planEdits()) {
		p := looseGuests()
		x.do(&p)
		list = append(list, badPolicy{p, x.fault})
	}
	return append(list, badPolicy{impl.Policy{}, impl.ErrMany})
}

func TestPolicyConstants(t *testing.T) {
	if impl.MaxGuests != 3 || impl.MaxOwn != 5 || impl.MaxSlots != 8 {
		t.Error("constants")
	}
}

func TestPolicyFault(t *testing.T) {
	for _, p := range goodPolicies() {
		if got := impl.PolicyFault(p); got != impl.OK || policyFaultIn(p) != impl.OK {
			t.Fatalf("PolicyFault of %v: %d", p, got)
		}
	}
	for _, x := range someBadPolicies() {
		if got := impl.PolicyFault(x.p); got != x.fault || policyFaultIn(x.p) != x.fault {
			t.Fatalf("PolicyFault of %v: %d, not %d", x.p, got, x.fault)
		}
	}
}

// TestPolicyFaultOfSizes asks how many guests, pages, lanes, bells and slots there may be.
func TestPolicyFaultOfSizes(t *testing.T) {
	for guests := range 6 {
		var p impl.Policy
		for k := range guests {
			p.Own = append(p.Own, []int64{int64(k)})
		}
		p.Plan = []impl.Slot{slot(0, 1)}
		if got, want := impl.PolicyFault(p) == impl.OK, guests >= 1 && guests <= 3; got != want {
			t.Errorf("%d guests: %v", guests, got)
		}
	}
	for size := range 9 {
		for guest := range 3 {
			p := looseGuests()
			p.Own[guest] = []int64{0, 1, 2, 3, 4, 5, 6, 7, 8}[:size]
			if got, want := impl.PolicyFault(p) == impl.OK, size >= 1 && size <= 5; got != want {
				t.Errorf("guest %d owns %d pages: %v", guest, size, got)
			}
		}
	}
	bells := []impl.Bell{bell(0, 1), bell(1, 0), bell(2, 1), bell(1, 2), bell(0, 2), bell(2, 0)}
	for size := range 7 {
		p := looseGuests()
		p.Bells = bells[:size]
		if got, want := impl.PolicyFault(p), []int64{0, 0, 0, 0, 0, impl.ErrMany, impl.ErrMany}[size]; got != want {
			t.Errorf("%d bells: %d", size, got)
		}
	}
	// Three lanes take all places of three guests, so a fourth one is taken; a fifth one is too many.
	lanes := []impl.Lane{lane(0, 1, 1, 5, 6), lane(1, 2, 2, 5, 6), lane(2, 0, 3, 5, 6), lane(0, 1, 4, 5, 5), lane(0, 1, 5, 6, 6)}
	for size := range 6 {
		p := looseGuests()
		p.Lanes = lanes[:size]
		if got, want := impl.PolicyFault(p), []int64{0, 0, 0, 0, impl.ErrTaken, impl.ErrMany}[size]; got != want {
			t.Errorf("%d lanes: %d", size, got)
		}
	}
	for size := range 11 {
		p := looseGuests()
		p.Plan = slices.Repeat([]impl.Slot{slot(2, 50)}, size)
		if got, want := impl.PolicyFault(p) == impl.OK, size >= 1 && size <= 8; got != want {
			t.Errorf("%d slots: %v", size, got)
		}
	}
}

func askPolicyFault(t *testing.T, p impl.Policy) {
	t.Helper()
	if got, want := impl.PolicyFault(p), policyFaultIn(p); got != want {
		t.Fatalf("PolicyFault of %v: %d, not %d", p, got, want)
	}
}

func TestPolicyFaultOfPages(t *testing.T) {
	for _, a := range hostPageNumbers() {
		for _, b := range hostPageNumbers() {
			for guest := range 3 {
				p := looseGuests()
				p.Own[guest] = []int64{a, b}
				askPolicyFault(t, p)
				q := looseGuests()
				q.Own[guest], q.Own[(guest+1)%3] = []int64{15, a}, []int64{b, 16}
				askPolicyFault(t, q)
			}
		}
	}
}

// TestPolicyFaultOfALane asks a lane alone, behind another one, and ahead of one, with all of it at its bounds and beyond.
func TestPolicyFaultOfALane(t *testing.T) {
	two, three := twoGuests(), looseGuests()
	three.Own[0] = []int64{7, 23}
	for _, from := range guestNumbers() {
		for _, to := range guestNumbers() {
			for _, page := range hostPageNumbers() {
				for _, at := range atNumbers() {
					for _, x := range []impl.Lane{lane(from, to, page, at, 5), lane(from, to, page, 6, at), lane(from, to, page, at, at)} {
						two.Lanes = []impl.Lane{x, lane(0, 1, 9, 6, 6)}
						three.Lanes = []impl.Lane{lane(1, 0, 1, 6, 5), x}
						askPolicyFault(t, two)
						askPolicyFault(t, three)
					}
				}
			}
		}
	}
}

// TestPolicyFaultOfTwoLanes asks all pairs of lanes that are right alone.
func TestPolicyFaultOfTwoLanes(t *testing.T) {
	var lanes []impl.Lane
	for from := range int64(3) {
		for to := range int64(3) {
			for _, page := range []int64{0, 9, 12} {
				for k := range int64(4) {
					lanes = append(lanes, lane(from, to, page, 5+k%2, 5+k/2))
				}
			}
		}
	}
	p := looseGuests()
	for _, x := range lanes {
		for _, y := range lanes {
			p.Lanes = []impl.Lane{x, y}
			askPolicyFault(t, p)
			p.Lanes = []impl.Lane{x, lane(1, 2, 23, 6, 6), y}
			askPolicyFault(t, p)
		}
	}
}

func TestPolicyFaultOfLanesByHand(t *testing.T) {
	first := lane(0, 1, 9, 5, 5)
	table := []struct {
		x    impl.Lane
		want int64
	}{
		{lane(0, 1, 0, 6, 6), impl.OK}, {lane(1, 0, 0, 6, 6), impl.OK}, {lane(2, 0, 0, 5, 6), impl.OK}, {lane(2, 1, 0, 5, 6), impl.OK}, {lane(0, 2, 0, 6, 5), impl.OK}, {lane(1, 2, 23, 6, 5), impl.OK},
		{lane(0, 1, 9, 6, 6), impl.ErrTaken}, {lane(1, 2, 9, 6, 5), impl.ErrTaken}, {lane(0, 1, 10, 6, 6), impl.ErrTaken}, {lane(0, 1, 11, 6, 6), impl.ErrTaken}, {lane(0, 1, 13, 6, 6), impl.ErrTaken},
		{lane(0, 1, 0, 5, 6), impl.ErrTaken}, {lane(0, 2, 0, 5, 6), impl.ErrTaken}, {lane(0, 1, 0, 6, 5), impl.ErrTaken}, {lane(2, 1, 0, 6, 5), impl.ErrTaken},
		{lane(1, 0, 0, 5, 6), impl.ErrTaken}, {lane(1, 2, 0, 5, 6), impl.ErrTaken}, {lane(1, 0, 0, 6, 5), impl.ErrTaken}, {lane(2, 0, 0, 6, 5), impl.ErrTaken}, {first, impl.ErrTaken},
		{lane(0, 0, 0, 6, 6), impl.ErrForm}, {lane(0, 0, 24, 7, 7), impl.ErrForm}, {lane(3, 3, 0, 6, 6), impl.ErrNone}, {lane(-1, 0, 24, 7, 7), impl.ErrNone}, {lane(0, 3, 9, 5, 5), impl.ErrNone},
		{lane(0, 1, 9, 5, 7), impl.ErrRange}, {lane(0, 1, 9, 4, 5), impl.ErrRange}, {lane(0, 1, 24, 5, 5), impl.ErrRange}, {lane(0, 1, -1, 5, 5), impl.ErrRange},
	}
	for _, x := range table {
		p := looseGuests()
		p.Lanes = []impl.Lane{first, x.x}
		if got := impl.PolicyFault(p); got != x.want {
			t.Errorf("PolicyFault of lanes %v: %d, not %d", p.Lanes, got, x.want)
		}
	}
}

func TestPolicyFaultOfBellsAndSlots(t *testing.T) {
	p, q := looseGuests(), twoGuests()
	for _, from := range guestNumbers() {
		for _, to := range guestNumbers() {
			x := bell(from, to)
			for _, bells := range [][]impl.Bell{{x}, {bell(0, 1), x}, {x, bell(1, 0)}, {x, bell(2, 1), x}, {x, bell(to, from)}, {bell(0, 1), bell(1, 0), bell(0, 2), x}} {
				p.Bells, q.Bells = bells, bells
				askPolicyFault(t, p)
				askPolicyFault(t, q)
			}
		}
	}
	p, q = looseGuests(), twoGuests()
	for _, guest := range guestNumbers() {
		for _, steps := range stepNumbers() {
			x := slot(guest, steps)
			for _, plan := range [][]impl.Slot{{x}, {x, slot(0, 0)}, {slot(1, 50), x}, {slot(3, 1), x}, slices.Repeat([]impl.Slot{x}, 8), slices.Repeat([]impl.Slot{x}, 9)} {
				p.Plan, q.Plan = plan, plan
				askPolicyFault(t, p)
				askPolicyFault(t, q)
			}
		}
	}
}

// TestPolicyFaultOfTwoFaults asks each two faults of two parts of a policy: the first part tells, but that what is too many of lanes or bells is told ahead of both.
func TestPolicyFaultOfTwoFaults(t *testing.T) {
	parts := [][]edit{ownEdits(), laneEdits(), bellEdits(), planEdits()}
	for k, first := range parts {
		for _, second := range parts[k+1:] {
			for _, x := range first {
				for _, y := range second {
					p := looseGuests()
					x.do(&p)
					y.do(&p)
					want := x.fault
					if k == 1 && (len(p.Lanes) > 4 || len(p.Bells) > 4) {
						want = impl.ErrMany
					}
					if got := impl.PolicyFault(p); got != want || policyFaultIn(p) != want {
						t.Fatalf("PolicyFault of %v: %d, not %d", p, got, want)
					}
				}
			}
		}
	}
}

func TestPolicyFaultOfTwoFaultsByHand(t *testing.T) {
	type pages = [][]int64
	table := []struct {
		own  pages
		want int64
	}{
		// Guest by guest: how many and which; a page that is owned twice is asked behind all of them.
		{pages{{24}, nil, {13}}, impl.ErrRange}, {pages{nil, {24}, {13}}, impl.ErrMany}, {pages{{1, 2, 3, 4, 5, 24}, {6}}, impl.ErrMany}, {pages{{1}, {-1}, {}}, impl.ErrRange},
		{pages{{1, 1}, {24}}, impl.ErrRange}, {pages{{1, 1}, {2, 3, 4, 5, 6, 7}}, impl.ErrMany}, {pages{{1, 1}, {1}, {}}, impl.ErrMany}, {pages{{24, 24}}, impl.ErrRange}, {pages{{1}, {1}, {-1}}, impl.ErrRange},
		{pages{{24}, {1}, {2}, {3}}, impl.ErrMany}, {pages{{1}, {1}, {1}, {1}}, impl.ErrMany}, {pages{{1}, {2}, {1}}, impl.ErrTaken}, {pages{{1, 2, 3, 4, 1}}, impl.ErrTaken},
	}
	for _, x := range table {
		p := impl.Policy{Own: x.own, Plan: []impl.Slot{slot(0, 1)}}
		if got := impl.PolicyFault(p); got != x.want {
			t.Errorf("PolicyFault of guests %v: %d, not %d", x.own, got, x.want)
		}
	}
	// Lane by lane and bell by bell the first one with a fault tells its own, whichever it is.
	taken, none, same, wide := lane(0, 1, 10, 5, 5), lane(3, 0, 0, 5, 5), lane(1, 1, 0, 5, 5), lane(0, 1, 24, 5, 5)
	for _, x := range [][]impl.Lane{{taken, none}, {taken, wide}, {taken, same}} {
		p := looseGuests()
		p.Lanes = x
		q := looseGuests()
		q.Lanes = []impl.Lane{x[1], x[0]}
		if a, b := impl.PolicyFault(p), impl.PolicyFault(q); a != impl.ErrTaken || b != policyFaultIn(q) || b == impl.ErrTaken {
			t.Errorf("PolicyFault of lanes %v: %d, and the other way about %d", x, a, b)
		}
	}
	p := looseGuests()
	p.Bells = []impl.Bell{bell(0, 1), bell(0, 1), bell(0, 3), bell(2, 2)}
	if got := impl.PolicyFault(p); got != impl.ErrTaken {
		t.Errorf("PolicyFault of bells %v: %d", p.Bells, got)
	}
	p.Bells = []impl.Bell{bell(2, 2), bell(0, 3), bell(0, 3)}
	if got := impl.PolicyFault(p); got != impl.ErrForm {
		t.Errorf("PolicyFault of bells %v: %d", p.Bells, got)
	}
}

func TestOwnerOf(t *testing.T) {
	for _, p := range goodPolicies() {
		pages := []int64{math.MinInt64, -1 << 32, -1, 24, 25, 1 << 32, math.MaxInt64}
		for page := range int64(24) {
			pages = append(pages, page)
		}
		for _, page := range pages {
			want := impl.IntResult{Code: impl.ErrNone}
			if owners := ownersIn(p, page); len(owners) == 1 {
				want = impl.IntResult{Value: owners[0]}
			}
			if got := impl.OwnerOf(p, page); got != want {
				t.Fatalf("OwnerOf of %v, page %d: %v, not %v", p, page, got, want)
			}
		}
	}
}

func TestOwnerOfByHand(t *testing.T) {
	p := threeGuests()
	table := []struct{ page, code, value int64 }{
		{0, impl.OK, 0}, {23, impl.OK, 0}, {7, impl.OK, 0}, {1, impl.OK, 1}, {2, impl.OK, 2}, {6, impl.OK, 2}, {8, impl.ErrNone, 0}, {9, impl.ErrNone, 0}, {22, impl.ErrNone, 0}, {10, impl.ErrNone, 0},
		{-1, impl.ErrNone, 0}, {24, impl.ErrNone, 0}, {math.MinInt64, impl.ErrNone, 0}, {math.MaxInt64, impl.ErrNone, 0},
	}
	for _, x := range table {
		if got := impl.OwnerOf(p, x.page); got != (impl.IntResult{Code: x.code, Value: x.value}) {
			t.Errorf("OwnerOf of page %d: %v", x.page, got)
		}
	}
}

// TestARoundBelongsToSomebody asks that the steps of all guests together are those of a round.
func TestARoundBelongsToSomebody(t *testing.T) {
	for _, p := range goodPolicies() {
		steps := make([]int64, len(p.Own))
		round, sum := int64(0), int64(0)
		for _, x := range p.Plan {
			steps[x.Guest] += x.Steps
			round += x.Steps
		}
		for _, guest := range guestNumbers() {
			want := impl.IntResult{Code: impl.ErrNone}
			if guestIn(p, guest) {
				want = impl.IntResult{Value: steps[guest]}
			}
			got := impl.FramesOf(p, guest)
			if got != want {
				t.Fatalf("FramesOf of %v, guest %d: %v, not %v", p, guest, got, want)
			}
			sum += got.Value
		}
		if got := impl.RoundOf(p); got != (impl.IntResult{Value: round}) || got.Value != sum {
			t.Fatalf("RoundOf of %v: %v, not %d", p, got, round)
		}
	}
}

func TestStepsByHand(t *testing.T) {
	table := []struct {
		p      impl.Policy
		frames []int64
		round  int64
	}{
		{oneGuest(), []int64{1}, 1}, {twoGuests(), []int64{2, 3}, 5}, {threeGuests(), []int64{4, 50, 7}, 61}, {looseGuests(), []int64{5, 0, 10}, 15}, {fullPolicy(), []int64{100, 100, 200}, 400},
	}
	for _, x := range table {
		if got := impl.RoundOf(x.p); got != (impl.IntResult{Value: x.round}) {
			t.Errorf("RoundOf of %v: %v", x.p, got)
		}
		for guest, want := range x.frames {
			if got := impl.FramesOf(x.p, int64(guest)); got != (impl.IntResult{Value: want}) {
				t.Errorf("FramesOf of %v, guest %d: %v", x.p, guest, got)
			}
		}
		for _, guest := range []int64{math.MinInt64, -1, int64(len(x.frames)), math.MaxInt64} {
			if got := impl.FramesOf(x.p, guest); got != (impl.IntResult{Code: impl.ErrNone}) {
				t.Errorf("FramesOf of %v, guest %d: %v", x.p, guest, got)
			}
		}
	}
}

// linkTable says who has a link to whom, and who reaches whom.
func linkTable(p impl.Policy) (links, reach [3][3]bool) {
	for _, x := range p.Lanes {
		links[x.From][x.To] = true
	}
	for _, x := range p.Bells {
		links[x.From][x.To] = true
	}
	reach = links
	for over := range 3 {
		for from := range 3 {
			for to := range 3 {
				reach[from][to] = reach[from][to] || reach[from][over] && reach[over][to]
			}
		}
	}
	return links, reach
}

func whoIn(p impl.Policy, table [3][3]bool, guest int64) impl.IntsResult {
	if !guestIn(p, guest) {
		return impl.IntsResult{Code: impl.ErrNone}
	}
	var list []int64
	for from := range int64(3) {
		if table[from][guest] {
			list = append(list, from)
		}
	}
	return impl.IntsResult{List: list}
}

func TestLinksAndReach(t *testing.T) {
	for _, p := range goodPolicies() {
		links, reach := linkTable(p)
		for _, guest := range guestNumbers() {
			if got, want := impl.LinksTo(p, guest), whoIn(p, links, guest); !sameInts(got, want) {
				t.Fatalf("LinksTo of %v, guest %d: %v, not %v", p, guest, got, want)
			}
			if got, want := impl.ReachTo(p, guest), whoIn(p, reach, guest); !sameInts(got, want) {
				t.Fatalf("ReachTo of %v, guest %d: %v, not %v", p, guest, got, want)
			}
		}
	}
}

// TestWhoReachesOneThatReaches asks that whoever reaches one that reaches a guest reaches it, too, and whoever has a link to it.
func TestWhoReachesOneThatReaches(t *testing.T) {
	for _, p := range goodPolicies() {
		for guest := range int64(len(p.Own)) {
			reach := impl.ReachTo(p, guest).List
			for _, near := range impl.LinksTo(p, guest).List {
				if !slices.Contains(reach, near) {
					t.Fatalf("%d has a link to %d in %v and does not reach it", near, guest, p)
				}
			}
			for _, over := range reach {
				for _, from := range impl.ReachTo(p, over).List {
					if !slices.Contains(reach, from) {
						t.Fatalf("%d reaches %d, which reaches %d, in %v", from, over, guest, p)
					}
				}
			}
		}
	}
}

func TestLinksAndReachByHand(t *testing.T) {
	type ints = []int64
	table := []struct {
		lanes        []impl.Lane
		bells        []impl.Bell
		links, reach [3]ints
	}{
		{nil, nil, [3]ints{}, [3]ints{}},
		// A lane and a bell from the same guest: it is told once.
		{[]impl.Lane{lane(0, 1, 0, 5, 5)}, []impl.Bell{bell(0, 1)}, [3]ints{nil, {0}, nil}, [3]ints{nil, {0}, nil}},
		{[]impl.Lane{lane(0, 1, 0, 5, 5), lane(0, 1, 1, 6, 6)}, nil, [3]ints{nil, {0}, nil}, [3]ints{nil, {0}, nil}},
		// One that reaches itself over another one.
		{nil, []impl.Bell{bell(1, 0), bell(0, 1)}, [3]ints{{1}, {0}, nil}, [3]ints{{0, 1}, {0, 1}, nil}},
		{[]impl.Lane{lane(2, 0, 0, 5, 5)}, []impl.Bell{bell(0, 2)}, [3]ints{{2}, nil, {0}}, [3]ints{{0, 2}, nil, {0, 2}}},
		// Reached over another one, by a lane and a bell.
		{[]impl.Lane{lane(2, 1, 0, 5, 5)}, []impl.Bell{bell(1, 0)}, [3]ints{{1}, {2}, nil}, [3]ints{{1, 2}, {2}, nil}},
		{[]impl.Lane{lane(0, 1, 0, 5, 5), lane(1, 2, 1, 6, 5)}, nil, [3]ints{nil, {0}, {1}}, [3]ints{nil, {0}, {0, 1}}},
		{nil, []impl.Bell{bell(2, 0), bell(1, 0)}, [3]ints{{1, 2}, nil, nil}, [3]ints{{1, 2}, nil, nil}},
		// All round: each one reaches all.
		{[]impl.Lane{lane(0, 1, 0, 5, 5)}, []impl.Bell{bell(2, 0), bell(1, 2)}, [3]ints{{2}, {0}, {1}}, [3]ints{{0, 1, 2}, {0, 1, 2}, {0, 1, 2}}},
		// Two reach themselves, and with that the third one, which reaches nobody.
		{nil, []impl.Bell{bell(1, 2), bell(2, 1), bell(2, 0)}, [3]ints{{2}, {2}, {1}}, [3]ints{{1, 2}, {1, 2}, {1, 2}}},
	}
	for _, x := range table {
		p := looseGuests()
		p.Lanes, p.Bells = x.lanes, x.bells
		for guest := range int64(3) {
			if got := impl.LinksTo(p, guest); !sameInts(got, impl.IntsResult{List: x.links[guest]}) {
				t.Errorf("LinksTo of %v, guest %d: %v", p, guest, got)
			}
			if got := impl.ReachTo(p, guest); !sameInts(got, impl.IntsResult{List: x.reach[guest]}) {
				t.Errorf("ReachTo of %v, guest %d: %v", p, guest, got)
			}
		}
		for _, guest := range []int64{math.MinInt64, -1, 3, math.MaxInt64} {
			none := impl.IntsResult{Code: impl.ErrNone}
			if !sameInts(impl.LinksTo(p, guest), none) || !sameInts(impl.ReachTo(p, guest), none) {
				t.Errorf("LinksTo and ReachTo of %v, guest %d", p, guest)
			}
		}
	}
}

// TestPolicyFaultsAreTold asks that all tell the fault of a policy, ahead of anything else, and nothing beside it.
func TestPolicyFaultsAreTold(t *testing.T) {
	for _, x := range someBadPolicies() {
		for _, n := range []int64{math.MinInt64, -1, 0, 2, 3, 15, 24, math.MaxInt64} {
			one, many := impl.IntResult{Code: x.fault}, impl.IntsResult{Code: x.fault}
			if impl.OwnerOf(x.p, n) != one || impl.FramesOf(x.p, n) != one || impl.RoundOf(x.p) != one {
				t.Fatalf("OwnerOf, FramesOf or RoundOf of %v, %d does not tell %d", x.p, n, x.fault)
			}
			if !sameInts(impl.LinksTo(x.p, n), many) || !sameInts(impl.ReachTo(x.p, n), many) {
				t.Fatalf("LinksTo or ReachTo of %v, %d does not tell %d", x.p, n, x.fault)
			}
		}
		if got := impl.FormatPolicy(x.p); got != (impl.TextResult{Code: x.fault}) {
			t.Fatalf("FormatPolicy of %v: %v, not %d", x.p, got, x.fault)
		}
	}
}

func policyTextIn(p impl.Policy) string {
	var text string
	for _, own := range p.Own {
		text += "own " + strings.Trim(fmt.Sprint(own), "[]") + "\n"
	}
	for _, x := range p.Lanes {
		text += fmt.Sprintf("lane %d %d %d %d %d\n", x.From, x.To, x.Page, x.AtFrom, x.AtTo)
	}
	for _, x := range p.Bells {
		text += fmt.Sprintf("bell %d %d\n", x.From, x.To)
	}
	for _, x := range p.Plan {
		text += fmt.Sprintf("slot %d %d\n", x.Guest, x.Steps)
	}
	return text
}

var lineShapes = makeLineShapes()

func makeLineShapes() []*regexp.Regexp {
	var list []*regexp.Regexp
	for _, x := range []string{"own(N){1,9}", "lane(N){5}", "bell(N){2}", "slot(N){2}"} {
		list = append(list, regexp.MustCompile(`\A`+strings.ReplaceAll(x, "N", " (?:0|[1-9][0-9]{0,2})")+`\n\z`))
	}
	return list
}

// parsedIn goes through what the document says, word by word.
func parsedIn(text string) impl.PolicyResult {
	if len(text) > 1000 {
		return impl.PolicyResult{Code: impl.ErrMany}
	}
	lines := strings.SplitAfter(text, "\n")
	if lines[len(lines)-1] == "" {
		lines = lines[:len(lines)-1]
	}
	var p impl.Policy
	ahead := 0
	for k, line := range lines {
		shape := slices.IndexFunc(lineShapes, func(x *regexp.Regexp) bool { return x.MatchString(line) })
		if shape < ahead {
			return impl.PolicyResult{Code: impl.ErrText, At: int64(k)}
		}
		ahead = shape
		p = withLineIn(p, shape, line)
	}
	if fault := policyFaultIn(p); fault != impl.OK {
		return impl.PolicyResult{Code: fault}
	}
	return impl.PolicyResult{Policy: p}
}

func withLineIn(p impl.Policy, shape int, line string) impl.Policy {
	var n []int64
	for _, word := range strings.Fields(line)[1:] {
		number, _ := strconv.Atoi(word)
		n = append(n, int64(number))
	}
	switch shape {
	case 0:
		p.Own = append(p.Own, n)
	case 1:
		p.Lanes = append(p.Lanes, lane(n[0], n[1], n[2], n[3], n[4]))
	case 2:
		p.Bells = append(p.Bells, bell(n[0], n[1]))
	case 3:
		p.Plan = append(p.Plan, slot(n[0], n[1]))
	}
	return p
}

// askParse asks a text, and that one that is taken is what is told of its policy.
func askParse(t *testing.T, text string) {
	t.Helper()
	got, want := impl.ParsePolicy(text), parsedIn(text)
	if !sameParsed(got, want) {
		t.Fatalf("ParsePolicy of %q: %v, not %v", text, got, want)
	}
	if got.Code == impl.OK && impl.FormatPolicy(got.Policy) != (impl.TextResult{Text: text}) {
		t.Fatalf("FormatPolicy behind ParsePolicy of %q: %v", text, impl.FormatPolicy(got.Policy))
	}
}

func TestFormatPolicy(t *testing.T) {
	for _, p := range goodPolicies() {
		if got, want := impl.FormatPolicy(p), (impl.TextResult{Text: policyTextIn(p)}); got != want {
			t.Fatalf("FormatPolicy of %v: %v, not %v", p, got, want)
		}
	}
}

func TestFormatPolicyByHand(t *testing.T) {
	table := []struct {
		p    impl.Policy
		want string
	}{
		{oneGuest(), "own 4\nslot 0 1\n"},
		{twoGuests(), "own 2 5\nown 3\nlane 0 1 9 5 5\nslot 0 2\nslot 1 3\n"},
		{threeGuests(), "own 0 23 7\nown 1\nown 2 3 4 5 6\nlane 0 1 8 5 6\nlane 1 2 9 5 5\nlane 2 0 22 6 6\nbell 0 1\nbell 1 0\nbell 2 1\nbell 0 2\nslot 0 1\nslot 1 50\nslot 2 7\nslot 0 3\n"},
		{looseGuests(), "own 10\nown 12 11\nown 13\nslot 2 4\nslot 0 5\nslot 2 6\n"},
	}
	for _, x := range table {
		if got := impl.FormatPolicy(x.p); got != (impl.TextResult{Text: x.want}) {
			t.Errorf("FormatPolicy of %v: %q, not %q", x.p, got.Text, x.want)
		}
		if got := impl.ParsePolicy(x.want); !sameParsed(got, impl.PolicyResult{Policy: x.p}) {
			t.Errorf("ParsePolicy of %q: %v", x.want, got)
		}
	}
}

// TestAPolicyIsReadBack asks that ParsePolicy of what FormatPolicy answers gives the policy again.
func TestAPolicyIsReadBack(t *testing.T) {
	for _, p := range goodPolicies() {
		text := impl.FormatPolicy(p).Text
		if got := impl.ParsePolicy(text); !sameParsed(got, impl.PolicyResult{Policy: p}) {
			t.Fatalf("ParsePolicy of %q: %v, not %v", text, got, p)
		}
		askParse(t, text)
	}
}

func TestParsePolicyByHand(t *testing.T) {
	table := []struct {
		text string
		code int64
		at   int64
	}{
		// Nothing of the empty text is a line that is none: it is the text of a policy without guests.
		{"", impl.ErrMany, 0}, {"own 1\n", impl.ErrMany, 0}, {"slot 0 1\n", impl.ErrMany, 0}, {"bell 0 1\n", impl.ErrMany, 0}, {"own 1\nown 2\nbell 0 1\n", impl.ErrMany, 0},
		{"own 1", impl.ErrText, 0}, {"own 1\nslot 0 1", impl.ErrText, 1}, {"own 1\nslot 0 1\nslot", impl.ErrText, 2}, {"own 1\nslot 0 1\n ", impl.ErrText, 2},
		{"\n", impl.ErrText, 0}, {"\nown 1\nslot 0 1\n", impl.ErrText, 0}, {"own 1\n\nslot 0 1\n", impl.ErrText, 1}, {"own 1\nslot 0 1\n\n", impl.ErrText, 2},
		{" own 1\nslot 0 1\n", impl.ErrText, 0}, {"own 1 \nslot 0 1\n", impl.ErrText, 0}, {"own  1\nslot 0 1\n", impl.ErrText, 0}, {"own 1\nslot  0 1\n", impl.ErrText, 1}, {"own 1\nslot 0 1 \n", impl.ErrText, 1},
		{"own\t1\nslot 0 1\n", impl.ErrText, 0}, {"own 1\r\nslot 0 1\r\n", impl.ErrText, 0}, {"own 1\nslot 0 1\r\n", impl.ErrText, 1}, {"own 1,2\nslot 0 1\n", impl.ErrText, 0}, {"own 1\nslot 0 1\n\x00", impl.ErrText, 2},
		{"owns 1\n", impl.ErrText, 0}, {"ow 1\n", impl.ErrText, 0}, {"Own 1\n", impl.ErrText, 0}, {"1 own\n", impl.ErrText, 0}, {"own 1\nlanes 0 1 9 5 6\n", impl.ErrText, 1}, {"own 1\nplan 0 1\n", impl.ErrText, 1},
		{"own 1\nslot 0 1\nown 2\n", impl.ErrText, 2}, {"own 1\nown 2\nbell 0 1\nlane 0 1 9 5 6\nslot 0 1\n", impl.ErrText, 3}, {"own 1\nown 2\nslot 0 1\nbell 0 1\n", impl.ErrText, 3}, {"own 1\nown 2\nslot 0 1\nlane 0 1 9 5 6\n", impl.ErrText, 3},
		{"slot 0 1\nown 1\n", impl.ErrText, 1}, {"own 1\nown 2\nlane 0 1 9 5 6\nbell 0 1\nslot 0 1\n", impl.OK, 0}, {"own 1\nown 2\nlane 0 1 9 5 6\nslot 0 1\nslot 1 1\nown 3\n", impl.ErrText, 5},
		{"own 0\nslot 0 1\n", impl.OK, 0}, {"own 00\nslot 0 1\n", impl.ErrText, 0}, {"own 01\nslot 0 1\n", impl.ErrText, 0}, {"own 999\nslot 0 1\n", impl.ErrRange, 0}, {"own 1000\nslot 0 1\n", impl.ErrText, 0},
		{"own 1\nslot 00 1\n", impl.ErrText, 1}, {"own 1\nslot 0 01\n", impl.ErrText, 1}, {"own 1\nslot 0 999\n", impl.ErrRange, 0}, {"own 1\nslot 0 1000\n", impl.ErrText, 1}, {"own 1\nslot 999 1\n", impl.ErrNone, 0},
		{"own -1\nslot 0 1\n", impl.ErrText, 0}, {"own +1\nslot 0 1\n", impl.ErrText, 0}, {"own -0\nslot 0 1\n", impl.ErrText, 0}, {"own 1_0\nslot 0 1\n", impl.ErrText, 0}, {"own 0x1\nslot 0 1\n", impl.ErrText, 0}, {"own 1.0\nslot 0 1\n", impl.ErrText, 0},
		{"own 99999999999999999999\nslot 0 1\n", impl.ErrText, 0}, {"own 18446744073709551617\nslot 0 1\n", impl.ErrText, 0}, {"own \u0661\nslot 0 1\n", impl.ErrText, 0},
		{"own\nslot 0 1\n", impl.ErrText, 0}, {"own \nslot 0 1\n", impl.ErrText, 0}, {"own 1 2 3 4 5 6 7 8 9\nslot 0 1\n", impl.ErrMany, 0}, {"own 1 2 3 4 5 6 7 8 9 10\nslot 0 1\n", impl.ErrText, 0}, {"own 1 2 3 4 5\nslot 0 1\n", impl.OK, 0}, {"own 1 2 3 4 5 6\nslot 0 1\n", impl.ErrMany, 0},
		{"own 1\nown 2\nlane 0 1 9 5\nslot 0 1\n", impl.ErrText, 2}, {"own 1\nown 2\nlane 0 1 9 5 6 7\nslot 0 1\n", impl.ErrText, 2}, {"own 1\nown 2\nbell 0\nslot 0 1\n", impl.ErrText, 2}, {"own 1\nown 2\nbell 0 1 2\nslot 0 1\n", impl.ErrText, 2},
		{"own 1\nslot 0\n", impl.ErrText, 1}, {"own 1\nslot 0 1 2\n", impl.ErrText, 1}, {"own 1\nslot\n", impl.ErrText, 1}, {"own 1\nlane\n", impl.ErrText, 1}, {"own 1\nbell\n", impl.ErrText, 1},
		// Right lines, but no policy.
		{"own 1 1\nslot 0 1\n", impl.ErrTaken, 0}, {"own 1\nown 1\nslot 0 1\n", impl.ErrTaken, 0}, {"own 24\nslot 0 1\n", impl.ErrRange, 0}, {"own 1\nown 2\nown 3\nown 4\nslot 0 1\n", impl.ErrMany, 0},
		{"own 1\nlane 0 1 9 5 6\nslot 0 1\n", impl.ErrNone, 0}, {"own 1\nlane 0 0 9 5 6\nslot 0 1\n", impl.ErrForm, 0}, {"own 1\nown 2\nlane 0 1 9 5 7\nslot 0 1\n", impl.ErrRange, 0}, {"own 1\nown 2\nlane 0 1 2 5 6\nslot 0 1\n", impl.ErrTaken, 0},
		{"own 1\nbell 0 1\nslot 0 1\n", impl.ErrNone, 0}, {"own 1\nbell 0 0\nslot 0 1\n", impl.ErrForm, 0}, {"own 1\nown 2\nbell 0 1\nbell 0 1\nslot 0 1\n", impl.ErrTaken, 0}, {"own 1\nslot 1 1\n", impl.ErrNone, 0}, {"own 1\nslot 0 0\n", impl.ErrRange, 0}, {"own 1\nslot 0 51\n", impl.ErrRange, 0},
		// A line that is none is told ahead of what is wrong about the policy of those ahead of it.
		{"own 24\nslot 0 1\nslot\n", impl.ErrText, 2}, {"own 1 1\nslot 0 01\n", impl.ErrText, 1}, {"own 1\nown 2\nown 3\nown 4\nown 5", impl.ErrText, 4},
	}
	for _, x := range table {
		got := impl.ParsePolicy(x.text)
		if got.Code != x.code || got.At != x.at || got.Code != impl.OK && !samePolicies(got.Policy, impl.Policy{}) {
			t.Errorf("ParsePolicy of %q: %v, not code %d at %d", x.text, got, x.code, x.at)
		}
		askParse(t, x.text)
	}
}

// TestParsePolicyOfLines asks lines that are right and lines that are none, each of them ahead of, between and behind others.
func TestParsePolicyOfLines(t *testing.T) {
	numbers := []string{"0", "00", "000", "01", "001", "1", "9", "23", "24", "99", "010", "999", "0999", "1000", "9999", "-1", "+1", "-0", "+", "-", "", "a", "1a", "1.", "\u0663"}
	var lines []string
	for _, n := range numbers {
		lines = append(lines, "own "+n, "own 1 "+n, "own "+n+" 1", "lane "+n+" 1 9 5 6", "lane 0 1 9 5 "+n, "lane 0 1 "+n+" 5 6", "bell "+n+" 1", "bell 0 "+n, "slot "+n+" 1", "slot 0 "+n)
	}
	for _, word := range []string{"own", "lane", "bell", "slot", "", "OWN", "owner", "lan", "rope", "0"} {
		for size := range 12 {
			lines = append(lines, word+strings.Repeat(" 5", size), word+strings.Repeat(" 5", size)+" ", " "+word+strings.Repeat(" 5", size), word+strings.Repeat("  5", size), word+strings.Repeat("\t5", size), word+" "+strings.Repeat(" 5", size))
		}
	}
	whole := strings.SplitAfter(policyTextIn(threeGuests()), "\n")
	for _, line := range lines {
		askParse(t, line)
		askParse(t, line+"\n")
		for at := range whole {
			askParse(t, strings.Join(slices.Insert(slices.Clone(whole), at, line+"\n"), ""))
			askParse(t, strings.Join(whole[:at], "")+line)
		}
	}
}

// TestParsePolicyOfOrders asks all orders of up to four lines.
func TestParsePolicyOfOrders(t *testing.T) {
	lines := []string{"own 1\n", "lane 0 1 9 5 6\n", "bell 0 1\n", "slot 0 1\n"}
	for code := range 256 {
		var text string
		at, falls := int64(0), false
		for k := range 4 {
			word, ahead := code>>(2*k)&3, 0
			if k > 0 {
				ahead = code >> (2*k - 2) & 3
			}
			text += lines[word]
			if falls = falls || word < ahead; !falls {
				at++
			}
		}
		if got := impl.ParsePolicy(text); falls != (got.Code == impl.ErrText) || falls && got.At != at || !falls && got.At != 0 {
			t.Errorf("ParsePolicy of %q: %v, falls at %d", text, got, at)
		}
		askParse(t, text)
	}
}

// TestParsePolicyOfTurnedTexts turns, takes out and puts in each byte of right texts.
func TestParsePolicyOfTurnedTexts(t *testing.T) {
	for _, p := range []impl.Policy{oneGuest(), twoGuests(), threeGuests()} {
		text := policyTextIn(p)
		for at := range len(text) + 1 {
			askParse(t, text[:at])
			askParse(t, text[at:])
			for _, sign := range []string{" ", "\n", "0", "1", "5", "9", "-", "+", "o", "\t", "\r", "\x00", "\x80", "\xff"} {
				askParse(t, text[:at]+sign+text[at:])
				if at < len(text) {
					askParse(t, text[:at]+sign+text[at+1:])
				}
			}
			if at < len(text) {
				askParse(t, text[:at]+text[at+1:])
			}
		}
	}
}

// TestParsePolicyOfLongTexts asks texts of 1000 and 1001 bytes.
func TestParsePolicyOfLongTexts(t *testing.T) {
	guests := strings.Repeat("own 1\n", 166)
	bells := "own 24\nown 250\n" + strings.Repeat("bell 999 9\n", 89) + "slot 1\n"
	wide := "own 24\n" + strings.Repeat("lane 0 1 9 5 6\n", 65) + "slot 0 1\nslot 0 10\n" + "slot 0 1\n"
	table := []struct {
		text string
		size int
		code int64
		at   int64
	}{
		{guests + "own ", 1000, impl.ErrText, 166}, {guests + "own 1", 1001, impl.ErrMany, 0}, {guests, 996, impl.ErrMany, 0},
		{strings.Repeat("x", 1000), 1000, impl.ErrText, 0}, {strings.Repeat("x", 1001), 1001, impl.ErrMany, 0}, {strings.Repeat("\n", 1000), 1000, impl.ErrText, 0}, {strings.Repeat("\n", 1001), 1001, impl.ErrMany, 0},
		{strings.Repeat("\u00e4", 500), 1000, impl.ErrText, 0}, {strings.Repeat("\u00e4", 500) + "x", 1001, impl.ErrMany, 0}, {strings.Repeat("x", 100000), 100000, impl.ErrMany, 0},
		{bells, 1001, impl.ErrMany, 0}, {bells[1:], 1000, impl.ErrText, 0}, {bells[:994], 994, impl.ErrRange, 0},
		{wide, 1010, impl.ErrMany, 0}, {wide[:982], 982, impl.ErrRange, 0}, {wide[:991] + "slot 0 1\n", 1000, impl.ErrRange, 0}, {wide[:991] + "slot 0 50\n", 1001, impl.ErrMany, 0},
	}
	for k, x := range table {
		if len(x.text) != x.size {
			t.Errorf("%d: a text of %d bytes, not %d", k, len(x.text), x.size)
		}
		got := impl.ParsePolicy(x.text)
		if got.Code != x.code || got.At != x.at || !samePolicies(got.Policy, impl.Policy{}) {
			t.Errorf("%d: ParsePolicy of %d bytes: %v, not code %d at %d", k, x.size, got, x.code, x.at)
		}
		askParse(t, x.text)
	}
	// What FormatPolicy answers is never so long.
	if got := impl.FormatPolicy(fullPolicy()); got.Code != impl.OK || len(got.Text) > 1000 {
		t.Errorf("FormatPolicy of a policy that has as much as there may be: %v", got)
	}
}

// roomyPolicy has room behind each of its lists, in which nothing is to be written: whole has what stands there, and room what stands behind the guests.
func roomyPolicy(p impl.Policy) (q, whole impl.Policy, room [][]int64) {
	var lists [][]int64
	for _, own := range p.Own {
		list, all := withRoom(own, 77)
		lists, whole.Own = append(lists, list), append(whole.Own, all)
	}
	q.Own, room = withRoom(lists, nil)
	q.Lanes, whole.Lanes = withRoom(p.Lanes, lane(7, 7, 7, 7, 7))
	q.Bells, whole.Bells = withRoom(p.Bells, bell(7, 7))
	q.Plan, whole.Plan = withRoom(p.Plan, slot(7, 7))
	return q, whole, room[len(p.Own):]
}

// policyAnswers tells all that is answered of a policy.
func policyAnswers(p impl.Policy, n int64) string {
	return fmt.Sprint(impl.PolicyFault(p), impl.OwnerOf(p, n), impl.FramesOf(p, n), impl.RoundOf(p), impl.LinksTo(p, n), impl.ReachTo(p, n), impl.FormatPolicy(p))
}

func TestPolicyCallsChangeNothing(t *testing.T) {
	policies := goodPolicies()
	for _, x := range someBadPolicies() {
		policies = append(policies, x.p)
	}
	for _, p := range policies {
		q, whole, room := roomyPolicy(p)
		before := clonePolicy(whole)
		for n := int64(-1); n <= 3; n++ {
			policyAnswers(q, n)
		}
		written := slices.ContainsFunc(room, func(own []int64) bool { return own != nil })
		if written || !samePolicies(q, p) || !samePolicies(whole, before) {
			t.Fatalf("a call turned %v into %v", p, q)
		}
	}
}

// TestPolicyAnswersAreNew writes into all that is answered, and into what there is room for behind it, and asks again.
func TestPolicyAnswersAreNew(t *testing.T) {
	for _, p := range goodPolicies() {
		q := clonePolicy(p)
		for guest := range int64(len(p.Own)) {
			links, reach := impl.LinksTo(q, guest).List, impl.ReachTo(q, guest).List
			keptLinks, keptReach := slices.Clone(links), slices.Clone(reach)
			turnAll(links[:cap(links)])
			if !slices.Equal(reach, keptReach) || !samePolicies(q, p) {
				t.Fatalf("LinksTo of %v shares memory", p)
			}
			turnAll(reach[:cap(reach)])
			if !samePolicies(q, p) || !slices.Equal(impl.LinksTo(q, guest).List, keptLinks) || !slices.Equal(impl.ReachTo(q, guest).List, keptReach) {
				t.Fatalf("ReachTo of %v shares memory", p)
			}
		}
		text := policyTextIn(p)
		read, other := impl.ParsePolicy(text).Policy, impl.ParsePolicy(text).Policy
		for k, own := range read.Own {
			turnAll(own[:cap(own)])
			for j, behind := range read.Own {
				if j > k && !slices.Equal(behind, p.Own[j]) {
					t.Fatalf("the pages of two guests of ParsePolicy of %q share memory", text)
				}
			}
		}
		clear(read.Own[:cap(read.Own)])
		clear(read.Lanes[:cap(read.Lanes)])
		clear(read.Bells[:cap(read.Bells)])
		clear(read.Plan[:cap(read.Plan)])
		if !samePolicies(other, p) || !sameParsed(impl.ParsePolicy(text), impl.PolicyResult{Policy: p}) {
			t.Fatalf("ParsePolicy of %q shares memory", text)
		}
	}
}

// TestPolicyAnswersHangOnArguments asks all once more in another order.
func TestPolicyAnswersHangOnArguments(t *testing.T) {
	policies := goodPolicies()
	for _, x := range someBadPolicies() {
		policies = append(policies, x.p)
	}
	texts := []string{"", "own 1\n", "own 1\nslot 0 1\n", "own 1\nslot 0 1", "own 1\nslot 0 1\nown 2\n", "own 24\nslot 0 1\n", strings.Repeat("x", 1001)}
	var told []string
	ask := func(k int) string {
		if k < len(texts) {
			return fmt.Sprint(impl.ParsePolicy(texts[k]))
		}
		return policyAnswers(policies[k-len(texts)], int64(k%5)-1)
	}
	all := len(texts) + len(policies)
	for k := range all {
		told = append(told, ask(k))
	}
	for k := all - 1; k >= 0; k-- {
		if again := ask(k); again != told[k] {
			t.Fatalf("asked again: %s, not %s", again, told[k])
		}
	}
}
