package tests

import (
	"fmt"
	"math"
	"slices"
	"strings"
	"testing"

	"loop.example/g00213/impl"
)

func askDiff(t *testing.T, got, want impl.DiffResult, what ...any) {
	t.Helper()
	if got != want {
		t.Fatalf("%s: %v, not %v", fmt.Sprint(what...), got, want)
	}
}

func diffCode(code int64) impl.DiffResult { return impl.DiffResult{Code: code} }

func differs(step int64) impl.DiffResult { return impl.DiffResult{Step: step} }

func noDiff() impl.DiffResult { return impl.DiffResult{Same: true} }

func withListIn(lists [][]int64, at int64, list []int64) [][]int64 {
	lists = slices.Clone(lists)
	lists[at] = list
	return lists
}

// The functions that end in In go through what the document says, word by word.
func twinHostIn(p impl.Policy, images, inputs [][]int64, guest int64, image, input []int64) impl.HostResult {
	if fault := policyFaultIn(p); fault != 0 {
		return impl.HostResult{Code: fault}
	}
	if !guestIn(p, guest) {
		return impl.HostResult{Code: impl.ErrNone}
	}
	if len(images) != len(p.Own) || len(inputs) != len(p.Own) {
		return impl.HostResult{Code: impl.ErrMany}
	}
	return bootHostIn(p, withListIn(images, guest, image), withListIn(inputs, guest, input))
}

func watchCodeIn(n int64, clocks ...int64) int64 {
	if !within(n, 200) || slices.Max(clocks)+n > 1e6 {
		return impl.ErrRange
	}
	return 0
}

func firstDiffIn(a, b impl.Host, guest, n int64) impl.DiffResult {
	for _, x := range []impl.Host{a, b} {
		if fault := hostFaultIn(x); fault != 0 {
			return diffCode(fault)
		}
	}
	if !guestIn(a.Policy, guest) || !guestIn(b.Policy, guest) {
		return diffCode(impl.ErrNone)
	}
	if code := watchCodeIn(n, a.Clock, b.Clock); code != 0 {
		return diffCode(code)
	}
	for step := int64(0); ; step++ {
		if !sameView(viewOfIn(a, guest).View, viewOfIn(b, guest).View) {
			return differs(step)
		}
		if step == n {
			return noDiff()
		}
		a, b = stepHostIn(a).Host, stepHostIn(b).Host
	}
}

func soloFromIn(x impl.Host, guest int64) impl.SoloResult {
	if fault := hostFaultIn(x); fault != 0 {
		return impl.SoloResult{Code: fault}
	}
	if !guestIn(x.Policy, guest) {
		return impl.SoloResult{Code: impl.ErrNone}
	}
	alone := impl.Solo{Hart: cloneHart(x.Harts[guest]), Pages: soloOfIn(x.Policy, guest, nil, nil).Solo.Pages, Memory: make([]int64, 64)}
	for k, page := range mapIn(x.Policy, guest) {
		if page.To != -1 {
			copy(alone.Memory[8*k:], x.Memory[8*page.To:8*page.To+8])
		}
	}
	return impl.SoloResult{Solo: alone}
}

func soloDiffIn(x impl.Host, alone impl.Solo, guest, n int64) impl.DiffResult {
	if fault := hostFaultIn(x); fault != 0 {
		return diffCode(fault)
	}
	if fault := soloFaultIn(alone); fault != 0 {
		return diffCode(fault)
	}
	if !guestIn(x.Policy, guest) {
		return diffCode(impl.ErrNone)
	}
	if code := watchCodeIn(n, x.Clock); code != 0 {
		return diffCode(code)
	}
	for step := int64(0); ; step++ {
		among, by := viewOfIn(x, guest).View, soloViewIn(x.Policy, alone, guest).View
		if by.Hart.Rung = among.Hart.Rung; !sameView(among, by) {
			return differs(step)
		}
		if step == n {
			return noDiff()
		}
		if turnAtIn(x.Policy, x.Clock).Slot.Guest == guest {
			for _, l := range x.Policy.Lanes {
				if l.To == guest {
					alone = feedSoloIn(alone, l.AtTo, wordsOnIn(x.Memory, l.Page).List).Solo
				}
			}
			alone.Hart.Rung = x.Harts[guest].Rung
			alone = runSoloIn(alone, 1).Solo
		}
		x = stepHostIn(x).Host
	}
}

func traceIn(x impl.Host, n int64) impl.IntsResult {
	if fault := hostFaultIn(x); fault != 0 {
		return impl.IntsResult{Code: fault}
	}
	if code := watchCodeIn(n, x.Clock); code != 0 {
		return impl.IntsResult{Code: code}
	}
	round := roundIn(x.Policy.Plan)
	var list []int64
	for k := range n {
		list = append(list, round[(x.Clock+k)%int64(len(round))].Slot.Guest)
	}
	return impl.IntsResult{List: list}
}

// watchNumbers are numbers of steps: such as may be watched, and such as may not.
func watchNumbers() []int64 {
	return []int64{math.MinInt64, -1 << 32, -200, -1, 0, 1, 2, 7, 61, 199, 200, 201, 202, 500, 1 << 32, 1<<32 + 1, math.MaxInt64 - 1000000, math.MaxInt64}
}

// talkingPolicies are three guests of two pages each with all kinds of lanes and bells among them, and turns that come soon.
func talkingPolicies() []impl.Policy {
	plans := [][]impl.Slot{{slot(0, 2), slot(1, 1), slot(2, 3)}, {slot(2, 1), slot(1, 1), slot(0, 1)}, {slot(1, 4), slot(0, 3), slot(1, 2), slot(2, 5)}}
	var list []impl.Policy
	for mask := range 128 {
		p := linkedGuests(mask)
		p.Own, p.Plan = [][]int64{{10, 14}, {12, 11}, {13, 15}}, plans[mask%len(plans)]
		list = append(list, p)
	}
	for k, p := range lanePolicies() {
		p.Own[2], p.Plan = []int64{7, 6}, plans[k%len(plans)]
		list = append(list, p)
	}
	return list
}

// talker hears all that a guest is told, over and over: it counts by 3 and by what comes by its lanes, by rings and by words In, and tells it by its lanes and bells.
func talker(p impl.Policy, guest int64) []int64 {
	words := []int64{op(12, 1, 1, 3)}
	for _, l := range p.Lanes {
		if l.To == guest {
			words = append(words, op(14, 2, 0, 8*l.AtTo+2), op(1, 1, 1, 2))
		}
		if l.From == guest {
			words = append(words, op(15, 1, 0, 8*l.AtFrom+2))
		}
	}
	for _, b := range p.Bells {
		if b.From == guest {
			words = append(words, op(12, 4, 0, b.To), op(15, 4, 0, 61))
		}
	}
	words = append(words, op(21, 5, 0, 6), op(1, 1, 1, 5), op(14, 7, 0, 57), op(12, 8, 0, 2), op(22, 0, 8, 6))
	return append(words, op(19, 0, 0, 65536-int64(len(words))))
}

// talkers are images for all guests; who has no room to talk counts alone.
func talkers(p impl.Policy) [][]int64 {
	var images [][]int64
	for guest, own := range p.Own {
		words := talker(p, int64(guest))
		if len(words) > 8*len(own) {
			words = []int64{op(12, 1, 1, 3), op(19, 0, 0, 65535)}
		}
		images = append(images, words)
	}
	return images
}

func talkInputs(p impl.Policy) [][]int64 {
	return [][]int64{{5, 6}, nil, {7}}[:len(p.Own)]
}

func talkHost(p impl.Policy) impl.Host {
	return impl.BootHost(p, talkers(p), talkInputs(p)).Host
}

// twinHosts have no fault: guests that talk, at the start and behind some steps, mixed ones, and counted ones at clocks of all kinds.
func twinHosts() []impl.Host {
	var list []impl.Host
	for k, p := range talkingPolicies() {
		list = append(list, impl.RunHost(talkHost(p), int64(k%4)*13).Host)
	}
	for k, p := range plannedPolicies() {
		clocks := clocksOf(p)
		list = append(list, countedHost(p, clocks[k%len(clocks)]), countedHost(p, 0))
	}
	return append(list, mixedHosts(120)...)
}

// TestTwinExamples asks the ordinary case word by word, with numbers found by hand.
func TestTwinExamples(t *testing.T) {
	p := twoGuests()
	add, circle := op(12, 1, 1, 1), op(19, 0, 0, 65535)
	images, inputs := [][]int64{{add, circle}, {add}}, [][]int64{nil, {4}}
	a := impl.BootHost(p, images, inputs).Host
	b := impl.TwinHost(p, images, inputs, 1, []int64{circle, add, 7}, []int64{9, 8})
	if m := b.Host.Memory; b.Code != impl.OK || m[16] != add || m[17] != circle || m[24] != circle || m[25] != add || m[26] != 7 || !slices.Equal(b.Host.Harts[1].In, []int64{9, 8}) || len(b.Host.Harts[0].In) != 0 {
		t.Errorf("TwinHost: %v", b)
	}
	askDiff(t, impl.FirstDiff(a, b.Host, 0, 200), noDiff(), "what the first guest sees of the second one")
	askDiff(t, impl.FirstDiff(a, b.Host, 1, 200), differs(0), "what the second guest sees of itself")
	alone := impl.SoloFrom(a, 0)
	if m := alone.Solo.Memory; alone.Code != impl.OK || m[0] != add || m[1] != circle || !slices.Equal(m[2:], make([]int64, 62)) {
		t.Errorf("SoloFrom: %v", alone)
	}
	askDiff(t, impl.SoloDiff(a, alone.Solo, 0, 200), noDiff(), "the first guest alone")
	askDiff(t, impl.SoloDiff(b.Host, alone.Solo, 0, 200), noDiff(), "the first guest alone, held against the twin")
	askDiff(t, impl.SoloDiff(a, alone.Solo, 1, 200), differs(0), "the first guest alone, held against the second one")
	askWords(t, impl.TraceOf(a, 11), impl.IntsResult{List: []int64{0, 0, 1, 1, 1, 0, 0, 1, 1, 1, 0}}, "TraceOf")
}

// TestTwinHost asks policies, images and inputs of all kinds, by the second reader and by BootHost itself.
func TestTwinHost(t *testing.T) {
	for k, p := range goodPolicies() {
		images, inputs := imagesFor(p), bootInputs(len(p.Own))
		for guest, own := range p.Own {
			ownImages, ownInputs := soloImages(len(own)), soloInputs()
			for j := range 9 {
				given, fed := images[(k+j)%len(images)], inputs[(k*5+j*3+guest)%len(inputs)]
				image, input := ownImages[(k+j*7)%len(ownImages)], ownInputs[(k+j)%len(ownInputs)]
				got := impl.TwinHost(p, given, fed, int64(guest), image, input)
				askHost(t, got, twinHostIn(p, given, fed, int64(guest), image, input), "TwinHost ", guest, " of ", p, " with ", given, ", ", fed, ", ", image, ", ", input)
				if len(fed) == len(p.Own) {
					askHost(t, got, impl.BootHost(p, withListIn(given, int64(guest), image), withListIn(fed, int64(guest), input)), "TwinHost ", guest, " by BootHost")
				}
				if got.Code == impl.OK && (impl.HostFault(got.Host) != impl.OK || got.Host.Clock != 0) {
					t.Fatalf("TwinHost %d of %v: %v", guest, p, got)
				}
			}
		}
		for _, guest := range guestNumbers() {
			given, fed := images[k%len(images)], inputs[k%len(inputs)]
			askHost(t, impl.TwinHost(p, given, fed, guest, nil, nil), twinHostIn(p, given, fed, guest, nil, nil), "TwinHost ", guest, " of ", p)
		}
	}
}

// TestTwinHostIsItself asks that a guest that is given its own image and input again is as it was booted.
func TestTwinHostIsItself(t *testing.T) {
	for _, p := range talkingPolicies() {
		for guest := range p.Own {
			images, inputs := talkers(p), talkInputs(p)
			askHost(t, impl.TwinHost(p, images, inputs, int64(guest), images[guest], inputs[guest]), impl.BootHost(p, images, inputs), "TwinHost ", guest, " with its own")
		}
	}
}

// TestTwinHostCodes asks for each code alone and beside those behind it.
func TestTwinHostCodes(t *testing.T) {
	type lists = [][]int64
	two, taken := twoGuests(), twoGuests()
	taken.Own = lists{{2}, {2}}
	nil2, nil1, nil3 := lists{nil, nil}, lists{nil}, lists{nil, nil, nil}
	long, wide, many, none := make([]int64, 9), make([]int64, 17), queueOf(41, 0), []int64{-1}
	table := []struct {
		name           string
		p              impl.Policy
		images, inputs lists
		guest          int64
		image, input   []int64
		want           int64
	}{
		{"all right", two, nil2, nil2, 0, nil, nil, impl.OK},
		{"as many words as there may be", two, nil2, nil2, 1, make([]int64, 8), queueOf(40, 0), impl.OK},
		{"what is no word in an image", two, nil2, nil2, 1, []int64{-1, impl.WordTop + 1}, nil, impl.OK},
		{"empty lists", two, lists{{}, {}}, lists{{}, {}}, 1, []int64{}, []int64{}, impl.OK},
		{"a policy with a fault", taken, nil2, nil2, 0, nil, nil, impl.ErrTaken},
		{"a policy with a fault, guest -1", taken, nil2, nil2, -1, nil, nil, impl.ErrTaken},
		{"a policy with a fault, guest 2", taken, nil2, nil2, 2, nil, nil, impl.ErrTaken},
		{"a policy with a fault, no images, no inputs", taken, nil, nil, 0, nil, nil, impl.ErrTaken},
		{"a policy with a fault, an image too long, no word", taken, nil2, nil2, 1, long, none, impl.ErrTaken},
		{"guest -1", two, nil2, nil2, -1, nil, nil, impl.ErrNone},
		{"guest 2", two, nil2, nil2, 2, nil, nil, impl.ErrNone},
		{"the least guest", two, nil2, nil2, math.MinInt64, nil, nil, impl.ErrNone},
		{"the greatest guest", two, nil2, nil2, math.MaxInt64, nil, nil, impl.ErrNone},
		{"guest 2^32", two, nil2, nil2, 1 << 32, nil, nil, impl.ErrNone},
		{"guest 2, no images", two, nil, nil2, 2, nil, nil, impl.ErrNone},
		{"guest 2, three images", two, nil3, nil2, 2, nil, nil, impl.ErrNone},
		{"guest 2, no inputs", two, nil2, nil, 2, nil, nil, impl.ErrNone},
		{"guest 2, three inputs", two, nil2, nil3, 2, nil, nil, impl.ErrNone},
		{"guest 2, three of both", two, nil3, nil3, 2, nil, nil, impl.ErrNone},
		{"guest -1, images and an image too long", two, lists{wide, long}, nil2, -1, wide, nil, impl.ErrNone},
		{"guest -1, inputs and an input with no word", two, nil2, lists{none, none}, -1, nil, none, impl.ErrNone},
		{"no images", two, nil, nil2, 0, nil, nil, impl.ErrMany},
		{"an empty list of images", two, lists{}, nil2, 0, nil, nil, impl.ErrMany},
		{"one image too few", two, nil1, nil2, 0, nil, nil, impl.ErrMany},
		{"one image too few, the guest's own", two, nil1, nil2, 1, nil, nil, impl.ErrMany},
		{"one image too many", two, nil3, nil2, 0, nil, nil, impl.ErrMany},
		{"no inputs", two, nil2, nil, 0, nil, nil, impl.ErrMany},
		{"an empty list of inputs", two, nil2, lists{}, 0, nil, nil, impl.ErrMany},
		{"one input too few", two, nil2, nil1, 0, nil, nil, impl.ErrMany},
		{"one input too few, the guest's own", two, nil2, nil1, 1, nil, nil, impl.ErrMany},
		{"one input too many", two, nil2, nil3, 1, nil, nil, impl.ErrMany},
		{"one input too few, an image too long", two, nil2, nil1, 1, long, nil, impl.ErrMany},
		{"one input too many, images too long", two, lists{wide, nil}, nil3, 1, nil, nil, impl.ErrMany},
		{"one image too few, no word", two, nil1, nil2, 1, nil, none, impl.ErrMany},
		{"one image too many, no word in inputs", two, nil3, lists{none, nil}, 1, nil, nil, impl.ErrMany},
		{"an image too long", two, nil2, nil2, 1, long, nil, impl.ErrWrite},
		{"an image too long for the first", two, nil2, nil2, 0, wide, nil, impl.ErrWrite},
		{"an image that is long for the other one alone", two, nil2, nil2, 0, long, nil, impl.OK},
		{"another one's image too long", two, lists{nil, long}, nil2, 0, nil, nil, impl.ErrWrite},
		{"an image too long, 41 words", two, nil2, nil2, 1, long, many, impl.ErrWrite},
		{"an image too long, no word in inputs", two, nil2, lists{none, nil}, 1, long, nil, impl.ErrWrite},
		{"another one's image too long, no word", two, lists{nil, long}, nil2, 0, nil, none, impl.ErrWrite},
		{"41 words", two, nil2, nil2, 1, nil, many, impl.ErrMany},
		{"no word", two, nil2, nil2, 0, nil, none, impl.ErrRange},
		{"above all words", two, nil2, nil2, 1, nil, []int64{7, impl.WordTop + 1}, impl.ErrRange},
		{"no word among 41", two, nil2, nil2, 1, nil, append(queueOf(40, 1), -1), impl.ErrMany},
		{"another one's 41 words", two, nil2, lists{many, nil}, 1, nil, nil, impl.ErrMany},
		{"another one's no word", two, nil2, lists{nil, none}, 0, nil, nil, impl.ErrRange},
		{"no word, then another one's 41", two, nil2, lists{nil, many}, 0, nil, none, impl.ErrRange},
		{"another one's 41 words, then no word", two, nil2, lists{many, nil}, 1, nil, none, impl.ErrMany},
		// What BootHost would not take is not the guest's any more.
		{"its own image too long", two, lists{nil, long}, nil2, 1, nil, nil, impl.OK},
		{"its own image very long", two, lists{make([]int64, 1000), nil}, nil2, 0, make([]int64, 16), nil, impl.OK},
		{"its own input of 41", two, nil2, lists{many, nil}, 0, nil, nil, impl.OK},
		{"its own input with no word", two, nil2, lists{nil, none}, 1, nil, []int64{3}, impl.OK},
		{"its own image too long and input with no word", two, lists{wide, nil}, lists{none, nil}, 0, nil, nil, impl.OK},
		{"its own image too long, and the other one", two, lists{nil, long}, nil2, 1, long, nil, impl.ErrWrite},
		{"its own image too long, and another one's", two, lists{wide, long}, nil2, 1, nil, nil, impl.ErrWrite},
		{"its own input with no word, and the other one", two, nil2, lists{none, nil}, 0, nil, none, impl.ErrRange},
	}
	for _, x := range table {
		got := impl.TwinHost(x.p, x.images, x.inputs, x.guest, x.image, x.input)
		if got.Code != x.want || x.want != impl.OK && !sameHost(got.Host, impl.Host{}) {
			t.Errorf("TwinHost with %s: %v, not %d", x.name, got, x.want)
		}
		askHost(t, got, twinHostIn(x.p, x.images, x.inputs, x.guest, x.image, x.input), "TwinHost with ", x.name)
	}
	for _, bad := range someBadPolicies() {
		for _, guest := range []int64{math.MinInt64, -1, 0, 1, 2, 3, math.MaxInt64} {
			for _, x := range []lists{nil, {nil, nil, nil}, {wide, many, none}} {
				askHost(t, impl.TwinHost(bad.p, x, x, guest, wide, none), impl.HostResult{Code: bad.fault}, "TwinHost ", guest, " of ", bad.p)
			}
		}
	}
}

// TestTwinHostStandsInPlace asks that where BootHost would not take the guest's own image and input the host is the one with the others in their place.
func TestTwinHostStandsInPlace(t *testing.T) {
	for _, p := range []impl.Policy{oneGuest(), twoGuests(), threeGuests(), looseGuests(), fullPolicy()} {
		for guest, own := range p.Own {
			images, inputs := imagesFor(p)[4], slices.Repeat([][]int64{{8, 9}}, len(p.Own))
			image, input := wideWords(8*len(own), 3), []int64{4, impl.WordTop}
			want := impl.BootHost(p, withListIn(images, int64(guest), image), withListIn(inputs, int64(guest), input))
			if want.Code != impl.OK {
				t.Fatalf("BootHost: %v", want)
			}
			images[guest], inputs[guest] = make([]int64, 8*len(own)+1), []int64{-1}
			if code := impl.BootHost(p, images, inputs).Code; code != impl.ErrWrite {
				t.Fatalf("BootHost takes what is too long: %d", code)
			}
			askHost(t, impl.TwinHost(p, images, inputs, int64(guest), image, input), want, "TwinHost ", guest, " in the place of what is too long")
		}
	}
}

// quietReader is the second one of two guests by turns, a step each: it rests for so many turns, and then reads the first one's lane.
func quietReader(rest int, word int64) impl.Host {
	p := impl.Policy{Own: [][]int64{{2}, {3, 4, 5}}, Lanes: []impl.Lane{lane(0, 1, 9, 6, 5)}, Plan: []impl.Slot{slot(0, 1), slot(1, 1)}}
	image := append(slices.Repeat([]int64{op(12, 0, 0, 0)}, rest), op(14, 1, 0, 42), op(26, 0, 0, 0))
	x := impl.BootHost(p, [][]int64{{op(19, 0, 0, 0)}, image}, make([][]int64, 2)).Host
	x.Memory[9*8+2] = word
	return x
}

// TestFirstDiffSteps asks hosts that first are not the same at the beginning, behind the first step, behind some, behind the last, and never within n.
func TestFirstDiffSteps(t *testing.T) {
	for _, rest := range []int{0, 1, 5, 21} {
		a, b := quietReader(rest, 7), quietReader(rest, 8)
		step := int64(rest)*2 + 2
		for _, n := range []int64{0, 1, 2, step - 2, step - 1, step, step + 1, step + 20, 200} {
			want := noDiff()
			if n >= step {
				want = differs(step)
			}
			askDiff(t, firstDiffIn(a, b, 1, n), want, "the second reader: ", rest, " turns of rest, ", n, " steps")
			askDiff(t, impl.FirstDiff(a, b, 1, n), want, rest, " turns of rest, ", n, " steps")
			askDiff(t, impl.FirstDiff(b, a, 1, n), want, rest, " turns of rest, ", n, " steps, the other way round")
			askDiff(t, impl.FirstDiff(a, quietReader(rest, 7), 1, n), noDiff(), rest, " turns of rest, the same word")
			// The writer has the lane's words in its own view.
			askDiff(t, impl.FirstDiff(a, b, 0, n), differs(0), rest, " turns of rest, the writer")
		}
	}
	// At clocks of its own turn the first step shows it.
	a, b := impl.StepHost(quietReader(0, 7)).Host, impl.StepHost(quietReader(0, 8)).Host
	askDiff(t, impl.FirstDiff(a, b, 1, 0), noDiff(), "no steps")
	askDiff(t, impl.FirstDiff(a, b, 1, 1), differs(1), "one step")
	askDiff(t, impl.FirstDiff(a, b, 1, 200), differs(1), "200 steps")
	// Behind the last of 200 steps, and not within 199: one that rests for 99 turns, two steps in each circle.
	a, b = slowReader(7), slowReader(8)
	askDiff(t, impl.FirstDiff(a, b, 0, 199), noDiff(), "199 steps of one that reads at the last")
	askDiff(t, impl.FirstDiff(a, b, 0, 200), differs(200), "200 steps of one that reads at the last")
}

// slowReader reads its lane in the step 200: it counts up to 99 by steps of two, and loads once it is there.
func slowReader(word int64) impl.Host {
	p := impl.Policy{Own: [][]int64{{2}, {3}}, Lanes: []impl.Lane{lane(1, 0, 9, 5, 6)}, Plan: []impl.Slot{slot(0, 50)}}
	image := []int64{op(12, 3, 0, 99), op(12, 1, 1, 1), op(17, 1, 3, 65535), op(14, 2, 0, 48), op(26, 0, 0, 0)}
	x := impl.BootHost(p, [][]int64{image, nil}, make([][]int64, 2)).Host
	x.Memory[9*8] = word
	return x
}

// TestFirstDiffAtTheBeginning asks each thing that a guest sees, one at a time; what it does not see makes no difference ahead of the first step.
func TestFirstDiffAtTheBeginning(t *testing.T) {
	edits := []struct {
		name string
		do   func(x *impl.Host)
		seen bool
	}{
		{"nothing", func(x *impl.Host) {}, false},
		{"Pc", func(x *impl.Host) { x.Harts[1].Pc++ }, true}, {"Done", func(x *impl.Host) { x.Harts[1].Done++ }, true},
		{"Halted", func(x *impl.Host) { x.Harts[1].Halted = true }, true}, {"Waiting", func(x *impl.Host) { x.Harts[1].Waiting = true }, true}, {"Rung", func(x *impl.Host) { x.Harts[1].Rung = true }, true},
		{"a register", func(x *impl.Host) { x.Harts[1].Regs[15]++ }, true}, {"a csr", func(x *impl.Host) { x.Harts[1].Csr[5]++ }, true},
		{"a word In", func(x *impl.Host) { x.Harts[1].In[4]++ }, true}, {"a word In more", func(x *impl.Host) { x.Harts[1].In = append(x.Harts[1].In, 0) }, true},
		{"a word Out", func(x *impl.Host) { x.Harts[1].Out[0]++ }, true}, {"no words Out", func(x *impl.Host) { x.Harts[1].Out = nil }, true},
		{"the first word of its page", func(x *impl.Host) { x.Memory[8]++ }, true}, {"the last word of its page", func(x *impl.Host) { x.Memory[15]++ }, true},
		{"a word of the lane from it", func(x *impl.Host) { x.Memory[9*8+7]++ }, true},
		{"a word of the lane to it", func(x *impl.Host) { x.Memory[8*8+1]++ }, false}, {"a word of another lane", func(x *impl.Host) { x.Memory[22*8]++ }, false},
		{"a word of nobody", func(x *impl.Host) { x.Memory[20*8]++ }, false}, {"a word of the first guest", func(x *impl.Host) { x.Memory[0]++ }, false}, {"a word of the third guest", func(x *impl.Host) { x.Memory[6*8]++ }, false},
		{"the first guest's machine", func(x *impl.Host) { x.Harts[0] = newHartIn(7) }, false}, {"the third guest's machine", func(x *impl.Host) { x.Harts[2].Rung, x.Harts[2].Halted = true, true }, false},
		{"no bells", func(x *impl.Host) { x.Policy.Bells = nil }, false},
		{"the clock", func(x *impl.Host) { *x = hostIn(x.Policy, 7, x.Memory, x.Harts...) }, false},
		{"the plan", func(x *impl.Host) {
			x.Policy.Plan = []impl.Slot{slot(2, 9)}
			*x = hostIn(x.Policy, 30, x.Memory, x.Harts...)
		}, false},
		{"no lane from it", func(x *impl.Host) { x.Policy.Lanes = x.Policy.Lanes[:1] }, true},
		{"a page more", func(x *impl.Host) { x.Policy.Own[1] = []int64{1, 20} }, true}, {"another page", func(x *impl.Host) { x.Policy.Own[1] = []int64{20} }, true},
		{"another page of the same words", func(x *impl.Host) { x.Policy.Own[1] = []int64{20}; copy(x.Memory[160:168], x.Memory[8:16]) }, false},
		{"one guest less", func(x *impl.Host) {
			p := impl.Policy{Own: [][]int64{{0}, {1}}, Lanes: []impl.Lane{lane(1, 0, 9, 5, 5)}, Plan: []impl.Slot{slot(1, 2)}}
			*x = hostIn(p, 5, x.Memory, x.Harts[0], x.Harts[1])
		}, false},
	}
	for _, edit := range edits {
		a, b := countedHost(clonePolicy(threeGuests()), 70), cloneHost(countedHost(threeGuests(), 70))
		edit.do(&b)
		want := noDiff()
		if edit.seen {
			want = differs(0)
		}
		askDiff(t, impl.FirstDiff(a, b, 1, 0), want, "with another ", edit.name)
		askDiff(t, impl.FirstDiff(b, a, 1, 0), want, "the other way round, with another ", edit.name)
		for _, n := range []int64{1, 61, 200} {
			askDiff(t, impl.FirstDiff(a, b, 1, n), firstDiffIn(a, b, 1, n), n, " steps with another ", edit.name)
			askDiff(t, impl.FirstDiff(b, a, 1, n), firstDiffIn(b, a, 1, n), n, " steps the other way round, with another ", edit.name)
			if edit.seen {
				askDiff(t, impl.FirstDiff(a, b, 1, n), want, n, " steps with another ", edit.name)
			}
		}
	}
}

// TestFirstDiffOfRings asks that a ring is seen at once, in another one's turn.
func TestFirstDiffOfRings(t *testing.T) {
	a := ringAndRest(func(h *impl.Hart) {}, op(19, 0, 0, 0))
	b := cloneHost(a)
	b.Policy.Bells = nil
	// The first guest rings in its third turn, which is the step 5.
	for n := range int64(9) {
		want := noDiff()
		if n >= 5 {
			want = differs(5)
		}
		askDiff(t, impl.FirstDiff(a, b, 1, n), want, n, " steps")
		askDiff(t, impl.FirstDiff(b, a, 1, n), want, n, " steps, the other way round")
		askDiff(t, impl.FirstDiff(a, b, 0, n), noDiff(), n, " steps of the one that rings")
	}
}

// TestFirstDiffOfClocks asks hosts whose guest has its turn at another step.
func TestFirstDiffOfClocks(t *testing.T) {
	count := [][]int64{{op(12, 1, 1, 1), op(19, 0, 0, 65535)}, {op(12, 1, 1, 1), op(19, 0, 0, 65535)}}
	a := impl.BootHost(twoGuests(), count, make([][]int64, 2)).Host
	for clock := range int64(12) {
		b := hostIn(a.Policy, clock, a.Memory, a.Harts...)
		for guest := range int64(2) {
			got := impl.FirstDiff(a, b, guest, 200)
			askDiff(t, got, firstDiffIn(a, b, guest, 200), "guest ", guest, " at ", clock)
			if got.Same != (clock%5 == 0) || got.Code != impl.OK {
				t.Errorf("guest %d at %d: %v", guest, clock, got)
			}
		}
	}
	if got := impl.FirstDiff(a, hostIn(a.Policy, 1, a.Memory, a.Harts...), 0, 200); got != differs(2) {
		t.Errorf("one turn less: %v", got)
	}
}

// TestFirstDiffOfItself asks that a host is the same as itself, by each of its guests and for all steps that there may be.
func TestFirstDiffOfItself(t *testing.T) {
	for k, x := range twinHosts() {
		for guest := range int64(len(x.Policy.Own)) {
			for _, n := range []int64{0, 1, 30, int64(k % 201)} {
				want := noDiff()
				if x.Clock+n > 1000000 {
					want = diffCode(impl.ErrRange)
				}
				askDiff(t, impl.FirstDiff(x, x, guest, n), want, n, " steps of guest ", guest, " of ", x)
				askDiff(t, impl.FirstDiff(x, cloneHost(x), guest, n), want, n, " steps of guest ", guest, " of ", x, " and a copy")
			}
		}
	}
}

// hostTwists turn a host into another one without a fault of as many guests, in what some guests see at once, some later and some never.
func hostTwists(x impl.Host, next func(n int64) int64) []impl.Host {
	var list []impl.Host
	with := func(edit func(y *impl.Host)) {
		y := cloneHost(x)
		edit(&y)
		list = append(list, y)
	}
	guests := int64(len(x.Policy.Own))
	with(func(y *impl.Host) { y.Memory[next(192)] ^= 1 })
	with(func(y *impl.Host) { y.Harts[next(guests)].Regs[1+next(15)] ^= 1 })
	with(func(y *impl.Host) { h := &y.Harts[next(guests)]; h.Halted = !h.Halted })
	with(func(y *impl.Host) { h := &y.Harts[next(guests)]; h.Rung = !h.Rung })
	with(func(y *impl.Host) { y.Policy.Bells = nil })
	for guest, own := range x.Policy.Own {
		with(func(y *impl.Host) {
			y.Harts[guest] = newHartIn(1, 2)
			copy(y.Memory[own[0]*8:], []int64{op(12, 1, 1, 1), op(15, 1, 1, 40), op(15, 1, 0, 61), op(19, 0, 0, 65533)})
		})
	}
	for _, l := range x.Policy.Lanes {
		with(func(y *impl.Host) { y.Memory[8*l.Page+next(8)] ^= 5 })
		with(func(y *impl.Host) { copy(y.Memory[8*l.Page:], queueOf(8, next(1000))) })
	}
	return list
}

// diffTally counts what was told, so that a test that met one kind alone is seen.
type diffTally struct{ at, later, never int }

func (d *diffTally) add(got impl.DiffResult) {
	switch {
	case got.Same:
		d.never++
	case got.Step > 0:
		d.later++
	case got.Code == impl.OK:
		d.at++
	}
}

func (d *diffTally) ask(t *testing.T) {
	t.Helper()
	if d.at < 200 || d.later < 50 || d.never < 200 {
		t.Errorf("%d are not the same at the beginning, %d later, %d never", d.at, d.later, d.never)
	}
}

// TestFirstDiff asks hosts that are nearly the same by the second reader.
func TestFirstDiff(t *testing.T) {
	next := steadyNext(161)
	var tally diffTally
	for _, x := range twinHosts() {
		for _, y := range hostTwists(x, next) {
			guest, n := next(int64(len(x.Policy.Own))), []int64{0, 1, next(20), next(60)}[next(4)]
			if next(25) == 0 {
				n = 200
			}
			got := impl.FirstDiff(x, y, guest, n)
			askDiff(t, got, firstDiffIn(x, y, guest, n), n, " steps of guest ", guest, " of ", x, " and ", y)
			tally.add(got)
		}
	}
	tally.ask(t)
}

// twinEdit makes a fault of one argument; those of a lower order are told ahead of the others.
type twinEdit struct {
	order int
	fault int64
	name  string
	do    func(x *twinned)
}

// twinned are arguments of all calls of this layer; the policy is that of a.
type twinned struct {
	a, b           impl.Host
	alone          impl.Solo
	images, inputs [][]int64
	image, input   []int64
	guest, n       int64
}

func goodTwinned() twinned {
	return twinned{a: countedHost(clonePolicy(threeGuests()), 6), b: countedHost(clonePolicy(threeGuests()), 6), alone: countedSolo(), guest: 1, n: 3}
}

// hostFaults may be done one upon another, on whatever host stands there.
func hostFaults(order int, of func(x *twinned) *impl.Host) []twinEdit {
	taken := threeGuests()
	taken.Own[1] = []int64{0}
	return []twinEdit{
		{order, impl.ErrTaken, "a page owned twice", func(x *twinned) { of(x).Policy = taken }},
		{order, impl.ErrMany, "no policy", func(x *twinned) { of(x).Policy = impl.Policy{} }},
		{order, impl.ErrForm, "no memory", func(x *twinned) { of(x).Memory = nil }},
		{order, impl.ErrForm, "no machines", func(x *twinned) { of(x).Harts = nil }},
		{order, impl.ErrMany, "41 words In", func(x *twinned) { editHart(of(x), 0, func(h *impl.Hart) { h.In = queueOf(41, 0) }) }},
		{order, impl.ErrRange, "Clock -1", func(x *twinned) { of(x).Clock = -1 }},
		{order, impl.ErrRange, "Clock 1000001", func(x *twinned) { of(x).Clock = 1000001 }},
		{order, impl.ErrForm, "Left 0", func(x *twinned) { of(x).Left = 0 }},
	}
}

func hostOfA(x *twinned) *impl.Host { return &x.a }

func hostOfB(x *twinned) *impl.Host { return &x.b }

func soloFaults(order int) []twinEdit {
	return []twinEdit{
		{order, impl.ErrForm, "no lonely machine", func(x *twinned) { x.alone = impl.Solo{} }},
		{order, impl.ErrRange, "the lonely machine's Pc -1", func(x *twinned) { x.alone.Hart.Pc = -1 }},
		{order, impl.ErrMany, "the lonely machine's 41 words Out", func(x *twinned) { x.alone.Hart.Out = queueOf(41, 0) }},
		{order, impl.ErrRange, "the lonely machine's page to 8", func(x *twinned) { x.alone.Pages = blankPages(8, entry(8, 1)) }},
		{order, impl.ErrForm, "the lonely machine's 72 words", func(x *twinned) { x.alone.Memory = countedMemory(72) }},
	}
}

// guestFaults are guests that are none; with b too, those that a has and b has not, and the other way round.
func guestFaults(order int, both bool) []twinEdit {
	list := []twinEdit{
		{order, impl.ErrNone, "guest -1", func(x *twinned) { x.guest = -1 }},
		{order, impl.ErrNone, "guest 3", func(x *twinned) { x.guest = 3 }},
		{order, impl.ErrNone, "guest 2^32", func(x *twinned) { x.guest = 1 << 32 }},
		{order, impl.ErrNone, "the least guest", func(x *twinned) { x.guest = math.MinInt64 }},
		{order, impl.ErrNone, "the greatest guest", func(x *twinned) { x.guest = math.MaxInt64 }},
	}
	if both {
		list = append(list,
			twinEdit{order, impl.ErrNone, "guest 2, which b has not", func(x *twinned) { x.guest, x.b = 2, countedHost(twoGuests(), x.b.Clock) }},
			twinEdit{order, impl.ErrNone, "guest 2, which a has not", func(x *twinned) { x.guest, x.a = 2, countedHost(twoGuests(), x.a.Clock) }},
			twinEdit{order, impl.ErrNone, "guest 1, which a has not", func(x *twinned) { x.guest, x.a = 1, countedHost(oneGuest(), x.a.Clock) }},
		)
	}
	return list
}

// stepFaults are steps that cannot be watched; with b too, such as leave its clock alone.
func stepFaults(order int, both bool) []twinEdit {
	late := func(x *impl.Host, clock int64) { *x = hostIn(x.Policy, clock, x.Memory, x.Harts...) }
	list := []twinEdit{
		{order, impl.ErrRange, "-1 steps", func(x *twinned) { x.n = -1 }},
		{order, impl.ErrRange, "201 steps", func(x *twinned) { x.n = 201 }},
		{order, impl.ErrRange, "the least steps", func(x *twinned) { x.n = math.MinInt64 }},
		{order, impl.ErrRange, "the greatest steps", func(x *twinned) { x.n = math.MaxInt64 }},
		{order, impl.ErrRange, "a step more than a has", func(x *twinned) { x.n = 9; late(&x.a, 999992) }},
		{order, impl.ErrRange, "a step at the last clock of a", func(x *twinned) { x.n = 1; late(&x.a, 1000000) }},
	}
	if both {
		list = append(list,
			twinEdit{order, impl.ErrRange, "a step more than b has", func(x *twinned) { x.n = 9; late(&x.b, 999992) }},
			twinEdit{order, impl.ErrRange, "200 steps, a step more than b has", func(x *twinned) { x.n = 200; late(&x.b, 999801) }},
		)
	}
	return list
}

// askTwinCodes asks each fault alone, beside each one behind it, and beside two.
func askTwinCodes(t *testing.T, edits []twinEdit, ask func(x twinned, fault int64, name string)) {
	t.Helper()
	for _, first := range edits {
		x := goodTwinned()
		first.do(&x)
		ask(x, first.fault, first.name)
		for _, second := range edits {
			for _, third := range edits {
				if first.order >= second.order || second.order > third.order {
					continue
				}
				x := goodTwinned()
				third.do(&x)
				second.do(&x)
				first.do(&x)
				ask(x, first.fault, fmt.Sprint(first.name, ", ", second.name, " and ", third.name))
			}
		}
	}
}

func TestFirstDiffCodes(t *testing.T) {
	edits := slices.Concat(hostFaults(1, hostOfA), hostFaults(2, hostOfB), guestFaults(3, true), stepFaults(4, true))
	askTwinCodes(t, edits, func(x twinned, fault int64, name string) {
		askDiff(t, impl.FirstDiff(x.a, x.b, x.guest, x.n), diffCode(fault), "FirstDiff with ", name)
	})
	// A fault of a is told ahead of one of b, whichever they are.
	bad := someBadHosts()
	for k, x := range bad {
		y := bad[(k*31+7)%len(bad)]
		good := countedHost(threeGuests(), 3)
		askDiff(t, impl.FirstDiff(x.x, y.x, 5, -1), diffCode(x.fault), "FirstDiff of two with faults")
		askDiff(t, impl.FirstDiff(x.x, good, 0, 1), diffCode(x.fault), "FirstDiff of one with a fault")
		askDiff(t, impl.FirstDiff(good, x.x, 0, 1), diffCode(x.fault), "FirstDiff of one with a fault, which is b")
		askDiff(t, impl.FirstDiff(good, x.x, 9, 201), diffCode(x.fault), "FirstDiff of one with a fault, and nothing right")
	}
}

func TestSoloDiffCodes(t *testing.T) {
	edits := slices.Concat(hostFaults(1, hostOfA), soloFaults(2), guestFaults(3, false), stepFaults(4, false))
	askTwinCodes(t, edits, func(x twinned, fault int64, name string) {
		askDiff(t, impl.SoloDiff(x.a, x.alone, x.guest, x.n), diffCode(fault), "SoloDiff with ", name)
	})
	bad := someBadSolos()
	for k, x := range someBadHosts() {
		askDiff(t, impl.SoloDiff(x.x, bad[k%len(bad)].x, 5, -1), diffCode(x.fault), "SoloDiff of a host and a lonely machine with faults")
		askDiff(t, impl.SoloDiff(x.x, countedSolo(), 0, 1), diffCode(x.fault), "SoloDiff of a host with a fault")
	}
	for _, x := range bad {
		for _, guest := range []int64{-1, 0, 2, 3} {
			for _, n := range []int64{-1, 0, 5, 201} {
				askDiff(t, impl.SoloDiff(countedHost(threeGuests(), 3), x.x, guest, n), diffCode(x.fault), "SoloDiff of a lonely machine with a fault")
			}
		}
	}
}

func TestSoloFromCodes(t *testing.T) {
	edits := slices.Concat(hostFaults(1, hostOfA), guestFaults(2, false))
	askTwinCodes(t, edits, func(x twinned, fault int64, name string) {
		askSolo(t, impl.SoloFrom(x.a, x.guest), impl.SoloResult{Code: fault}, "SoloFrom with ", name)
	})
	for _, bad := range someBadHosts() {
		for _, guest := range []int64{math.MinInt64, -1, 0, 1, 2, 3, math.MaxInt64} {
			askSolo(t, impl.SoloFrom(bad.x, guest), impl.SoloResult{Code: bad.fault}, "SoloFrom guest ", guest, " of a host with a fault")
		}
	}
	for _, p := range []impl.Policy{oneGuest(), twoGuests(), threeGuests()} {
		last := int64(len(p.Own))
		for _, guest := range []int64{math.MinInt64, -1 << 32, -1, last, last + 1, 1 << 32, math.MaxInt64} {
			askSolo(t, impl.SoloFrom(countedHost(p, 7), guest), impl.SoloResult{Code: impl.ErrNone}, "SoloFrom guest ", guest)
		}
	}
}

func TestTraceCodes(t *testing.T) {
	edits := slices.Concat(hostFaults(1, hostOfA), stepFaults(2, false))
	askTwinCodes(t, edits, func(x twinned, fault int64, name string) {
		askWords(t, impl.TraceOf(x.a, x.n), impl.IntsResult{Code: fault}, "TraceOf with ", name)
	})
	for _, bad := range someBadHosts() {
		for _, n := range []int64{math.MinInt64, -1, 0, 1, 200, 201, math.MaxInt64} {
			askWords(t, impl.TraceOf(bad.x, n), impl.IntsResult{Code: bad.fault}, "TraceOf ", n, " of a host with a fault")
		}
	}
}

// TestStepsThatMayBeWatched asks each function that is told steps at its bounds: of n, and of the clock.
func TestStepsThatMayBeWatched(t *testing.T) {
	for _, p := range []impl.Policy{oneGuest(), twoGuests(), threeGuests(), looseGuests(), fullPolicy()} {
		x, others := countedHost(p, 0), countedHost(p, 17)
		alone := soloFromIn(x, 0).Solo
		for _, n := range watchNumbers() {
			code := int64(impl.OK)
			if n < 0 || n > 200 {
				code = impl.ErrRange
			}
			askWatched(t, x, x, alone, n, code)
			if got := impl.FirstDiff(x, others, 0, n); got.Code != code {
				t.Fatalf("%d steps at two clocks: %v", n, got)
			}
		}
		for _, left := range []int64{0, 1, 2, 60, 199, 200, 201} {
			late := countedHost(p, 1000000-left)
			for _, n := range []int64{0, 1, left - 1, left, left + 1, 199, 200, 201} {
				code := int64(impl.OK)
				if n < 0 || n > 200 || n > left {
					code = impl.ErrRange
				}
				askWatched(t, late, late, alone, n, code)
				for _, got := range []impl.DiffResult{impl.FirstDiff(late, x, 0, n), impl.FirstDiff(x, late, 0, n)} {
					if got.Code != code || code != impl.OK && got != diffCode(code) {
						t.Fatalf("%d steps, %d left of the one clock: %v", n, left, got)
					}
				}
			}
		}
	}
}

// askWatched asks a code of steps, and where it is OK that two hosts that are the same are told so; alone is a lonely machine that is as guest 0 of a.
func askWatched(t *testing.T, a, b impl.Host, alone impl.Solo, n, code int64) {
	t.Helper()
	same, trace := diffCode(code), impl.TraceOf(a, n)
	if code == impl.OK {
		same = noDiff()
	}
	askDiff(t, impl.FirstDiff(a, b, 0, n), same, n, " steps at ", a.Clock)
	askDiff(t, impl.SoloDiff(a, alone, 0, n), same, n, " steps of one alone at ", a.Clock)
	if trace.Code != code || code == impl.OK && int64(len(trace.List)) != n || code != impl.OK && len(trace.List) != 0 {
		t.Fatalf("TraceOf %d at %d: %v", n, a.Clock, trace)
	}
}

// TestSoloFrom asks each guest of hosts of all kinds, at the start and behind some steps.
func TestSoloFrom(t *testing.T) {
	hosts := append(twinHosts(), viewedHosts()...)
	for _, x := range hosts {
		for _, guest := range guestNumbers() {
			askSolo(t, impl.SoloFrom(x, guest), soloFromIn(x, guest), "SoloFrom guest ", guest, " of ", x)
		}
		for guest := range int64(len(x.Policy.Own)) {
			askSoloParts(t, x, guest)
			if then := impl.RunHost(x, 37); then.Code == impl.OK {
				askSolo(t, impl.SoloFrom(then.Host, guest), soloFromIn(then.Host, guest), "SoloFrom guest ", guest, " behind steps of ", x)
			}
		}
	}
}

// askSoloParts asks what SoloFrom answers by the functions that the document names for its parts.
func askSoloParts(t *testing.T, x impl.Host, guest int64) {
	t.Helper()
	got, list := impl.SoloFrom(x, guest), impl.PagesFor(x.Policy, guest).Pages
	if got.Code != impl.OK || impl.SoloFault(got.Solo) != impl.OK || !sameHart(got.Solo.Hart, x.Harts[guest]) {
		t.Fatalf("SoloFrom guest %d of %v: %v", guest, x, got)
	}
	if want := impl.SoloOf(x.Policy, guest, nil, nil).Solo.Pages; !slices.Equal(got.Solo.Pages, want) {
		t.Fatalf("SoloFrom guest %d of %v: pages %v, not %v", guest, x, got.Solo.Pages, want)
	}
	for k, page := range list {
		want := make([]int64, 8)
		if page.To != -1 {
			want = x.Memory[8*page.To : 8*page.To+8]
		}
		askWords(t, impl.SoloWords(got.Solo, int64(k)), impl.IntsResult{List: want}, "page ", k, " of SoloFrom guest ", guest, " of ", x)
	}
	among, alone := impl.ViewOf(x, guest), impl.SoloView(x.Policy, got.Solo, guest)
	if !impl.SameViews(among.View, alone.View) {
		t.Fatalf("SoloFrom guest %d of %v sees %v, not %v", guest, x, alone, among)
	}
}

func TestSoloFromByHand(t *testing.T) {
	m := queueOf(192, 1000)
	page := func(n int64) []int64 { return queueOf(8, 1000+8*n) }
	none := make([]int64, 8)
	three := impl.Policy{Own: [][]int64{{14, 2, 12}, {13, 1, 0, 23, 22}, {7}}, Lanes: []impl.Lane{lane(0, 1, 9, 6, 5), lane(2, 1, 4, 6, 6), lane(0, 2, 3, 5, 5)}, Plan: []impl.Slot{slot(0, 1)}}
	table := []struct {
		name  string
		p     impl.Policy
		guest int64
		kinds []int64
		words [][]int64
	}{
		{"one guest", oneGuest(), 0, []int64{7, 0, 0, 0, 0, 0, 0, 0}, [][]int64{page(4), none, none, none, none, none, none, none}},
		{"one that writes a lane", twoGuests(), 0, []int64{7, 7, 0, 0, 0, 3, 0, 0}, [][]int64{page(2), page(5), none, none, none, page(9), none, none}},
		{"one that reads a lane", twoGuests(), 1, []int64{7, 0, 0, 0, 0, 1, 0, 0}, [][]int64{page(3), none, none, none, none, page(9), none, none}},
		{"one that does both", threeGuests(), 0, []int64{7, 7, 7, 0, 0, 3, 1, 0}, [][]int64{page(0), page(23), page(7), none, none, page(8), page(22), none}},
		{"one of one page that does both", threeGuests(), 1, []int64{7, 0, 0, 0, 0, 3, 1, 0}, [][]int64{page(1), none, none, none, none, page(9), page(8), none}},
		{"one of five pages", threeGuests(), 2, []int64{7, 7, 7, 7, 7, 1, 3, 0}, [][]int64{page(2), page(3), page(4), page(5), page(6), page(9), page(22), none}},
		{"pages that do not rise, two lanes written", three, 0, []int64{7, 7, 7, 0, 0, 3, 3, 0}, [][]int64{page(14), page(2), page(12), none, none, page(3), page(9), none}},
		{"pages that do not rise, two lanes read", three, 1, []int64{7, 7, 7, 7, 7, 1, 1, 0}, [][]int64{page(13), page(1), page(0), page(23), page(22), page(9), page(4), none}},
		{"no lanes, and no slot", looseGuests(), 1, []int64{7, 7, 0, 0, 0, 0, 0, 0}, [][]int64{page(12), page(11), none, none, none, none, none, none}},
	}
	for _, y := range table {
		x := hostIn(y.p, 5, m)
		for guest := range y.p.Own {
			h := countedHart()
			h.Pc, h.Rung, h.Halted, h.Waiting = int64(guest)+40, guest == 1, guest == 2, guest == 0
			x.Harts = append(x.Harts, h)
		}
		want := impl.Solo{Hart: x.Harts[y.guest], Memory: slices.Concat(y.words...)}
		for k, kinds := range y.kinds {
			if want.Pages = append(want.Pages, entry(int64(k), kinds)); kinds == 0 {
				want.Pages[k] = entry(-1, 0)
			}
		}
		askSolo(t, soloFromIn(x, y.guest), impl.SoloResult{Solo: want}, "the second reader: ", y.name)
		askSolo(t, impl.SoloFrom(x, y.guest), impl.SoloResult{Solo: want}, "SoloFrom: ", y.name)
	}
}

// TestSoloFromOfBootedHosts asks that a guest that was just booted is the lonely machine of its image and input.
func TestSoloFromOfBootedHosts(t *testing.T) {
	for k, p := range goodPolicies() {
		images, inputs := imagesFor(p)[k%10], slices.Repeat([][]int64{queueOf(k%41, 5)}, len(p.Own))
		x := impl.BootHost(p, images, inputs)
		for guest := range p.Own {
			want := impl.SoloOf(p, int64(guest), images[guest], inputs[guest])
			askSolo(t, impl.SoloFrom(x.Host, int64(guest)), want, "SoloFrom guest ", guest, " of ", p, " with ", images)
		}
	}
}

// TestSoloDiffOfSoloFrom asks the promise of each guest, whatever links there are: at the start, behind some steps, and in mixed hosts.
func TestSoloDiffOfSoloFrom(t *testing.T) {
	ask := func(x impl.Host, guest, n int64) {
		t.Helper()
		if n = min(n, 1000000-x.Clock); n >= 0 {
			askDiff(t, impl.SoloDiff(x, impl.SoloFrom(x, guest).Solo, guest, n), noDiff(), n, " steps of guest ", guest, " of ", x)
		}
	}
	for k, x := range append(twinHosts(), mixedHosts(300)...) {
		for guest := range int64(len(x.Policy.Own)) {
			ask(x, guest, 60)
			if then := impl.RunHost(x, int64(k%50)); then.Code == impl.OK {
				ask(then.Host, guest, int64(k%30))
			}
			if k%11 == 0 {
				ask(x, guest, 200)
			}
		}
	}
	for _, p := range append(talkingPolicies(), threeGuests(), fullPolicy()) {
		for _, images := range imageKinds(p)[10:] {
			x := impl.BootHost(p, images, slices.Repeat([][]int64{{3, 4}}, len(p.Own))).Host
			for guest := range int64(len(p.Own)) {
				ask(x, guest, 40)
			}
		}
	}
}

// laneLoop are two guests by turns, a step each: the writer counts by 5 on its lane at 5, word 3; the reader, at AtTo 6, lays what it finds on its own page, over and over.
func laneLoop() impl.Host {
	p := impl.Policy{Own: [][]int64{{2}, {3}}, Lanes: []impl.Lane{lane(0, 1, 9, 5, 6)}, Plan: []impl.Slot{slot(0, 1), slot(1, 1)}}
	write := []int64{op(12, 1, 1, 5), op(15, 1, 0, 43), op(19, 0, 0, 65534)}
	read := []int64{op(14, 2, 0, 51), op(15, 2, 0, 7), op(19, 0, 0, 65534)}
	return impl.BootHost(p, [][]int64{write, read}, make([][]int64, 2)).Host
}

// TestSoloDiffFeeds asks that what is fed ahead of each step of the guest is what its lane has then, at AtTo, and nothing else.
func TestSoloDiffFeeds(t *testing.T) {
	x := laneLoop()
	reads := impl.RunHost(x, 200).Host
	if w := reads.Memory[3*8+7]; w < 100 || w%5 != 0 {
		t.Fatalf("the reader has %d", w)
	}
	for _, clock := range []int64{0, 1, 2, 3, 4, 5, 6, 7, 50, 51} {
		at := impl.RunHost(x, clock).Host
		alone := impl.SoloFrom(at, 1).Solo
		askDiff(t, impl.SoloDiff(at, alone, 1, 200), noDiff(), "the reader at ", clock)
		// What stands on the lane's page of the lonely machine is fed away ahead of its first step.
		for _, words := range [][]int64{make([]int64, 8), queueOf(8, 500), slices.Repeat([]int64{impl.WordTop}, 8)} {
			askDiff(t, impl.SoloDiff(at, impl.FeedSolo(alone, 6, words).Solo, 1, 200), noDiff(), "the reader at ", clock, ", begun with ", words)
		}
		// The other pages are not fed, though it leads there: at 5 it would find what it has itself.
		other := cloneSolo(alone)
		other.Pages[6] = entry(5, 1)
		want := soloDiffIn(at, other, 1, 200)
		if got := impl.SoloDiff(at, other, 1, 200); got != want || got.Same || got.Step == 0 {
			t.Errorf("the reader at %d, with its lane at another page: %v, not %v", clock, got, want)
		}
		// A lane from it is fed to nobody: the writer has its own words.
		askDiff(t, impl.SoloDiff(at, impl.SoloFrom(at, 0).Solo, 0, 200), noDiff(), "the writer at ", clock)
		wrong := impl.FeedSolo(impl.SoloFrom(at, 0).Solo, 5, queueOf(8, 900)).Solo
		askDiff(t, impl.SoloDiff(at, wrong, 0, 200), differs(0), "the writer at ", clock, ", begun with other words on its lane")
	}
}

// TestSoloDiffOfLateFeeds asks lonely machines that would be told of a lane too early or too late: the word is another one at each of the reader's turns.
func TestSoloDiffOfLateFeeds(t *testing.T) {
	p := impl.Policy{Own: [][]int64{{2}, {3}}, Lanes: []impl.Lane{lane(0, 1, 9, 5, 6)}, Plan: []impl.Slot{slot(0, 2), slot(1, 3), slot(0, 1)}}
	write := []int64{op(12, 1, 1, 1), op(15, 1, 0, 40), op(15, 1, 1, 40), op(19, 0, 0, 65533)}
	read := []int64{op(14, 2, 0, 48), op(1, 3, 3, 2), op(19, 0, 0, 65534)}
	x := impl.BootHost(p, [][]int64{write, read}, make([][]int64, 2)).Host
	// The words that the reader has at each step are counted here by the host's memory alone.
	at, sum, last := x, int64(0), int64(0)
	for range 200 {
		if impl.TurnAt(p, at.Clock).Slot.Guest == 1 {
			switch at.Harts[1].Pc {
			case 0:
				last = at.Memory[9*8]
			case 1:
				sum += last
			}
		}
		if at = impl.StepHost(at).Host; at.Harts[1].Regs[3] != sum {
			t.Fatalf("behind %d steps the reader has %d, not %d", at.Clock, at.Harts[1].Regs[3], sum)
		}
		askDiff(t, impl.SoloDiff(at, impl.SoloFrom(at, 1).Solo, 1, 40), noDiff(), "the reader at ", at.Clock)
	}
	if sum < 100 {
		t.Errorf("the reader has %d", sum)
	}
}

// TestSoloDiffOfTwoLanes asks one that reads two lanes of two writers, which do not stand in the order of their places.
func TestSoloDiffOfTwoLanes(t *testing.T) {
	for _, places := range [][2]int64{{5, 6}, {6, 5}} {
		p := impl.Policy{Own: [][]int64{{2}, {3}, {4}}, Lanes: []impl.Lane{lane(2, 1, 9, 5, places[0]), lane(0, 1, 8, 6, places[1])}, Plan: []impl.Slot{slot(0, 1), slot(1, 1), slot(2, 1)}}
		writeOne := []int64{op(12, 1, 1, 5), op(15, 1, 0, 48), op(19, 0, 0, 65534)}
		writeTwo := []int64{op(12, 1, 1, 1000), op(15, 1, 0, 40), op(19, 0, 0, 65534)}
		read := []int64{op(14, 2, 0, 40), op(14, 3, 0, 48), op(19, 0, 0, 65534)}
		x := impl.BootHost(p, [][]int64{writeOne, read, writeTwo}, make([][]int64, 3)).Host
		alone := impl.SoloFrom(x, 1).Solo
		askDiff(t, impl.SoloDiff(x, alone, 1, 200), noDiff(), "two lanes at ", places)
		turned := cloneSolo(alone)
		turned.Pages[5], turned.Pages[6] = entry(6, 1), entry(5, 1)
		want := soloDiffIn(x, turned, 1, 200)
		if got := impl.SoloDiff(x, turned, 1, 200); got != want || got.Same || got.Step < 3 {
			t.Errorf("two lanes at %v, each at the other one's place: %v, not %v", places, got, want)
		}
		then := impl.RunHost(x, 30).Host.Harts[1].Regs
		if low, high := then[2], then[3]; (low < high) != (places[0] == 6) {
			t.Errorf("two lanes at %v: %d and %d", places, low, high)
		}
	}
}

// TestSoloDiffOfRings asks that the lonely machine is rung just if the guest is, each time that it is its turn.
func TestSoloDiffOfRings(t *testing.T) {
	// It tells Pending in a register, and takes the ring back.
	tells := []int64{op(21, 2, 0, 6), op(1, 4, 4, 2), op(22, 0, 3, 6), op(19, 0, 0, 65533)}
	counts := []int64{op(12, 2, 2, 1), op(19, 0, 0, 65535)}
	machines := []struct {
		name  string
		image []int64
		edit  func(h *impl.Hart)
	}{
		{"one that tells it", tells, func(h *impl.Hart) { h.Regs[3] = 2 }},
		{"one that waits for it", counts, func(h *impl.Hart) { h.Waiting, h.Csr[7] = true, 2 }},
		{"one that waits for it, and takes it back at once", []int64{op(22, 0, 3, 6), op(12, 2, 2, 1), op(25, 0, 0, 0), op(19, 0, 0, 65533)}, func(h *impl.Hart) { h.Waiting, h.Csr[7], h.Regs[3] = true, 2, 2 }},
		{"one that waits for it, and takes it back at its device page", []int64{op(15, 3, 0, 60), op(12, 2, 2, 1), op(25, 0, 0, 0), op(19, 0, 0, 65533)}, func(h *impl.Hart) { h.Waiting, h.Csr[7], h.Regs[3] = true, 2, 2 }},
		{"one that is interrupted", counts, func(h *impl.Hart) { h.Csr[0], h.Csr[7], h.Csr[1] = 1, 2, 1 }},
		{"one that is rung already", tells, func(h *impl.Hart) { h.Rung = true }},
		{"one that does not ask", counts, func(h *impl.Hart) {}},
		{"one that is halted", counts, func(h *impl.Hart) { h.Halted = true }},
	}
	for _, y := range machines {
		for _, bells := range [][]impl.Bell{{bell(0, 1)}, nil} {
			x := ringAndRest(y.edit, y.image...)
			x.Policy.Bells = bells
			for _, clock := range []int64{0, 1, 4, 5, 6, 7, 30} {
				at := impl.RunHost(x, clock).Host
				alone := impl.SoloFrom(at, 1).Solo
				for _, rung := range []bool{false, true} {
					// What it is at first is not asked, and is told anew ahead of its step.
					alone.Hart.Rung = rung
					askDiff(t, impl.SoloDiff(at, alone, 1, 200), noDiff(), y.name, " at ", clock, ", at first ", rung)
					askDiff(t, impl.SoloDiff(at, alone, 1, 0), noDiff(), y.name, " at ", clock, ", at first ", rung, ", no steps")
				}
			}
		}
	}
	// Without what it is told it would not do the same: alone it waits for ever.
	x := ringAndRest(func(h *impl.Hart) { h.Waiting, h.Csr[7] = true, 2 }, counts...)
	left := impl.RunSolo(impl.SoloFrom(x, 1).Solo, 200).Solo
	if then := impl.RunHost(x, 200).Host; !left.Hart.Waiting || then.Harts[1].Waiting || then.Harts[1].Done == 0 {
		t.Errorf("%v and %v", left.Hart, then.Harts[1])
	}
}

// TestSoloDiffLeavesRungOut asks hosts of which Rung alone is not that of the lonely machine: of a guest without a turn it stays so.
func TestSoloDiffLeavesRungOut(t *testing.T) {
	for _, p := range []impl.Policy{oneGuest(), twoGuests(), threeGuests(), looseGuests()} {
		for guest := range int64(len(p.Own)) {
			for _, clock := range []int64{0, 3, 1000000} {
				x := countedHost(p, clock)
				alone := impl.SoloFrom(x, guest).Solo
				for k := range 4 {
					x.Harts[guest].Rung, alone.Hart.Rung = k%2 == 1, k/2 == 1
					n := min(200, 1000000-clock)
					askDiff(t, impl.SoloDiff(x, alone, guest, n), noDiff(), "guest ", guest, " of ", p, " at ", clock, ", rung ", k)
				}
				// Others' rings make no difference either, and FirstDiff does ask it.
				y := cloneHost(x)
				y.Harts[guest].Rung = !x.Harts[guest].Rung
				askDiff(t, impl.FirstDiff(x, y, guest, 0), differs(0), "guest ", guest, " of ", p, " rung in one of two hosts")
			}
		}
	}
}

// soloTwists turn a lonely machine into another one without a fault, in what is seen at once, later, or never.
func soloTwists(x impl.Solo) []impl.Solo {
	var list []impl.Solo
	with := func(edit func(y *impl.Solo)) {
		y := cloneSolo(x)
		edit(&y)
		list = append(list, y)
	}
	for at := range 64 {
		with(func(y *impl.Solo) { y.Memory[at] ^= 1 })
	}
	for k := range 8 {
		with(func(y *impl.Solo) { y.Pages[k] = entry(-1, 0) })
		with(func(y *impl.Solo) { y.Pages[k] = entry(int64(k), 7) })
		with(func(y *impl.Solo) { y.Pages[k] = entry(int64(k+1)%8, 7) })
	}
	with(func(y *impl.Solo) { y.Hart.Pc ^= 1 })
	with(func(y *impl.Solo) { y.Hart.Done ^= 1 })
	with(func(y *impl.Solo) { y.Hart.Halted = !y.Hart.Halted })
	with(func(y *impl.Solo) { y.Hart.Waiting = !y.Hart.Waiting })
	with(func(y *impl.Solo) { y.Hart.Rung = !y.Hart.Rung })
	with(func(y *impl.Solo) { y.Hart.Regs[9] ^= 1 })
	with(func(y *impl.Solo) { y.Hart.Csr[4] ^= 1 })
	with(func(y *impl.Solo) { y.Hart.In = append(y.Hart.In, 3)[:min(40, len(y.Hart.In)+1)] })
	with(func(y *impl.Solo) { y.Hart.Out = append(y.Hart.Out, 3)[:min(40, len(y.Hart.Out)+1)] })
	return list
}

// TestSoloDiff asks lonely machines that are nearly the guest's by the second reader.
func TestSoloDiff(t *testing.T) {
	next := steadyNext(162)
	var tally diffTally
	for k, x := range twinHosts() {
		guest := int64(k % len(x.Policy.Own))
		for _, alone := range soloTwists(impl.SoloFrom(x, guest).Solo) {
			if next(6) > 0 {
				continue
			}
			n := []int64{0, 1, next(20), next(60)}[next(4)]
			if next(30) == 0 {
				n = 200
			}
			got := impl.SoloDiff(x, alone, guest, n)
			askDiff(t, got, soloDiffIn(x, alone, guest, n), n, " steps of guest ", guest, " of ", x, " and ", alone)
			tally.add(got)
		}
	}
	tally.ask(t)
}

// TestSoloDiffByHand asks lonely machines whose machine, memory or pages are not the guest's.
func TestSoloDiffByHand(t *testing.T) {
	// The writer's turns are the steps 1, 3, 5; the reader's are 2, 4, 6.
	x := laneLoop()
	table := []struct {
		name  string
		guest int64
		edit  func(y *impl.Solo)
		want  impl.DiffResult
	}{
		{"nothing else", 1, func(y *impl.Solo) {}, noDiff()},
		{"a register", 1, func(y *impl.Solo) { y.Hart.Regs[7] = 1 }, differs(0)},
		{"Pc", 1, func(y *impl.Solo) { y.Hart.Pc = 1 }, differs(0)},
		{"Done", 1, func(y *impl.Solo) { y.Hart.Done = 1 }, differs(0)},
		{"Halted", 1, func(y *impl.Solo) { y.Hart.Halted = true }, differs(0)},
		{"Waiting", 1, func(y *impl.Solo) { y.Hart.Waiting = true }, differs(0)},
		{"Rung", 1, func(y *impl.Solo) { y.Hart.Rung = true }, noDiff()},
		{"a word In", 1, func(y *impl.Solo) { y.Hart.In = []int64{0} }, differs(0)},
		{"a word Out", 1, func(y *impl.Solo) { y.Hart.Out = []int64{0} }, differs(0)},
		{"a csr", 1, func(y *impl.Solo) { y.Hart.Csr[5] = 1 }, differs(0)},
		{"a word of its page", 1, func(y *impl.Solo) { y.Memory[6] = 1 }, differs(0)},
		{"a word of the lane to it", 1, func(y *impl.Solo) { y.Memory[51] = 1 }, noDiff()},
		{"a word of a page that leads nowhere", 1, func(y *impl.Solo) { y.Memory[8], y.Memory[40], y.Memory[63] = 1, 2, 3 }, noDiff()},
		{"a word of the lane from it", 0, func(y *impl.Solo) { y.Memory[47] = 1 }, differs(0)},
		{"a word of a page of the writer that leads nowhere", 0, func(y *impl.Solo) { y.Memory[48] = 1 }, noDiff()},
		{"a page that leads nowhere", 1, func(y *impl.Solo) { y.Pages[0] = entry(-1, 0) }, differs(2)},
		{"a page that is not run", 0, func(y *impl.Solo) { y.Pages[0] = entry(0, 3) }, differs(1)},
		{"a page that is not written", 1, func(y *impl.Solo) { y.Pages[0] = entry(0, 5) }, differs(4)},
		{"the lane's page that leads nowhere", 1, func(y *impl.Solo) { y.Pages[6] = entry(-1, 0) }, differs(2)},
		{"the lane's page that leads to another one", 1, func(y *impl.Solo) { y.Pages[6] = entry(5, 1) }, differs(8)},
		{"the lane's page that is written, too", 1, func(y *impl.Solo) { y.Pages[6] = entry(6, 3) }, noDiff()},
		{"the lane's page of the writer that leads nowhere", 0, func(y *impl.Solo) { y.Pages[5] = entry(-1, 0) }, differs(3)},
		{"the lane's page of the writer that leads to another one", 0, func(y *impl.Solo) { y.Pages[5] = entry(6, 3) }, differs(3)},
		{"a page that leads nowhere in the host", 1, func(y *impl.Solo) { y.Pages[3] = entry(3, 7) }, noDiff()},
	}
	for _, y := range table {
		alone := impl.SoloFrom(x, y.guest).Solo
		y.edit(&alone)
		for _, n := range []int64{0, 1, 2, 3, 4, 7, 8, 9, 200} {
			want := y.want
			if n < want.Step {
				want = noDiff()
			}
			askDiff(t, soloDiffIn(x, alone, y.guest, n), want, "the second reader, ", n, " steps with ", y.name)
			askDiff(t, impl.SoloDiff(x, alone, y.guest, n), want, n, " steps with ", y.name)
		}
	}
}

// TestSoloDiffOfOthersTurns asks steps of others alone, and a guest without a slot: the lonely machine stays as it is.
func TestSoloDiffOfOthersTurns(t *testing.T) {
	p := looseGuests()
	p.Own = [][]int64{{10, 14}, {12, 11}, {13, 15}}
	p.Lanes, p.Bells = []impl.Lane{lane(0, 1, 9, 5, 6)}, []impl.Bell{bell(0, 1), bell(2, 1)}
	x := talkHost(p)
	alone := impl.SoloFrom(x, 1).Solo
	for n := range int64(201) {
		askDiff(t, impl.SoloDiff(x, alone, 1, n), noDiff(), n, " steps, and no slot")
		then := impl.RunHost(x, n).Host
		askDiff(t, impl.SoloDiff(then, alone, 1, 200), noDiff(), "no slot, behind ", n, " steps")
	}
	if then := impl.RunHost(x, 100).Host; then.Memory[9*8+2] == 0 || !then.Harts[1].Rung || then.Harts[1].Done != 0 {
		t.Errorf("one without a slot is told nothing: %v", then)
	}
	// Its Pages do not matter where it does nothing.
	alone.Pages = blankPages(8)
	askDiff(t, impl.SoloDiff(x, alone, 1, 200), noDiff(), "no slot, and pages that lead nowhere")
	alone.Hart.Regs[1] = 1
	askDiff(t, impl.SoloDiff(x, alone, 1, 200), differs(0), "no slot, and another register")
	// Guest 0 has its first turn in the step 5 of 15.
	still := impl.SoloFrom(x, 0).Solo
	still.Pages = blankPages(8)
	for n := range int64(12) {
		want := noDiff()
		if n >= 5 {
			want = differs(5)
		}
		askDiff(t, impl.SoloDiff(x, still, 0, n), want, n, " steps, of which 4 are others'")
	}
}

func TestTraceByHand(t *testing.T) {
	type ints = []int64
	eight := oneGuest()
	eight.Plan = slices.Repeat([]impl.Slot{slot(0, 3)}, 8)
	mixed := looseGuests()
	mixed.Plan = []impl.Slot{slot(1, 1), slot(2, 2), slot(1, 2), slot(0, 1)}
	table := []struct {
		p        impl.Policy
		clock, n int64
		want     ints
	}{
		{twoGuests(), 0, 0, nil}, {twoGuests(), 0, 1, ints{0}}, {twoGuests(), 0, 2, ints{0, 0}}, {twoGuests(), 0, 3, ints{0, 0, 1}}, {twoGuests(), 0, 6, ints{0, 0, 1, 1, 1, 0}},
		{twoGuests(), 1, 4, ints{0, 1, 1, 1}}, {twoGuests(), 2, 4, ints{1, 1, 1, 0}}, {twoGuests(), 3, 9, ints{1, 1, 0, 0, 1, 1, 1, 0, 0}}, {twoGuests(), 4, 2, ints{1, 0}}, {twoGuests(), 9, 0, nil},
		{twoGuests(), 999999, 1, ints{1}}, {twoGuests(), 999997, 3, ints{1, 1, 1}}, {twoGuests(), 999994, 6, ints{1, 0, 0, 1, 1, 1}}, {twoGuests(), 1000000, 0, nil},
		{oneGuest(), 5, 4, ints{0, 0, 0, 0}}, {eight, 23, 5, ints{0, 0, 0, 0, 0}},
		{mixed, 0, 12, ints{1, 2, 2, 1, 1, 0, 1, 2, 2, 1, 1, 0}}, {mixed, 2, 5, ints{2, 1, 1, 0, 1}}, {mixed, 5, 3, ints{0, 1, 2}}, {looseGuests(), 3, 8, ints{2, 0, 0, 0, 0, 0, 2, 2}},
	}
	for _, x := range table {
		want := impl.IntsResult{List: x.want}
		askWords(t, traceIn(countedHost(x.p, x.clock), x.n), want, "the second reader: ", x.p.Plan, " at ", x.clock, ", ", x.n)
		askWords(t, impl.TraceOf(countedHost(x.p, x.clock), x.n), want, "TraceOf ", x.p.Plan, " at ", x.clock, ", ", x.n)
	}
	x := countedHost(twoGuests(), 0)
	if got := impl.TraceOf(x, 200); got.Code != impl.OK || len(got.List) != 200 || !slices.Equal(got.List, slices.Repeat(ints{0, 0, 1, 1, 1}, 40)) {
		t.Errorf("TraceOf 200: %v", got)
	}
}

// TestTraceOf asks also that the guests told are those of TurnAt and those that TurnsBefore counts.
func TestTraceOf(t *testing.T) {
	for _, p := range append(plannedPolicies(), mixedPolicies(40)...) {
		for _, clock := range clocksOf(p) {
			x := countedHost(p, clock)
			for _, n := range watchNumbers() {
				got := impl.TraceOf(x, n)
				askWords(t, got, traceIn(x, n), "TraceOf ", n, " of ", p.Plan, " at ", clock)
				for k, guest := range got.List {
					if at := impl.TurnAt(p, clock+int64(k)); at.Slot.Guest != guest {
						t.Fatalf("TraceOf %v at %d: %d in the step %d, not %v", p.Plan, clock, guest, k, at)
					}
				}
			}
			got := impl.TraceOf(x, min(200, 1000000-clock)).List
			for guest := range int64(len(p.Own)) {
				turns := impl.TurnsBefore(p, clock+int64(len(got)), guest).Value - impl.TurnsBefore(p, clock, guest).Value
				count := int64(0)
				for _, g := range got {
					if g == guest {
						count++
					}
				}
				if count != turns {
					t.Fatalf("TraceOf %v at %d: %d turns of %d, not %d", p.Plan, clock, count, guest, turns)
				}
			}
		}
	}
}

// TestTraceHangsOnPlanAndClock asks that guests, memories, owners and links change nothing of it, and that it is what hosts do.
func TestTraceHangsOnPlanAndClock(t *testing.T) {
	for _, x := range twinHosts() {
		n := min(30, 1000000-x.Clock)
		want := impl.TraceOf(x, n)
		bare := looseGuests()
		bare.Plan = x.Policy.Plan
		idle := hostIn(bare, x.Clock, make([]int64, 192), newHartIn(), newHartIn(), newHartIn())
		for k := range idle.Harts {
			idle.Harts[k].Halted = true
		}
		askWords(t, impl.TraceOf(idle, n), want, "TraceOf a host of guests that are halted")
		for k := range n {
			next := impl.StepHost(x).Host
			for guest, h := range next.Harts {
				if h.Rung = x.Harts[guest].Rung; !sameHart(h, x.Harts[guest]) && int64(guest) != want.List[k] {
					t.Fatalf("guest %d goes in a step of %d of %v", guest, want.List[k], x)
				}
			}
			askWords(t, impl.TraceOf(next, n-k-1), impl.IntsResult{List: want.List[k+1:]}, "TraceOf behind ", k+1, " steps")
			x = next
		}
	}
}

// strangeImages are images that a stranger may have: of all kinds, and one that tries to reach all.
func strangeImages(p impl.Policy, guest int64) [][]int64 {
	var list [][]int64
	for k, images := range imageKinds(p) {
		if k%2 == 0 || k >= 20 {
			list = append(list, images[guest])
		}
	}
	return append(list, talkers(p)[guest], storesEverywhere(mapIn(p, guest)).Memory[:8])
}

// TestPromiseOfStrangers asks promise 17: whatever image and input a stranger has, a guest of a booted host sees the same behind each step.
func TestPromiseOfStrangers(t *testing.T) {
	asked, linked := 0, 0
	for k, p := range append(talkingPolicies(), threeGuests(), looseGuests(), twoGuests()) {
		images, inputs := talkers(p), talkInputs(p)
		if k%4 == 3 {
			images = imageKinds(p)[20+k%6]
		}
		a := impl.BootHost(p, images, inputs)
		for guest := range int64(len(p.Own)) {
			for _, stranger := range impl.StrangersTo(p, guest).List {
				for j, image := range strangeImages(p, stranger) {
					input := [][]int64{nil, {impl.WordTop}, queueOf(40, 1)}[j%3]
					b := impl.TwinHost(p, images, inputs, stranger, image, input)
					if b.Code != impl.OK {
						t.Fatalf("TwinHost %d of %v with %v: %v", stranger, p, image, b)
					}
					n := int64(40)
					if j == k%17 {
						n = 200
					}
					askDiff(t, impl.FirstDiff(a.Host, b.Host, guest, n), noDiff(), "guest ", guest, " of ", p, ", and the stranger ", stranger, " with ", image)
					if asked++; len(p.Lanes)+len(p.Bells) > 0 {
						linked++
					}
				}
			}
		}
	}
	if asked < 2000 || linked < 2000 {
		t.Errorf("%d are asked, %d of them with links", asked, linked)
	}
}

// TestPromiseOfManyStrangers asks that all strangers at once make no difference either.
func TestPromiseOfManyStrangers(t *testing.T) {
	for _, p := range append(talkingPolicies(), looseGuests()) {
		a := impl.BootHost(p, talkers(p), talkInputs(p)).Host
		for guest := range int64(len(p.Own)) {
			images, inputs := talkers(p), talkInputs(p)
			strangers := impl.StrangersTo(p, guest).List
			for k, stranger := range strangers {
				images[stranger], inputs[stranger] = strangeImages(p, stranger)[7+k], []int64{1, 2, 3}
			}
			b := impl.BootHost(p, images, inputs).Host
			askDiff(t, impl.FirstDiff(a, b, guest, 80), noDiff(), "guest ", guest, " of ", p, " and the strangers ", strangers)
		}
	}
}

// TestThoseWhoReachAreSeen asks that whoever has a link to a guest can change what it sees, by a lane and by a bell.
func TestThoseWhoReachAreSeen(t *testing.T) {
	seen := 0
	for _, p := range talkingPolicies() {
		images, inputs := talkers(p), talkInputs(p)
		a := impl.BootHost(p, images, inputs).Host
		for guest := range int64(len(p.Own)) {
			// One tells nothing, one rings at once: where another one rings, too, one of them may make no difference.
			circle, ring := []int64{op(19, 0, 0, 0)}, []int64{op(12, 4, 0, guest), op(15, 4, 0, 61), op(19, 0, 0, 65535)}
			for _, other := range impl.LinksTo(p, guest).List {
				all := true
				for _, image := range [][]int64{circle, ring} {
					b := impl.TwinHost(p, images, inputs, other, image, inputs[other]).Host
					got := impl.FirstDiff(a, b, guest, 100)
					askDiff(t, got, firstDiffIn(a, b, guest, 100), "guest ", guest, " of ", p, " and ", other)
					if all = all && got.Same; got.Code != impl.OK || !got.Same && got.Step == 0 {
						t.Fatalf("guest %d of %v and %d: %v", guest, p, other, got)
					}
				}
				if seen++; all {
					t.Fatalf("guest %d of %v does not see %d", guest, p, other)
				}
			}
		}
	}
	if seen < 300 {
		t.Errorf("%d are seen", seen)
	}
}

// TestReachByHand asks guests that reach another one by a lane, by a bell, and over a third one, with the step in which it shows.
func TestReachByHand(t *testing.T) {
	plan := []impl.Slot{slot(0, 1), slot(1, 1), slot(2, 1)}
	own := [][]int64{{2}, {3}, {4}}
	idle, circle := op(12, 0, 0, 0), op(19, 0, 0, 0)
	say := func(w, at int64) []int64 { return []int64{op(12, 1, 0, w), op(15, 1, 0, at), circle} }
	copies := []int64{op(14, 1, 0, 40), op(15, 1, 0, 48), op(19, 0, 0, 65534)}
	reads := []int64{op(14, 1, 0, 40), op(19, 0, 0, 65535)}
	table := []struct {
		name   string
		p      impl.Policy
		images [][]int64
		image  []int64
		guest  int64
		want   impl.DiffResult
	}{
		// The word is there behind the step 4; the guest 1 reads in the steps 2 and 8.
		{"a lane", impl.Policy{Own: own, Lanes: []impl.Lane{lane(0, 1, 9, 6, 5)}, Plan: plan}, [][]int64{say(7, 48), reads, {circle}}, say(8, 48), 1, differs(8)},
		{"a lane with the same word", impl.Policy{Own: own, Lanes: []impl.Lane{lane(0, 1, 9, 6, 5)}, Plan: plan}, [][]int64{say(7, 48), reads, {circle}}, append(say(7, 48), 5), 1, noDiff()},
		{"a lane to another one", impl.Policy{Own: own, Lanes: []impl.Lane{lane(0, 1, 9, 6, 5)}, Plan: plan}, [][]int64{say(7, 48), reads, reads}, say(8, 48), 2, noDiff()},
		{"a lane from it", impl.Policy{Own: own, Lanes: []impl.Lane{lane(1, 0, 9, 6, 5)}, Plan: plan}, [][]int64{reads, say(7, 48), reads}, say(8, 40), 1, noDiff()},
		// It rings in its second turn, the step 4.
		{"a bell", impl.Policy{Own: own, Bells: []impl.Bell{bell(0, 1)}, Plan: plan}, [][]int64{{circle}, reads, {circle}}, say(1, 61), 1, differs(4)},
		{"a bell that it does not ring", impl.Policy{Own: own, Bells: []impl.Bell{bell(0, 1)}, Plan: plan}, [][]int64{{circle}, reads, {circle}}, say(2, 61), 1, noDiff()},
		{"a bell to another one", impl.Policy{Own: own, Bells: []impl.Bell{bell(0, 1)}, Plan: plan}, [][]int64{{circle}, reads, {circle}}, say(2, 61), 2, noDiff()},
		{"no bell", impl.Policy{Own: own, Plan: plan}, [][]int64{{circle}, reads, {circle}}, say(1, 61), 1, noDiff()},
		{"a bell the other way round", impl.Policy{Own: own, Bells: []impl.Bell{bell(1, 0)}, Plan: plan}, [][]int64{{circle}, reads, {circle}}, say(1, 61), 1, noDiff()},
		// The guest 1 reads in its turns 1 and 4, the step 11, and tells in its turn 5, the step 14; the guest 2 reads in the steps 3, 9 and 15.
		{"a lane over a third one", impl.Policy{Own: own, Lanes: []impl.Lane{lane(0, 1, 9, 6, 5), lane(1, 2, 8, 6, 5)}, Plan: plan}, [][]int64{say(7, 48), copies, reads}, say(8, 48), 2, differs(15)},
		{"a lane over a third one that does not tell it", impl.Policy{Own: own, Lanes: []impl.Lane{lane(0, 1, 9, 6, 5), lane(1, 2, 8, 6, 5)}, Plan: plan}, [][]int64{say(7, 48), {idle, circle}, reads}, say(8, 48), 2, noDiff()},
	}
	for _, y := range table {
		inputs := make([][]int64, 3)
		a, b := impl.BootHost(y.p, y.images, inputs), impl.TwinHost(y.p, y.images, inputs, 0, y.image, nil)
		if a.Code != impl.OK || b.Code != impl.OK {
			t.Fatalf("%s: %v and %v", y.name, a, b)
		}
		for _, n := range []int64{0, 3, 4, 7, 8, 14, 15, 200} {
			want := y.want
			if n < want.Step {
				want = noDiff()
			}
			askDiff(t, firstDiffIn(a.Host, b.Host, y.guest, n), want, "the second reader: ", y.name, ", ", n, " steps")
			askDiff(t, impl.FirstDiff(a.Host, b.Host, y.guest, n), want, y.name, ", ", n, " steps")
		}
	}
}

// TestPromiseOfTheLonely asks that a guest to whom nobody has a link does alone all that it does among others, rings and lanes from it counted.
func TestPromiseOfTheLonely(t *testing.T) {
	lonely := 0
	for k, p := range append(talkingPolicies(), oneGuest(), looseGuests(), twoGuests()) {
		kinds := [][][]int64{talkers(p), imageKinds(p)[k%20], imageKinds(p)[20+k%6]}
		for guest := range int64(len(p.Own)) {
			if len(impl.LinksTo(p, guest).List) > 0 {
				continue
			}
			for _, images := range kinds {
				inputs := talkInputs(p)
				x := impl.BootHost(p, images, inputs).Host
				begun := impl.SoloOf(p, guest, images[guest], inputs[guest])
				for _, n := range []int64{0, 1, 2, 3, 17, 100, 200} {
					among := impl.RunHost(x, n).Host
					alone := impl.RunSolo(begun.Solo, impl.TurnsBefore(p, n, guest).Value)
					askSolo(t, impl.SoloFrom(among, guest), alone, "guest ", guest, " of ", p, " behind ", n, " steps")
					if !impl.SameViews(impl.ViewOf(among, guest).View, impl.SoloView(p, alone.Solo, guest).View) {
						t.Fatalf("guest %d of %v sees something else behind %d steps", guest, p, n)
					}
				}
				askDiff(t, impl.SoloDiff(x, begun.Solo, guest, 200), noDiff(), "guest ", guest, " of ", p, " alone")
				lonely++
			}
		}
	}
	if lonely < 150 {
		t.Errorf("%d are lonely", lonely)
	}
}

// TestPromiseOfLanes asks that what a reader sees of a lane is what its writer left there, behind each step, and that its words come to the reader's registers.
func TestPromiseOfLanes(t *testing.T) {
	lanes, loads := 0, 0
	for _, p := range append(talkingPolicies(), threeGuests(), twoGuests()) {
		x := talkHost(p)
		for range 60 {
			for k, l := range p.Lanes {
				left := impl.SoloWords(impl.SoloFrom(x, l.From).Solo, l.AtFrom)
				askWords(t, impl.SoloWords(impl.SoloFrom(x, l.To).Solo, l.AtTo), left, "lane ", k, " of ", p, " at ", x.Clock)
				askWords(t, impl.LaneWords(p, x.Memory, int64(k)), left, "the words of lane ", k, " of ", p, " at ", x.Clock)
				if slices.Max(left.List) > 0 {
					lanes++
				}
				// The reader loads the word that the writer left.
				h := x.Harts[l.To]
				next := impl.NextIns(h, mapIn(p, l.To), x.Memory)
				if impl.TurnAt(p, x.Clock).Slot.Guest == l.To && next.Ins == (impl.Ins{Op: impl.OpLoad, D: 2, A: 0, Imm: 8*l.AtTo + 2}) {
					if got := impl.StepHost(x).Host.Harts[l.To].Regs[2]; got != left.List[2] {
						t.Fatalf("the reader of lane %d of %v loads %d, not %d", k, p, got, left.List[2])
					}
					loads++
				}
			}
			x = impl.StepHost(x).Host
		}
	}
	if lanes < 1000 || loads < 200 {
		t.Errorf("%d lanes with words, %d loads", lanes, loads)
	}
}

// twinAnswer is what a call answers, whatever it is: a host, a lonely machine, a list, or what can be told as a text.
type twinAnswer struct {
	host  impl.HostResult
	alone impl.SoloResult
	list  impl.IntsResult
	said  string
}

func cloneTwinAnswer(a twinAnswer) twinAnswer {
	a.host.Host, a.alone.Solo, a.list.List = cloneHost(a.host.Host), cloneSolo(a.alone.Solo), slices.Clone(a.list.List)
	return a
}

func askTwinAnswer(t *testing.T, got, want twinAnswer, what ...any) {
	t.Helper()
	askHost(t, got.host, want.host, what...)
	askSolo(t, got.alone, want.alone, what...)
	askWords(t, got.list, want.list, what...)
	if got.said != want.said {
		t.Fatalf("%s: %s, not %s", fmt.Sprint(what...), got.said, want.said)
	}
}

// askTwinApart writes into the lists of an answer, one behind the other, and asks that no other one of them is another one then.
func askTwinApart(t *testing.T, a twinAnswer, what ...any) {
	t.Helper()
	askHostApart(t, a.host.Host, what...)
	askSoloApart(t, a.alone.Solo, what...)
	turnAll(a.list.List[:cap(a.list.List)])
}

type twinCall struct {
	name string
	do   func(x twinned) twinAnswer
}

func twinCalls() []twinCall {
	said := func(x impl.DiffResult) twinAnswer { return twinAnswer{said: fmt.Sprint(x)} }
	return []twinCall{
		{"TwinHost", func(x twinned) twinAnswer {
			return twinAnswer{host: impl.TwinHost(x.a.Policy, x.images, x.inputs, x.guest, x.image, x.input)}
		}},
		{"FirstDiff", func(x twinned) twinAnswer { return said(impl.FirstDiff(x.a, x.b, x.guest, x.n)) }},
		{"FirstDiff of one host", func(x twinned) twinAnswer { return said(impl.FirstDiff(x.a, x.a, x.guest, x.n)) }},
		{"SoloDiff", func(x twinned) twinAnswer { return said(impl.SoloDiff(x.a, x.alone, x.guest, x.n)) }},
		{"SoloDiff of the other host", func(x twinned) twinAnswer { return said(impl.SoloDiff(x.b, x.alone, x.guest, x.n)) }},
		{"SoloFrom", func(x twinned) twinAnswer { return twinAnswer{alone: impl.SoloFrom(x.a, x.guest)} }},
		{"TraceOf", func(x twinned) twinAnswer { return twinAnswer{list: impl.TraceOf(x.a, x.n)} }},
	}
}

func cloneTwinned(x twinned) twinned {
	x.a, x.b, x.alone = cloneHost(x.a), cloneHost(x.b), cloneSolo(x.alone)
	x.images, x.inputs, x.image, x.input = cloneLists(x.images), cloneLists(x.inputs), slices.Clone(x.image), slices.Clone(x.input)
	return x
}

// someTwinned are arguments of all kinds: hosts with another one that is nearly the same, lonely machines that are as a guest and such as are not, images and inputs that may be booted and such as may not.
func someTwinned(hosts []impl.Host) []twinned {
	next := steadyNext(163)
	solos := goodSolos()
	var list []twinned
	for k, a := range hosts {
		x := twinned{a: a, b: a, alone: solos[k%len(solos)], guest: next(5) - 1, n: []int64{0, 1, 5, 30, 201}[next(5)]}
		x.images, x.inputs = [][]int64{wideWords(k%50, 2), nil, {7}}, [][]int64{nil, queueOf(k%43, 1), {}}
		x.image, x.input = wideWords(k%20, 5), queueOf(k%42, 9)
		if hostFaultIn(a) == 0 {
			twists := hostTwists(a, next)
			x.b, x.guest = twists[k%len(twists)], next(int64(len(a.Policy.Own)))
			x.images, x.inputs = imagesFor(a.Policy)[k%10], bootInputs(len(a.Policy.Own))[k%20]
			if k%3 > 0 {
				x.alone, x.inputs = soloFromIn(a, x.guest).Solo, slices.Repeat([][]int64{{1, 2}}, len(a.Policy.Own))
				x.image, x.input = wideWords(8, 5), []int64{3, 4, 5}
			}
		}
		list = append(list, x)
	}
	return list
}

// roomyTwinned has room behind each of its lists; whole has what stands there.
func roomyTwinned(x twinned) (roomed, whole twinned) {
	roomed, whole = x, x
	roomed.a, whole.a = roomyHost(x.a)
	roomed.b, whole.b = roomyHost(x.b)
	roomed.alone, whole.alone = roomySolo(x.alone)
	var behind [][]int64
	roomed.images, behind, whole.images = withRoomInside(x.images, 77)
	whole.images = append(whole.images, behind[len(x.images):]...)
	roomed.inputs, behind, whole.inputs = withRoomInside(x.inputs, 77)
	whole.inputs = append(whole.inputs, behind[len(x.inputs):]...)
	roomed.image, whole.image = roomy(x.image)
	roomed.input, whole.input = roomy(x.input)
	return roomed, whole
}

// askTwinnedKept asks that all arguments, with the room behind their lists, are as they were.
func askTwinnedKept(t *testing.T, given, x, whole, before twinned, what ...any) {
	t.Helper()
	askHostKept(t, given.a, x.a, whole.a, before.a, what...)
	askHostKept(t, given.b, x.b, whole.b, before.b, what...)
	if !sameSolo(given.alone, x.alone) || !sameSolo(whole.alone, before.alone) {
		t.Fatalf("%s changes %v", fmt.Sprint(what...), x.alone)
	}
	if !sameLists(given.images, x.images) || !sameLists(whole.images, before.images) || !sameLists(given.inputs, x.inputs) || !sameLists(whole.inputs, before.inputs) {
		t.Fatalf("%s changes %v or %v", fmt.Sprint(what...), x.images, x.inputs)
	}
	if !slices.Equal(given.image, x.image) || !slices.Equal(whole.image, before.image) || !slices.Equal(given.input, x.input) || !slices.Equal(whole.input, before.input) {
		t.Fatalf("%s changes %v or %v", fmt.Sprint(what...), x.image, x.input)
	}
}

func turnTwinned(x twinned) {
	for _, y := range []impl.Host{x.a, x.b} {
		turnHost(y)
		clear(y.Policy.Own)
		clear(y.Harts)
	}
	turnSolo(x.alone)
	for _, list := range slices.Concat(x.images, x.inputs, [][]int64{x.image, x.input}) {
		turnAll(list[:cap(list)])
	}
	clear(x.images)
	clear(x.inputs)
}

func TestTwinCallsChangeNothing(t *testing.T) {
	hosts := twinHosts()
	for k, bad := range someBadHosts() {
		if k%8 == 0 {
			hosts = append(hosts, bad.x)
		}
	}
	for _, x := range someTwinned(hosts) {
		given, whole := roomyTwinned(x)
		before := cloneTwinned(whole)
		for _, call := range twinCalls() {
			call.do(given)
			askTwinnedKept(t, given, x, whole, before, call.name)
		}
	}
}

// TestTwinAnswersAreNew asks that a write into an answer is seen nowhere else, nor one into an argument in the answer.
func TestTwinAnswersAreNew(t *testing.T) {
	booted, seen, turns := 0, 0, 0
	for _, x := range someTwinned(twinHosts()) {
		for _, call := range twinCalls() {
			got := askNewTwin(t, call, x)
			booted, seen, turns = booted+len(got.host.Host.Harts), seen+len(got.alone.Solo.Memory), turns+len(got.list.List)
		}
	}
	if booted < 300 || seen < 3000 || turns < 300 {
		t.Errorf("%d guests are booted, %d words seen, %d turns told", booted, seen, turns)
	}
}

func askNewTwin(t *testing.T, call twinCall, x twinned) twinAnswer {
	t.Helper()
	x = cloneTwinned(x)
	given, whole := roomyTwinned(x)
	before := cloneTwinned(whole)
	first, second := call.do(given), call.do(given)
	want := cloneTwinAnswer(second)
	askTwinAnswer(t, first, want, "asked at once again: ", call.name)
	askTwinApart(t, first, call.name)
	askTwinnedKept(t, given, x, whole, before, "a write into what ", call.name, " answers")
	askTwinAnswer(t, second, want, "behind a write into another answer: ", call.name)
	third := call.do(given)
	askTwinAnswer(t, third, want, "asked again: ", call.name)
	turnTwinned(given)
	turnTwinned(whole)
	askTwinAnswer(t, second, want, "behind a write into the arguments: ", call.name)
	askTwinAnswer(t, third, want, "behind a write into the arguments: ", call.name)
	return want
}

// TestTwinsOfSharedArguments asks of lists that are pieces of one another, and of one host that is told twice.
func TestTwinsOfSharedArguments(t *testing.T) {
	m := make([]int64, 192)
	copy(m, []int64{0, op(14, 1, 0, 57), op(15, 1, 0, 56), op(15, 0, 0, 61), op(19, 0, 0, 65533), 0, 0, 3})
	h := impl.Hart{Regs: m[32:48], Csr: m[48:59], In: m[:5], Out: m[1:4], Pc: 1}
	p := impl.Policy{Own: [][]int64{m[:1], m[7:8], {7}}, Lanes: []impl.Lane{lane(0, 1, 10, 5, 5), lane(1, 2, 9, 6, 6)}, Bells: []impl.Bell{bell(0, 1)}, Plan: []impl.Slot{slot(0, 2), slot(1, 1)}}
	host := hostIn(p, 1, m, h, h, h)
	for guest := range int64(3) {
		x := twinned{a: host, b: host, alone: impl.Solo{Hart: h, Pages: itselfPages(), Memory: m[:64]}, images: [][]int64{m[:8], m[:8], m[4:8]}, inputs: [][]int64{m[:40], m[:9], m[:0]}, image: m[:8], input: m[:7], guest: guest, n: 40}
		before := cloneTwinned(x)
		for _, call := range twinCalls() {
			want, got := call.do(cloneTwinned(before)), call.do(x)
			askTwinAnswer(t, got, want, call.name, " of lists in one memory")
			askTwinApart(t, got, call.name, " of lists in one memory")
			if !sameHost(x.a, before.a) || !sameSolo(x.alone, before.alone) || !sameLists(x.images, before.images) || !sameLists(x.inputs, before.inputs) {
				t.Fatalf("%s, or a write into its answer, changes lists in one memory", call.name)
			}
			if want.host.Code != impl.OK || want.alone.Code != impl.OK || want.list.Code != impl.OK {
				t.Fatalf("%s of lists in one memory: %v", call.name, want)
			}
		}
		askDiff(t, impl.FirstDiff(host, host, guest, 40), noDiff(), "a host on one memory, told twice")
	}
}

// TestTwinsOfNilLists asks that an empty list and nil are the same.
func TestTwinsOfNilLists(t *testing.T) {
	bare, empty := countedHost(looseGuests(), 3), countedHost(looseGuests(), 3)
	bare.Policy.Lanes, bare.Policy.Bells, empty.Policy.Lanes, empty.Policy.Bells = nil, nil, []impl.Lane{}, []impl.Bell{}
	for k := range bare.Harts {
		bare.Harts[k].In, bare.Harts[k].Out, empty.Harts[k].In, empty.Harts[k].Out = nil, nil, []int64{}, []int64{}
	}
	nils, empties := make([][]int64, 3), [][]int64{{}, {}, {}}
	for guest := range int64(3) {
		x := twinned{a: bare, b: empty, alone: impl.SoloFrom(empty, guest).Solo, images: nils, inputs: nils, guest: guest, n: 20}
		y := twinned{a: empty, b: bare, alone: impl.SoloFrom(bare, guest).Solo, images: empties, inputs: empties, image: []int64{}, input: []int64{}, guest: guest, n: 20}
		for _, call := range twinCalls() {
			askTwinAnswer(t, call.do(y), call.do(x), call.name, " of empty lists")
		}
		askDiff(t, impl.FirstDiff(bare, empty, guest, 200), noDiff(), "nil and empty lists")
		askDiff(t, impl.SoloDiff(bare, x.alone, guest, 200), noDiff(), "nil and empty lists alone")
	}
	none := twinned{}
	for _, call := range twinCalls() {
		got := call.do(none)
		if got.host.Code+got.alone.Code+got.list.Code == 0 && got.said != "{2 0 false}" {
			t.Errorf("%s of nothing: %v", call.name, got)
		}
	}
}

// TestTwinsHangOnTheirArgumentsAlone asks all once more, from the last one on: what was kept from a call would show.
func TestTwinsHangOnTheirArgumentsAlone(t *testing.T) {
	hosts := twinHosts()
	for k, bad := range someBadHosts() {
		if k%15 == 0 {
			hosts = append(hosts, bad.x)
		}
	}
	all := someTwinned(hosts)
	ask := func(n int) string {
		var said []string
		for _, call := range twinCalls() {
			said = append(said, fmt.Sprint(call.do(all[n])))
		}
		return strings.Join(said, " ")
	}
	var said []string
	for n := range all {
		said = append(said, ask(n))
	}
	for n := len(said) - 1; n >= 0; n-- {
		if got := ask(n); got != said[n] {
			t.Fatalf("first %s, then %s", said[n], got)
		}
	}
}
