package tests

import (
	"fmt"
	"math"
	"math/big"
	"slices"
	"testing"

	"loop.example/g00213/impl"
)

func cloneHart(h impl.Hart) impl.Hart {
	h.Regs, h.Csr = slices.Clone(h.Regs), slices.Clone(h.Csr)
	h.In, h.Out = slices.Clone(h.In), slices.Clone(h.Out)
	return h
}

func sameHart(a, b impl.Hart) bool {
	return slices.Equal(a.Regs, b.Regs) && slices.Equal(a.Csr, b.Csr) && slices.Equal(a.In, b.In) && slices.Equal(a.Out, b.Out) &&
		a.Pc == b.Pc && a.Done == b.Done && a.Halted == b.Halted && a.Waiting == b.Waiting && a.Rung == b.Rung
}

func sameHarts(a, b impl.HartResult) bool {
	return a.Code == b.Code && sameHart(a.Hart, b.Hart)
}

func askHart(t *testing.T, got, want impl.HartResult, what ...any) {
	t.Helper()
	if !sameHarts(got, want) {
		t.Fatalf("%s: %v, not %v", fmt.Sprint(what...), got, want)
	}
}

func askInt(t *testing.T, got, want impl.IntResult, what ...any) {
	t.Helper()
	if got != want {
		t.Fatalf("%s: %v, not %v", fmt.Sprint(what...), got, want)
	}
}

// The functions that end in In go through what the document says, word by word.
func hartFaultIn(h impl.Hart) int64 {
	if len(h.Regs) != 16 || len(h.Csr) != 11 || h.Regs[0] != 0 {
		return impl.ErrForm
	}
	all := slices.Concat(h.Regs, []int64{h.Pc}, h.Csr, h.In, h.Out)
	if slices.Min(all) < 0 || slices.Max(all) > 4294967295 {
		return impl.ErrRange
	}
	if max(len(h.In), len(h.Out)) > 40 {
		return impl.ErrMany
	}
	if !within(h.Done, 1e9) {
		return impl.ErrRange
	}
	if h.Csr[0] > 3 || h.Csr[7] > 7 || h.Csr[10] > 8 || h.Csr[6] != 0 || h.Csr[8] != 0 {
		return impl.ErrForm
	}
	return impl.OK
}

func newHartIn(input ...int64) impl.Hart {
	return impl.Hart{Regs: make([]int64, 16), Csr: make([]int64, 11), In: slices.Clone(input)}
}

func pendingIn(h impl.Hart) int64 {
	told := [3]bool{h.Csr[9] > 0 && h.Csr[9] <= h.Done, h.Rung, len(h.In) != 0}
	var sum int64
	for k, is := range told {
		if is {
			sum += int64(math.Pow(2, float64(k)))
		}
	}
	return sum
}

func dueIn(h impl.Hart) impl.IntResult {
	pending, mask := pendingIn(h), h.Csr[7]
	for k := range int64(3) {
		if h.Csr[0]%2 == 1 && pending%2 == 1 && mask%2 == 1 {
			return impl.IntResult{Value: k}
		}
		pending, mask = pending/2, mask/2
	}
	return impl.IntResult{Code: impl.ErrNone}
}

func csrIn(h impl.Hart, k int64) impl.IntResult {
	if !within(k, 10) {
		return impl.IntResult{Code: impl.ErrRange}
	}
	told := slices.Clone(h.Csr)
	told[6], told[8] = pendingIn(h), h.Done
	return impl.IntResult{Value: told[k]}
}

func withCsrIn(h impl.Hart, k, w int64) impl.HartResult {
	if !within(k, 10) {
		return impl.HartResult{Code: impl.ErrRange}
	}
	h, w = cloneHart(h), wordIn(big.NewInt(w))
	switch k {
	case 0:
		h.Csr[k] = w % 4
	case 7:
		h.Csr[k] = w % 8
	case 10:
		if h.Csr[k] = w; w > 8 {
			h.Csr[k] = 0
		}
	case 6:
		if left := w % 4; left == 2 || left == 3 {
			h.Rung = false
		}
	case 8:
	default:
		h.Csr[k] = w
	}
	return impl.HartResult{Hart: h}
}

func trapIn(h impl.Hart, cause, tval int64) impl.HartResult {
	if !within(cause, 31) || !within(tval, impl.WordTop) {
		return impl.HartResult{Code: impl.ErrRange}
	}
	h = cloneHart(h)
	h.Csr[2], h.Csr[3], h.Csr[4] = h.Pc, cause, tval
	h.Csr[0] = []int64{0, 2, 0, 2}[h.Csr[0]]
	h.Pc, h.Waiting = h.Csr[1], false
	return impl.HartResult{Hart: h}
}

func backIn(h impl.Hart) impl.HartResult {
	h = cloneHart(h)
	h.Pc, h.Csr[0] = h.Csr[2], []int64{2, 2, 3, 3}[h.Csr[0]]
	return impl.HartResult{Hart: h}
}

// countedHart has another number in each of its places, and a fault in none.
func countedHart() impl.Hart {
	h := newHartIn(901, 902, 903, 904, 905)
	for k := range h.Regs[1:] {
		h.Regs[k+1] = int64(k) + 101
	}
	h.Pc, h.Done = 33, 700
	h.Csr = []int64{1, 201, 202, 203, 204, 205, 0, 5, 0, 209, 6}
	h.Out = []int64{801, 802, 803, 804}
	return h
}

// queueOf are so many words, none like the next one.
func queueOf(size int, from int64) []int64 {
	var list []int64
	for k := range int64(size) {
		list = append(list, from+k)
	}
	return list
}

// mixedHarts have no fault; told by a steady count.
func mixedHarts(many int) []impl.Hart {
	seed := uint64(311)
	next := func(n int64) int64 {
		seed = seed*6364136223846793005 + 1442695040888963407
		return int64(seed>>31) % n
	}
	word := func() int64 {
		return []int64{0, 1, next(64), next(1 << 32), impl.WordTop}[next(5)]
	}
	var list []impl.Hart
	for range many {
		h := newHartIn()
		for k := range h.Regs[1:] {
			h.Regs[k+1] = word()
		}
		for _, k := range []int{1, 2, 3, 4, 5, 9} {
			h.Csr[k] = word()
		}
		h.Csr[0], h.Csr[7], h.Csr[10] = next(4), next(8), next(9)
		h.Pc, h.Done = word(), []int64{0, next(64), next(1e9), 1e9}[next(4)]
		h.Halted, h.Waiting, h.Rung = next(4) == 0, next(3) == 0, next(2) == 0
		for range []int64{0, 0, 1, next(41), 40}[next(5)] {
			h.In = append(h.In, word())
		}
		for range []int64{0, 1, next(41), 40}[next(4)] {
			h.Out = append(h.Out, word())
		}
		list = append(list, h)
	}
	return list
}

// edgeHarts are at the bounds of what a machine may have, one thing at a time.
func edgeHarts() []impl.Hart {
	var list []impl.Hart
	with := func(edit func(h *impl.Hart)) {
		for _, h := range []impl.Hart{newHartIn(), countedHart()} {
			edit(&h)
			list = append(list, h)
		}
	}
	for _, w := range []int64{0, impl.WordTop} {
		for k := 1; k < 16; k++ {
			with(func(h *impl.Hart) { h.Regs[k] = w })
		}
		for _, k := range []int{1, 2, 3, 4, 5, 9} {
			with(func(h *impl.Hart) { h.Csr[k] = w })
		}
		with(func(h *impl.Hart) { h.Pc = w })
		with(func(h *impl.Hart) { h.In = []int64{w} })
		with(func(h *impl.Hart) { h.Out = []int64{w} })
	}
	for _, size := range []int{0, 1, 39, 40} {
		with(func(h *impl.Hart) { h.In = queueOf(size, 50) })
		with(func(h *impl.Hart) { h.Out = queueOf(size, 60) })
		with(func(h *impl.Hart) { h.In, h.Out = queueOf(size, 50), queueOf(size, 60) })
	}
	for _, done := range []int64{0, 1, 1e9 - 1, 1e9} {
		with(func(h *impl.Hart) { h.Done = done })
	}
	for w := range int64(9) {
		with(func(h *impl.Hart) { h.Csr[0] = w % 4 })
		with(func(h *impl.Hart) { h.Csr[7] = w % 8 })
		with(func(h *impl.Hart) { h.Csr[10] = w })
	}
	for flags := range 8 {
		with(func(h *impl.Hart) { h.Halted, h.Waiting, h.Rung = flags&1 != 0, flags&2 != 0, flags&4 != 0 })
	}
	with(func(h *impl.Hart) { h.In, h.Out = []int64{}, []int64{} })
	with(func(h *impl.Hart) { h.In, h.Out = nil, nil })
	return list
}

func goodHarts() []impl.Hart {
	list := slices.Concat(edgeHarts(), mixedHarts(60))
	for _, h := range []impl.Hart{newHartIn(7), countedHart()} {
		list = append(list, trapIn(h, 18, 5).Hart, backIn(trapIn(h, 3, 0).Hart).Hart, trapIn(trapIn(h, 0, impl.WordTop).Hart, 31, 0).Hart)
	}
	return list
}

// hartEdit makes a fault; those of a lower order are told ahead of the others.
type hartEdit struct {
	order int
	fault int64
	name  string
	do    func(h *impl.Hart)
}

// hartEdits may be done one upon another, the one of the lower order behind.
func hartEdits() []hartEdit {
	var list []hartEdit
	add := func(order int, fault int64, name string, do func(h *impl.Hart)) {
		list = append(list, hartEdit{order, fault, name, do})
	}
	for _, size := range []int{0, 1, 15, 17, 32} {
		add(1, impl.ErrForm, fmt.Sprint("Regs of ", size), func(h *impl.Hart) { h.Regs = append(h.Regs, make([]int64, 16)...)[:size] })
	}
	for _, size := range []int{0, 1, 10, 12, 22} {
		add(1, impl.ErrForm, fmt.Sprint("Csr of ", size), func(h *impl.Hart) { h.Csr = append(h.Csr, make([]int64, 11)...)[:size] })
	}
	add(1, impl.ErrForm, "no Regs", func(h *impl.Hart) { h.Regs = nil })
	add(1, impl.ErrForm, "no Csr", func(h *impl.Hart) { h.Csr = nil })
	for _, w := range []int64{1, -1, impl.WordTop, impl.WordTop + 1, math.MinInt64, math.MaxInt64} {
		add(1, impl.ErrForm, fmt.Sprint("the first of Regs ", w), func(h *impl.Hart) { h.Regs[0] = w })
	}
	for _, w := range []int64{-1, impl.WordTop + 1, math.MinInt64, math.MaxInt64} {
		for k := 1; k < 16; k++ {
			add(2, impl.ErrRange, fmt.Sprint("reg ", k, " ", w), func(h *impl.Hart) { h.Regs[k] = w })
		}
		for k := range 11 {
			add(2, impl.ErrRange, fmt.Sprint("csr ", k, " ", w), func(h *impl.Hart) { h.Csr[k] = w })
		}
		add(2, impl.ErrRange, fmt.Sprint("pc ", w), func(h *impl.Hart) { h.Pc = w })
		add(2, impl.ErrRange, fmt.Sprint("first of In ", w), func(h *impl.Hart) { h.In[0] = w })
		add(2, impl.ErrRange, fmt.Sprint("last of In ", w), func(h *impl.Hart) { h.In[len(h.In)-1] = w })
		add(2, impl.ErrRange, fmt.Sprint("first of Out ", w), func(h *impl.Hart) { h.Out[0] = w })
		add(2, impl.ErrRange, fmt.Sprint("last of Out ", w), func(h *impl.Hart) { h.Out[len(h.Out)-1] = w })
	}
	for _, size := range []int{41, 42, 1000} {
		add(3, impl.ErrMany, fmt.Sprint("In of ", size), func(h *impl.Hart) { h.In = queueOf(size, 1) })
		add(3, impl.ErrMany, fmt.Sprint("Out of ", size), func(h *impl.Hart) { h.Out = queueOf(size, 1) })
	}
	for _, done := range []int64{-1, 1e9 + 1, math.MinInt64, math.MaxInt64, 1 << 32} {
		add(4, impl.ErrRange, fmt.Sprint("done ", done), func(h *impl.Hart) { h.Done = done })
	}
	for _, x := range [][]int64{{0, 4, 5, 8}, {7, 8, 9, 16}, {10, 9, 10, 18}, {6, 1, 2, 4, 8}, {8, 1, 2, 700}} {
		for _, w := range append(x[1:], 1<<31, impl.WordTop) {
			add(5, impl.ErrForm, fmt.Sprint("csr ", x[0], " ", w), func(h *impl.Hart) { h.Csr[x[0]] = w })
		}
	}
	return list
}

type badHart struct {
	h     impl.Hart
	fault int64
}

func someBadHarts() []badHart {
	list := []badHart{{impl.Hart{}, impl.ErrForm}, {impl.Hart{Halted: true, Pc: -1}, impl.ErrForm}}
	for _, x := range hartEdits() {
		h := countedHart()
		x.do(&h)
		list = append(list, badHart{h, x.fault})
	}
	return list
}

func TestHartFault(t *testing.T) {
	for _, h := range goodHarts() {
		if got := impl.HartFault(h); got != impl.OK || hartFaultIn(h) != impl.OK {
			t.Fatalf("HartFault of %v: %d", h, got)
		}
	}
	for _, x := range someBadHarts() {
		if got := impl.HartFault(x.h); got != x.fault || hartFaultIn(x.h) != x.fault {
			t.Fatalf("HartFault of %v: %d, not %d", x.h, got, x.fault)
		}
	}
}

func TestHartFaultOfTwoFaults(t *testing.T) {
	for _, first := range hartEdits() {
		for _, second := range hartEdits() {
			if first.order >= second.order {
				continue
			}
			h := countedHart()
			second.do(&h)
			first.do(&h)
			if got := impl.HartFault(h); got != first.fault || hartFaultIn(h) != first.fault {
				t.Fatalf("HartFault with %s and %s: %d, not %d", first.name, second.name, got, first.fault)
			}
		}
	}
}

func TestHartFaultOfTwoFaultsByHand(t *testing.T) {
	table := []struct {
		name string
		edit func(h *impl.Hart)
		want int64
	}{
		{"15 Regs, and one no word", func(h *impl.Hart) { h.Regs, h.Regs[3] = h.Regs[:15], -1 }, impl.ErrForm},
		{"10 Csr, and Pc no word", func(h *impl.Hart) { h.Csr, h.Pc = h.Csr[:10], -1 }, impl.ErrForm},
		{"12 Csr, 41 words In, Done too great", func(h *impl.Hart) { h.Csr, h.In, h.Done = make([]int64, 12), queueOf(41, 0), 1e9+1 }, impl.ErrForm},
		{"the last of 41 words In is none", func(h *impl.Hart) { h.In = append(queueOf(40, 0), -1) }, impl.ErrRange},
		{"the last of 41 words Out is none", func(h *impl.Hart) { h.Out = append(queueOf(40, 0), impl.WordTop+1) }, impl.ErrRange},
		{"41 words In, the last word of Out is none", func(h *impl.Hart) { h.In, h.Out = queueOf(41, 0), []int64{0, -1} }, impl.ErrRange},
		{"41 words Out, status no word", func(h *impl.Hart) { h.Out, h.Csr[0] = queueOf(41, 0), -1 }, impl.ErrRange},
		{"41 words In, Done below 0", func(h *impl.Hart) { h.In, h.Done = queueOf(41, 0), -1 }, impl.ErrMany},
		{"41 words Out, Done too great", func(h *impl.Hart) { h.Out, h.Done = queueOf(41, 0), 1e9+1 }, impl.ErrMany},
		{"41 words Out, status 4", func(h *impl.Hart) { h.Out, h.Csr[0] = queueOf(41, 0), 4 }, impl.ErrMany},
		{"Done too great, table 9", func(h *impl.Hart) { h.Done, h.Csr[10] = 1e9+1, 9 }, impl.ErrRange},
		{"Done below 0, pending 1", func(h *impl.Hart) { h.Done, h.Csr[6] = -1, 1 }, impl.ErrRange},
		{"status 4, time 1, mask 8", func(h *impl.Hart) { h.Csr[0], h.Csr[8], h.Csr[7] = 4, 1, 8 }, impl.ErrForm},
		{"80 words", func(h *impl.Hart) { h.In, h.Out = queueOf(40, 0), queueOf(40, 0) }, impl.OK},
	}
	for _, x := range table {
		h := countedHart()
		x.edit(&h)
		if got := impl.HartFault(h); got != x.want {
			t.Errorf("HartFault with %s: %d, not %d", x.name, got, x.want)
		}
	}
}

func TestNewHart(t *testing.T) {
	lists := [][]int64{nil, {}, {0}, {impl.WordTop}, {7, 7, 0, impl.WordTop}, queueOf(39, 3), queueOf(40, 3)}
	for _, words := range lists {
		got := impl.NewHart(words)
		askHart(t, got, impl.HartResult{Hart: newHartIn(words...)}, "NewHart of ", words)
		if impl.HartFault(got.Hart) != impl.OK {
			t.Errorf("NewHart of %v has a fault", words)
		}
	}
	got := impl.NewHart([]int64{5}).Hart
	if len(got.Regs) != 16 || len(got.Csr) != 11 || len(got.In) != 1 || got.In[0] != 5 || len(got.Out) != 0 {
		t.Errorf("NewHart of one word: %v", got)
	}
}

func TestNewHartOfWrongWords(t *testing.T) {
	for _, size := range []int{41, 42, 1000} {
		askHart(t, impl.NewHart(queueOf(size, 0)), impl.HartResult{Code: impl.ErrMany}, "NewHart of words, ", size)
	}
	for _, w := range []int64{-1, impl.WordTop + 1, math.MinInt64, math.MaxInt64} {
		for _, size := range []int{1, 2, 39, 40, 41, 100} {
			for _, at := range []int{0, size / 2, size - 1} {
				words, want := queueOf(size, 9), int64(impl.ErrRange)
				if words[at] = w; size > 40 {
					want = impl.ErrMany
				}
				askHart(t, impl.NewHart(words), impl.HartResult{Code: want}, "NewHart of ", words)
			}
		}
	}
}

func csrNumbers() []int64 {
	return []int64{math.MinInt64, -1 << 32, -1, 0, 1, 2, 3, 4, 5, 6, 7, 8, 9, 10, 11, 12, 1 << 32, math.MaxInt64}
}

// setNumbers are words near all that is left of them, and numbers that are wrapped.
func setNumbers() []int64 {
	list := append(queueOf(20, 0), edgeNumbers()...)
	return append(list, 1<<32+8, 1<<32+9, -1<<32+2, 1<<33+3, impl.WordTop-4)
}

func TestGetCsr(t *testing.T) {
	for _, h := range goodHarts() {
		for _, k := range csrNumbers() {
			askInt(t, impl.GetCsr(h, k), csrIn(h, k), "GetCsr ", k, " of ", h)
		}
	}
	h := countedHart()
	h.Rung = true
	for k, want := range []int64{1, 201, 202, 203, 204, 205, 7, 5, 700, 209, 6} {
		askInt(t, impl.GetCsr(h, int64(k)), impl.IntResult{Value: want}, "GetCsr ", k)
	}
	for _, k := range []int64{math.MinInt64, -1, 11, math.MaxInt64} {
		askInt(t, impl.GetCsr(h, k), impl.IntResult{Code: impl.ErrRange}, "GetCsr ", k)
	}
}

func TestSetCsr(t *testing.T) {
	for _, h := range goodHarts() {
		for _, k := range csrNumbers() {
			for _, w := range setNumbers() {
				got := impl.SetCsr(h, k, w)
				askHart(t, got, withCsrIn(h, k, w), "SetCsr ", k, " to ", w, " of ", h)
				if got.Code == impl.OK && impl.HartFault(got.Hart) != impl.OK {
					t.Fatalf("SetCsr %d to %d of %v has a fault", k, w, h)
				}
			}
		}
	}
}

// TestSetCsrByHand tells what is got behind a set, of a machine of which all else stays.
func TestSetCsrByHand(t *testing.T) {
	const top, least, most = impl.WordTop, math.MinInt64, math.MaxInt64
	table := []struct{ k, w, got int64 }{
		{0, 0, 0}, {0, 1, 1}, {0, 2, 2}, {0, 3, 3}, {0, 4, 0}, {0, 5, 1}, {0, 8, 0}, {0, -1, 3}, {0, -2, 2}, {0, top, 3}, {0, top + 1, 0}, {0, top + 2, 1}, {0, least, 0}, {0, most, 3},
		{7, 0, 0}, {7, 1, 1}, {7, 6, 6}, {7, 7, 7}, {7, 8, 0}, {7, 9, 1}, {7, 15, 7}, {7, -1, 7}, {7, -8, 0}, {7, top, 7}, {7, top + 1, 0}, {7, least, 0}, {7, most, 7},
		{10, 0, 0}, {10, 1, 1}, {10, 7, 7}, {10, 8, 8}, {10, 9, 0}, {10, 10, 0}, {10, 16, 0}, {10, -1, 0}, {10, top, 0}, {10, top + 1, 0}, {10, top + 9, 8}, {10, top + 10, 0}, {10, least, 0}, {10, most, 0},
		{1, 5, 5}, {1, -1, top}, {1, top + 1, 0}, {2, 77, 77}, {2, -2, top - 1}, {3, 32, 32}, {3, top, top}, {4, least, 0}, {4, 9, 9}, {5, most, top}, {5, 12, 12}, {9, 1, 1}, {9, -1, top}, {9, top + 8, 7},
		{8, 0, 700}, {8, 1, 700}, {8, -1, 700}, {8, 1e9, 700}, {8, top + 1, 700}, {8, least, 700},
	}
	for _, x := range table {
		h := countedHart()
		got := impl.SetCsr(h, x.k, x.w)
		askInt(t, impl.GetCsr(got.Hart, x.k), impl.IntResult{Value: x.got}, "GetCsr behind SetCsr ", x.k, " to ", x.w)
		if x.k != 8 {
			h.Csr[x.k] = x.got
		}
		askHart(t, got, impl.HartResult{Hart: h}, "SetCsr ", x.k, " to ", x.w)
	}
}

func TestSetCsrOfPending(t *testing.T) {
	rests := map[int64]bool{0: false, 1: false, 2: true, 3: true, 4: false, 5: false, 6: true, 7: true, 8: false, -1: true, -2: true, -3: false, -4: false,
		impl.WordTop: true, impl.WordTop - 1: true, impl.WordTop - 2: false, impl.WordTop + 1: false, impl.WordTop + 2: false, impl.WordTop + 3: true, math.MinInt64: false, math.MaxInt64: true}
	for _, rung := range []bool{false, true} {
		for w, ends := range rests {
			h := countedHart()
			h.Rung = rung
			want := cloneHart(h)
			want.Rung = rung && !ends
			got := impl.SetCsr(h, 6, w)
			askHart(t, got, impl.HartResult{Hart: want}, "SetCsr pending to ", w, " where Rung is ", rung)
			told := int64(5)
			if want.Rung {
				told = 7
			}
			askInt(t, impl.GetCsr(got.Hart, 6), impl.IntResult{Value: told}, "GetCsr behind SetCsr pending to ", w)
		}
	}
}

// TestWhatIsSetIsGot asks promise 9 of each csr: what may stand is got, and no other one is another one then.
func TestWhatIsSetIsGot(t *testing.T) {
	tops := map[int64]int64{0: 3, 1: impl.WordTop, 2: impl.WordTop, 3: impl.WordTop, 4: impl.WordTop, 5: impl.WordTop, 7: 7, 9: impl.WordTop, 10: 8}
	for _, h := range goodHarts() {
		for k, top := range tops {
			for _, w := range []int64{0, 1, 2, 3, 4, 7, 8, 9, 40, impl.WordTop} {
				if w > top {
					continue
				}
				set := impl.SetCsr(h, k, w).Hart
				askInt(t, impl.GetCsr(set, k), impl.IntResult{Value: w}, "GetCsr ", k, " behind SetCsr to ", w, " of ", h)
				for other := range int64(11) {
					// An alarm that is set is seen among what is pending.
					if other != k && (k != 9 || other != 6) {
						askInt(t, impl.GetCsr(set, other), impl.GetCsr(h, other), "GetCsr ", other, " behind SetCsr ", k, " to ", w)
					}
				}
				askHart(t, impl.SetCsr(set, k, h.Csr[k]), impl.HartResult{Hart: h}, "SetCsr ", k, " to ", w, " and back of ", h)
			}
		}
	}
}

// pendingHart is a machine of which nothing is told but what may be pending.
func pendingHart(alarm, done int64, rung bool, in int) impl.Hart {
	h := newHartIn(queueOf(in, 0)...)
	h.Csr[9], h.Done, h.Rung = alarm, done, rung
	return h
}

func TestPendingOfByHand(t *testing.T) {
	table := []struct {
		alarm, done int64
		rung        bool
		in          int
		want        int64
	}{
		{0, 0, false, 0, 0}, {0, 1, false, 0, 0}, {0, 1e9, false, 0, 0}, {1, 0, false, 0, 0}, {1, 1, false, 0, 1}, {1, 2, false, 0, 1},
		{700, 699, false, 0, 0}, {700, 700, false, 0, 1}, {700, 701, false, 0, 1}, {1e9, 1e9 - 1, false, 0, 0}, {1e9, 1e9, false, 0, 1}, {1e9 + 1, 1e9, false, 0, 0}, {impl.WordTop, 1e9, false, 0, 0},
		{0, 0, true, 0, 2}, {0, 5, true, 0, 2}, {6, 5, true, 0, 2}, {5, 5, true, 0, 3}, {4, 5, true, 0, 3},
		{0, 0, false, 1, 4}, {0, 0, false, 40, 4}, {6, 5, false, 1, 4}, {5, 5, false, 1, 5}, {4, 5, false, 40, 5},
		{0, 5, true, 1, 6}, {6, 5, true, 2, 6}, {5, 5, true, 1, 7}, {4, 5, true, 3, 7},
	}
	for _, x := range table {
		h := pendingHart(x.alarm, x.done, x.rung, x.in)
		askInt(t, impl.PendingOf(h), impl.IntResult{Value: x.want}, "PendingOf ", h)
	}
}

func TestDueOfByHand(t *testing.T) {
	const none = -1
	table := []struct{ pending, status, mask, want int64 }{
		{1, 1, 1, 0}, {2, 1, 2, 1}, {4, 1, 4, 2}, {1, 3, 1, 0}, {2, 3, 2, 1}, {4, 3, 4, 2},
		{3, 1, 7, 0}, {5, 1, 7, 0}, {6, 1, 7, 1}, {7, 1, 7, 0}, {7, 1, 6, 1}, {7, 1, 4, 2}, {7, 1, 5, 0}, {7, 3, 2, 1}, {5, 1, 6, 2}, {3, 1, 6, 1},
		{0, 1, 7, none}, {7, 1, 0, none}, {1, 1, 6, none}, {2, 1, 5, none}, {4, 1, 3, none}, {3, 1, 4, none}, {6, 3, 1, none},
		{7, 0, 7, none}, {7, 2, 7, none}, {1, 0, 1, none}, {4, 2, 4, none},
	}
	for _, x := range table {
		for flags := range 4 {
			h := pendingHart(x.pending%2*9, 9, x.pending/2%2 == 1, int(x.pending/4))
			h.Csr[0], h.Csr[7] = x.status, x.mask
			h.Waiting, h.Halted = flags&1 != 0, flags&2 != 0
			want := impl.IntResult{Value: x.want}
			if x.want == none {
				want = impl.IntResult{Code: impl.ErrNone}
			}
			askInt(t, impl.PendingOf(h), impl.IntResult{Value: x.pending}, "PendingOf ", h)
			askInt(t, impl.DueOf(h), want, "DueOf ", h)
		}
	}
}

// TestPendingAndDueOfAll asks all alarms, rung or not, with words or none, each status and each mask, waiting and halted or not.
func TestPendingAndDueOfAll(t *testing.T) {
	for _, done := range []int64{0, 1, 2, 700, 1e9} {
		for _, alarm := range []int64{0, 1, done - 1, done, done + 1, impl.WordTop} {
			for bits := range int64(4 * 8 * 16) {
				h := pendingHart(max(alarm, 0), done, bits&1 != 0, int(bits>>1&1)*3)
				h.Waiting, h.Halted = bits&4 != 0, bits&8 != 0
				h.Csr[0], h.Csr[7] = bits>>4&3, bits>>6
				askInt(t, impl.PendingOf(h), impl.IntResult{Value: pendingIn(h)}, "PendingOf ", h)
				askInt(t, impl.GetCsr(h, 6), impl.IntResult{Value: pendingIn(h)}, "GetCsr pending of ", h)
				askInt(t, impl.DueOf(h), dueIn(h), "DueOf ", h)
			}
		}
	}
	for _, h := range goodHarts() {
		askInt(t, impl.PendingOf(h), impl.IntResult{Value: pendingIn(h)}, "PendingOf ", h)
		askInt(t, impl.DueOf(h), dueIn(h), "DueOf ", h)
	}
}

func TestTrapHart(t *testing.T) {
	for _, h := range goodHarts() {
		for _, cause := range []int64{math.MinInt64, -1, 0, 1, 16, 30, 31, 32, 33, 1 << 32, math.MaxInt64} {
			for _, tval := range []int64{math.MinInt64, -1, 0, 1, impl.WordTop - 1, impl.WordTop, impl.WordTop + 1, math.MaxInt64} {
				got := impl.TrapHart(h, cause, tval)
				askHart(t, got, trapIn(h, cause, tval), "TrapHart with ", cause, " and ", tval, " of ", h)
				if got.Code == impl.OK && impl.HartFault(got.Hart) != impl.OK {
					t.Fatalf("TrapHart of %v has a fault", h)
				}
			}
		}
		got := impl.BackHart(h)
		askHart(t, got, backIn(h), "BackHart of ", h)
		if impl.HartFault(got.Hart) != impl.OK {
			t.Fatalf("BackHart of %v has a fault", h)
		}
	}
}

func TestTrapHartByHand(t *testing.T) {
	for status, want := range []int64{0, 2, 0, 2} {
		for flags := range 8 {
			h := countedHart()
			h.Csr[0], h.Waiting, h.Halted, h.Rung = int64(status), flags&1 != 0, flags&2 != 0, flags&4 != 0
			trapped := cloneHart(h)
			trapped.Csr, trapped.Pc, trapped.Waiting = []int64{want, 201, 33, 19, 88, 205, 0, 5, 0, 209, 6}, 201, false
			got := impl.TrapHart(h, 19, 88)
			askHart(t, got, impl.HartResult{Hart: trapped}, "TrapHart of status ", status)
			askInt(t, impl.DueOf(got.Hart), impl.IntResult{Code: impl.ErrNone}, "DueOf behind a trap")
		}
	}
	for status, want := range []int64{2, 2, 3, 3} {
		for flags := range 8 {
			h := countedHart()
			h.Csr[0], h.Waiting, h.Halted, h.Rung = int64(status), flags&1 != 0, flags&2 != 0, flags&4 != 0
			back := cloneHart(h)
			back.Csr[0], back.Pc = want, 202
			askHart(t, impl.BackHart(h), impl.HartResult{Hart: back}, "BackHart of status ", status)
		}
	}
	h := countedHart()
	for _, x := range [][2]int64{{-1, 0}, {32, 0}, {0, -1}, {0, impl.WordTop + 1}, {31, impl.WordTop + 1}, {-1, -1}, {32, impl.WordTop}} {
		askHart(t, impl.TrapHart(h, x[0], x[1]), impl.HartResult{Code: impl.ErrRange}, "TrapHart with ", x)
	}
	for _, x := range [][2]int64{{0, 0}, {31, 0}, {0, impl.WordTop}, {31, impl.WordTop}} {
		got := impl.TrapHart(h, x[0], x[1])
		if got.Code != impl.OK || got.Hart.Csr[3] != x[0] || got.Hart.Csr[4] != x[1] {
			t.Errorf("TrapHart with %v: %v", x, got)
		}
	}
}

// TestGoingBackFromATrap asks promise 9: all is as it was but for epc, cause and tval, the upper bit of status, and that it does not wait.
func TestGoingBackFromATrap(t *testing.T) {
	for _, h := range goodHarts() {
		for _, cause := range []int64{0, 1, 5, 16, 31} {
			tval := (h.Pc + cause) % impl.WordTop
			want := cloneHart(h)
			want.Csr[0], want.Csr[2], want.Csr[3], want.Csr[4], want.Waiting = 2+h.Csr[0]%2, h.Pc, cause, tval, false
			got := impl.BackHart(impl.TrapHart(h, cause, tval).Hart)
			askHart(t, got, impl.HartResult{Hart: want}, "BackHart behind TrapHart of ", h)
			askInt(t, impl.PendingOf(got.Hart), impl.PendingOf(h), "PendingOf behind a trap of ", h)
			askInt(t, impl.DueOf(got.Hart), impl.DueOf(h), "DueOf behind a trap of ", h)
			// A second one of the same kind leaves nothing else.
			askHart(t, impl.BackHart(impl.TrapHart(got.Hart, cause, tval).Hart), got, "two traps of ", h)
		}
	}
}

// TestTrapInATrap asks that the first way back is lost, and that nothing may interrupt any more behind the second.
func TestTrapInATrap(t *testing.T) {
	h := countedHart()
	twice := impl.TrapHart(impl.TrapHart(h, 1, 2).Hart, 3, 4).Hart
	if twice.Csr[0] != 0 || twice.Csr[2] != 201 || twice.Csr[3] != 3 || twice.Csr[4] != 4 || twice.Pc != 201 {
		t.Errorf("two traps: %v", twice)
	}
	back := impl.BackHart(twice).Hart
	if back.Csr[0] != 2 || back.Pc != 201 {
		t.Errorf("back from two traps: %v", back)
	}
	askInt(t, impl.DueOf(back), impl.IntResult{Code: impl.ErrNone}, "DueOf behind two traps")
}

// hartCall is a call that is given a machine, with numbers with which it tells no code of its own, and with others.
type hartCall struct {
	name string
	do   func(h impl.Hart) impl.HartResult
}

func number(x impl.IntResult) impl.HartResult {
	return impl.HartResult{Code: x.Code, Hart: impl.Hart{Done: x.Value}}
}

func hartCalls() []hartCall {
	return []hartCall{
		{"GetCsr", func(h impl.Hart) impl.HartResult { return number(impl.GetCsr(h, 5)) }},
		{"GetCsr of pending", func(h impl.Hart) impl.HartResult { return number(impl.GetCsr(h, 6)) }},
		{"GetCsr of none", func(h impl.Hart) impl.HartResult { return number(impl.GetCsr(h, -1)) }},
		{"PendingOf", func(h impl.Hart) impl.HartResult { return number(impl.PendingOf(h)) }},
		{"DueOf", func(h impl.Hart) impl.HartResult { return number(impl.DueOf(h)) }},
		{"SetCsr", func(h impl.Hart) impl.HartResult { return impl.SetCsr(h, 5, 8) }},
		{"SetCsr of pending", func(h impl.Hart) impl.HartResult { return impl.SetCsr(h, 6, 2) }},
		{"SetCsr of time", func(h impl.Hart) impl.HartResult { return impl.SetCsr(h, 8, 2) }},
		{"SetCsr of status", func(h impl.Hart) impl.HartResult { return impl.SetCsr(h, 0, -1) }},
		{"SetCsr of none", func(h impl.Hart) impl.HartResult { return impl.SetCsr(h, 11, 2) }},
		{"TrapHart", func(h impl.Hart) impl.HartResult { return impl.TrapHart(h, 1, 2) }},
		{"TrapHart of none", func(h impl.Hart) impl.HartResult { return impl.TrapHart(h, 32, 2) }},
		{"TrapHart of no word", func(h impl.Hart) impl.HartResult { return impl.TrapHart(h, 3, -2) }},
		{"BackHart", impl.BackHart},
	}
}

// TestHartFaultIsAskedFirst asks also where the call has a code of its own.
func TestHartFaultIsAskedFirst(t *testing.T) {
	for _, call := range hartCalls() {
		for _, x := range someBadHarts() {
			askHart(t, call.do(x.h), impl.HartResult{Code: x.fault}, call.name, " of ", x.h)
		}
	}
}

// roomyHart has room behind each of its lists, in which nothing is to be written: whole has what stands there.
func roomyHart(h impl.Hart) (roomed, whole impl.Hart) {
	roomed, whole = h, h
	roomed.Regs, whole.Regs = roomy(h.Regs)
	roomed.Csr, whole.Csr = roomy(h.Csr)
	roomed.In, whole.In = roomy(h.In)
	roomed.Out, whole.Out = roomy(h.Out)
	return roomed, whole
}

func TestHartCallsChangeNothing(t *testing.T) {
	harts := goodHarts()
	for _, x := range someBadHarts() {
		harts = append(harts, x.h)
	}
	for _, h := range harts {
		given, whole := roomyHart(h)
		before := cloneHart(whole)
		impl.HartFault(given)
		for _, call := range hartCalls() {
			call.do(given)
			if !sameHart(given, h) || !sameHart(whole, before) {
				t.Fatalf("%s changes %v", call.name, h)
			}
		}
	}
	for _, words := range [][]int64{nil, {3}, queueOf(40, 7), queueOf(41, 7), {5, -1, 6}} {
		given, whole := roomy(words)
		before := slices.Clone(whole)
		impl.NewHart(given)
		if !slices.Equal(whole, before) {
			t.Fatalf("NewHart changes %v", words)
		}
	}
}

// listsOf are the lists of a machine with the room behind them.
func listsOf(h impl.Hart) [][]int64 {
	return [][]int64{h.Regs[:cap(h.Regs)], h.Csr[:cap(h.Csr)], h.In[:cap(h.In)], h.Out[:cap(h.Out)]}
}

// askApart writes into the lists of an answer, one behind the other, and asks that no other one of them is another one then.
func askApart(t *testing.T, h impl.Hart, what ...any) {
	t.Helper()
	askListsApart(t, listsOf(h), what...)
}

func askListsApart(t *testing.T, lists [][]int64, what ...any) {
	t.Helper()
	for k, list := range lists {
		kept := cloneLists(lists)
		turnAll(list)
		for j, other := range lists {
			if j != k && !slices.Equal(other, kept[j]) {
				t.Fatalf("%s: two lists of the answer share memory", fmt.Sprint(what...))
			}
		}
	}
}

func TestHartAnswersAreNew(t *testing.T) {
	for _, h := range goodHarts() {
		for _, call := range hartCalls() {
			given, whole := roomyHart(h)
			before := cloneHart(whole)
			first, second := call.do(given), call.do(given)
			want := impl.HartResult{Code: second.Code, Hart: cloneHart(second.Hart)}
			askApart(t, first.Hart, call.name, " of ", h)
			if !sameHart(given, h) || !sameHart(whole, before) {
				t.Fatalf("a write into what %s answers is seen in %v", call.name, h)
			}
			askHart(t, second, want, "behind a write into another answer: ", call.name)
			askHart(t, call.do(given), want, "asked again: ", call.name)
			// The other way round: what is answered stays, whatever becomes of the machine.
			for _, list := range listsOf(whole) {
				turnAll(list)
			}
			askHart(t, second, want, "behind a write into the machine: ", call.name)
		}
	}
}

func TestNewHartsAreNew(t *testing.T) {
	for _, words := range [][]int64{nil, {3}, {3, 4}, queueOf(39, 7), queueOf(40, 7)} {
		given, whole := roomy(words)
		before, want := slices.Clone(whole), impl.HartResult{Hart: newHartIn(words...)}
		first, second := impl.NewHart(given), impl.NewHart(given)
		askApart(t, first.Hart, "NewHart of ", words)
		if !slices.Equal(whole, before) {
			t.Fatalf("a write into what NewHart answers is seen in %v", words)
		}
		askHart(t, second, want, "behind a write into another answer of NewHart")
		askHart(t, impl.NewHart(given), want, "NewHart asked again")
		turnAll(whole)
		askHart(t, second, want, "behind a write into the words")
	}
}

// hartAnswers tells all that is answered of a machine.
func hartAnswers(h impl.Hart, k, w int64) string {
	return fmt.Sprint(impl.HartFault(h), impl.NewHart(h.Out), impl.GetCsr(h, k), impl.SetCsr(h, k, w), impl.PendingOf(h), impl.DueOf(h), impl.TrapHart(h, k, w), impl.BackHart(h))
}

// TestHartsHangOnTheirArgumentsAlone asks all once more, from the last one on: what was kept from a call would show.
func TestHartsHangOnTheirArgumentsAlone(t *testing.T) {
	harts := goodHarts()
	for _, x := range someBadHarts() {
		harts = append(harts, x.h)
	}
	ask := func(n int) string {
		return hartAnswers(harts[n%len(harts)], int64(n%13)-1, setNumbers()[n%17])
	}
	var said []string
	for n := range 3 * len(harts) {
		said = append(said, ask(n))
	}
	for n := len(said) - 1; n >= 0; n-- {
		if got := ask(n); got != said[n] {
			t.Fatalf("first %s, then %s", said[n], got)
		}
	}
}
