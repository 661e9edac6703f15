package tests

import (
	"fmt"
	"math"
	"math/big"
	"slices"
	"strings"
	"testing"

	"loop.example/g00213/impl"
)

func cloneDevice(x impl.DeviceResult) impl.DeviceResult {
	x.Hart = cloneHart(x.Hart)
	return x
}

// sameDevice asks for Ring beside OK alone: TestNothingBesideACode asks for it beside the others.
func sameDevice(a, b impl.DeviceResult) bool {
	return a.Code == b.Code && a.Value == b.Value && (a.Code != impl.OK || a.Ring == b.Ring) && sameHart(a.Hart, b.Hart)
}

func askDevice(t *testing.T, got, want impl.DeviceResult, what ...any) {
	t.Helper()
	if !sameDevice(got, want) {
		t.Fatalf("%s: %v, not %v", fmt.Sprint(what...), got, want)
	}
}

// The functions that end in In go through what the document says, word by word.
func deviceReadIn(h impl.Hart, k int64) impl.DeviceResult {
	if fault := hartFaultIn(h); fault != 0 {
		return impl.DeviceResult{Code: fault}
	}
	if !within(k, 7) {
		return impl.DeviceResult{Code: impl.ErrRange}
	}
	h = cloneHart(h)
	values := [8]int64{2: h.Done, 3: h.Csr[9], 4: pendingIn(h), 6: int64(len(h.In))}
	if k == 1 && len(h.In) != 0 {
		values[1] = h.In[0]
		h.In = slices.Delete(h.In, 0, 1)
	}
	return impl.DeviceResult{Value: values[k], Ring: -1, Hart: h}
}

func deviceWriteIn(h impl.Hart, k, w int64) impl.DeviceResult {
	if fault := hartFaultIn(h); fault != 0 {
		return impl.DeviceResult{Code: fault}
	}
	if !within(k, 7) {
		return impl.DeviceResult{Code: impl.ErrRange}
	}
	h, w = cloneHart(h), wordIn(big.NewInt(w))
	ring := int64(-1)
	switch {
	case k == 0 && len(h.Out) < 40:
		h.Out = slices.Concat(h.Out, []int64{w})
	case k == 3:
		h.Csr[9] = w
	case k == 4:
		h = withCsrIn(h, 6, w).Hart
	case k == 5:
		ring = w
	}
	return impl.DeviceResult{Ring: ring, Hart: h}
}

func feedIn(h impl.Hart, words []int64) impl.HartResult {
	if fault := hartFaultIn(h); fault != 0 {
		return impl.HartResult{Code: fault}
	}
	for _, w := range words {
		if !within(w, impl.WordTop) {
			return impl.HartResult{Code: impl.ErrRange}
		}
	}
	h = cloneHart(h)
	if h.In = slices.Concat(h.In, words); len(h.In) > 40 {
		return impl.HartResult{Code: impl.ErrMany}
	}
	return impl.HartResult{Hart: h}
}

func ringIn(h impl.Hart) impl.HartResult {
	h = cloneHart(h)
	h.Rung = true
	return impl.HartResult{Hart: h}
}

func outTextIn(h impl.Hart) string {
	text := ""
	for _, w := range h.Out {
		text += fmt.Sprintf("%d\n", w)
	}
	return text
}

func deviceNumbers() []int64 {
	return []int64{math.MinInt64, -1 << 32, -9, -8, -7, -1, 0, 1, 2, 3, 4, 5, 6, 7, 8, 9, 15, 16, 56, 63, 1000, 1 << 32, 1<<32 + 1, math.MaxInt64}
}

// withQueues has so many words In and Out, none like another one.
func withQueues(h impl.Hart, in, out int) impl.Hart {
	h = cloneHart(h)
	h.In, h.Out = queueOf(in, 501), queueOf(out, 601)
	return h
}

// deviceHarts are machines without a fault: those of the layer below, and such as this layer makes of them.
func deviceHarts() []impl.Hart {
	list := goodHarts()
	for _, h := range []impl.Hart{newHartIn(), newHartIn(7), countedHart()} {
		list = append(list, ringIn(h).Hart, feedIn(h, []int64{0, impl.WordTop}).Hart, deviceReadIn(h, 1).Hart)
		for _, in := range []int{0, 1, 39, 40} {
			for _, out := range []int{0, 1, 39, 40} {
				list = append(list, withQueues(h, in, out))
			}
		}
	}
	return list
}

func TestDevicePlaces(t *testing.T) {
	got := []int64{impl.DevOut, impl.DevIn, impl.DevTime, impl.DevAlarm, impl.DevPending, impl.DevRing, impl.DevCount}
	if !slices.Equal(got, []int64{0, 1, 2, 3, 4, 5, 6}) {
		t.Errorf("places of the device page: %v", got)
	}
}

func TestDeviceRead(t *testing.T) {
	for _, h := range deviceHarts() {
		for _, k := range deviceNumbers() {
			got := impl.DeviceRead(h, k)
			askDevice(t, got, deviceReadIn(h, k), "DeviceRead ", k, " of ", h)
			if got.Code == impl.OK && impl.HartFault(got.Hart) != impl.OK {
				t.Fatalf("DeviceRead %d of %v has a fault", k, h)
			}
		}
	}
}

// TestDeviceReadByHand asks each place of a machine of which no two numbers are alike.
func TestDeviceReadByHand(t *testing.T) {
	for k, want := range []int64{0, 901, 700, 209, 5, 0, 5, 0} {
		left := countedHart()
		if k == 1 {
			left.In = []int64{902, 903, 904, 905}
		}
		askDevice(t, impl.DeviceRead(countedHart(), int64(k)), impl.DeviceResult{Value: want, Ring: -1, Hart: left}, "DeviceRead ", k)
	}
	for k := range int64(8) {
		askDevice(t, impl.DeviceRead(newHartIn(), k), impl.DeviceResult{Ring: -1, Hart: newHartIn()}, "DeviceRead ", k, " of a new machine")
	}
	for _, k := range []int64{math.MinInt64, -1, 8, 9, math.MaxInt64} {
		askDevice(t, impl.DeviceRead(countedHart(), k), impl.DeviceResult{Code: impl.ErrRange}, "DeviceRead ", k)
	}
}

func TestDeviceReadOfIn(t *testing.T) {
	table := []struct {
		in    []int64
		first int64
		left  []int64
	}{
		{nil, 0, nil},
		{[]int64{}, 0, nil},
		{[]int64{0}, 0, nil},
		{[]int64{7}, 7, nil},
		{[]int64{impl.WordTop}, impl.WordTop, nil},
		{[]int64{0, 9}, 0, []int64{9}},
		{[]int64{3, 1, 2, 3}, 3, []int64{1, 2, 3}},
		{queueOf(39, 10), 10, queueOf(38, 11)},
		{queueOf(40, 10), 10, queueOf(39, 11)},
	}
	for _, x := range table {
		for flags := range 8 {
			h := countedHart()
			h.Halted, h.Waiting, h.Rung = flags&1 != 0, flags&2 != 0, flags&4 != 0
			want := cloneHart(h)
			h.In, want.In = x.in, x.left
			askDevice(t, impl.DeviceRead(h, 1), impl.DeviceResult{Value: x.first, Ring: -1, Hart: want}, "DeviceRead in of ", x.in)
			askDevice(t, impl.DeviceRead(h, 6), impl.DeviceResult{Value: int64(len(x.in)), Ring: -1, Hart: h}, "DeviceRead count of ", x.in)
		}
	}
}

func TestDeviceReadOfTimeAlarmAndPending(t *testing.T) {
	for _, done := range []int64{0, 1, 5, 700, 1e9} {
		for _, alarm := range []int64{0, 1, 5, 6, 700, 1e9 + 1, impl.WordTop} {
			for bits := range 4 {
				h := pendingHart(alarm, done, bits&1 != 0, bits>>1*2)
				var pending int64
				if alarm > 0 && done >= alarm {
					pending = 1
				}
				pending += int64(bits) * 2
				for k, want := range map[int64]int64{2: done, 3: alarm, 4: pending, 6: int64(bits >> 1 * 2)} {
					askDevice(t, impl.DeviceRead(h, k), impl.DeviceResult{Value: want, Ring: -1, Hart: h}, "DeviceRead ", k, " of ", h)
				}
			}
		}
	}
}

// TestReadingNothing asks that what is read at no place of the page's own is 0, whatever the machine has.
func TestReadingNothing(t *testing.T) {
	for _, h := range deviceHarts() {
		for _, k := range []int64{0, 5, 7} {
			askDevice(t, impl.DeviceRead(h, k), impl.DeviceResult{Ring: -1, Hart: h}, "DeviceRead ", k, " of ", h)
		}
	}
}

func TestDeviceWrite(t *testing.T) {
	for _, h := range deviceHarts() {
		for _, k := range deviceNumbers() {
			for _, w := range setNumbers() {
				got := impl.DeviceWrite(h, k, w)
				askDevice(t, got, deviceWriteIn(h, k, w), "DeviceWrite ", k, " of ", w, " to ", h)
				if got.Code == impl.OK && impl.HartFault(got.Hart) != impl.OK {
					t.Fatalf("DeviceWrite %d of %d to %v has a fault", k, w, h)
				}
			}
		}
	}
}

// wrapped are numbers and the words that they are.
func wrapped() map[int64]int64 {
	list := map[int64]int64{-1: 4294967295, -2: 4294967294, 4294967295: 4294967295, 4294967296: 0, 4294967297: 1, 4294967298: 2, math.MinInt64: 0, math.MinInt64 + 3: 3, math.MaxInt64: 4294967295}
	for w := range int64(9) {
		list[w] = w
	}
	return list
}

func TestDeviceWriteByHand(t *testing.T) {
	for w, word := range wrapped() {
		for k := range int64(8) {
			h := countedHart()
			h.Rung = true
			want := impl.DeviceResult{Ring: -1, Hart: cloneHart(h)}
			switch k {
			case 0:
				want.Hart.Out = []int64{801, 802, 803, 804, word}
			case 3:
				want.Hart.Csr[9] = word
			case 4:
				want.Hart.Rung = word%4 < 2
			case 5:
				want.Ring = word
			}
			askDevice(t, impl.DeviceWrite(h, k, w), want, "DeviceWrite ", k, " of ", w)
		}
		for _, k := range []int64{math.MinInt64, -1, 8, 9, math.MaxInt64} {
			askDevice(t, impl.DeviceWrite(countedHart(), k, w), impl.DeviceResult{Code: impl.ErrRange}, "DeviceWrite ", k, " of ", w)
		}
	}
}

func TestDeviceWriteOfOut(t *testing.T) {
	for w, word := range wrapped() {
		for _, size := range []int{0, 1, 2, 38, 39} {
			h := withQueues(countedHart(), 40, size)
			want := cloneHart(h)
			want.Out = append(queueOf(size, 601), word)
			askDevice(t, impl.DeviceWrite(h, 0, w), impl.DeviceResult{Ring: -1, Hart: want}, "DeviceWrite out of ", w, " behind ", size)
		}
		full := withQueues(countedHart(), 3, 40)
		askDevice(t, impl.DeviceWrite(full, 0, w), impl.DeviceResult{Ring: -1, Hart: full}, "DeviceWrite out of ", w, " where it is full")
	}
	for _, none := range [][]int64{nil, {}} {
		h := newHartIn()
		h.Out = none
		askDevice(t, impl.DeviceWrite(h, 0, 5), deviceWriteIn(newHartIn(), 0, 5), "DeviceWrite out of a new machine")
	}
}

// TestDeviceWriteOfPending asks that it does what SetCsr does, and that it ends no alarm and takes no word.
func TestDeviceWriteOfPending(t *testing.T) {
	stays := map[int64]bool{0: true, 1: true, 2: false, 3: false, 4: true, 5: true, 6: false, 7: false, 8: true, -1: false, -2: false, -3: true, -4: true,
		4294967294: false, 4294967295: false, 4294967296: true, 4294967298: false, math.MinInt64: true, math.MaxInt64: false}
	for w, stays := range stays {
		for _, rung := range []bool{false, true} {
			h := pendingHart(4, 5, rung, 2)
			want, pending := cloneHart(h), int64(5)
			if want.Rung = rung && stays; want.Rung {
				pending = 7
			}
			got := impl.DeviceWrite(h, 4, w)
			askDevice(t, got, impl.DeviceResult{Ring: -1, Hart: want}, "DeviceWrite pending of ", w, " where Rung is ", rung)
			askDevice(t, impl.DeviceRead(got.Hart, 4), impl.DeviceResult{Value: pending, Ring: -1, Hart: want}, "DeviceRead pending behind a write of ", w)
			askHart(t, impl.HartResult{Hart: got.Hart}, impl.SetCsr(h, 6, w), "DeviceWrite pending and SetCsr of ", w)
		}
	}
}

// TestDeviceWriteOfAlarm asks that what is written is read, and that it may be pending then.
func TestDeviceWriteOfAlarm(t *testing.T) {
	for w, word := range wrapped() {
		for _, done := range []int64{0, 3, 1e9} {
			h := pendingHart(2, done, false, 0)
			got := impl.DeviceWrite(h, 3, w)
			want := pendingHart(word, done, false, 0)
			askDevice(t, got, impl.DeviceResult{Ring: -1, Hart: want}, "DeviceWrite alarm of ", w)
			askDevice(t, impl.DeviceRead(got.Hart, 3), impl.DeviceResult{Value: word, Ring: -1, Hart: want}, "DeviceRead alarm behind a write of ", w)
			var pending int64
			if word != 0 && word <= done {
				pending = 1
			}
			askInt(t, impl.PendingOf(got.Hart), impl.IntResult{Value: pending}, "PendingOf behind an alarm of ", w)
		}
	}
}

// TestDeviceWriteOfRing asks that all words may be told, none of them like nobody, and that the machine itself is not rung.
func TestDeviceWriteOfRing(t *testing.T) {
	for _, h := range deviceHarts() {
		for w, word := range wrapped() {
			askDevice(t, impl.DeviceWrite(h, 5, w), impl.DeviceResult{Ring: word, Hart: h}, "DeviceWrite ring of ", w, " to ", h)
		}
	}
}

func TestWritingNothing(t *testing.T) {
	for _, h := range deviceHarts() {
		for w := range wrapped() {
			for _, k := range []int64{1, 2, 6, 7} {
				askDevice(t, impl.DeviceWrite(h, k, w), impl.DeviceResult{Ring: -1, Hart: h}, "DeviceWrite ", k, " of ", w, " to ", h)
			}
		}
	}
}

func TestFeedHart(t *testing.T) {
	lists := [][]int64{nil, {}, {0}, {7}, {impl.WordTop}, {3, 0, impl.WordTop, 3}, {-1}, {impl.WordTop + 1}, {math.MinInt64}, {math.MaxInt64}, {5, 6, -1}, {-1, 5, 6}}
	for _, size := range []int{2, 20, 38, 39, 40, 41, 42, 100, 5000} {
		lists = append(lists, queueOf(size, 71), append(queueOf(size, 71), -1), append(queueOf(size, 71), impl.WordTop+1))
	}
	for _, h := range deviceHarts() {
		for _, words := range lists {
			got := impl.FeedHart(h, words)
			askHart(t, got, feedIn(h, words), "FeedHart ", words, " to ", h)
			if got.Code == impl.OK && impl.HartFault(got.Hart) != impl.OK {
				t.Fatalf("FeedHart %v to %v has a fault", words, h)
			}
		}
	}
}

func TestFeedHartByHand(t *testing.T) {
	h := countedHart()
	table := []struct {
		words []int64
		in    []int64
	}{
		{nil, []int64{901, 902, 903, 904, 905}},
		{[]int64{}, []int64{901, 902, 903, 904, 905}},
		{[]int64{6}, []int64{901, 902, 903, 904, 905, 6}},
		{[]int64{0, impl.WordTop, 0}, []int64{901, 902, 903, 904, 905, 0, impl.WordTop, 0}},
	}
	for _, x := range table {
		for flags := range 8 {
			h.Halted, h.Waiting, h.Rung = flags&1 != 0, flags&2 != 0, flags&4 != 0
			want := cloneHart(h)
			want.In = x.in
			askHart(t, impl.FeedHart(h, x.words), impl.HartResult{Hart: want}, "FeedHart ", x.words)
		}
	}
}

// TestFeedHartToItsBounds fills In to 39, 40 and 41 words, from all that it may have.
func TestFeedHartToItsBounds(t *testing.T) {
	for have := range 41 {
		h := withQueues(countedHart(), have, 40)
		for _, full := range []int{39, 40, 41, 42} {
			if full < have {
				continue
			}
			want := impl.HartResult{Code: impl.ErrMany}
			if full <= 40 {
				want = impl.HartResult{Hart: withQueues(countedHart(), full, 40)}
			}
			words := queueOf(full-have, 501+int64(have))
			askHart(t, impl.FeedHart(h, words), want, "FeedHart to fill ", have, " to ", full)
			for _, none := range []int64{-1, impl.WordTop + 1, math.MinInt64, math.MaxInt64} {
				for at := range words {
					wrong := slices.Clone(words)
					wrong[at] = none
					askHart(t, impl.FeedHart(h, wrong), impl.HartResult{Code: impl.ErrRange}, "FeedHart to fill ", have, " to ", full, " with ", none, " at ", at)
				}
			}
		}
	}
}

func TestRingHart(t *testing.T) {
	for _, h := range deviceHarts() {
		got := impl.RingHart(h)
		askHart(t, got, ringIn(h), "RingHart of ", h)
		askHart(t, impl.RingHart(got.Hart), got, "RingHart twice of ", h)
		if impl.HartFault(got.Hart) != impl.OK || impl.PendingOf(got.Hart).Value&2 == 0 {
			t.Fatalf("RingHart of %v: %v", h, got)
		}
		h.Rung = false
		askDevice(t, impl.DeviceWrite(got.Hart, 4, 2), impl.DeviceResult{Ring: -1, Hart: h}, "what was rung, ended, of ", h)
	}
}

func TestOutTextByHand(t *testing.T) {
	table := []struct {
		out  []int64
		text string
	}{
		{nil, ""}, {[]int64{}, ""}, {[]int64{0}, "0\n"}, {[]int64{5}, "5\n"}, {[]int64{impl.WordTop}, "4294967295\n"},
		{[]int64{0, impl.WordTop, 10, 0}, "0\n4294967295\n10\n0\n"},
		{slices.Repeat([]int64{0}, 40), strings.Repeat("0\n", 40)},
		{slices.Repeat([]int64{impl.WordTop}, 40), strings.Repeat("4294967295\n", 40)},
		{queueOf(12, 0), "0\n1\n2\n3\n4\n5\n6\n7\n8\n9\n10\n11\n"},
	}
	for _, x := range table {
		for _, h := range []impl.Hart{newHartIn(), newHartIn(8, 9), countedHart()} {
			h.Out = x.out
			if got := impl.OutText(h); got.Code != impl.OK || got.Text != x.text {
				t.Errorf("OutText of %v: %v, not %q", x.out, got, x.text)
			}
		}
	}
	for _, h := range deviceHarts() {
		if got := impl.OutText(h); got.Code != impl.OK || got.Text != outTextIn(h) {
			t.Errorf("OutText of %v: %v", h, got)
		}
	}
}

// TestWhatIsFedIsRead asks promise 10: words are fed in parts, and read one by one, and 0 behind the last one.
func TestWhatIsFedIsRead(t *testing.T) {
	for _, h := range deviceHarts() {
		for _, parts := range [][]int{{0}, {1}, {2, 0, 3}, {40 - len(h.In)}, {39 - len(h.In), 1}} {
			fed, want := h, slices.Clone(h.In)
			for _, size := range parts {
				if size < 0 || len(want)+size > 40 {
					continue
				}
				words := queueOf(size, int64(1000*len(want)))
				fed, want = impl.FeedHart(fed, words).Hart, append(want, words...)
			}
			for k, w := range want {
				if count := impl.DeviceRead(fed, 6).Value; count != int64(len(want)-k) {
					t.Fatalf("DeviceRead count is %d behind %d of %v", count, k, want)
				}
				read := impl.DeviceRead(fed, 1)
				if read.Code != impl.OK || read.Value != w {
					t.Fatalf("the word %d of %v is read as %v", k, want, read)
				}
				fed = read.Hart
			}
			empty := cloneHart(h)
			empty.In = nil
			for range 2 {
				read := impl.DeviceRead(fed, 1)
				askDevice(t, read, impl.DeviceResult{Ring: -1, Hart: empty}, "DeviceRead behind all words of ", h)
				fed = read.Hart
			}
			askHart(t, impl.FeedHart(fed, want), feedIn(empty, want), "FeedHart of what was read")
		}
	}
}

// TestFedBetweenReads asks that a word that comes while others wait stands behind them.
func TestFedBetweenReads(t *testing.T) {
	h, next, read := newHartIn(), int64(0), int64(0)
	for turn := range 200 {
		for range turn % 4 {
			got := impl.FeedHart(h, []int64{next})
			if next-read == 40 {
				askHart(t, got, impl.HartResult{Code: impl.ErrMany}, "FeedHart where In is full")
				continue
			}
			h = got.Hart
			next++
		}
		got := impl.DeviceRead(h, 1)
		if next == read {
			askDevice(t, got, impl.DeviceResult{Ring: -1, Hart: newHartIn()}, "DeviceRead of none")
			continue
		}
		if got.Code != impl.OK || got.Value != read {
			t.Fatalf("the word %d is read as %v", read, got)
		}
		h = got.Hart
		read++
	}
	if next < 100 {
		t.Errorf("%d words were fed", next)
	}
}

// TestWhatIsWrittenOutIsTold asks promise 10: up to 40 words, each on a line of its own, and none that comes when it is full.
func TestWhatIsWrittenOutIsTold(t *testing.T) {
	for _, h := range deviceHarts() {
		lines := strings.Split(outTextIn(h), "\n")
		lines = lines[:len(lines)-1]
		for k := range 45 {
			w := edgeNumbers()[k%len(edgeNumbers())]
			if len(lines) < 40 {
				lines = append(lines, fmt.Sprint(wordIn(big.NewInt(w))))
			}
			h = impl.DeviceWrite(h, 0, w).Hart
			if got, want := impl.OutText(h), strings.Join(lines, "\n")+"\n"; got.Code != impl.OK || got.Text != want {
				t.Fatalf("OutText behind %d words: %v, not %q", k, got, want)
			}
		}
	}
}

// deviceCall is a call of this layer, whatever it answers: a machine, and what is told beside it.
type deviceCall struct {
	name string
	do   func(h impl.Hart, words []int64) impl.DeviceResult
}

func onlyHart(x impl.HartResult) impl.DeviceResult {
	return impl.DeviceResult{Code: x.Code, Hart: x.Hart}
}

// deviceCalls are such as tell no code of their own, and others: FeedHart by its words.
func deviceCalls() []deviceCall {
	var list []deviceCall
	for k := int64(-1); k <= 8; k++ {
		list = append(list, deviceCall{fmt.Sprint("DeviceRead ", k), func(h impl.Hart, _ []int64) impl.DeviceResult { return impl.DeviceRead(h, k) }})
		for _, w := range []int64{0, 2, -1} {
			list = append(list, deviceCall{fmt.Sprint("DeviceWrite ", k, " of ", w), func(h impl.Hart, _ []int64) impl.DeviceResult { return impl.DeviceWrite(h, k, w) }})
		}
	}
	return append(list,
		deviceCall{"FeedHart", func(h impl.Hart, words []int64) impl.DeviceResult { return onlyHart(impl.FeedHart(h, words)) }},
		deviceCall{"RingHart", func(h impl.Hart, _ []int64) impl.DeviceResult { return onlyHart(impl.RingHart(h)) }},
		deviceCall{"OutText", func(h impl.Hart, _ []int64) impl.DeviceResult {
			got := impl.OutText(h)
			return impl.DeviceResult{Code: got.Code, Value: int64(len(got.Text))}
		}},
	)
}

func fedWords() [][]int64 {
	return [][]int64{nil, {}, {3}, {0, impl.WordTop}, queueOf(35, 7), queueOf(40, 7), queueOf(41, 7), {5, -1, 6}, append(queueOf(41, 7), impl.WordTop+1)}
}

// TestDeviceAsksHartFaultFirst asks also where the call has a code of its own.
func TestDeviceAsksHartFaultFirst(t *testing.T) {
	for _, call := range deviceCalls() {
		for _, x := range someBadHarts() {
			for _, words := range fedWords() {
				askDevice(t, call.do(x.h, words), impl.DeviceResult{Code: x.fault}, call.name, " of ", x.h)
			}
		}
	}
	for _, x := range someBadHarts() {
		if got := impl.OutText(x.h); got != (impl.TextResult{Code: x.fault}) {
			t.Fatalf("OutText of %v: %v", x.h, got)
		}
	}
}

// TestNothingBesideACode asks the general rule of Ring, too: the chapter speaks of no answer with a code.
func TestNothingBesideACode(t *testing.T) {
	bad := countedHart()
	bad.Pc = -1
	for _, x := range []struct {
		h impl.Hart
		k int64
	}{{bad, 5}, {bad, 8}, {impl.Hart{}, 1}, {countedHart(), -1}, {countedHart(), 8}} {
		for _, got := range []impl.DeviceResult{impl.DeviceRead(x.h, x.k), impl.DeviceWrite(x.h, x.k, 3)} {
			if got.Code == impl.OK || got.Value != 0 || got.Ring != 0 || !sameHart(got.Hart, impl.Hart{}) {
				t.Errorf("%d of %v: %v", x.k, x.h, got)
			}
		}
	}
}

func TestDeviceCallsChangeNothing(t *testing.T) {
	harts := deviceHarts()
	for _, x := range someBadHarts() {
		harts = append(harts, x.h)
	}
	for _, h := range harts {
		given, whole := roomyHart(h)
		before := cloneHart(whole)
		for n, call := range deviceCalls() {
			words, wholeWords := roomy(fedWords()[n%len(fedWords())])
			wordsBefore := slices.Clone(wholeWords)
			call.do(given, words)
			if !sameHart(given, h) || !sameHart(whole, before) || !slices.Equal(wholeWords, wordsBefore) {
				t.Fatalf("%s changes %v", call.name, h)
			}
		}
		for _, fed := range fedWords() {
			words, wholeWords := roomy(fed)
			wordsBefore := slices.Clone(wholeWords)
			impl.FeedHart(given, words)
			if !sameHart(whole, before) || !slices.Equal(wholeWords, wordsBefore) {
				t.Fatalf("FeedHart %v changes %v", fed, h)
			}
		}
	}
}

func TestDeviceAnswersAreNew(t *testing.T) {
	for _, h := range deviceHarts() {
		for _, call := range deviceCalls() {
			for _, fed := range [][]int64{nil, {4, 5}, queueOf(40-len(h.In), 7)} {
				askNew(t, call, h, fed)
			}
		}
	}
}

// askNew asks that a write into an answer is seen nowhere else, nor one into an argument in the answer.
func askNew(t *testing.T, call deviceCall, h impl.Hart, fed []int64) {
	t.Helper()
	given, whole := roomyHart(h)
	words, wholeWords := roomy(fed)
	before, wordsBefore := cloneHart(whole), slices.Clone(wholeWords)
	first, second := call.do(given, words), call.do(given, words)
	want := cloneDevice(second)
	askApart(t, first.Hart, call.name, " of ", h)
	if !sameHart(given, h) || !sameHart(whole, before) || !slices.Equal(wholeWords, wordsBefore) {
		t.Fatalf("a write into what %s answers is seen in %v", call.name, h)
	}
	askDevice(t, second, want, "behind a write into another answer: ", call.name)
	askDevice(t, call.do(given, words), want, "asked again: ", call.name)
	for _, list := range append(listsOf(whole), wholeWords) {
		turnAll(list)
	}
	askDevice(t, second, want, "behind a write into the arguments: ", call.name)
}

// TestFedFromItself asks of words that are lists of the machine itself: they stand twice then, and apart.
func TestFedFromItself(t *testing.T) {
	for _, in := range []int{0, 1, 19, 20} {
		h := withQueues(countedHart(), in, 20)
		for _, words := range [][]int64{h.In, h.Out, h.Regs, h.Csr, h.In[:in/2]} {
			want := feedIn(h, slices.Clone(words))
			got := impl.FeedHart(h, words)
			askHart(t, got, want, "FeedHart of lists of the machine")
			kept := cloneHart(h)
			askApart(t, got.Hart, "FeedHart of lists of the machine")
			if !sameHart(h, kept) {
				t.Fatalf("a write into what FeedHart answers is seen in the machine")
			}
		}
	}
}

// deviceAnswers tells all that is answered of a machine.
func deviceAnswers(h impl.Hart, k, w int64, words []int64) string {
	return fmt.Sprint(impl.DeviceRead(h, k), impl.DeviceWrite(h, k, w), impl.FeedHart(h, words), impl.RingHart(h), impl.OutText(h))
}

// TestDevicesHangOnTheirArgumentsAlone asks all once more, from the last one on: what was kept from a call would show.
func TestDevicesHangOnTheirArgumentsAlone(t *testing.T) {
	harts := deviceHarts()
	for _, x := range someBadHarts() {
		harts = append(harts, x.h)
	}
	ask := func(n int) string {
		return deviceAnswers(harts[n%len(harts)], int64(n%10)-1, setNumbers()[n%17], fedWords()[n%7])
	}
	var said []string
	for n := range 3 * len(harts) {
		said = append(said, ask(n))
	}
	for n := len(said) - 1; n >= 0; n-- {
		if got := ask(n); got != said[n] {
			t.Fatalf("first %s, then %s", said[n], got)
		}
	}
}
