package tests

import (
	"fmt"
	"math"
	"math/big"
	"slices"
	"testing"

	"loop.example/g00213/impl"
)

// countedMemory has words that are not alike at any two places, none of them 0.
func countedMemory(size int) []int64 {
	m := make([]int64, size)
	for k := range m {
		m[k] = int64(k)*20011 + 7
	}
	return m
}

// withWordAt is a counted memory with one word turned.
func withWordAt(size, at int, w int64) []int64 {
	m := countedMemory(size)
	m[at] = w
	return m
}

// memorySizes have no fault; wrongSizes are none of 1 to 24 whole pages.
func memorySizes() []int { return []int{8, 16, 24, 184, 192} }
func wrongSizes() []int  { return []int{0, 1, 7, 9, 15, 17, 191, 193, 199, 200, 208, 1000} }

// goodMemories have no fault, and words at their edges at the first and at the last place.
func goodMemories() [][]int64 {
	var list [][]int64
	for _, size := range memorySizes() {
		list = append(list, countedMemory(size), make([]int64, size))
		for _, w := range []int64{0, 1, impl.WordTop} {
			list = append(list, withWordAt(size, 0, w), withWordAt(size, size-1, w))
		}
	}
	return list
}

type badMemory struct {
	m     []int64
	fault int64
}

// badMemories are all that has a fault; one with both is not right ahead of its words.
func badMemories() []badMemory {
	list := []badMemory{{nil, impl.ErrForm}, {[]int64{}, impl.ErrForm}}
	for _, size := range wrongSizes() {
		list = append(list, badMemory{countedMemory(size), impl.ErrForm})
		for _, w := range []int64{-1, impl.WordTop + 1} {
			if size > 0 {
				list = append(list, badMemory{withWordAt(size, 0, w), impl.ErrForm}, badMemory{withWordAt(size, size-1, w), impl.ErrForm})
			}
		}
	}
	for _, size := range memorySizes() {
		for _, w := range []int64{math.MinInt64, -1 << 32, -1, impl.WordTop + 1, 1 << 33, math.MaxInt64} {
			for _, at := range []int{0, 1, size / 2, size - 1} {
				list = append(list, badMemory{withWordAt(size, at, w), impl.ErrRange})
			}
		}
	}
	return list
}

// placesAround are all places of a memory and numbers that are none.
func placesAround(size int) []int64 {
	list := []int64{math.MinInt64, math.MinInt64 + 1, -1 << 32, -192, -9, -8, -1, int64(size), int64(size) + 1, int64(size) + 8,
		191, 192, 193, 1 << 32, 1<<32 + 1, math.MaxInt64 - 192, math.MaxInt64 - 7, math.MaxInt64 - 1, math.MaxInt64}
	for at := range size {
		list = append(list, int64(at))
	}
	return list
}

func sameMemory(a, b impl.MemoryResult) bool {
	return a.Code == b.Code && slices.Equal(a.Memory, b.Memory)
}

// askMemory writes what was asked only where the answer is another one: most answers are right.
func askMemory(t *testing.T, got, want impl.MemoryResult, what ...any) {
	t.Helper()
	if !sameMemory(got, want) {
		t.Fatalf("%s: %v, not %v", fmt.Sprint(what...), got, want)
	}
}

func TestMemoryConstants(t *testing.T) {
	if impl.PageWords != 8 || impl.HostPages != 24 || impl.MaxWords != 192 {
		t.Error("constants")
	}
}

func TestMemoryFault(t *testing.T) {
	for _, m := range goodMemories() {
		if got := impl.MemoryFault(m); got != impl.OK {
			t.Errorf("MemoryFault of %v: %d", m, got)
		}
	}
	for _, x := range badMemories() {
		if got := impl.MemoryFault(x.m); got != x.fault {
			t.Errorf("MemoryFault of %v: %d, not %d", x.m, got, x.fault)
		}
	}
	for size := range 260 {
		want := int64(impl.ErrForm)
		for pages := 1; pages <= 24; pages++ {
			if size == pages*8 {
				want = impl.OK
			}
		}
		if got := impl.MemoryFault(make([]int64, size)); got != want {
			t.Errorf("MemoryFault of %d words: %d, not %d", size, got, want)
		}
	}
}

func TestMemoryFaultAtEveryPlace(t *testing.T) {
	for at := range 192 {
		for _, w := range []int64{0, impl.WordTop} {
			if got := impl.MemoryFault(withWordAt(192, at, w)); got != impl.OK {
				t.Errorf("MemoryFault with %d at %d: %d", w, at, got)
			}
		}
		for _, w := range []int64{-1, impl.WordTop + 1} {
			if got := impl.MemoryFault(withWordAt(192, at, w)); got != impl.ErrRange {
				t.Errorf("MemoryFault with %d at %d: %d", w, at, got)
			}
		}
	}
}

func TestNewMemory(t *testing.T) {
	for pages := int64(1); pages <= 24; pages++ {
		got := impl.NewMemory(pages)
		askMemory(t, got, impl.MemoryResult{Memory: make([]int64, pages*8)}, "NewMemory of ", pages)
		if impl.MemoryFault(got.Memory) != impl.OK {
			t.Errorf("NewMemory of %d has a fault", pages)
		}
	}
	// 1 << 61 pages would have a number of words that goes round to 0, and 1<<61 + 1 to 8.
	for _, pages := range []int64{math.MinInt64, -1 << 61, -1, 0, 25, 26, 192, 1<<32 + 1, 1 << 61, 1<<61 + 1, math.MaxInt64} {
		askMemory(t, impl.NewMemory(pages), impl.MemoryResult{Code: impl.ErrRange}, "NewMemory of ", pages)
	}
}

func TestReadWord(t *testing.T) {
	for _, m := range goodMemories() {
		for _, at := range placesAround(len(m)) {
			want := impl.IntResult{Code: impl.ErrRead}
			for k, w := range m {
				if int64(k) == at {
					want = impl.IntResult{Value: w}
				}
			}
			if got := impl.ReadWord(m, at); got != want {
				t.Fatalf("ReadWord at %d of %d words: %v, not %v", at, len(m), got, want)
			}
		}
	}
	for _, x := range badMemories() {
		for _, at := range placesAround(len(x.m)) {
			if got := impl.ReadWord(x.m, at); got != (impl.IntResult{Code: x.fault}) {
				t.Fatalf("ReadWord at %d of %v: %v, not the code %d", at, x.m, got, x.fault)
			}
		}
	}
}

func TestWhatIsWrittenIsReadAndAllOtherWordsStay(t *testing.T) {
	for _, m := range goodMemories() {
		for _, at := range placesAround(len(m)) {
			for _, w := range []int64{math.MinInt64, -1 << 32, -1, 0, 1, 5, 1 << 31, impl.WordTop, impl.WordTop + 1, impl.WordTop + 2, math.MaxInt64} {
				got := impl.WriteWord(m, at, w)
				if at < 0 || at >= int64(len(m)) {
					askMemory(t, got, impl.MemoryResult{Code: impl.ErrWrite}, "WriteWord at ", at)
					continue
				}
				want := slices.Clone(m)
				want[at] = bigWord(w).Int64()
				askMemory(t, got, impl.MemoryResult{Memory: want}, "WriteWord at ", at, " of ", w)
				if read := impl.ReadWord(got.Memory, at); read != (impl.IntResult{Value: bigWord(w).Int64()}) {
					t.Fatalf("%d is written at %d, and %v is read", w, at, read)
				}
			}
		}
	}
}

func TestWriteWordOfEveryNumber(t *testing.T) {
	m := countedMemory(16)
	for _, w := range wordNumbers() {
		want := slices.Clone(m)
		want[15] = bigWord(w).Int64()
		askMemory(t, impl.WriteWord(m, 15, w), impl.MemoryResult{Memory: want}, "WriteWord of ", w)
	}
}

func TestWriteWordIntoNoMemory(t *testing.T) {
	for _, x := range badMemories() {
		for _, at := range []int64{math.MinInt64, -1, 0, 7, int64(len(x.m)), math.MaxInt64} {
			for _, w := range []int64{-1, 0, impl.WordTop} {
				// Turning the one wrong word does not mend the memory.
				askMemory(t, impl.WriteWord(x.m, at, w), impl.MemoryResult{Code: x.fault}, "WriteWord at ", at, " of ", x.m)
			}
		}
	}
}

// wordLists have words and numbers that are none, of lengths up to and beyond a whole memory.
func wordLists() [][]int64 {
	list := [][]int64{nil, {}, {0}, {-1}, {impl.WordTop + 1}, {1, -2, impl.WordTop, impl.WordTop + 6}}
	numbers := ordinaryNumbers()
	for _, size := range []int{7, 8, 9, 15, 16, 17, 184, 191, 192, 193, 500} {
		words := make([]int64, size)
		for k := range words {
			words[k] = numbers[k%len(numbers)]
		}
		list = append(list, words)
	}
	return list
}

// loadedIn is what LoadWords should answer, found word by word: at is below 0, or one of them has no place.
func loadedIn(m []int64, at int64, words []int64) impl.MemoryResult {
	want := slices.Clone(m)
	if at < 0 {
		return impl.MemoryResult{Code: impl.ErrWrite}
	}
	for k, w := range words {
		if at >= int64(len(m)-k) {
			return impl.MemoryResult{Code: impl.ErrWrite}
		}
		want[at+int64(k)] = bigWord(w).Int64()
	}
	return impl.MemoryResult{Memory: want}
}

func TestLoadWords(t *testing.T) {
	lists := wordLists()
	for _, m := range goodMemories() {
		for _, at := range placesAround(len(m)) {
			for _, words := range lists {
				got := impl.LoadWords(m, at, words)
				askMemory(t, got, loadedIn(m, at, words), "LoadWords at ", at, " of ", len(m), " words: ", words)
			}
		}
	}
}

func TestLoadWordsByHand(t *testing.T) {
	m := []int64{10, 11, 12, 13, 14, 15, 16, 17}
	kept := impl.MemoryResult{Memory: m}
	no := impl.MemoryResult{Code: impl.ErrWrite}
	table := []struct {
		at    int64
		words []int64
		want  impl.MemoryResult
	}{
		{0, []int64{-1}, impl.MemoryResult{Memory: []int64{impl.WordTop, 11, 12, 13, 14, 15, 16, 17}}},
		{3, []int64{1, impl.WordTop + 1, 3}, impl.MemoryResult{Memory: []int64{10, 11, 12, 1, 0, 3, 16, 17}}},
		{5, []int64{1, 2, 3}, impl.MemoryResult{Memory: []int64{10, 11, 12, 13, 14, 1, 2, 3}}},
		{6, []int64{1, 2, 3}, no},
		{7, []int64{5}, impl.MemoryResult{Memory: []int64{10, 11, 12, 13, 14, 15, 16, 5}}},
		{8, []int64{5}, no},
		{-1, []int64{5}, no},
		{-1, []int64{5, 6}, no},
		{math.MaxInt64, []int64{5}, no},
		{math.MaxInt64, []int64{5, 6}, no},
		{math.MaxInt64 - 3, []int64{1, 2, 3, 4, 5}, no},
		{math.MinInt64, []int64{5}, no},
		{0, make([]int64, 9), no},
		{0, make([]int64, 8), impl.MemoryResult{Memory: make([]int64, 8)}},
		// No words: each of them has a place, wherever they would begin, but below 0.
		{0, nil, kept}, {7, nil, kept}, {8, nil, kept}, {9, nil, kept}, {16, []int64{}, kept}, {192, nil, kept}, {193, nil, kept},
		{math.MaxInt64, nil, kept}, {-1, nil, no}, {-1, []int64{}, no}, {math.MinInt64, nil, no},
	}
	for _, x := range table {
		askMemory(t, impl.LoadWords(m, x.at, x.words), x.want, "LoadWords at ", x.at, " of ", x.words)
	}
}

func TestLoadWordsIntoNoMemory(t *testing.T) {
	for _, x := range badMemories() {
		for _, at := range []int64{math.MinInt64, -1, 0, int64(len(x.m)), math.MaxInt64} {
			for _, words := range [][]int64{nil, {1}, {-1, 2}, make([]int64, len(x.m)), make([]int64, 300)} {
				askMemory(t, impl.LoadWords(x.m, at, words), impl.MemoryResult{Code: x.fault}, "LoadWords at ", at, " of ", x.m)
			}
		}
	}
}

// TestLoadWordsOfItself loads words of the memory over each other: they are those of before.
func TestLoadWordsOfItself(t *testing.T) {
	for _, at := range []int{0, 1, 2, 8} {
		m := countedMemory(16)
		want := countedMemory(16)
		copy(want[at:], countedMemory(16)[:8])
		askMemory(t, impl.LoadWords(m, int64(at), m[:8]), impl.MemoryResult{Memory: want}, "LoadWords at ", at)
	}
}

func regionNumbers() []int64 {
	return []int64{math.MinInt64, -1 << 32, -192, -1, 0, 1, 7, 8, 9, 95, 96, 97, 191, 192, 193, 1 << 32, 1 << 62, math.MaxInt64 - 192, math.MaxInt64 - 1, math.MaxInt64}
}

// someRegions have all such numbers as From and as Size.
func someRegions() []impl.Region {
	var list []impl.Region
	for _, from := range regionNumbers() {
		for _, size := range regionNumbers() {
			list = append(list, impl.Region{From: from, Size: size})
		}
	}
	return list
}

// regionFaultIn works the end out by numbers that have no bounds.
func regionFaultIn(r impl.Region) int64 {
	end := new(big.Int).Add(big.NewInt(r.From), big.NewInt(r.Size))
	if !within(r.From, 192) || !within(r.Size, 192) || end.Cmp(big.NewInt(192)) > 0 {
		return impl.ErrRange
	}
	return impl.OK
}

// placesIn are the places of a region, true where it has one; none where it has a fault.
func placesIn(r impl.Region) [192]bool {
	var places [192]bool
	if regionFaultIn(r) == impl.OK {
		for k := range r.Size {
			places[r.From+k] = true
		}
	}
	return places
}

func TestRegionFault(t *testing.T) {
	for _, r := range someRegions() {
		if got, want := impl.RegionFault(r), regionFaultIn(r); got != want {
			t.Errorf("RegionFault of %v: %d, not %d", r, got, want)
		}
	}
	for from := int64(-2); from <= 195; from++ {
		for size := int64(-2); size <= 195; size++ {
			r := impl.Region{From: from, Size: size}
			if got, want := impl.RegionFault(r), regionFaultIn(r); got != want {
				t.Fatalf("RegionFault of %v: %d, not %d", r, got, want)
			}
		}
	}
}

func TestRegionFaultByHand(t *testing.T) {
	table := []struct{ from, size, want int64 }{
		{0, 0, impl.OK}, {0, 192, impl.OK}, {192, 0, impl.OK}, {100, 92, impl.OK}, {191, 1, impl.OK},
		{-1, 0, impl.ErrRange}, {0, -1, impl.ErrRange}, {-1, -1, impl.ErrRange}, {-1, 1, impl.ErrRange}, {10, -1, impl.ErrRange},
		{193, 0, impl.ErrRange}, {0, 193, impl.ErrRange}, {193, -1, impl.ErrRange}, {-1, 193, impl.ErrRange},
		{100, 93, impl.ErrRange}, {192, 1, impl.ErrRange}, {1, 192, impl.ErrRange}, {192, 192, impl.ErrRange},
		{math.MaxInt64, 0, impl.ErrRange}, {0, math.MaxInt64, impl.ErrRange}, {math.MaxInt64, math.MaxInt64, impl.ErrRange},
		{math.MaxInt64, 1, impl.ErrRange}, {1, math.MaxInt64, impl.ErrRange}, {math.MinInt64, math.MaxInt64, impl.ErrRange}, {math.MinInt64, math.MinInt64, impl.ErrRange},
	}
	for _, x := range table {
		if got := impl.RegionFault(impl.Region{From: x.from, Size: x.size}); got != x.want {
			t.Errorf("RegionFault of %d words from %d: %d, not %d", x.size, x.from, got, x.want)
		}
	}
}

// meetIn goes through all places.
func meetIn(a, b impl.Region) bool {
	one, two := placesIn(a), placesIn(b)
	for k := range one {
		if one[k] && two[k] {
			return true
		}
	}
	return false
}

func askMeet(t *testing.T, a, b impl.Region) {
	t.Helper()
	if got, want := impl.RegionsMeet(a, b), meetIn(a, b); got != want {
		t.Fatalf("RegionsMeet of %v and %v: %v", a, b, got)
	}
}

func TestRegionsMeetWhereTheyHaveAPlaceInCommon(t *testing.T) {
	var small []impl.Region
	for _, base := range []int64{0, 7, 180} {
		for from := range int64(6) {
			for size := range int64(6) {
				small = append(small, impl.Region{From: base + from, Size: size})
			}
		}
	}
	for _, list := range [][]impl.Region{small, someRegions()} {
		for _, a := range list {
			for _, b := range list {
				askMeet(t, a, b)
			}
		}
	}
}

func TestRegionsMeetByHand(t *testing.T) {
	table := []struct {
		a, b impl.Region
		want bool
	}{
		{impl.Region{From: 5, Size: 4}, impl.Region{From: 9, Size: 4}, false},
		{impl.Region{From: 5, Size: 5}, impl.Region{From: 9, Size: 4}, true},
		{impl.Region{From: 5, Size: 4}, impl.Region{From: 5, Size: 4}, true},
		{impl.Region{From: 0, Size: 1}, impl.Region{From: 0, Size: 1}, true},
		{impl.Region{From: 0, Size: 192}, impl.Region{From: 100, Size: 1}, true},
		{impl.Region{From: 0, Size: 192}, impl.Region{From: 191, Size: 1}, true},
		{impl.Region{From: 0, Size: 191}, impl.Region{From: 191, Size: 1}, false},
		{impl.Region{From: 3, Size: 2}, impl.Region{From: 8, Size: 2}, false},
		// A region without a place meets none: within another, at its beginning, at its end, alone, itself.
		{impl.Region{From: 5, Size: 0}, impl.Region{From: 0, Size: 10}, false},
		{impl.Region{From: 0, Size: 0}, impl.Region{From: 0, Size: 10}, false},
		{impl.Region{From: 10, Size: 0}, impl.Region{From: 0, Size: 10}, false},
		{impl.Region{From: 50, Size: 0}, impl.Region{From: 0, Size: 10}, false},
		{impl.Region{From: 5, Size: 0}, impl.Region{From: 5, Size: 0}, false},
		{impl.Region{}, impl.Region{}, false},
		{impl.Region{From: 192}, impl.Region{From: 0, Size: 192}, false},
		// One with a fault meets none, though numbers of it are in both.
		{impl.Region{From: -1, Size: 10}, impl.Region{From: 0, Size: 10}, false},
		{impl.Region{From: 100, Size: 93}, impl.Region{From: 100, Size: 10}, false},
		{impl.Region{From: 0, Size: math.MaxInt64}, impl.Region{From: 0, Size: 10}, false},
		{impl.Region{From: 1, Size: math.MaxInt64}, impl.Region{From: 1, Size: math.MaxInt64}, false},
	}
	for _, x := range table {
		if impl.RegionsMeet(x.a, x.b) != x.want || impl.RegionsMeet(x.b, x.a) != x.want {
			t.Errorf("RegionsMeet of %v and %v: not %v both ways round", x.a, x.b, x.want)
		}
	}
}

func TestRegionsApartByHand(t *testing.T) {
	a, b, c := impl.Region{From: 0, Size: 5}, impl.Region{From: 5, Size: 5}, impl.Region{From: 10, Size: 182}
	within, bad := impl.Region{From: 3}, impl.Region{From: 192, Size: 1}
	table := []struct {
		list []impl.Region
		want bool
	}{
		{nil, true}, {[]impl.Region{}, true}, {[]impl.Region{a}, true}, {[]impl.Region{{}}, true}, {[]impl.Region{within}, true},
		{[]impl.Region{a, b}, true}, {[]impl.Region{c, a, b}, true}, {[]impl.Region{a, a}, false}, {[]impl.Region{a, b, a}, false},
		{[]impl.Region{a, b, c, {From: 191, Size: 1}}, false}, {[]impl.Region{a, b, {From: 9, Size: 3}}, false},
		{[]impl.Region{{From: 9, Size: 3}, a, b}, false}, {[]impl.Region{a, {From: 9, Size: 3}, b}, false},
		{[]impl.Region{a, within}, true}, {[]impl.Region{within, a}, true}, {[]impl.Region{within, within}, true}, {[]impl.Region{{}, {}}, true},
		{[]impl.Region{within, a, within, a}, false}, {[]impl.Region{a, within, {From: 4, Size: 1}}, false},
		{[]impl.Region{bad}, false}, {[]impl.Region{bad, a, b}, false}, {[]impl.Region{a, b, bad}, false}, {[]impl.Region{a, bad, b}, false},
		{[]impl.Region{a, {From: 193}}, false}, {[]impl.Region{a, {From: -1}}, false}, {[]impl.Region{a, b, {From: 20, Size: -1}}, false},
		{[]impl.Region{{From: 20, Size: -5}, {From: 10, Size: 5}}, false}, {[]impl.Region{{From: math.MaxInt64, Size: math.MaxInt64}}, false},
	}
	for _, x := range table {
		if got := impl.RegionsApart(x.list); got != x.want {
			t.Errorf("RegionsApart of %v: %v", x.list, got)
		}
	}
}

func TestRegionsApartOfThree(t *testing.T) {
	var list []impl.Region
	for from := int64(187); from <= 192; from++ {
		for size := int64(0); size <= 4; size++ {
			list = append(list, impl.Region{From: from, Size: size})
		}
	}
	for _, a := range list {
		for _, b := range list {
			for _, c := range list {
				want := regionFaultIn(a) == 0 && regionFaultIn(b) == 0 && regionFaultIn(c) == 0 && !meetIn(a, b) && !meetIn(a, c) && !meetIn(b, c)
				if got := impl.RegionsApart([]impl.Region{a, b, c}); got != want {
					t.Fatalf("RegionsApart of %v, %v and %v: %v", a, b, c, got)
				}
			}
		}
	}
}

// TestRegionsApartOfMany asks lists of one region for each place, and of very many without a place.
func TestRegionsApartOfMany(t *testing.T) {
	var list []impl.Region
	for at := range int64(192) {
		list = append(list, impl.Region{From: 191 - at, Size: 1})
	}
	if !impl.RegionsApart(list) {
		t.Error("all places, one by one, are apart")
	}
	for at := range int64(192) {
		if impl.RegionsApart(append(slices.Clone(list), impl.Region{From: at, Size: 1})) {
			t.Errorf("%d is there twice", at)
		}
	}
	many := slices.Repeat([]impl.Region{{From: 100}, {From: 5}, {}}, 100000)
	if !impl.RegionsApart(append(slices.Clone(many), list...)) || impl.RegionsApart(append(many, impl.Region{From: 193})) {
		t.Error("many regions without a place")
	}
}

func askPages(t *testing.T, r impl.Region, want impl.IntsResult) {
	t.Helper()
	if got := impl.PagesOf(r); got.Code != want.Code || !slices.Equal(got.List, want.List) {
		t.Fatalf("PagesOf of %v: %v, not %v", r, got, want)
	}
}

func TestPagesOf(t *testing.T) {
	list := someRegions()
	for from := int64(-1); from <= 193; from++ {
		for size := int64(-1); size <= 193; size++ {
			list = append(list, impl.Region{From: from, Size: size})
		}
	}
	for _, r := range list {
		want := impl.IntsResult{Code: regionFaultIn(r)}
		places := placesIn(r)
		for page := range int64(24) {
			if slices.Contains(places[page*8:page*8+8], true) {
				want.List = append(want.List, page)
			}
		}
		askPages(t, r, want)
	}
}

func TestPagesOfByHand(t *testing.T) {
	table := []struct {
		from, size int64
		want       []int64
	}{
		{0, 0, nil}, {5, 0, nil}, {8, 0, nil}, {191, 0, nil}, {192, 0, nil},
		{0, 1, []int64{0}}, {0, 8, []int64{0}}, {0, 9, []int64{0, 1}}, {7, 1, []int64{0}}, {7, 2, []int64{0, 1}}, {8, 8, []int64{1}},
		{5, 4, []int64{0, 1}}, {12, 13, []int64{1, 2, 3}}, {184, 8, []int64{23}}, {183, 9, []int64{22, 23}}, {191, 1, []int64{23}},
		{0, 192, []int64{0, 1, 2, 3, 4, 5, 6, 7, 8, 9, 10, 11, 12, 13, 14, 15, 16, 17, 18, 19, 20, 21, 22, 23}},
	}
	for _, x := range table {
		askPages(t, impl.Region{From: x.from, Size: x.size}, impl.IntsResult{List: x.want})
	}
}

func TestWipeRegion(t *testing.T) {
	for _, m := range goodMemories() {
		list := someRegions()
		for _, from := range []int64{0, 1, int64(len(m)) - 1, int64(len(m)), int64(len(m)) + 1} {
			for size := int64(0); size <= 193; size++ {
				list = append(list, impl.Region{From: from, Size: size})
			}
		}
		for _, r := range list {
			want := impl.MemoryResult{Code: regionFaultIn(r)}
			if want.Code == impl.OK {
				want = loadedIn(m, r.From, make([]int64, r.Size))
			}
			askMemory(t, impl.WipeRegion(m, r), want, "WipeRegion of ", r, " in ", m)
		}
	}
}

func TestWipeRegionByHand(t *testing.T) {
	m := []int64{10, 11, 12, 13, 14, 15, 16, 17}
	kept := impl.MemoryResult{Memory: m}
	table := []struct {
		from, size int64
		want       impl.MemoryResult
	}{
		{2, 3, impl.MemoryResult{Memory: []int64{10, 11, 0, 0, 0, 15, 16, 17}}},
		{0, 8, impl.MemoryResult{Memory: make([]int64, 8)}},
		{7, 1, impl.MemoryResult{Memory: []int64{10, 11, 12, 13, 14, 15, 16, 0}}},
		{0, 9, impl.MemoryResult{Code: impl.ErrWrite}},
		{7, 2, impl.MemoryResult{Code: impl.ErrWrite}},
		{8, 1, impl.MemoryResult{Code: impl.ErrWrite}},
		{191, 1, impl.MemoryResult{Code: impl.ErrWrite}},
		// Two faults in one: that of the region is told ahead of where it lies.
		{0, 193, impl.MemoryResult{Code: impl.ErrRange}},
		{192, 1, impl.MemoryResult{Code: impl.ErrRange}},
		{-1, 3, impl.MemoryResult{Code: impl.ErrRange}},
		{3, -1, impl.MemoryResult{Code: impl.ErrRange}},
		{math.MaxInt64, math.MaxInt64, impl.MemoryResult{Code: impl.ErrRange}},
		// A region without a place is within every memory, wherever it begins.
		{0, 0, kept}, {4, 0, kept}, {8, 0, kept}, {9, 0, kept}, {192, 0, kept}, {193, 0, impl.MemoryResult{Code: impl.ErrRange}},
	}
	for _, x := range table {
		r := impl.Region{From: x.from, Size: x.size}
		askMemory(t, impl.WipeRegion(m, r), x.want, "WipeRegion of ", r)
	}
}

func TestWipeRegionOfNoMemory(t *testing.T) {
	for _, x := range badMemories() {
		for _, r := range []impl.Region{{}, {Size: 8}, {Size: 192}, {From: 192, Size: 1}, {From: -1}, {From: math.MaxInt64, Size: 1}} {
			askMemory(t, impl.WipeRegion(x.m, r), impl.MemoryResult{Code: x.fault}, "WipeRegion of ", r, " in ", x.m)
		}
	}
}

// memoryCall is a call that is given a memory and words and answers a memory.
type memoryCall struct {
	name string
	do   func(m, words []int64) []int64
}

func memoryCalls() []memoryCall {
	load := func(at int64) func(m, words []int64) []int64 {
		return func(m, words []int64) []int64 { return impl.LoadWords(m, at, words).Memory }
	}
	wipe := func(r impl.Region) func(m, words []int64) []int64 {
		return func(m, words []int64) []int64 { return impl.WipeRegion(m, r).Memory }
	}
	return []memoryCall{
		{"NewMemory", func(m, words []int64) []int64 { return impl.NewMemory(2).Memory }},
		{"WriteWord", func(m, words []int64) []int64 { return impl.WriteWord(m, 15, -1).Memory }},
		{"WriteWord of what is there", func(m, words []int64) []int64 { return impl.WriteWord(m, 0, m[0]).Memory }},
		{"LoadWords", load(3)},
		{"LoadWords of all", func(m, words []int64) []int64 { return impl.LoadWords(m, 0, m).Memory }},
		{"LoadWords of words as many", func(m, words []int64) []int64 { return impl.LoadWords(words, 0, m).Memory }},
		{"LoadWords of none", func(m, words []int64) []int64 { return impl.LoadWords(m, 0, nil).Memory }},
		{"LoadWords of none behind the last place", func(m, words []int64) []int64 { return impl.LoadWords(m, 17, words[:0]).Memory }},
		{"WipeRegion", wipe(impl.Region{From: 6, Size: 4})},
		{"WipeRegion of all", wipe(impl.Region{Size: 16})},
		{"WipeRegion of no place", wipe(impl.Region{From: 20})},
	}
}

// roomy is a list with the words and with room behind them, which nothing may write to either.
func roomy(words []int64) (list, whole []int64) {
	return withRoom(words, 77)
}

func withRoom[T any](things []T, behind T) (list, whole []T) {
	whole = append(slices.Clone(things), slices.Repeat([]T{behind}, 300)...)
	return whole[:len(things)], whole
}

func turnAll(words []int64) {
	for k := range words {
		words[k] = -5
	}
}

// TestMemoriesAreNew asks that no call changes an argument, and that a write into an answer
// is seen in no argument and in no other answer, nor the other way round.
func TestMemoriesAreNew(t *testing.T) {
	for _, call := range memoryCalls() {
		for _, size := range []int{8, 16} {
			m, wholeM := roomy(countedMemory(16))
			words, wholeWords := roomy(countedMemory(size))
			keptM, keptWords := slices.Clone(wholeM), slices.Clone(wholeWords)
			first := call.do(m, words)
			kept, again := slices.Clone(first), call.do(m, words)
			if !slices.Equal(wholeM, keptM) || !slices.Equal(wholeWords, keptWords) {
				t.Errorf("%s changes an argument", call.name)
			}
			turnAll(first[:cap(first)])
			if !slices.Equal(wholeM, keptM) || !slices.Equal(wholeWords, keptWords) || !slices.Equal(again, kept) {
				t.Errorf("a write into the answer of %s is seen elsewhere", call.name)
			}
			if third := call.do(m, words); !slices.Equal(third, kept) {
				t.Errorf("a write into the answer of %s is kept", call.name)
			}
			turnAll(wholeM)
			turnAll(wholeWords)
			if !slices.Equal(again, kept) {
				t.Errorf("a write into an argument of %s is seen in its answer", call.name)
			}
		}
	}
}

// TestMemoriesOfEverySizeAreNew asks the same of the first and the last place of each size.
func TestMemoriesOfEverySizeAreNew(t *testing.T) {
	for pages := 1; pages <= 24; pages++ {
		m := countedMemory(pages * 8)
		last := int64(len(m)) - 1
		for _, got := range []impl.MemoryResult{impl.WriteWord(m, 0, 1), impl.WriteWord(m, last, 1), impl.LoadWords(m, last, []int64{2}),
			impl.LoadWords(m, last+1, nil), impl.WipeRegion(m, impl.Region{From: last, Size: 1}), impl.WipeRegion(m, impl.Region{})} {
			if got.Code != impl.OK || len(got.Memory) != len(m) {
				t.Fatalf("%d pages: %v", pages, got)
			}
			turnAll(got.Memory)
			if !slices.Equal(m, countedMemory(pages*8)) {
				t.Fatalf("%d pages are shared with an answer", pages)
			}
		}
	}
}

// TestWrongMemoriesStay asks that calls that tell a code change nothing either.
func TestWrongMemoriesStay(t *testing.T) {
	for _, x := range badMemories() {
		kept, words := slices.Clone(x.m), []int64{-1, impl.WordTop + 1}
		impl.MemoryFault(x.m)
		impl.ReadWord(x.m, 0)
		impl.WriteWord(x.m, 0, 1)
		impl.LoadWords(x.m, 0, words)
		impl.WipeRegion(x.m, impl.Region{Size: 8})
		if !slices.Equal(x.m, kept) || !slices.Equal(words, []int64{-1, impl.WordTop + 1}) {
			t.Fatalf("%v is changed", kept)
		}
	}
	m := countedMemory(8)
	impl.WriteWord(m, 8, 1)
	impl.LoadWords(m, 7, []int64{1, 2})
	impl.WipeRegion(m, impl.Region{From: 7, Size: 2})
	impl.ReadWord(m, -1)
	if !slices.Equal(m, countedMemory(8)) {
		t.Error("a call with a code changes the memory")
	}
}

func TestListsOfRegionsStay(t *testing.T) {
	lists := [][]impl.Region{
		{{From: 50, Size: 5}, {From: 3}, {From: 0, Size: 5}, {From: 20, Size: 1}, {From: 3}},
		{{From: 50, Size: 5}, {From: 54, Size: 5}, {From: 0, Size: 5}},
		{{From: 50, Size: 5}, {From: 0, Size: 5}, {From: -1}},
	}
	for _, list := range lists {
		whole := append(slices.Clone(list), slices.Repeat([]impl.Region{{From: 7, Size: 7}}, 20)...)
		kept := slices.Clone(whole)
		first := impl.RegionsApart(whole[:len(list)])
		if !slices.Equal(whole, kept) || impl.RegionsApart(whole[:len(list)]) != first {
			t.Errorf("RegionsApart of %v changes the list", list)
		}
	}
}

func TestListsOfPagesAreNew(t *testing.T) {
	r := impl.Region{From: 5, Size: 20}
	first, second := impl.PagesOf(r), impl.PagesOf(r)
	turnAll(first.List[:cap(first.List)])
	if !slices.Equal(second.List, []int64{0, 1, 2, 3}) {
		t.Errorf("a write into one answer is seen in another: %v", second.List)
	}
	askPages(t, r, impl.IntsResult{List: []int64{0, 1, 2, 3}})
}

// memoryAnswers is all that the chapter's functions tell of a memory, a region and a number.
func memoryAnswers(m []int64, r impl.Region, n int64) string {
	return fmt.Sprint(impl.MemoryFault(m), impl.NewMemory(n), impl.ReadWord(m, n), impl.WriteWord(m, n, r.From), impl.LoadWords(m, r.From, m[:min(3, len(m))]),
		impl.RegionFault(r), impl.RegionsMeet(r, impl.Region{From: 6, Size: 4}), impl.RegionsApart([]impl.Region{r, {From: n, Size: 1}}), impl.PagesOf(r), impl.WipeRegion(m, r))
}

// TestMemoriesHangOnTheirArgumentsAlone asks all once more, from the last one on: what was kept from a call would show.
func TestMemoriesHangOnTheirArgumentsAlone(t *testing.T) {
	memories := [][]int64{nil, countedMemory(1), countedMemory(8), countedMemory(16), withWordAt(16, 3, -1), countedMemory(193)}
	regions, numbers := someRegions(), []int64{-1, 0, 1, 7, 24}
	ask := func(k int) string {
		return memoryAnswers(memories[k%len(memories)], regions[k/len(memories)%len(regions)], numbers[k/len(memories)/len(regions)])
	}
	var said []string
	for k := range len(memories) * len(regions) * len(numbers) {
		said = append(said, ask(k))
	}
	for k := len(said) - 1; k >= 0; k-- {
		if got := ask(k); got != said[k] {
			t.Fatalf("first %s, then %s", said[k], got)
		}
	}
}
