package tests

import (
	"fmt"
	"math"
	"math/big"
	"slices"
	"testing"

	"loop.example/g00213/impl"
)

func entry(to, kinds int64) impl.Page {
	return impl.Page{To: to, Kinds: kinds}
}

// mapIn and mapsIn go through what the document says of a policy without a fault, word by word.
func mapIn(p impl.Policy, guest int64) []impl.Page {
	list := blankPages(8)
	for k, to := range p.Own[guest] {
		list[k] = entry(to, 7)
	}
	for _, x := range p.Lanes {
		if x.From == guest {
			list[x.AtFrom] = entry(x.Page, 3)
		}
		if x.To == guest {
			list[x.AtTo] = entry(x.Page, 1)
		}
	}
	return list
}

func mapsIn(p impl.Policy) [][]impl.Page {
	var maps [][]impl.Page
	for guest := range int64(len(p.Own)) {
		maps = append(maps, mapIn(p, guest))
	}
	return maps
}

func sameMaps(a, b impl.MapsResult) bool {
	return a.Code == b.Code && slices.EqualFunc(a.Maps, b.Maps, func(x, y []impl.Page) bool { return slices.Equal(x, y) })
}

func cloneLists[T any](lists [][]T) [][]T {
	var all [][]T
	for _, list := range lists {
		all = append(all, slices.Clone(list))
	}
	return all
}

// reachIn are the guests whose map leads to a page, and those of them that may write it.
func reachIn(maps [][]impl.Page, page int64) (reach, write []int64) {
	for guest, list := range maps {
		leads, writes := false, false
		for _, x := range list {
			leads = leads || x.To == page
			writes = writes || x.To == page && leadsFor(x.Kinds, 2)
		}
		if leads {
			reach = append(reach, int64(guest))
		}
		if writes {
			write = append(write, int64(guest))
		}
	}
	return reach, write
}

// pageSafeIn asks of one page all that is asked of it, whoever owns it and reaches it.
func pageSafeIn(p impl.Policy, maps [][]impl.Page, page int64) bool {
	reach, write := reachIn(maps, page)
	for _, guest := range reach {
		if owners := ownersIn(p, page); len(owners) > 0 && owners[0] != guest {
			return false
		}
	}
	for _, from := range write {
		for _, to := range reach {
			lanes := 0
			for _, x := range p.Lanes {
				if x.From == from && x.To == to && x.Page == page {
					lanes++
				}
			}
			if from != to && (lanes == 0 || slices.Contains(write, to)) {
				return false
			}
		}
	}
	return true
}

// mapsSafeIn goes through what the document says, page by page of the host.
func mapsSafeIn(p impl.Policy, maps [][]impl.Page) bool {
	if policyFaultIn(p) != impl.OK || len(maps) != len(p.Own) {
		return false
	}
	for _, list := range maps {
		if pagesFaultIn(list, 24) != impl.OK {
			return false
		}
	}
	for page := range int64(24) {
		if !pageSafeIn(p, maps, page) {
			return false
		}
	}
	return true
}

func askSafe(t *testing.T, p impl.Policy, maps [][]impl.Page) bool {
	t.Helper()
	got, want := impl.MapsSafe(p, maps), mapsSafeIn(p, maps)
	if got != want {
		t.Fatalf("MapsSafe of %v with maps %v: %v, not %v", p, maps, got, want)
	}
	return got
}

// loadedImagesIn goes through what the document says, word by word.
func loadedImagesIn(p impl.Policy, images [][]int64) impl.MemoryResult {
	if fault := policyFaultIn(p); fault != impl.OK {
		return impl.MemoryResult{Code: fault}
	}
	if len(images) != len(p.Own) {
		return impl.MemoryResult{Code: impl.ErrMany}
	}
	for guest, image := range images {
		if len(image) > 8*len(p.Own[guest]) {
			return impl.MemoryResult{Code: impl.ErrWrite}
		}
	}
	m := make([]int64, 192)
	for guest, image := range images {
		for at, w := range image {
			m[p.Own[guest][at/8]*8+int64(at%8)] = wordIn(big.NewInt(w))
		}
	}
	return impl.MemoryResult{Memory: m}
}

// wideWords are so many numbers that are not alike, words below 0 and above 4294967295 among them.
func wideWords(size int, seed int64) []int64 {
	edges := edgeNumbers()
	var list []int64
	for k := range int64(size) {
		if k%3 == 1 {
			list = append(list, edges[(k+seed)%int64(len(edges))])
		} else {
			list = append(list, (k+1)*7919*(seed+3)*(k%2*2-1)<<(k%30))
		}
	}
	return list
}

// imagesFor are images of a policy's guests: none has words, one alone has, some of each, all that there is room for.
func imagesFor(p impl.Policy) [][][]int64 {
	var list [][][]int64
	for _, size := range []int{0, 1, 7, 8, 9, 15, 16, 17, 39, 40} {
		var all [][]int64
		for guest, own := range p.Own {
			all = append(all, wideWords(min(size, 8*len(own)), int64(guest*5+size)))
		}
		list = append(list, all)
	}
	for guest := range p.Own {
		alone := make([][]int64, len(p.Own))
		alone[guest] = wideWords(8*len(p.Own[guest]), 1)
		list = append(list, alone)
	}
	return list
}

func TestPagesFor(t *testing.T) {
	for _, p := range goodPolicies() {
		for _, guest := range guestNumbers() {
			want := impl.PagesResult{Code: impl.ErrNone}
			if guestIn(p, guest) {
				want = impl.PagesResult{Pages: mapIn(p, guest)}
			}
			if got := impl.PagesFor(p, guest); !samePages(got, want) {
				t.Fatalf("PagesFor of %v, guest %d: %v, not %v", p, guest, got, want)
			}
		}
		if got, want := impl.BuildMaps(p), (impl.MapsResult{Maps: mapsIn(p)}); !sameMaps(got, want) {
			t.Fatalf("BuildMaps of %v: %v, not %v", p, got, want)
		}
	}
}

func TestPagesForByHand(t *testing.T) {
	type pages = []impl.Page
	no := entry(-1, 0)
	table := []struct {
		p    impl.Policy
		maps []pages
	}{
		{oneGuest(), []pages{{entry(4, 7), no, no, no, no, no, no, no}}},
		{twoGuests(), []pages{{entry(2, 7), entry(5, 7), no, no, no, entry(9, 3), no, no}, {entry(3, 7), no, no, no, no, entry(9, 1), no, no}}},
		{threeGuests(), []pages{
			{entry(0, 7), entry(23, 7), entry(7, 7), no, no, entry(8, 3), entry(22, 1), no},
			{entry(1, 7), no, no, no, no, entry(9, 3), entry(8, 1), no},
			{entry(2, 7), entry(3, 7), entry(4, 7), entry(5, 7), entry(6, 7), entry(9, 1), entry(22, 3), no},
		}},
		// The pages stand in the order in which they are owned.
		{looseGuests(), []pages{{entry(10, 7), no, no, no, no, no, no, no}, {entry(12, 7), entry(11, 7), no, no, no, no, no, no}, {entry(13, 7), no, no, no, no, no, no, no}}},
	}
	for _, x := range table {
		if got := impl.BuildMaps(x.p); !sameMaps(got, impl.MapsResult{Maps: x.maps}) {
			t.Errorf("BuildMaps of %v: %v, not %v", x.p, got, x.maps)
		}
		for guest, want := range x.maps {
			if got := impl.PagesFor(x.p, int64(guest)); !samePages(got, impl.PagesResult{Pages: want}) {
				t.Errorf("PagesFor of %v, guest %d: %v, not %v", x.p, guest, got, want)
			}
		}
		for _, guest := range []int64{math.MinInt64, -1, int64(len(x.maps)), math.MaxInt64} {
			if got := impl.PagesFor(x.p, guest); !samePages(got, impl.PagesResult{Code: impl.ErrNone}) {
				t.Errorf("PagesFor of %v, guest %d: %v", x.p, guest, got)
			}
		}
	}
}

// TestPagesForOfALane asks a lane between each two guests, at 5 and at 6 of either end, with host pages at the bounds.
func TestPagesForOfALane(t *testing.T) {
	for _, to := range []int64{0, 1, 22, 23} {
		for k := range int64(24) {
			from, other, atFrom, atTo := k%3, (k+1+k/3%2)%3, 5+k/6%2, 5+k/12
			p := looseGuests()
			p.Lanes = []impl.Lane{lane(from, other, to, atFrom, atTo)}
			maps := impl.BuildMaps(p).Maps
			if len(maps) != 3 || maps[from][atFrom] != entry(to, 3) || maps[other][atTo] != entry(to, 1) {
				t.Fatalf("BuildMaps with the lane %v: %v", p.Lanes[0], maps)
			}
			maps[from][atFrom], maps[other][atTo] = entry(-1, 0), entry(-1, 0)
			if bare := impl.BuildMaps(looseGuests()); !sameMaps(impl.MapsResult{Maps: maps}, bare) {
				t.Fatalf("the lane %v is seen at another page: %v", p.Lanes[0], maps)
			}
		}
	}
}

func TestPagesForOfOwnedPages(t *testing.T) {
	for size := 1; size <= 5; size++ {
		for _, own := range [][]int64{{0, 1, 2, 3, 4}, {23, 22, 21, 20, 19}, {5, 23, 0, 22, 1}} {
			p := impl.Policy{Own: [][]int64{{9}, own[:size]}, Plan: []impl.Slot{slot(0, 1)}}
			got := impl.PagesFor(p, 1)
			if got.Code != impl.OK || len(got.Pages) != 8 {
				t.Fatalf("PagesFor of a guest that owns %v: %v", own[:size], got)
			}
			for k, x := range got.Pages {
				if k < size && x != entry(own[k], 7) || k >= size && x != entry(-1, 0) {
					t.Errorf("PagesFor of a guest that owns %v: page %d is %v", own[:size], k, x)
				}
			}
		}
	}
}

func TestMapsThatAreBuiltAreSafe(t *testing.T) {
	for _, p := range goodPolicies() {
		maps := impl.BuildMaps(p).Maps
		if len(maps) != len(p.Own) || !impl.MapsSafe(p, maps) || !mapsSafeIn(p, maps) {
			t.Fatalf("the maps %v of %v are not safe", maps, p)
		}
		for guest, list := range maps {
			if impl.PagesFault(list, 24) != impl.OK || !slices.Equal(list, impl.PagesFor(p, int64(guest)).Pages) {
				t.Fatalf("the map %v of %v, guest %d", list, p, guest)
			}
		}
	}
}

func TestMapsSafeOfSizes(t *testing.T) {
	for _, p := range []impl.Policy{oneGuest(), twoGuests(), threeGuests(), looseGuests()} {
		maps := mapsIn(p)
		if impl.MapsSafe(p, nil) || impl.MapsSafe(p, [][]impl.Page{}) || impl.MapsSafe(p, maps[:len(maps)-1]) || impl.MapsSafe(p, maps[1:]) {
			t.Errorf("too few maps of %v are safe", p)
		}
		if impl.MapsSafe(p, append(slices.Clone(maps), blankPages(8))) || impl.MapsSafe(p, make([][]impl.Page, 1000)) || impl.MapsSafe(p, slices.Repeat([][]impl.Page{blankPages(8)}, 4)) {
			t.Errorf("too many maps of %v are safe", p)
		}
		for guest := range maps {
			for _, size := range []int{0, 1, 5, 7, 9, 16, 24, 1000} {
				turned := slices.Clone(maps)
				turned[guest] = blankPages(size)
				if askSafe(t, p, turned) {
					t.Errorf("%v with a map of %d pages is safe", p, size)
				}
			}
			turned := slices.Clone(maps)
			if turned[guest] = nil; impl.MapsSafe(p, turned) {
				t.Errorf("%v with a map of nothing is safe", p)
			}
			if turned[guest] = maps[guest][:7]; impl.MapsSafe(p, turned) {
				t.Errorf("%v with a map of one page too few is safe", p)
			}
			if turned[guest] = blankPages(8); !impl.MapsSafe(p, turned) {
				t.Errorf("%v with a map that leads nowhere is not safe", p)
			}
		}
	}
}

// TestMapsSafeOfMapsWithAFault turns one page alone, so that nothing but its fault is wrong about the map.
func TestMapsSafeOfMapsWithAFault(t *testing.T) {
	wrong := []impl.Page{entry(-2, 0), entry(24, 0), entry(24, 7), entry(math.MinInt64, 0), entry(math.MaxInt64, 1), entry(1<<32+15, 1), entry(15, 8), entry(15, -1), entry(15, math.MinInt64), entry(15, math.MaxInt64), entry(15, 1<<32)}
	for kinds := int64(1); kinds <= 8; kinds++ {
		wrong = append(wrong, entry(-1, kinds))
	}
	for _, p := range []impl.Policy{oneGuest(), twoGuests(), threeGuests()} {
		for guest := range p.Own {
			for k := range 8 {
				for _, x := range wrong {
					maps := mapsIn(p)
					maps[guest][k] = x
					if impl.MapsSafe(p, maps) {
						t.Fatalf("MapsSafe of %v with the page %d of guest %d %v", p, k, guest, x)
					}
				}
			}
		}
	}
	for _, x := range someBadPages() {
		for guest := range 3 {
			maps := slices.Repeat([][]impl.Page{blankPages(8)}, 3)
			maps[guest] = x.list
			if impl.MapsSafe(looseGuests(), maps) {
				t.Fatalf("MapsSafe with the map %v", x.list)
			}
		}
	}
}

// TestMapsSafeOfOwnedPages leads a page of a guest to each page that is owned, and to those that nobody owns, for all kinds and for none.
func TestMapsSafeOfOwnedPages(t *testing.T) {
	for _, p := range []impl.Policy{oneGuest(), twoGuests(), threeGuests(), looseGuests(), fullPolicy()} {
		lanes := map[int64]int{}
		for _, x := range p.Lanes {
			lanes[x.Page]++
		}
		for guest := range int64(len(p.Own)) {
			for to := range int64(24) {
				for kinds := range int64(8) {
					maps := mapsIn(p)
					maps[guest][7] = entry(to, kinds)
					got, owners := askSafe(t, p, maps), ownersIn(p, to)
					if len(owners) == 1 && got != (owners[0] == guest) {
						t.Fatalf("%v with the page 7 of guest %d to %d, which %d owns, for %d: %v", p, guest, to, owners[0], kinds, got)
					}
					if len(owners) == 0 && lanes[to] == 0 && !got {
						t.Fatalf("%v with the page 7 of guest %d to %d, which nobody owns, for %d is not safe", p, guest, to, kinds)
					}
				}
			}
		}
	}
}

// sharedBy are three maps in which each guest's page 2 leads to the page 9 for the kinds that are told (-1: nowhere).
func sharedBy(kinds ...int64) [][]impl.Page {
	var maps [][]impl.Page
	for _, n := range kinds {
		list := blankPages(8)
		if n >= 0 {
			list[2] = entry(9, n)
		}
		maps = append(maps, list)
	}
	return maps
}

func TestMapsSafeOfSharedPagesByHand(t *testing.T) {
	there, back, others, elsewhere := lane(0, 1, 9, 5, 6), lane(1, 0, 9, 5, 6), lane(1, 2, 9, 5, 6), lane(0, 1, 8, 5, 6)
	type lanes = []impl.Lane
	table := []struct {
		lanes lanes
		kinds []int64
		want  bool
	}{
		// One that may write alone, and another one that reaches it: by a lane from the one to the other.
		{lanes{there}, []int64{3, 1, -1}, true}, {lanes{there}, []int64{2, 1, -1}, true}, {lanes{there}, []int64{7, 5, -1}, true}, {lanes{there}, []int64{2, 0, -1}, true}, {lanes{there}, []int64{6, 4, -1}, true},
		{lanes{back}, []int64{3, 1, -1}, false}, {lanes{others}, []int64{3, 1, -1}, false}, {lanes{elsewhere}, []int64{3, 1, -1}, false}, {nil, []int64{3, 1, -1}, false},
		{lanes{there}, []int64{1, 3, -1}, false}, {lanes{back}, []int64{1, 3, -1}, true}, {lanes{others}, []int64{1, 3, -1}, false}, {nil, []int64{1, 3, -1}, false},
		{nil, []int64{2, 0, -1}, false}, {nil, []int64{0, 2, -1}, false}, {lanes{back}, []int64{2, 0, -1}, false}, {lanes{elsewhere, back}, []int64{3, 1, -1}, false}, {lanes{elsewhere, lane(0, 1, 9, 6, 5)}, []int64{3, 1, -1}, true},
		// Both may write.
		{lanes{there}, []int64{3, 3, -1}, false}, {lanes{there}, []int64{2, 2, -1}, false}, {lanes{back}, []int64{3, 2, -1}, false}, {nil, []int64{7, 7, -1}, false}, {lanes{there}, []int64{3, 7, -1}, false},
		// Nobody may write, or nobody else is there.
		{nil, []int64{1, 1, 1}, true}, {nil, []int64{5, 4, 0}, true}, {nil, []int64{0, 0, 0}, true}, {lanes{others}, []int64{5, 1, 4}, true},
		{nil, []int64{7, -1, -1}, true}, {nil, []int64{-1, 2, -1}, true}, {lanes{there}, []int64{-1, -1, 7}, true}, {lanes{others}, []int64{7, -1, -1}, true}, {lanes{there}, []int64{-1, 7, -1}, true},
		// A third one, to which no lane leads.
		{lanes{there}, []int64{3, 1, 1}, false}, {lanes{there}, []int64{3, 1, 0}, false}, {lanes{there}, []int64{3, 1, 2}, false}, {lanes{there}, []int64{1, 1, 2}, false}, {lanes{there}, []int64{3, -1, 1}, false}, {lanes{others}, []int64{-1, 3, 1}, true}, {lanes{others}, []int64{-1, 1, 3}, false},
	}
	for _, x := range table {
		p := looseGuests()
		p.Lanes = x.lanes
		if impl.PolicyFault(p) != impl.OK {
			t.Fatalf("the lanes %v have a fault", x.lanes)
		}
		if got := askSafe(t, p, sharedBy(x.kinds...)); got != x.want {
			t.Errorf("MapsSafe with the lanes %v and kinds %v: %v", x.lanes, x.kinds, got)
		}
	}
}

// TestMapsSafeOfSharedPages asks all kinds of three guests, with each lane that there may be.
func TestMapsSafeOfSharedPages(t *testing.T) {
	policies := []impl.Policy{looseGuests()}
	for from := range int64(3) {
		for to := range int64(3) {
			for _, page := range []int64{8, 9} {
				p := looseGuests()
				if p.Lanes = []impl.Lane{lane(from, to, page, 6, 5)}; from != to {
					policies = append(policies, p)
				}
			}
		}
	}
	for _, p := range policies {
		safe := 0
		for code := range int64(9 * 9 * 9) {
			if askSafe(t, p, sharedBy(code%9-1, code/9%9-1, code/81-1)) {
				safe++
			}
		}
		if safe < 100 || safe > 700 {
			t.Errorf("%d of 729 maps are safe with the lanes %v", safe, p.Lanes)
		}
	}
}

// TestMapsSafeOfPagesLedToTwice asks maps in which one page leads somewhere to write and another one there for other kinds.
func TestMapsSafeOfPagesLedToTwice(t *testing.T) {
	p := twoGuests()
	for _, x := range [][2]int64{{0, 2}, {2, 0}, {1, 2}, {2, 1}, {4, 3}, {3, 5}} {
		one := blankPages(8, entry(9, x[0]), entry(2, 7), entry(9, x[1]))
		other := blankPages(8, entry(3, 7), entry(9, 1), entry(-1, 0), entry(9, 4))
		if !askSafe(t, p, [][]impl.Page{one, other}) {
			t.Errorf("a lane's page that its writer has twice, for %v, is not safe", x)
		}
		if askSafe(t, p, [][]impl.Page{blankPages(8, entry(9, 1)), blankPages(8, entry(9, x[0]), entry(9, x[1]))}) {
			t.Errorf("a lane's page that its reader has twice, for %v, is safe", x)
		}
		if !askSafe(t, p, [][]impl.Page{blankPages(8, entry(2, x[0]), entry(2, x[1]), entry(5, 7), entry(5, 7)), blankPages(8)}) {
			t.Errorf("a page of its own that a guest has twice, for %v, is not safe", x)
		}
	}
}

// TestMapsSafeOfTurnedMaps turns each page of maps that are built to each page for all kinds, those with a fault among them.
func TestMapsSafeOfTurnedMaps(t *testing.T) {
	policies := append([]impl.Policy{oneGuest(), twoGuests(), threeGuests(), looseGuests(), fullPolicy(), linkedGuests(127)}, mixedPolicies(9)...)
	for _, p := range policies {
		for guest := range p.Own {
			for k := range 8 {
				for to := int64(-2); to <= 24; to++ {
					for _, kinds := range []int64{-1, 0, 1, 2, 3, 4, 7, 8} {
						maps := mapsIn(p)
						maps[guest][k] = entry(to, kinds)
						askSafe(t, p, maps)
					}
				}
			}
		}
	}
}

// TestMapsSafeOfMixedMaps asks maps told by a steady count, most of whose pages are a guest's own, a lane's or nobody's.
func TestMapsSafeOfMixedMaps(t *testing.T) {
	seed := uint64(31)
	next := func(n int) int {
		seed = seed*6364136223846793005 + 1442695040888963407
		return int(seed>>33) % n
	}
	safe, all := 0, 0
	for _, p := range mixedPolicies(600) {
		for range 8 {
			maps := mapsIn(p)
			for range next(5) {
				list := maps[next(len(maps))]
				x := maps[next(len(maps))][next(8)]
				if x.To != -1 {
					x.Kinds = int64(next(8))
				}
				list[next(8)] = x
			}
			all++
			if askSafe(t, p, maps) {
				safe++
			}
		}
	}
	if safe < all/10 || safe > all*9/10 {
		t.Errorf("%d of %d maps are safe", safe, all)
	}
}

func TestLoadImages(t *testing.T) {
	for _, p := range goodPolicies() {
		for _, images := range imagesFor(p) {
			askMemory(t, impl.LoadImages(p, images), loadedImagesIn(p, images), "LoadImages of ", p, images)
		}
	}
}

func TestLoadImagesByHand(t *testing.T) {
	p := impl.Policy{Own: [][]int64{{23, 0, 7}, {1}}, Plan: []impl.Slot{slot(0, 1)}}
	m := make([]int64, 192)
	copy(m[184:], []int64{1, 2, 3, 4, 5, 6, 7, 8})
	copy(m, []int64{9, 10, 11, 12, 13, 14, 15, 16})
	m[56], m[8], m[9] = 17, impl.WordTop, 5
	images := [][]int64{{1, 2, 3, 4, 5, 6, 7, 8, 9, 10, 11, 12, 13, 14, 15, 16, 17}, {-1, 1<<32 + 5}}
	askMemory(t, impl.LoadImages(p, images), impl.MemoryResult{Memory: m}, "LoadImages of pages that do not rise")
	if got := impl.WordsOf(p, m, 0); !sameInts(got, impl.IntsResult{List: append(images[0], 0, 0, 0, 0, 0, 0, 0)}) {
		t.Errorf("WordsOf of pages that do not rise: %v", got)
	}
	for _, none := range [][][]int64{{nil, nil}, {{}, {}}, {nil, {}}} {
		askMemory(t, impl.LoadImages(p, none), impl.MemoryResult{Memory: make([]int64, 192)}, "LoadImages of images without words")
	}
}

// TestLoadImagesOfWords asks that each number is wrapped, wherever it stands.
func TestLoadImagesOfWords(t *testing.T) {
	p := impl.Policy{Own: [][]int64{{20}, {22, 3, 17, 23, 0}}, Plan: []impl.Slot{slot(1, 1)}}
	for _, w := range append(edgeNumbers(), math.MinInt64, -1<<32, -1, 0, 1<<32-1, 1<<32, 1<<32+1, math.MaxInt64) {
		for at := range 40 {
			image := make([]int64, at+1)
			image[at] = w
			got, place := impl.LoadImages(p, [][]int64{{w}, image}), p.Own[1][at/8]*8+int64(at%8)
			m := make([]int64, 192)
			m[160], m[place] = wordIn(big.NewInt(w)), wordIn(big.NewInt(w))
			askMemory(t, got, impl.MemoryResult{Memory: m}, "LoadImages of ", w, " at ", at)
		}
	}
	if got := impl.LoadImages(p, [][]int64{{math.MinInt64, math.MaxInt64, -1}, nil}); got.Code != impl.OK || got.Memory[160] != 0 || got.Memory[161] != impl.WordTop || got.Memory[162] != impl.WordTop {
		t.Errorf("LoadImages of the least and the greatest number: %v", got)
	}
}

// TestLoadImagesWithCodes asks how many images there are ahead of how many words they have.
func TestLoadImagesWithCodes(t *testing.T) {
	words := func(size int) []int64 { return make([]int64, size) }
	type list = [][]int64
	one, two, three := oneGuest(), twoGuests(), threeGuests()
	table := []struct {
		p      impl.Policy
		images list
		want   int64
	}{
		{one, nil, impl.ErrMany}, {one, list{}, impl.ErrMany}, {one, list{nil, nil}, impl.ErrMany}, {one, list{words(9), nil}, impl.ErrMany}, {one, make(list, 1000), impl.ErrMany},
		{one, list{nil}, impl.OK}, {one, list{words(8)}, impl.OK}, {one, list{words(9)}, impl.ErrWrite}, {one, list{words(192)}, impl.ErrWrite}, {one, list{words(193)}, impl.ErrWrite}, {one, list{words(1 << 20)}, impl.ErrWrite},
		{two, nil, impl.ErrMany}, {two, list{nil}, impl.ErrMany}, {two, list{words(17)}, impl.ErrMany}, {two, list{words(17), words(9), nil}, impl.ErrMany}, {two, list{nil, nil, nil}, impl.ErrMany},
		{two, list{words(16), words(8)}, impl.OK}, {two, list{words(17), words(8)}, impl.ErrWrite}, {two, list{words(16), words(9)}, impl.ErrWrite}, {two, list{words(17), words(9)}, impl.ErrWrite}, {two, list{words(8), words(16)}, impl.ErrWrite}, {two, list{nil, words(9)}, impl.ErrWrite},
		{three, list{nil, nil}, impl.ErrMany}, {three, list{nil, nil, nil, nil}, impl.ErrMany}, {three, list{words(24), words(8), words(40)}, impl.OK}, {three, list{words(25), nil, nil}, impl.ErrWrite}, {three, list{nil, words(9), nil}, impl.ErrWrite}, {three, list{nil, nil, words(41)}, impl.ErrWrite},
		{three, list{words(40), words(24), words(8)}, impl.ErrWrite},
	}
	for k, x := range table {
		got := impl.LoadImages(x.p, x.images)
		if got.Code != x.want || x.want != impl.OK && len(got.Memory) != 0 {
			t.Errorf("%d: LoadImages tells %d, not %d", k, got.Code, x.want)
		}
		askMemory(t, got, loadedImagesIn(x.p, x.images), "LoadImages of ", x.p)
	}
}

// TestImagesAreWhereTheirGuestsFindThem asks of each word, by the pages for its guest and by the words of it, what stands at its place.
func TestImagesAreWhereTheirGuestsFindThem(t *testing.T) {
	for _, p := range goodPolicies() {
		for _, images := range imagesFor(p) {
			m := impl.LoadImages(p, images).Memory
			if impl.MemoryFault(m) != impl.OK {
				t.Fatalf("LoadImages of %v has a fault", p)
			}
			for guest, image := range images {
				askImage(t, p, m, int64(guest), image)
			}
			for k := range p.Lanes {
				if got := impl.LaneWords(p, m, int64(k)); !sameInts(got, impl.IntsResult{List: make([]int64, 8)}) {
					t.Fatalf("LaneWords of %v behind LoadImages: %v", p, got)
				}
			}
			for _, page := range impl.FreePages(p).List {
				if slices.Max(m[page*8:page*8+8]) != 0 {
					t.Fatalf("the page %d, which is free, has words of an image of %v", page, p)
				}
			}
		}
	}
}

func askImage(t *testing.T, p impl.Policy, m []int64, guest int64, image []int64) {
	t.Helper()
	pages, words := impl.PagesFor(p, guest).Pages, impl.WordsOf(p, m, guest).List
	if len(words) != 8*len(p.Own[guest]) {
		t.Fatalf("WordsOf of %v, guest %d: %v", p, guest, words)
	}
	for at, got := range words {
		want := int64(0)
		if at < len(image) {
			want = impl.WrapWord(image[at])
		}
		place := impl.WalkPages(pages, int64(at), impl.KindRun)
		if got != want || place.Code != impl.OK || impl.ReadWord(m, place.Value) != (impl.IntResult{Value: want}) {
			t.Fatalf("guest %d of %v finds %d at %d (by its pages %v), not %d", guest, p, got, at, place, want)
		}
	}
}

// wordsOnIn are the words of pages, one page behind the other.
func wordsOnIn(m []int64, pages ...int64) impl.IntsResult {
	var list []int64
	for _, page := range pages {
		for k := range int64(8) {
			list = append(list, m[page*8+k])
		}
	}
	return impl.IntsResult{List: list}
}

func laneNumbers() []int64 {
	return []int64{math.MinInt64, -1 << 32, -1, 0, 1, 2, 3, 4, 5, 1 << 32, math.MaxInt64}
}

func TestWordsOfAndLaneWords(t *testing.T) {
	memories := [][]int64{countedMemory(192), make([]int64, 192), withWordAt(192, 0, impl.WordTop), withWordAt(192, 191, impl.WordTop)}
	for _, p := range goodPolicies() {
		for _, m := range memories {
			for _, guest := range guestNumbers() {
				want := impl.IntsResult{Code: impl.ErrNone}
				if guestIn(p, guest) {
					want = wordsOnIn(m, p.Own[guest]...)
				}
				if got := impl.WordsOf(p, m, guest); !sameInts(got, want) {
					t.Fatalf("WordsOf of %v, guest %d: %v, not %v", p, guest, got, want)
				}
			}
			for _, k := range laneNumbers() {
				want := impl.IntsResult{Code: impl.ErrNone}
				if within(k, int64(len(p.Lanes))-1) {
					want = wordsOnIn(m, p.Lanes[k].Page)
				}
				if got := impl.LaneWords(p, m, k); !sameInts(got, want) {
					t.Fatalf("LaneWords of %v, lane %d: %v, not %v", p, k, got, want)
				}
			}
		}
	}
}

func TestWordsOfAndLaneWordsByHand(t *testing.T) {
	p, m := threeGuests(), make([]int64, 192)
	for k := range m {
		m[k] = int64(k)
	}
	type ints = []int64
	guests := []ints{
		{0, 1, 2, 3, 4, 5, 6, 7, 184, 185, 186, 187, 188, 189, 190, 191, 56, 57, 58, 59, 60, 61, 62, 63},
		{8, 9, 10, 11, 12, 13, 14, 15},
	}
	for guest, want := range guests {
		if got := impl.WordsOf(p, m, int64(guest)); !sameInts(got, impl.IntsResult{List: want}) {
			t.Errorf("WordsOf guest %d: %v", guest, got)
		}
	}
	if got := impl.WordsOf(p, m, 2); !sameInts(got, impl.IntsResult{List: m[16:56]}) {
		t.Errorf("WordsOf guest 2: %v", got)
	}
	for k, want := range []ints{{64, 65, 66, 67, 68, 69, 70, 71}, {72, 73, 74, 75, 76, 77, 78, 79}, {176, 177, 178, 179, 180, 181, 182, 183}} {
		if got := impl.LaneWords(p, m, int64(k)); !sameInts(got, impl.IntsResult{List: want}) {
			t.Errorf("LaneWords of lane %d: %v", k, got)
		}
	}
	none := impl.IntsResult{Code: impl.ErrNone}
	for _, k := range []int64{-1, 3, 4} {
		if !sameInts(impl.LaneWords(p, m, k), none) || !sameInts(impl.WordsOf(p, m, k), none) {
			t.Errorf("WordsOf guest %d or LaneWords of lane %d", k, k)
		}
	}
	for _, bare := range []impl.Policy{oneGuest(), looseGuests()} {
		for _, k := range []int64{-1, 0, 1} {
			if got := impl.LaneWords(bare, m, k); !sameInts(got, none) {
				t.Errorf("LaneWords of a policy without lanes, lane %d: %v", k, got)
			}
		}
	}
}

// TestWordsOfWrongMemories asks memories with a fault, whichever it is, and ones of 1 to 25 pages; who is none is told ahead of them.
func TestWordsOfWrongMemories(t *testing.T) {
	memories := [][]int64{nil, {}}
	for _, x := range badMemories() {
		memories = append(memories, x.m)
	}
	for pages := 1; pages <= 25; pages++ {
		if pages != 24 {
			memories = append(memories, countedMemory(pages*8), make([]int64, pages*8))
		}
	}
	for at := range 192 {
		memories = append(memories, withWordAt(192, at, -1), withWordAt(192, at, impl.WordTop+1))
	}
	form, none := impl.IntsResult{Code: impl.ErrForm}, impl.IntsResult{Code: impl.ErrNone}
	for _, p := range []impl.Policy{oneGuest(), twoGuests(), threeGuests()} {
		for _, m := range memories {
			for k := int64(-1); k <= 4; k++ {
				wantWords, wantLane := none, none
				if guestIn(p, k) {
					wantWords = form
				}
				if within(k, int64(len(p.Lanes))-1) {
					wantLane = form
				}
				if a, b := impl.WordsOf(p, m, k), impl.LaneWords(p, m, k); !sameInts(a, wantWords) || !sameInts(b, wantLane) {
					t.Fatalf("WordsOf and LaneWords of %v, %d words, %d: %v, %v", p, len(m), k, a, b)
				}
			}
		}
		if impl.WordsOf(p, countedMemory(192), 0).Code != impl.OK {
			t.Errorf("WordsOf of %v and a memory of 24 pages", p)
		}
	}
}

func TestFreePages(t *testing.T) {
	for _, p := range goodPolicies() {
		var want []int64
		for page := range int64(24) {
			used := len(ownersIn(p, page))
			for _, x := range p.Lanes {
				if x.Page == page {
					used++
				}
			}
			if used == 0 {
				want = append(want, page)
			}
		}
		if got := impl.FreePages(p); !sameInts(got, impl.IntsResult{List: want}) {
			t.Fatalf("FreePages of %v: %v, not %v", p, got, want)
		}
	}
}

func TestFreePagesByHand(t *testing.T) {
	edges := impl.Policy{Own: [][]int64{{23}, {22}}, Lanes: []impl.Lane{lane(0, 1, 0, 5, 5)}, Plan: []impl.Slot{slot(0, 1)}}
	table := []struct {
		p    impl.Policy
		want []int64
	}{
		{oneGuest(), []int64{0, 1, 2, 3, 5, 6, 7, 8, 9, 10, 11, 12, 13, 14, 15, 16, 17, 18, 19, 20, 21, 22, 23}},
		{twoGuests(), []int64{0, 1, 4, 6, 7, 8, 10, 11, 12, 13, 14, 15, 16, 17, 18, 19, 20, 21, 22, 23}},
		{threeGuests(), []int64{10, 11, 12, 13, 14, 15, 16, 17, 18, 19, 20, 21}},
		{edges, []int64{1, 2, 3, 4, 5, 6, 7, 8, 9, 10, 11, 12, 13, 14, 15, 16, 17, 18, 19, 20, 21}},
		// Nobody can leave fewer: three guests have five pages each, and three lanes take all their places.
		{fullPolicy(), []int64{1, 7, 15, 16, 17, 18}},
	}
	for _, x := range table {
		if got := impl.FreePages(x.p); !sameInts(got, impl.IntsResult{List: x.want}) {
			t.Errorf("FreePages of %v: %v, not %v", x.p, got, x.want)
		}
	}
}

// TestLayoutTellsTheFaultOfAPolicy asks that all tell it ahead of anything else, and nothing beside it.
func TestLayoutTellsTheFaultOfAPolicy(t *testing.T) {
	built, memories := mapsIn(looseGuests()), [][]int64{nil, countedMemory(184), countedMemory(192), withWordAt(192, 5, -1)}
	images := [][][]int64{nil, {{1}, {2}, {3}}, {make([]int64, 100), nil, nil}, make([][]int64, 4)}
	for _, x := range someBadPolicies() {
		many := impl.IntsResult{Code: x.fault}
		for _, n := range []int64{math.MinInt64, -1, 0, 2, 3, math.MaxInt64} {
			if got := impl.PagesFor(x.p, n); !samePages(got, impl.PagesResult{Code: x.fault}) {
				t.Fatalf("PagesFor of %v, guest %d: %v, not %d", x.p, n, got, x.fault)
			}
			for _, m := range memories {
				if !sameInts(impl.WordsOf(x.p, m, n), many) || !sameInts(impl.LaneWords(x.p, m, n), many) {
					t.Fatalf("WordsOf or LaneWords of %v, %d does not tell %d", x.p, n, x.fault)
				}
			}
		}
		for _, list := range images {
			askMemory(t, impl.LoadImages(x.p, list), impl.MemoryResult{Code: x.fault}, "LoadImages of ", x.p)
		}
		if !sameMaps(impl.BuildMaps(x.p), impl.MapsResult{Code: x.fault}) || !sameInts(impl.FreePages(x.p), many) {
			t.Fatalf("BuildMaps or FreePages of %v does not tell %d", x.p, x.fault)
		}
		for _, maps := range [][][]impl.Page{nil, built, slices.Repeat([][]impl.Page{blankPages(8)}, 3), slices.Repeat([][]impl.Page{blankPages(8)}, len(x.p.Own))} {
			if impl.MapsSafe(x.p, maps) {
				t.Fatalf("MapsSafe of %v, which has a fault", x.p)
			}
		}
	}
	if !impl.MapsSafe(looseGuests(), built) {
		t.Error("the maps are not safe where the policy has no fault")
	}
}

// layoutAnswers tells all that the chapter's functions answer.
func layoutAnswers(p impl.Policy, maps [][]impl.Page, images [][]int64, m []int64, n int64) string {
	return fmt.Sprint(impl.PagesFor(p, n), impl.BuildMaps(p), impl.MapsSafe(p, maps), impl.LoadImages(p, images), impl.WordsOf(p, m, n), impl.LaneWords(p, m, n), impl.FreePages(p))
}

// withRoomInside are lists with room behind them and behind each of them; whole are the same with what stands in the room.
func withRoomInside[T any](lists [][]T, behind T) (list, whole, inside [][]T) {
	for _, x := range lists {
		one, all := withRoom(x, behind)
		list, inside = append(list, one), append(inside, all)
	}
	list, whole = withRoom(list, []T{behind})
	return list, whole, inside
}

func sameLists[T comparable](a, b [][]T) bool {
	return slices.EqualFunc(a, b, func(x, y []T) bool { return slices.Equal(x, y) })
}

func TestLayoutCallsChangeNothing(t *testing.T) {
	policies := goodPolicies()
	for _, x := range someBadPolicies() {
		policies = append(policies, x.p)
	}
	bad, memories := someBadPages(), [][]int64{nil, countedMemory(184), countedMemory(192), withWordAt(192, 7, math.MinInt64), countedMemory(200)}
	for k, p := range policies {
		q, wholeP, room := roomyPolicy(p)
		before := clonePolicy(wholeP)
		lists := [][]impl.Page{bad[k%len(bad)].list}
		images := [][]int64{wideWords(k%300, 1)}
		if policyFaultIn(p) == impl.OK {
			lists, images = mapsIn(p), imagesFor(p)[k%10]
			lists[0][7] = entry(int64(k%26)-1, int64(k%9))
		}
		maps, wholeMaps, insideMaps := withRoomInside(lists, entry(7, 7))
		words, wholeWords, insideWords := withRoomInside(images, 77)
		m, wholeM := roomy(memories[k%len(memories)])
		keptMaps, keptMapsInside := cloneLists(wholeMaps), cloneLists(insideMaps)
		keptWords, keptWordsInside, keptM := cloneLists(wholeWords), cloneLists(insideWords), slices.Clone(wholeM)
		for n := int64(-1); n <= 3; n++ {
			layoutAnswers(q, maps, words, m, n)
		}
		written := slices.ContainsFunc(room, func(own []int64) bool { return own != nil })
		if written || !samePolicies(q, p) || !samePolicies(wholeP, before) {
			t.Fatalf("a call turned %v into %v", p, q)
		}
		if !sameLists(wholeMaps, keptMaps) || !sameLists(insideMaps, keptMapsInside) || !sameLists(maps, lists) {
			t.Fatalf("a call turned the maps %v into %v", lists, maps)
		}
		if !sameLists(wholeWords, keptWords) || !sameLists(insideWords, keptWordsInside) || !sameLists(words, images) {
			t.Fatalf("a call turned the images %v into %v", images, words)
		}
		if !slices.Equal(wholeM, keptM) {
			t.Fatalf("a call turned a memory into %v", m)
		}
	}
}

// TestLayoutMapsAreNew writes into all that is answered, and into what there is room for behind it, and asks again.
func TestLayoutMapsAreNew(t *testing.T) {
	for _, p := range goodPolicies() {
		q, want := clonePolicy(p), mapsIn(p)
		first, second := impl.BuildMaps(q).Maps, impl.BuildMaps(q).Maps
		for k, list := range first {
			turnPages(list[:cap(list)])
			if !sameLists(first[k+1:], want[k+1:]) || !sameLists(second, want) || !samePolicies(q, p) {
				t.Fatalf("the map %d of %v shares memory", k, p)
			}
		}
		clear(first[:cap(first)])
		for guest := range p.Own {
			one, other := impl.PagesFor(q, int64(guest)).Pages, impl.PagesFor(q, int64(guest)).Pages
			turnPages(one[:cap(one)])
			if !slices.Equal(other, want[guest]) || !slices.Equal(impl.PagesFor(q, int64(guest)).Pages, want[guest]) {
				t.Fatalf("PagesFor of %v, guest %d, shares memory", p, guest)
			}
		}
		if !sameLists(second, want) || !samePolicies(q, p) || !sameLists(impl.BuildMaps(q).Maps, want) {
			t.Fatalf("BuildMaps of %v shares memory", p)
		}
		// The other way round: what is answered stays, whatever becomes of the policy.
		turnPolicy(q)
		if !sameLists(second, want) {
			t.Fatalf("a write into %v is seen in its maps", p)
		}
	}
}

func turnPolicy(p impl.Policy) {
	for _, own := range p.Own {
		turnAll(own)
	}
	clear(p.Lanes)
	clear(p.Bells)
	clear(p.Plan)
}

// TestLayoutWordsAreNew asks the same of memories and words.
func TestLayoutWordsAreNew(t *testing.T) {
	for k, p := range goodPolicies() {
		q, images := clonePolicy(p), imagesFor(p)[k%10]
		given, want := cloneLists(images), loadedImagesIn(p, images).Memory
		first, second := impl.LoadImages(q, given).Memory, impl.LoadImages(q, given).Memory
		turnAll(first[:cap(first)])
		if !slices.Equal(second, want) || !sameLists(given, images) || !samePolicies(q, p) || !slices.Equal(impl.LoadImages(q, given).Memory, want) {
			t.Fatalf("LoadImages of %v shares memory", p)
		}
		for _, image := range given {
			turnAll(image)
		}
		m := countedMemory(192)
		kept := slices.Clone(m)
		asks := []func() []int64{func() []int64 { return impl.FreePages(q).List }}
		for n := range int64(3) {
			asks = append(asks, func() []int64 { return impl.WordsOf(q, m, n).List }, func() []int64 { return impl.LaneWords(q, m, n).List })
		}
		var answers, told [][]int64
		for _, ask := range asks {
			one, other := ask(), ask()
			answers, told = append(answers, other), append(told, slices.Clone(other))
			turnAll(one[:cap(one)])
			if !slices.Equal(m, kept) || !samePolicies(q, p) || !slices.Equal(ask(), told[len(told)-1]) {
				t.Fatalf("a write into an answer of %v is seen elsewhere", p)
			}
		}
		turnAll(m)
		turnPolicy(q)
		if !sameLists(answers, told) || !slices.Equal(second, want) {
			t.Fatalf("a write into an argument is seen in an answer of %v", p)
		}
	}
}

// TestLayoutHangsOnItsArgumentsAlone asks all once more, from the last one on: what was kept from a call would show.
func TestLayoutHangsOnItsArgumentsAlone(t *testing.T) {
	policies := goodPolicies()
	for _, x := range someBadPolicies() {
		policies = append(policies, x.p)
	}
	memories := [][]int64{nil, countedMemory(184), countedMemory(192), withWordAt(192, 7, -1)}
	ask := func(k int) string {
		p := policies[k%len(policies)]
		maps, images := [][]impl.Page{blankPages(8)}, [][]int64{{int64(k)}}
		if policyFaultIn(p) == impl.OK {
			maps, images = mapsIn(p), imagesFor(p)[k%10]
		}
		return layoutAnswers(p, maps, images, memories[k%len(memories)], int64(k%5)-1)
	}
	var said []string
	for k := range 2 * len(policies) {
		said = append(said, ask(k))
	}
	for k := len(said) - 1; k >= 0; k-- {
		if got := ask(k); got != said[k] {
			t.Fatalf("first %s, then %s", said[k], got)
		}
	}
}
