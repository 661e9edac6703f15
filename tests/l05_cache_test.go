package tests

import (
	"fmt"
	"math"
	"slices"
	"testing"

	"loop.example/g00213/impl"
)

// tagNumbers, hitPageNumbers, toNumbers and hitKindNumbers are what stands in a hit, at the bounds and beyond them.
func tagNumbers() []int64 {
	return []int64{math.MinInt64, -1 << 32, -1, 0, 1, 9, 10, 1 << 32, 1<<32 + 1, math.MaxInt64}
}

func hitPageNumbers() []int64 {
	return []int64{math.MinInt64, -1 << 32, -8, -1, 0, 1, 7, 8, 1 << 32, 1<<32 + 1, math.MaxInt64}
}

func toNumbers() []int64 {
	return []int64{math.MinInt64, -1 << 32, -2, -1, 0, 1, 23, 24, 1 << 32, 1<<32 + 1, math.MaxInt64}
}

func hitKindNumbers() []int64 {
	return []int64{math.MinInt64, -1 << 32, -1, 0, 1, 7, 8, 1 << 32, 1<<32 + 1, math.MaxInt64}
}

func hit(tag, page, to, kinds int64) impl.Hit {
	return impl.Hit{Tag: tag, Page: page, To: to, Kinds: kinds}
}

// roughPages have pages that lead nowhere, and for no kind, between others.
func roughPages() []impl.Page {
	return []impl.Page{{To: 3, Kinds: 5}, {To: -1}, {To: 23, Kinds: 2}, {To: 9}, {To: 0, Kinds: 7}, {To: 0, Kinds: 4}, {To: 1, Kinds: 1}, {To: 22, Kinds: 6}}
}

// steadyHit tells 40 hits, no two of one Tag and Page.
func steadyHit(k int) impl.Hit {
	n := int64(k)
	return hit(n*3%10, n*5%8, n*7%24, n%7+1)
}

func steadyCache(size int) []impl.Hit {
	var cache []impl.Hit
	for k := range size {
		cache = append(cache, steadyHit(k))
	}
	return cache
}

// withHitAt is a steady cache with one hit turned.
func withHitAt(size, at int, h impl.Hit) []impl.Hit {
	cache := steadyCache(size)
	cache[at] = h
	return cache
}

// hitsOf are the hits of a list's pages that lead somewhere for some kind, from a page on, under a tag.
func hitsOf(list []impl.Page, tag int64, from int) []impl.Hit {
	var cache []impl.Hit
	for k := range list {
		page := (from + k) % len(list)
		if p := list[page]; p.Kinds > 0 {
			cache = append(cache, impl.Hit{Tag: tag, Page: int64(page), To: p.To, Kinds: p.Kinds})
		}
	}
	return cache
}

// mixedCaches have no fault, and hits of few tags, so that several are of one tag; told by a steady count.
func mixedCaches(many int) [][]impl.Hit {
	var caches [][]impl.Hit
	seed := uint64(71)
	next := func(n int64) int64 {
		seed = seed*6364136223846793005 + 1442695040888963407
		return int64(seed>>33) % n
	}
	for k := range many {
		var cache []impl.Hit
		for len(cache) < k%13 {
			h := impl.Hit{Tag: next(3), Page: next(8), To: next(24), Kinds: next(7) + 1}
			if _, there := placeIn(cache, h.Tag, h.Page); !there {
				cache = append(cache, h)
			}
		}
		caches = append(caches, cache)
	}
	return caches
}

// goodCaches have no fault: of every size, of one tag and of many, of one page and of all.
func goodCaches() [][]impl.Hit {
	caches := [][]impl.Hit{nil, {}, {{Tag: 0, Page: 0, To: 0, Kinds: 1}}, {{Tag: 9, Page: 7, To: 23, Kinds: 7}},
		{{Tag: 9, Page: 7, To: 23, Kinds: 7}, {Tag: 0, Page: 0, To: 0, Kinds: 1}}, {{Tag: 1, Page: 4, To: 2, Kinds: 3}, {Tag: 2, Page: 4, To: 2, Kinds: 3}}}
	for size := 1; size <= 12; size++ {
		caches = append(caches, steadyCache(size))
	}
	for _, list := range [][]impl.Page{steadyPages(8), slices.Repeat([]impl.Page{{To: 23, Kinds: 7}}, 8)} {
		caches = append(caches, hitsOf(list, 1, 0), hitsOf(list, 1, 5), slices.Concat(hitsOf(list, 1, 0), hitsOf(list, 2, 3)[:4]))
	}
	var onePage []impl.Hit
	for tag := int64(9); tag >= 0; tag-- {
		onePage = append(onePage, impl.Hit{Tag: tag, Page: 3, To: tag, Kinds: 7})
	}
	return slices.Concat(caches, [][]impl.Hit{onePage}, mixedCaches(26))
}

type badCache struct {
	cache []impl.Hit
	fault int64
}

// someBadCaches have a fault; the first one is told where there are two.
func someBadCaches() []badCache {
	wrong, twin := impl.Hit{Tag: 10}, steadyHit(0)
	list := []badCache{{steadyCache(13), impl.ErrMany}, {steadyCache(14), impl.ErrMany}, {steadyCache(40), impl.ErrMany}, {slices.Repeat(steadyCache(1), 13), impl.ErrMany},
		{withHitAt(13, 0, wrong), impl.ErrMany}, {withHitAt(13, 12, wrong), impl.ErrMany}, {withHitAt(13, 1, twin), impl.ErrMany}, {make([]impl.Hit, 1000), impl.ErrMany}}
	for _, size := range []int{1, 2, 11, 12} {
		for _, at := range []int{0, size / 2, size - 1} {
			good := steadyHit(at)
			for _, h := range wrongHits(good) {
				list = append(list, badCache{withHitAt(size, at, h), impl.ErrRange})
			}
		}
	}
	for _, size := range []int{2, 3, 11, 12} {
		for at := 1; at < size; at++ {
			for ahead := range at {
				h := steadyHit(ahead)
				list = append(list, badCache{withHitAt(size, at, h), impl.ErrTaken}, badCache{withHitAt(size, at, impl.Hit{Tag: h.Tag, Page: h.Page, To: 23 - h.To, Kinds: 8 - h.Kinds}), impl.ErrTaken})
			}
		}
	}
	taken, range3 := slices.Clone(steadyCache(12)), slices.Clone(steadyCache(12))
	taken[3], taken[4] = taken[2], wrong
	range3[3], range3[4] = wrong, range3[2]
	return append(list, badCache{taken, impl.ErrTaken}, badCache{range3, impl.ErrRange},
		badCache{[]impl.Hit{{Kinds: 1}, {Kinds: 0}}, impl.ErrRange}, badCache{[]impl.Hit{{Kinds: 1}, {To: 24, Kinds: 1}}, impl.ErrRange},
		badCache{[]impl.Hit{wrong, wrong}, impl.ErrRange}, badCache{[]impl.Hit{{Kinds: 1}, {Kinds: 2}, wrong}, impl.ErrTaken})
}

// wrongHits are a hit with one field of it out of its bounds.
func wrongHits(good impl.Hit) []impl.Hit {
	var list []impl.Hit
	keep := func(h impl.Hit) {
		if hitFaultIn(h) != impl.OK {
			list = append(list, h)
		}
	}
	for _, n := range tagNumbers() {
		keep(impl.Hit{Tag: n, Page: good.Page, To: good.To, Kinds: good.Kinds})
	}
	for _, n := range hitPageNumbers() {
		keep(impl.Hit{Tag: good.Tag, Page: n, To: good.To, Kinds: good.Kinds})
	}
	for _, n := range toNumbers() {
		keep(impl.Hit{Tag: good.Tag, Page: good.Page, To: n, Kinds: good.Kinds})
	}
	for _, n := range hitKindNumbers() {
		keep(impl.Hit{Tag: good.Tag, Page: good.Page, To: good.To, Kinds: n})
	}
	return list
}

func hitFaultIn(h impl.Hit) int64 {
	if within(h.Tag, 9) && within(h.Page, 7) && within(h.To, 23) && h.Kinds >= 1 && h.Kinds <= 7 {
		return impl.OK
	}
	return impl.ErrRange
}

// cacheFaultIn goes through what the document says, word by word.
func cacheFaultIn(cache []impl.Hit) int64 {
	if len(cache) > 12 {
		return impl.ErrMany
	}
	for k, h := range cache {
		if fault := hitFaultIn(h); fault != impl.OK {
			return fault
		}
		if _, there := placeIn(cache[:k], h.Tag, h.Page); there {
			return impl.ErrTaken
		}
	}
	return impl.OK
}

func placeIn(cache []impl.Hit, tag, page int64) (int, bool) {
	k := slices.IndexFunc(cache, func(h impl.Hit) bool { return h.Tag == tag && h.Page == page })
	return k, k >= 0
}

// filledIn is what a cache without a fault is behind a hit without one.
func filledIn(cache []impl.Hit, h impl.Hit) []impl.Hit {
	kept := slices.Clone(cache)
	if k, there := placeIn(kept, h.Tag, h.Page); there {
		kept = slices.Delete(kept, k, k+1)
	} else if len(kept) == 12 {
		kept = kept[1:]
	}
	return append(kept, h)
}

func flushedIn(cache []impl.Hit, tag int64) []impl.Hit {
	var kept []impl.Hit
	for _, h := range cache {
		if h.Tag != tag {
			kept = append(kept, h)
		}
	}
	return kept
}

func fitsIn(cache []impl.Hit, tag int64, list []impl.Page) bool {
	if cacheFaultIn(cache) != impl.OK || pagesFaultIn(list, 24) != impl.OK {
		return false
	}
	for _, h := range cache {
		if p := list[h.Page]; h.Tag == tag && (h.To != p.To || h.Kinds != p.Kinds) {
			return false
		}
	}
	return true
}

// cachedIn is what walking with a cache answers where the cache has no fault.
func cachedIn(cache []impl.Hit, tag int64, list []impl.Page, at, kind int64) impl.CacheResult {
	if !within(tag, 9) {
		return impl.CacheResult{Code: impl.ErrRange}
	}
	if fault := pagesFaultIn(list, 24); fault != impl.OK {
		return impl.CacheResult{Code: fault}
	}
	code := codeOfKind(kind)
	if code == 0 {
		return impl.CacheResult{Code: impl.ErrRange}
	}
	if !within(at, 63) {
		return impl.CacheResult{Code: code}
	}
	if k, there := placeIn(cache, tag, at/8); there {
		if !leadsFor(cache[k].Kinds, kind) {
			return impl.CacheResult{Code: code, Hit: true}
		}
		return impl.CacheResult{Value: cache[k].To*8 + at%8, Hit: true, Cache: cache}
	}
	walked := walkIn(list, at, kind)
	if walked.Code != impl.OK {
		return impl.CacheResult{Code: walked.Code}
	}
	p := list[at/8]
	return impl.CacheResult{Value: walked.Value, Cache: filledIn(cache, impl.Hit{Tag: tag, Page: at / 8, To: p.To, Kinds: p.Kinds})}
}

func sameCaches(a, b impl.CacheResult) bool {
	return a.Code == b.Code && a.Value == b.Value && a.Hit == b.Hit && slices.Equal(a.Cache, b.Cache)
}

// onlyCode asks that an answer has a code and nothing else.
func onlyCode(got impl.CacheResult, code int64) bool {
	return got.Code == code && got.Value == 0 && !got.Hit && len(got.Cache) == 0
}

func TestCacheConstants(t *testing.T) {
	if impl.MaxCache != 12 {
		t.Error("constants")
	}
}

func TestCacheFault(t *testing.T) {
	for _, cache := range goodCaches() {
		if got := impl.CacheFault(cache); got != impl.OK || cacheFaultIn(cache) != impl.OK {
			t.Fatalf("CacheFault of %v: %d", cache, got)
		}
	}
	for _, x := range someBadCaches() {
		if got := impl.CacheFault(x.cache); got != x.fault || cacheFaultIn(x.cache) != x.fault {
			t.Fatalf("CacheFault of %v: %d, not %d", x.cache, got, x.fault)
		}
	}
}

// TestCacheFaultAtTheEdges asks one hit, with all fields of it at their bounds and beyond, and the same behind another one.
func TestCacheFaultAtTheEdges(t *testing.T) {
	for _, tag := range tagNumbers() {
		for _, page := range hitPageNumbers() {
			for _, to := range toNumbers() {
				for _, kinds := range hitKindNumbers() {
					h := impl.Hit{Tag: tag, Page: page, To: to, Kinds: kinds}
					for _, cache := range [][]impl.Hit{{h}, {steadyHit(0), h}, {h, steadyHit(9)}} {
						if got, want := impl.CacheFault(cache), cacheFaultIn(cache); got != want {
							t.Fatalf("CacheFault of %v: %d, not %d", cache, got, want)
						}
					}
				}
			}
		}
	}
}

func TestCacheFaultByHand(t *testing.T) {
	type hits = []impl.Hit
	table := []struct {
		cache hits
		want  int64
	}{
		{nil, impl.OK}, {hits{}, impl.OK}, {hits{hit(0, 0, 0, 1)}, impl.OK}, {hits{hit(9, 7, 23, 7)}, impl.OK}, {hits{{}}, impl.ErrRange},
		{hits{hit(-1, 0, 0, 1)}, impl.ErrRange}, {hits{hit(10, 0, 0, 1)}, impl.ErrRange}, {hits{hit(0, -1, 0, 1)}, impl.ErrRange}, {hits{hit(0, 8, 0, 1)}, impl.ErrRange},
		{hits{hit(0, 0, -1, 1)}, impl.ErrRange}, {hits{hit(0, 0, 24, 1)}, impl.ErrRange}, {hits{hit(0, 0, 0, 0)}, impl.ErrRange}, {hits{hit(0, 0, 0, 8)}, impl.ErrRange},
		{hits{hit(0, 0, -1, 0)}, impl.ErrRange}, {hits{hit(math.MinInt64, 0, 0, 1)}, impl.ErrRange}, {hits{hit(0, math.MaxInt64, 0, 1)}, impl.ErrRange},
		{hits{hit(1, 2, 3, 4), hit(1, 2, 3, 4)}, impl.ErrTaken}, {hits{hit(1, 2, 3, 4), hit(1, 2, 5, 6)}, impl.ErrTaken}, {hits{hit(1, 2, 3, 4), hit(1, 3, 3, 4), hit(1, 2, 3, 4)}, impl.ErrTaken},
		{hits{hit(1, 2, 3, 4), hit(2, 2, 3, 4)}, impl.OK}, {hits{hit(1, 2, 3, 4), hit(1, 3, 3, 4)}, impl.OK}, {hits{hit(1, 2, 3, 4), hit(2, 1, 3, 4)}, impl.OK}, {hits{hit(1, 2, 3, 4), hit(2, 2, 3, 4), hit(3, 2, 3, 4)}, impl.OK},
		// Hit by hit: the first one with a fault tells its own, whichever it is; of one with both the bounds are asked ahead.
		{hits{hit(1, 2, 3, 4), hit(1, 2, 3, 4), hit(1, 2, 3, 8)}, impl.ErrTaken}, {hits{hit(1, 2, 3, 4), hit(5, 5, 5, 8), hit(1, 2, 3, 4)}, impl.ErrRange}, {hits{hit(1, 2, 3, 4), hit(1, 2, 3, 8)}, impl.ErrRange},
		{hits{hit(11, 2, 3, 4), hit(11, 2, 3, 4)}, impl.ErrRange},
	}
	for _, x := range table {
		if got := impl.CacheFault(x.cache); got != x.want {
			t.Errorf("CacheFault of %v: %d, not %d", x.cache, got, x.want)
		}
	}
}

func TestFindHit(t *testing.T) {
	for _, cache := range goodCaches() {
		for _, tag := range slices.Concat(tagNumbers(), []int64{2, 3, 4, 5, 6, 7, 8}) {
			for _, page := range slices.Concat(hitPageNumbers(), []int64{2, 3, 4, 5, 6}) {
				want := impl.IntResult{Code: impl.ErrNone}
				if k, there := placeIn(cache, tag, page); there {
					want = impl.IntResult{Value: int64(k)}
				}
				if got := impl.FindHit(cache, tag, page); got != want {
					t.Fatalf("FindHit of %v, tag %d, page %d: %v, not %v", cache, tag, page, got, want)
				}
			}
		}
	}
}

func TestFindHitByHand(t *testing.T) {
	cache := []impl.Hit{hit(9, 7, 1, 1), hit(0, 0, 1, 1), hit(1, 0, 1, 1), hit(0, 7, 1, 1)}
	table := []struct{ tag, page, code, value int64 }{
		{9, 7, impl.OK, 0}, {0, 0, impl.OK, 1}, {1, 0, impl.OK, 2}, {0, 7, impl.OK, 3}, {1, 7, impl.ErrNone, 0}, {9, 0, impl.ErrNone, 0}, {5, 0, impl.ErrNone, 0}, {0, 5, impl.ErrNone, 0},
		{-1, 0, impl.ErrNone, 0}, {10, 7, impl.ErrNone, 0}, {0, -1, impl.ErrNone, 0}, {0, 8, impl.ErrNone, 0}, {math.MinInt64, math.MaxInt64, impl.ErrNone, 0}, {7, 9, impl.ErrNone, 0},
	}
	for _, x := range table {
		if got := impl.FindHit(cache, x.tag, x.page); got != (impl.IntResult{Code: x.code, Value: x.value}) {
			t.Errorf("FindHit of tag %d, page %d: %v", x.tag, x.page, got)
		}
	}
	if got := impl.FindHit(nil, 0, 0); got != (impl.IntResult{Code: impl.ErrNone}) {
		t.Errorf("FindHit of no hits: %v", got)
	}
}

// someHits are hits to fill in, those of steady and of mixed caches among them.
func someHits() []impl.Hit {
	list := []impl.Hit{hit(0, 0, 0, 1), hit(9, 7, 23, 7), hit(1, 4, 9, 2), hit(2, 3, 22, 5), hit(9, 0, 0, 7), hit(0, 7, 23, 1)}
	for k := range 14 {
		h := steadyHit(k)
		list = append(list, h, impl.Hit{Tag: h.Tag, Page: h.Page, To: 23 - h.To, Kinds: 8 - h.Kinds})
	}
	return list
}

// TestWhatIsFilledInIsFound asks which hit goes, where the others stand then, and that the new one is the last.
func TestWhatIsFilledInIsFound(t *testing.T) {
	for _, cache := range goodCaches() {
		for _, h := range someHits() {
			want := impl.CacheResult{Cache: filledIn(cache, h)}
			got := impl.FillCache(cache, h)
			if !sameCaches(got, want) {
				t.Fatalf("FillCache of %v with %v: %v, not %v", cache, h, got, want)
			}
			if place := impl.FindHit(got.Cache, h.Tag, h.Page); place != (impl.IntResult{Value: int64(len(got.Cache)) - 1}) || impl.CacheFault(got.Cache) != impl.OK {
				t.Fatalf("%v filled into %v is found at %v", h, cache, place)
			}
		}
	}
}

func TestFillCacheByHand(t *testing.T) {
	at11, at12, other := steadyCache(11), steadyCache(12), steadyHit(20)
	there := func(k int) impl.Hit { return impl.Hit{Tag: at12[k].Tag, Page: at12[k].Page, To: 22, Kinds: 6} }
	table := []struct {
		cache []impl.Hit
		h     impl.Hit
		want  []impl.Hit
	}{
		{nil, other, []impl.Hit{other}},
		{at12[:1], there(0), []impl.Hit{there(0)}},
		{at12[:1], other, []impl.Hit{at12[0], other}},
		{at11, other, append(slices.Clone(at11), other)},
		{at12, other, append(slices.Clone(at12[1:]), other)},
		{at11, there(0), append(slices.Clone(at11[1:]), there(0))},
		{at12, there(0), append(slices.Clone(at12[1:]), there(0))},
		{at11, there(10), append(slices.Clone(at11[:10]), there(10))},
		{at12, there(11), append(slices.Clone(at12[:11]), there(11))},
		{at11, there(5), slices.Concat(at11[:5], at11[6:], []impl.Hit{there(5)})},
		{at12, there(5), slices.Concat(at12[:5], at12[6:], []impl.Hit{there(5)})},
		{at12, at12[5], slices.Concat(at12[:5], at12[6:], []impl.Hit{at12[5]})},
		{at12, at12[11], at12},
	}
	for k, x := range table {
		if got := impl.FillCache(x.cache, x.h); !sameCaches(got, impl.CacheResult{Cache: x.want}) {
			t.Errorf("%d: FillCache of %v with %v: %v, not %v", k, x.cache, x.h, got, x.want)
		}
	}
}

// TestFillCacheOverAndOver asks what 30 hits leave of a cache that has room for 12.
func TestFillCacheOverAndOver(t *testing.T) {
	var cache, want []impl.Hit
	for k := range 30 {
		cache = impl.FillCache(cache, steadyHit(k)).Cache
		want = append(want, steadyHit(k))
		if k == 12 && !slices.Equal(cache, want[1:]) {
			t.Fatalf("behind 13 hits: %v", cache)
		}
	}
	if !slices.Equal(cache, want[18:]) {
		t.Errorf("behind 30 hits: %v, not %v", cache, want[18:])
	}
}

func TestFillCacheWithWrongHits(t *testing.T) {
	for _, cache := range [][]impl.Hit{nil, steadyCache(1), steadyCache(11), steadyCache(12)} {
		for _, good := range []impl.Hit{steadyHit(0), steadyHit(11), steadyHit(20)} {
			for _, h := range wrongHits(good) {
				if got := impl.FillCache(cache, h); !onlyCode(got, impl.ErrRange) {
					t.Fatalf("FillCache of %v with %v: %v", cache, h, got)
				}
			}
		}
	}
}

// TestWhatIsFlushedIsNotFound asks that no hit of the tag is found any more, and all others in their order.
func TestWhatIsFlushedIsNotFound(t *testing.T) {
	for _, cache := range goodCaches() {
		for tag := range int64(10) {
			got, want := impl.FlushCache(cache, tag), impl.CacheResult{Cache: flushedIn(cache, tag)}
			if !sameCaches(got, want) {
				t.Fatalf("FlushCache of %v, tag %d: %v, not %v", cache, tag, got, want)
			}
			for page := range int64(8) {
				if found := impl.FindHit(got.Cache, tag, page); found != (impl.IntResult{Code: impl.ErrNone}) {
					t.Fatalf("FindHit of tag %d, page %d behind FlushCache: %v", tag, page, found)
				}
			}
			if again := impl.FlushCache(got.Cache, tag); !sameCaches(again, want) {
				t.Fatalf("FlushCache of %v, tag %d, twice: %v", cache, tag, again)
			}
		}
	}
}

func TestFlushCacheByHand(t *testing.T) {
	a, b, c, d, e := hit(0, 0, 1, 1), hit(9, 7, 2, 2), hit(0, 7, 3, 3), hit(5, 0, 4, 4), hit(0, 3, 5, 5)
	all := []impl.Hit{a, b, c, d, e}
	table := []struct {
		cache []impl.Hit
		tag   int64
		want  []impl.Hit
	}{
		{all, 0, []impl.Hit{b, d}}, {all, 9, []impl.Hit{a, c, d, e}}, {all, 5, []impl.Hit{a, b, c, e}}, {all, 1, all}, {all, 7, all}, {[]impl.Hit{c, a, e}, 0, nil}, {[]impl.Hit{b}, 9, nil},
		{nil, 0, nil}, {nil, 9, nil}, {[]impl.Hit{e, d, c, b, a}, 0, []impl.Hit{d, b}}, {hitsOf(steadyPages(8), 4, 3), 4, nil}, {hitsOf(steadyPages(8), 4, 3), 3, hitsOf(steadyPages(8), 4, 3)},
	}
	for _, x := range table {
		if got := impl.FlushCache(x.cache, x.tag); !sameCaches(got, impl.CacheResult{Cache: x.want}) {
			t.Errorf("FlushCache of %v, tag %d: %v, not %v", x.cache, x.tag, got, x.want)
		}
	}
	for _, tag := range []int64{math.MinInt64, -1 << 32, -1, 10, 11, 1 << 32, math.MaxInt64} {
		for _, cache := range [][]impl.Hit{nil, all, steadyCache(12)} {
			if got := impl.FlushCache(cache, tag); !onlyCode(got, impl.ErrRange) {
				t.Errorf("FlushCache of tag %d: %v", tag, got)
			}
		}
	}
}

func TestCacheFits(t *testing.T) {
	lists := slices.Concat(goodPages(8), goodPages(24))
	for _, x := range someBadPages()[:40] {
		lists = append(lists, x.list)
	}
	caches := goodCaches()
	for _, x := range someBadCaches()[:40] {
		caches = append(caches, x.cache)
	}
	for k, list := range lists {
		tags := []int64{-1, 0, 1, 2, 9, 10, math.MinInt64, math.MaxInt64}
		for _, cache := range append(caches, hitsOf(list[:min(8, len(list))], 1, k)) {
			for _, tag := range tags {
				if got, want := impl.CacheFits(cache, tag, list), fitsIn(cache, tag, list); got != want {
					t.Fatalf("CacheFits of %v, tag %d, %v: %v", cache, tag, list, got)
				}
			}
		}
	}
}

func TestCacheFitsByHand(t *testing.T) {
	list := roughPages()
	fits := hitsOf(list, 1, 0)
	if len(fits) != 6 || !impl.CacheFits(fits, 1, list) || !impl.CacheFits(nil, 1, list) || !impl.CacheFits([]impl.Hit{}, 0, list) {
		t.Fatal("a cache that says what the list says does not fit")
	}
	for _, h := range []impl.Hit{hit(1, 0, 4, 5), hit(1, 0, 3, 4), hit(1, 0, 3, 7), hit(1, 0, 5, 3), hit(1, 1, 0, 1), hit(1, 1, 23, 7), hit(1, 3, 9, 1), hit(1, 3, 9, 7), hit(1, 7, 22, 2), hit(1, 7, 21, 6), hit(1, 4, 23, 7)} {
		kept := slices.DeleteFunc(slices.Clone(fits), func(x impl.Hit) bool { return x.Page == h.Page })
		for at := range len(kept) + 1 {
			cache := slices.Insert(slices.Clone(kept), at, h)
			if impl.CacheFits(cache, 1, list) {
				t.Errorf("CacheFits of %v", cache)
			}
		}
		other := impl.Hit{Tag: 2, Page: h.Page, To: h.To, Kinds: h.Kinds}
		if !impl.CacheFits(append(slices.Clone(fits), other), 1, list) || impl.CacheFits(append(slices.Clone(fits), other), 2, list) {
			t.Errorf("%v is asked under another tag, or not under its own", other)
		}
		// No hit has a tag beyond the bounds, so no hit says anything else under it.
		if cache := []impl.Hit{h}; !impl.CacheFits(cache, -1, list) || !impl.CacheFits(cache, 10, list) || !impl.CacheFits(cache, 0, list) {
			t.Errorf("%v is asked under other tags", h)
		}
	}
}

func TestWrongCachesFitNothing(t *testing.T) {
	for _, x := range someBadCaches() {
		for _, tag := range []int64{-1, 0, 5, 9, 10} {
			for _, list := range [][]impl.Page{blankPages(8), steadyPages(8), nil} {
				if impl.CacheFits(x.cache, tag, list) {
					t.Fatalf("CacheFits of %v, which has a fault", x.cache)
				}
			}
		}
	}
	for _, x := range someBadPages() {
		for _, cache := range [][]impl.Hit{nil, steadyCache(12), {hit(0, 0, 0, 1)}} {
			if impl.CacheFits(cache, 5, x.list) {
				t.Fatalf("CacheFits of %v, which has a fault", x.list)
			}
		}
	}
}

func TestWalkCached(t *testing.T) {
	places := []int64{math.MinInt64, -8, -7, -1, 0, 3, 7, 8, 15, 16, 23, 24, 31, 33, 40, 47, 48, 55, 56, 63, 64, 72, math.MaxInt64}
	kinds := []int64{math.MinInt64, -1, 0, 1, 2, 3, 4, 5, 6, 7, 8, math.MaxInt64}
	lists := slices.Concat([][]impl.Page{blankPages(8), steadyPages(8)}, mixedPages(24, 6))
	for _, list := range lists {
		for _, cache := range goodCaches() {
			for _, tag := range []int64{-1, 0, 1, 9, 10} {
				for _, at := range places {
					for _, kind := range kinds {
						if got, want := impl.WalkCached(cache, tag, list, at, kind), cachedIn(cache, tag, list, at, kind); !sameCaches(got, want) {
							t.Fatalf("WalkCached of %v, tag %d, %v at %d for %d: %v, not %v", cache, tag, list, at, kind, got, want)
						}
					}
				}
			}
		}
	}
}

func TestWalkCachedByHand(t *testing.T) {
	list := roughPages()
	cache := []impl.Hit{hit(1, 0, 5, 2), hit(2, 7, 8, 1), hit(1, 1, 7, 3)}
	with := func(h impl.Hit) []impl.Hit { return append(slices.Clone(cache), h) }
	table := []struct {
		tag, at, kind int64
		want          impl.CacheResult
	}{
		// A hit tells, whatever the list says.
		{1, 0, 2, impl.CacheResult{Value: 40, Hit: true, Cache: cache}}, {1, 7, 2, impl.CacheResult{Value: 47, Hit: true, Cache: cache}},
		{1, 0, 1, impl.CacheResult{Code: impl.ErrRead, Hit: true}}, {1, 0, 4, impl.CacheResult{Code: impl.ErrRun, Hit: true}},
		{1, 9, 1, impl.CacheResult{Value: 57, Hit: true, Cache: cache}}, {1, 15, 2, impl.CacheResult{Value: 63, Hit: true, Cache: cache}}, {1, 9, 4, impl.CacheResult{Code: impl.ErrRun, Hit: true}},
		{2, 63, 1, impl.CacheResult{Value: 71, Hit: true, Cache: cache}}, {2, 63, 2, impl.CacheResult{Code: impl.ErrWrite, Hit: true}},
		// Under another tag the list tells, and what it says is the last hit then.
		{1, 63, 2, impl.CacheResult{Value: 183, Cache: with(hit(1, 7, 22, 6))}}, {2, 0, 1, impl.CacheResult{Value: 24, Cache: with(hit(2, 0, 3, 5))}},
		{0, 0, 4, impl.CacheResult{Value: 24, Cache: with(hit(0, 0, 3, 5))}}, {9, 39, 1, impl.CacheResult{Value: 7, Cache: with(hit(9, 4, 0, 7))}},
		{1, 16, 2, impl.CacheResult{Value: 184, Cache: with(hit(1, 2, 23, 2))}},
		// What cannot be walked is not filled in.
		{1, 63, 1, impl.CacheResult{Code: impl.ErrRead}}, {2, 0, 2, impl.CacheResult{Code: impl.ErrWrite}}, {2, 9, 1, impl.CacheResult{Code: impl.ErrRead}}, {2, 9, 4, impl.CacheResult{Code: impl.ErrRun}},
		{1, 24, 1, impl.CacheResult{Code: impl.ErrRead}}, {1, 24, 2, impl.CacheResult{Code: impl.ErrWrite}},
		// Places that are none have no page, so no hit is of it.
		{1, -1, 2, impl.CacheResult{Code: impl.ErrWrite}}, {1, -7, 2, impl.CacheResult{Code: impl.ErrWrite}}, {2, 64, 1, impl.CacheResult{Code: impl.ErrRead}}, {1, 64, 4, impl.CacheResult{Code: impl.ErrRun}},
		{1, math.MinInt64, 1, impl.CacheResult{Code: impl.ErrRead}}, {1, math.MaxInt64, 2, impl.CacheResult{Code: impl.ErrWrite}},
		{1, 0, 0, impl.CacheResult{Code: impl.ErrRange}}, {1, 0, 3, impl.CacheResult{Code: impl.ErrRange}}, {1, 0, 5, impl.CacheResult{Code: impl.ErrRange}}, {1, 0, 8, impl.CacheResult{Code: impl.ErrRange}},
		{-1, 0, 2, impl.CacheResult{Code: impl.ErrRange}}, {10, 0, 2, impl.CacheResult{Code: impl.ErrRange}}, {1, -1, 3, impl.CacheResult{Code: impl.ErrRange}}, {10, 64, 1, impl.CacheResult{Code: impl.ErrRange}},
	}
	for _, x := range table {
		if got := impl.WalkCached(cache, x.tag, list, x.at, x.kind); !sameCaches(got, x.want) {
			t.Errorf("WalkCached of tag %d at %d for %d: %v, not %v", x.tag, x.at, x.kind, got, x.want)
		}
	}
}

// TestWalkCachedWithoutRoom asks a cache of 12 hits, none of them of the page: the first one goes.
func TestWalkCachedWithoutRoom(t *testing.T) {
	list := roughPages()
	full := slices.Concat(hitsOf(steadyPages(8), 2, 3), hitsOf(steadyPages(8), 7, 1)[:4])
	if len(full) != 12 {
		t.Fatal("not full")
	}
	got := impl.WalkCached(full, 1, list, 34, impl.KindRun)
	if want := append(slices.Clone(full[1:]), hit(1, 4, 0, 7)); !sameCaches(got, impl.CacheResult{Value: 2, Cache: want}) {
		t.Errorf("%v, not %v", got, want)
	}
	if got := impl.WalkCached(full, 1, list, 8, impl.KindRun); !onlyCode(got, impl.ErrRun) {
		t.Errorf("a page that leads nowhere: %v", got)
	}
	first := full[0]
	if got := impl.WalkCached(full, first.Tag, list, first.Page*8+5, 1<<2); !got.Hit || got.Code != impl.OK || got.Value != first.To*8+5 || !slices.Equal(got.Cache, full) {
		t.Errorf("the first of 12 hits: %v", got)
	}
}

// partsOf are caches that fit a list under a tag, with hits of other tags that say something else.
func partsOf(list []impl.Page, tag int64) [][]impl.Hit {
	var caches [][]impl.Hit
	for from := range 8 {
		all := hitsOf(list, tag, from)
		others := []impl.Hit{hit((tag+1)%10, int64(from), 20, 7), hit((tag+2)%10, int64(from), 21, 1), hit((tag+1)%10, int64(from+1)%8, 22, 2), hit((tag+3)%10, 0, 23, 4)}
		caches = append(caches, all, all[:len(all)/2], slices.Concat(others, all), slices.Concat(all[:min(from, len(all))], others))
	}
	return append(caches, nil)
}

func TestACacheThatFitsTellsWhatWalkingTells(t *testing.T) {
	places, kinds := walkPlaces(), []int64{0, 1, 2, 3, 4, 5, 8}
	for k, list := range slices.Concat(goodPages(8)[:8], goodPages(24)[3:7], mixedPages(24, 6)) {
		tag := int64(k) % 10
		for _, cache := range partsOf(list, tag) {
			if !impl.CacheFits(cache, tag, list) {
				t.Fatalf("%v does not fit %v", cache, list)
			}
			for _, at := range places {
				for _, kind := range kinds {
					got, want := impl.WalkCached(cache, tag, list, at, kind), impl.WalkPages(list, at, kind)
					if got.Code != want.Code || got.Value != want.Value {
						t.Fatalf("WalkCached of %v, tag %d, %v at %d for %d: %v, but WalkPages %v", cache, tag, list, at, kind, got, want)
					}
					if !impl.CacheFits(got.Cache, tag, list) || got.Code != impl.OK && len(got.Cache) > 0 {
						t.Fatalf("WalkCached of %v, tag %d, %v at %d for %d leaves %v", cache, tag, list, at, kind, got.Cache)
					}
				}
			}
		}
	}
}

// TestCachesGoOnFitting walks on with the cache that came, place behind place and for all kinds.
func TestCachesGoOnFitting(t *testing.T) {
	for _, list := range slices.Concat(goodPages(24)[:6], mixedPages(24, 10)) {
		cache := []impl.Hit{hit(3, 0, 23, 7), hit(3, 1, 22, 7), hit(3, 2, 21, 7), hit(3, 3, 20, 7), hit(3, 4, 19, 7), hit(3, 5, 18, 7)}
		for n := range int64(300) {
			at, kind := n*37%64, int64(1)<<(n%3)
			got, want := impl.WalkCached(cache, 5, list, at, kind), impl.WalkPages(list, at, kind)
			if got.Code != want.Code || got.Value != want.Value {
				t.Fatalf("step %d: %v, but WalkPages %v", n, got, want)
			}
			if got.Code == impl.OK {
				cache = got.Cache
			}
			if !impl.CacheFits(cache, 5, list) {
				t.Fatalf("step %d: %v does not fit", n, cache)
			}
		}
	}
}

// manyIn calls WalkCached of the program for each place, one behind the other.
func manyIn(cache []impl.Hit, tag int64, list []impl.Page, places []int64, kind int64) impl.CacheResult {
	many := impl.CacheResult{Cache: cache}
	for _, at := range places {
		if one := impl.WalkCached(many.Cache, tag, list, at, kind); one.Code == impl.OK {
			many.Cache = one.Cache
			if one.Hit {
				many.Value++
			}
		}
	}
	return many
}

// somePlaces are lists of 0, 1, 2, 3, 20, 49 and 50 places, places that are none among them.
func somePlaces() [][]int64 {
	lists := [][]int64{nil, {}, {0}, {63}, {-1}, {64}, {9, 9}, {9, 10}, {9, 9, 9}, {-1, 9, 64, 9}, {9, -1, 10, 8, 16, 15}, slices.Repeat([]int64{7}, 50), slices.Repeat([]int64{-1}, 50)}
	for _, size := range []int64{20, 49, 50} {
		var list []int64
		for n := range size {
			list = append(list, n*29%68-2)
		}
		lists = append(lists, list)
	}
	return lists
}

func TestWalkMany(t *testing.T) {
	lists := slices.Concat([][]impl.Page{nil, blankPages(8), steadyPages(7), steadyPages(8), slices.Repeat([]impl.Page{{To: 23, Kinds: 7}}, 8)}, mixedPages(24, 5))
	for _, list := range lists {
		for _, cache := range goodCaches() {
			for k, places := range somePlaces() {
				tag, kind := []int64{1, 0, 2, 9, -1, 10}[k%6], []int64{1, 2, 4, 1, 3}[k%5]
				for _, tag := range []int64{tag, 1} {
					got, want := impl.WalkMany(cache, tag, list, places, kind), manyIn(cache, tag, list, places, kind)
					if !sameCaches(got, want) {
						t.Fatalf("WalkMany of %v, tag %d, %v at %v for %d: %v, not %v", cache, tag, list, places, kind, got, want)
					}
				}
			}
		}
	}
}

func TestWalkManyByHand(t *testing.T) {
	list := roughPages()
	old := hit(6, 4, 11, 3)
	first, fourth, sixth := hit(6, 0, 3, 5), hit(6, 4, 0, 7), hit(6, 6, 1, 1)
	type hits = []impl.Hit
	table := []struct {
		cache  hits
		places []int64
		kind   int64
		want   impl.CacheResult
	}{
		{nil, nil, 1, impl.CacheResult{}}, {hits{old}, nil, 1, impl.CacheResult{Cache: hits{old}}}, {nil, []int64{0}, 1, impl.CacheResult{Cache: hits{first}}},
		{nil, []int64{0, 0}, 1, impl.CacheResult{Value: 1, Cache: hits{first}}}, {nil, []int64{0, 7, 3}, 4, impl.CacheResult{Value: 2, Cache: hits{first}}},
		{nil, []int64{0, 32, 50, 1, 33}, 1, impl.CacheResult{Value: 2, Cache: hits{first, fourth, sixth}}}, {nil, []int64{32, 0}, 1, impl.CacheResult{Cache: hits{fourth, first}}},
		{hits{old}, []int64{0, 32, 50, 1, 33}, 1, impl.CacheResult{Value: 3, Cache: hits{old, first, sixth}}},
		// A hit without the kind has a code: it is not counted, and nothing takes its place.
		{hits{old}, []int64{32, 33, 0}, 4, impl.CacheResult{Cache: hits{old, first}}}, {hits{first}, []int64{0, 1, 32, 33}, 2, impl.CacheResult{Value: 1, Cache: hits{first, fourth}}},
		// Places that cannot be walked stand between others.
		{nil, []int64{-1, 0, 64, 8, 1, 24, math.MinInt64, 2, 16, math.MaxInt64}, 1, impl.CacheResult{Value: 2, Cache: hits{first}}},
		{hits{old}, []int64{8, 9, 24}, 1, impl.CacheResult{Cache: hits{old}}},
	}
	for k, x := range table {
		if got := impl.WalkMany(x.cache, 6, list, x.places, x.kind); !sameCaches(got, x.want) {
			t.Errorf("%d: WalkMany of %v at %v for %d: %v, not %v", k, x.cache, x.places, x.kind, got, x.want)
		}
	}
}

// TestWalkManyPassesOverAllThatHaveACode asks what no place can be walked with: a tag, a list or a kind that is none. The document names no code of its own for these.
func TestWalkManyPassesOverAllThatHaveACode(t *testing.T) {
	for _, cache := range [][]impl.Hit{nil, steadyCache(1), steadyCache(12)} {
		for _, places := range somePlaces() {
			for _, got := range []impl.CacheResult{impl.WalkMany(cache, -1, steadyPages(8), places, 1), impl.WalkMany(cache, 10, steadyPages(8), places, 1), impl.WalkMany(cache, 0, nil, places, 1),
				impl.WalkMany(cache, 0, steadyPages(9), places, 1), impl.WalkMany(cache, 0, steadyPages(8), places, 0), impl.WalkMany(cache, 0, steadyPages(8), places, 3)} {
				if !sameCaches(got, impl.CacheResult{Cache: cache}) {
					t.Fatalf("WalkMany of %v at %v: %v", cache, places, got)
				}
			}
		}
	}
}

func TestWalkManyOfTooManyPlaces(t *testing.T) {
	for _, size := range []int{51, 52, 64, 1000} {
		for _, at := range []int64{-1, 0, 63, 64} {
			places := slices.Repeat([]int64{at}, size)
			for _, list := range [][]impl.Page{nil, blankPages(8), steadyPages(8)} {
				for _, tag := range []int64{-1, 0, 10} {
					for _, kind := range []int64{0, 1, 8} {
						if got := impl.WalkMany(steadyCache(3), tag, list, places, kind); !onlyCode(got, impl.ErrMany) {
							t.Fatalf("WalkMany of %d places: %v", size, got)
						}
					}
				}
			}
		}
	}
	if got := impl.WalkMany(nil, 0, steadyPages(8), slices.Repeat([]int64{0}, 50), 1); got.Code != impl.OK || got.Value != 49 || len(got.Cache) != 1 {
		t.Errorf("WalkMany of 50 places: %v", got)
	}
}

// TestWrongCachesAreToldFirst asks that the fault of a cache is told ahead of all else that is not right.
func TestWrongCachesAreToldFirst(t *testing.T) {
	for _, x := range someBadCaches() {
		for _, n := range []int64{-1, 0, 3, 10} {
			for _, list := range [][]impl.Page{steadyPages(8), nil, blankPages(8, impl.Page{To: -2})} {
				if got := impl.FindHit(x.cache, n, n); got != (impl.IntResult{Code: x.fault}) {
					t.Fatalf("FindHit of %v: %v, not %d", x.cache, got, x.fault)
				}
				places := slices.Repeat([]int64{0}, 51)
				for k, got := range []impl.CacheResult{impl.FillCache(x.cache, impl.Hit{Tag: n, Kinds: 1}), impl.FillCache(x.cache, steadyHit(0)), impl.FlushCache(x.cache, n), impl.WalkCached(x.cache, n, list, 0, n),
					impl.WalkCached(x.cache, n, list, 0, 1), impl.WalkMany(x.cache, n, list, places, 1), impl.WalkMany(x.cache, n, list, places[:n+1], n), impl.WalkMany(x.cache, n, list, nil, 1)} {
					if !onlyCode(got, x.fault) {
						t.Fatalf("call %d with %v: %v, not %d", k, x.cache, got, x.fault)
					}
				}
			}
		}
	}
}

// TestWalkCachedWithTwoFaults asks the tag ahead of the list, the list ahead of the kind, and the kind ahead of the place.
func TestWalkCachedWithTwoFaults(t *testing.T) {
	for _, cache := range [][]impl.Hit{nil, steadyCache(12)} {
		for _, x := range someBadPages() {
			for _, tag := range tagNumbers() {
				for _, kind := range []int64{0, 1, 3} {
					want := x.fault
					if !within(tag, 9) {
						want = impl.ErrRange
					}
					if got := impl.WalkCached(cache, tag, x.list, 64*kind, kind); !onlyCode(got, want) {
						t.Fatalf("WalkCached of tag %d, %v for %d: %v, not %d", tag, x.list, kind, got, want)
					}
				}
			}
		}
		for _, kind := range []int64{0, 3, 8} {
			for _, at := range []int64{-1, 0, 64} {
				if got := impl.WalkCached(cache, 0, blankPages(8), at, kind); !onlyCode(got, impl.ErrRange) {
					t.Fatalf("WalkCached at %d for %d: %v", at, kind, got)
				}
			}
		}
	}
}

type cacheCall struct {
	name string
	do   func(cache []impl.Hit, list []impl.Page, places []int64) []impl.Hit
}

// cacheCalls answer a cache: one that is changed, and one that stays.
func cacheCalls() []cacheCall {
	type hits = []impl.Hit
	type pages = []impl.Page
	return []cacheCall{
		{"FillCache of another", func(c hits, l pages, p []int64) hits { return impl.FillCache(c, hit(8, 7, 1, 1)).Cache }},
		{"FillCache of the first", func(c hits, l pages, p []int64) hits { return impl.FillCache(c, hit(0, 0, 9, 1)).Cache }},
		{"FillCache of the last", func(c hits, l pages, p []int64) hits { return impl.FillCache(c, steadyHit(max(0, len(c)-1))).Cache }},
		{"FlushCache of no hit", func(c hits, l pages, p []int64) hits { return impl.FlushCache(c, 8).Cache }},
		{"FlushCache", func(c hits, l pages, p []int64) hits { return impl.FlushCache(c, 0).Cache }},
		{"FlushCache of a later one", func(c hits, l pages, p []int64) hits { return impl.FlushCache(c, 3).Cache }},
		{"WalkCached by a hit", func(c hits, l pages, p []int64) hits { return impl.WalkCached(c, 0, l, 0, 1).Cache }},
		{"WalkCached without one", func(c hits, l pages, p []int64) hits { return impl.WalkCached(c, 8, l, 9, 2).Cache }},
		{"WalkMany", func(c hits, l pages, p []int64) hits { return impl.WalkMany(c, 8, l, p, 1).Cache }},
		{"WalkMany of no place", func(c hits, l pages, p []int64) hits { return impl.WalkMany(c, 8, l, p[:0], 1).Cache }},
		{"WalkMany for no kind", func(c hits, l pages, p []int64) hits { return impl.WalkMany(c, 8, l, p, 3).Cache }},
		{"WalkMany of no list", func(c hits, l pages, p []int64) hits { return impl.WalkMany(c, 0, nil, p, 1).Cache }},
	}
}

func turnHits(cache []impl.Hit) {
	for k := range cache {
		cache[k] = hit(-7, -7, -7, -7)
	}
}

// TestAnsweredCachesAreNew asks that no call changes an argument, and that a write into an answer is seen in no
// argument and in no other answer, nor the other way round.
func TestAnsweredCachesAreNew(t *testing.T) {
	for _, call := range cacheCalls() {
		for _, size := range []int{0, 1, 2, 11, 12} {
			cache, wholeCache := withRoom(steadyCache(size), hit(8, 6, 6, 6))
			list, wholeList := withRoom(steadyPages(8), impl.Page{To: 7, Kinds: 7})
			places, wholePlaces := roomy([]int64{0, 1, -1, 17, 33, 17, 64, 60})
			keptCache, keptList, keptPlaces := slices.Clone(wholeCache), slices.Clone(wholeList), slices.Clone(wholePlaces)
			stays := func() bool {
				return slices.Equal(wholeCache, keptCache) && slices.Equal(wholeList, keptList) && slices.Equal(wholePlaces, keptPlaces)
			}
			first := call.do(cache, list, places)
			kept, again := slices.Clone(first), call.do(cache, list, places)
			if !stays() {
				t.Errorf("%s with %d hits changes an argument", call.name, size)
			}
			turnHits(first[:cap(first)])
			if !stays() || !slices.Equal(again, kept) {
				t.Errorf("a write into the answer of %s with %d hits is seen elsewhere", call.name, size)
			}
			if third := call.do(cache, list, places); !slices.Equal(third, kept) {
				t.Errorf("a write into the answer of %s with %d hits is kept", call.name, size)
			}
			turnHits(wholeCache)
			turnPages(wholeList)
			turnAll(wholePlaces)
			if !slices.Equal(again, kept) {
				t.Errorf("a write into an argument of %s with %d hits is seen in its answer", call.name, size)
			}
		}
	}
}

// cacheAnswers is all that the chapter's functions tell of a cache, a list, places and two numbers.
func cacheAnswers(cache []impl.Hit, list []impl.Page, places []int64, n, kind int64) string {
	return fmt.Sprint(impl.CacheFault(cache), impl.FindHit(cache, n, n), impl.FillCache(cache, impl.Hit{Tag: n, Page: n, To: n, Kinds: kind}), impl.FlushCache(cache, n),
		impl.CacheFits(cache, n, list), impl.WalkCached(cache, n, list, n*9, kind), impl.WalkMany(cache, n, list, places, kind))
}

// TestCachesAndListsStay asks that no call changes what it is given, whether it tells a code or not.
func TestCachesAndListsStay(t *testing.T) {
	caches, lists := goodCaches(), [][]impl.Page{nil, blankPages(8), steadyPages(8), steadyPages(9), withPageAt(3, impl.Page{To: 24})}
	for k, x := range someBadCaches() {
		if k%7 == 0 {
			caches = append(caches, x.cache)
		}
	}
	many := append(somePlaces(), slices.Repeat([]int64{3}, 51))
	for k, given := range caches {
		cache, wholeCache := withRoom(given, hit(1, 1, 1, 1))
		list, wholeList := withRoom(lists[k%len(lists)], impl.Page{To: 7, Kinds: 7})
		places, wholePlaces := roomy(many[k%len(many)])
		keptCache, keptList, keptPlaces := slices.Clone(wholeCache), slices.Clone(wholeList), slices.Clone(wholePlaces)
		for _, n := range []int64{-1, 0, 1, 7, 10} {
			cacheAnswers(cache, list, places, n, 1)
			cacheAnswers(cache, list, places, n, 3)
		}
		if !slices.Equal(wholeCache, keptCache) || !slices.Equal(wholeList, keptList) || !slices.Equal(wholePlaces, keptPlaces) {
			t.Fatalf("%v, %v or %v is changed", given, keptList[:len(list)], keptPlaces[:len(places)])
		}
	}
}

// TestCachesHangOnTheirArgumentsAlone asks all once more, from the last one on: what was kept from a call would show.
func TestCachesHangOnTheirArgumentsAlone(t *testing.T) {
	caches := slices.Concat([][]impl.Hit{nil, steadyCache(1), steadyCache(12), steadyCache(13)}, mixedCaches(13))
	lists := slices.Concat([][]impl.Page{nil, blankPages(8), steadyPages(8)}, mixedPages(24, 3))
	many, numbers, kinds := somePlaces(), []int64{-1, 0, 1, 2, 5, 7, 9, 10}, []int64{0, 1, 2, 4}
	ask := func(k int) string {
		return cacheAnswers(caches[k%len(caches)], lists[k/len(caches)%len(lists)], many[k%len(many)], numbers[k%len(numbers)], kinds[k/3%len(kinds)])
	}
	var said []string
	for k := range 4 * len(caches) * len(lists) {
		said = append(said, ask(k))
	}
	for k := len(said) - 1; k >= 0; k-- {
		if got := ask(k); got != said[k] {
			t.Fatalf("first %s, then %s", said[k], got)
		}
	}
}
