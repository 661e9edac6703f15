package tests

import (
	"fmt"
	"math"
	"slices"
	"testing"

	"loop.example/g00213/impl"
)

// kindNumbers are the kinds and numbers that are none.
func kindNumbers() []int64 {
	return []int64{math.MinInt64, -4, -1, 0, 1, 2, 3, 4, 5, 6, 7, 8, 16, 1<<32 + 1, math.MaxInt64}
}

// codeOfKind is the code of a kind, and 0 where it is none.
func codeOfKind(kind int64) int64 {
	return map[int64]int64{1: impl.ErrRead, 2: impl.ErrWrite, 4: impl.ErrRun}[kind]
}

// walkPlaces are all places of a guest and numbers that are none.
func walkPlaces() []int64 {
	list := []int64{math.MinInt64, math.MinInt64 + 7, -1 << 32, -64, -8, -7, -1, 64, 65, 71, 72, 192, 1 << 32, math.MaxInt64 - 7, math.MaxInt64}
	for at := range int64(64) {
		list = append(list, at)
	}
	return list
}

// blankPages is a list with so many entries, each of them the page that leads nowhere but those that are told.
func blankPages(size int, told ...impl.Page) []impl.Page {
	list := slices.Repeat([]impl.Page{{To: -1}}, size)
	copy(list, told)
	return list
}

// withPageAt is an ordinary list, no two entries of it alike, with one entry turned.
func withPageAt(at int, p impl.Page) []impl.Page {
	list := steadyPages(8)
	list[at] = p
	return list
}

// steadyPages lead to pages below 8, for kinds that differ from page to page.
func steadyPages(size int) []impl.Page {
	var list []impl.Page
	for k := range int64(size) {
		list = append(list, impl.Page{To: (k*3 + 1) % 8, Kinds: k%7 + 1})
	}
	return list
}

// mixedPages are lists without a fault, told by a steady count: pages below top, all sums of kinds, nowhere among them.
func mixedPages(top int64, many int) [][]impl.Page {
	var lists [][]impl.Page
	seed := uint64(top)*977 + 5
	next := func(n int64) int64 {
		seed = seed*6364136223846793005 + 1442695040888963407
		return int64(seed>>33) % n
	}
	for range many {
		list := blankPages(8)
		for k := range list {
			if to := next(top+1) - 1; to >= 0 {
				list[k] = impl.Page{To: to, Kinds: next(8)}
			}
		}
		lists = append(lists, list)
	}
	return lists
}

// goodPages are lists without a fault whose pages are below top.
func goodPages(top int64) [][]impl.Page {
	last := top - 1
	lists := [][]impl.Page{
		blankPages(8),
		steadyPages(8),
		slices.Repeat([]impl.Page{{To: last, Kinds: 7}}, 8),
		slices.Repeat([]impl.Page{{To: 0, Kinds: 0}}, 8),
		blankPages(8, impl.Page{To: last, Kinds: 7}),
		{{To: -1}, {To: 0, Kinds: 0}, {To: 0, Kinds: 7}, {To: last, Kinds: 1}, {To: last, Kinds: 2}, {To: last, Kinds: 4}, {To: -1}, {To: last, Kinds: 0}},
		{{To: 7, Kinds: 1}, {To: 6, Kinds: 2}, {To: 5, Kinds: 3}, {To: 4, Kinds: 4}, {To: 3, Kinds: 5}, {To: 2, Kinds: 6}, {To: 1, Kinds: 7}, {To: 0, Kinds: 0}},
	}
	for kinds := range int64(8) {
		all := blankPages(8)
		for k := range all {
			all[k] = impl.Page{To: int64(k), Kinds: kinds}
		}
		lists = append(lists, all)
	}
	return append(lists, mixedPages(top, 20)...)
}

type badPages struct {
	list  []impl.Page
	fault int64
}

// someBadPages have a fault with the top HostPages, and with every lower one; the first fault is told where there are two.
func someBadPages() []badPages {
	wrong, mixed := impl.Page{To: -2, Kinds: 1}, impl.Page{To: -1, Kinds: 1}
	list := []badPages{{nil, impl.ErrForm}, {[]impl.Page{}, impl.ErrForm}}
	for _, size := range []int{1, 7, 9, 16, 24} {
		list = append(list, badPages{blankPages(size), impl.ErrForm}, badPages{steadyPages(size), impl.ErrForm},
			badPages{blankPages(size, wrong), impl.ErrForm}, badPages{blankPages(size, mixed), impl.ErrForm})
	}
	for at := range 8 {
		for _, to := range []int64{math.MinInt64, -1 << 32, -2, 24, 25, 1 << 32, math.MaxInt64} {
			for _, kinds := range []int64{0, 3, 8} {
				list = append(list, badPages{withPageAt(at, impl.Page{To: to, Kinds: kinds}), impl.ErrRange})
			}
		}
		for _, kinds := range []int64{math.MinInt64, -1 << 32, -1, 8, 9, 1 << 32, math.MaxInt64} {
			for _, to := range []int64{-1, 0} {
				list = append(list, badPages{withPageAt(at, impl.Page{To: to, Kinds: kinds}), impl.ErrRange})
			}
		}
		for kinds := int64(1); kinds <= 7; kinds++ {
			list = append(list, badPages{withPageAt(at, impl.Page{To: -1, Kinds: kinds}), impl.ErrForm})
		}
	}
	return append(list,
		badPages{blankPages(8, wrong, mixed), impl.ErrRange}, badPages{blankPages(8, mixed, wrong), impl.ErrForm},
		badPages{blankPages(8, mixed, impl.Page{Kinds: 8}), impl.ErrForm}, badPages{blankPages(8, impl.Page{To: 3, Kinds: 1}, impl.Page{Kinds: -1}, mixed), impl.ErrRange})
}

// pagesFaultIn goes through what the document says, word by word.
func pagesFaultIn(list []impl.Page, top int64) int64 {
	if top < 1 || top > 24 {
		return impl.ErrRange
	}
	if len(list) != 8 {
		return impl.ErrForm
	}
	for _, p := range list {
		if p.To < -1 || p.To > top-1 || !within(p.Kinds, 7) {
			return impl.ErrRange
		}
		if p.To == -1 && p.Kinds > 0 {
			return impl.ErrForm
		}
	}
	return impl.OK
}

// leadsFor tells by bits whether a sum of kinds has a kind.
func leadsFor(kinds, kind int64) bool {
	return kinds/kind%2 == 1
}

// walkIn is what a list without a fault tells of a place.
func walkIn(list []impl.Page, at, kind int64) impl.IntResult {
	code := codeOfKind(kind)
	if code == 0 {
		return impl.IntResult{Code: impl.ErrRange}
	}
	for k, p := range list {
		for n := range int64(8) {
			if int64(k)*8+n == at && p.To != -1 && leadsFor(p.Kinds, kind) {
				return impl.IntResult{Value: p.To*8 + n}
			}
		}
	}
	return impl.IntResult{Code: code}
}

func samePages(a, b impl.PagesResult) bool {
	return a.Code == b.Code && slices.Equal(a.Pages, b.Pages)
}

func sameInts(a, b impl.IntsResult) bool {
	return a.Code == b.Code && slices.Equal(a.List, b.List)
}

func TestPageConstants(t *testing.T) {
	if impl.GuestPages != 8 || impl.KindRead != 1 || impl.KindWrite != 2 || impl.KindRun != 4 {
		t.Error("constants")
	}
}

func topNumbers() []int64 {
	return []int64{math.MinInt64, -1 << 32, -1, 0, 1, 2, 7, 8, 9, 23, 24, 25, 1<<32 + 8, math.MaxInt64}
}

func TestPagesFault(t *testing.T) {
	for _, top := range topNumbers() {
		for _, list := range slices.Concat(goodPages(8), goodPages(24)) {
			if got, want := impl.PagesFault(list, top), pagesFaultIn(list, top); got != want {
				t.Fatalf("PagesFault of %v with top %d: %d, not %d", list, top, got, want)
			}
		}
		for _, x := range someBadPages() {
			if got, want := impl.PagesFault(x.list, top), pagesFaultIn(x.list, top); got != want {
				t.Fatalf("PagesFault of %v with top %d: %d, not %d", x.list, top, got, want)
			}
		}
	}
	for _, x := range someBadPages() {
		if got := impl.PagesFault(x.list, 24); got != x.fault {
			t.Fatalf("PagesFault of %v: %d, not %d", x.list, got, x.fault)
		}
	}
}

// TestPagesFaultAtTheEdges asks one entry, at each place of a list that has else no fault.
func TestPagesFaultAtTheEdges(t *testing.T) {
	for _, top := range []int64{0, 1, 8, 24, 25} {
		for _, to := range []int64{math.MinInt64, -2, -1, 0, top - 1, top, math.MaxInt64} {
			for _, kinds := range []int64{math.MinInt64, -1, 0, 7, 8, math.MaxInt64} {
				for at := range 8 {
					list := blankPages(8)
					list[at] = impl.Page{To: to, Kinds: kinds}
					if got, want := impl.PagesFault(list, top), pagesFaultIn(list, top); got != want {
						t.Fatalf("PagesFault of %v with top %d: %d, not %d", list, top, got, want)
					}
				}
			}
		}
	}
}

func TestPagesFaultByHand(t *testing.T) {
	to := func(pages ...impl.Page) []impl.Page { return blankPages(8, pages...) }
	table := []struct {
		list []impl.Page
		top  int64
		want int64
	}{
		{to(), 1, impl.OK}, {to(), 24, impl.OK}, {to(), 0, impl.ErrRange}, {to(), 25, impl.ErrRange}, {to(), -1, impl.ErrRange},
		{to(), math.MinInt64, impl.ErrRange}, {to(), math.MaxInt64, impl.ErrRange},
		{nil, 1, impl.ErrForm}, {nil, 24, impl.ErrForm}, {nil, 0, impl.ErrRange}, {nil, 25, impl.ErrRange}, {blankPages(7), 24, impl.ErrForm}, {blankPages(9), 24, impl.ErrForm},
		{blankPages(7), 25, impl.ErrRange}, {blankPages(9), 0, impl.ErrRange}, {blankPages(9, impl.Page{To: 99}), 24, impl.ErrForm},
		{to(impl.Page{To: 0, Kinds: 7}), 1, impl.OK}, {to(impl.Page{To: 1, Kinds: 7}), 1, impl.ErrRange}, {to(impl.Page{To: 23, Kinds: 1}), 24, impl.OK},
		{to(impl.Page{To: 24, Kinds: 1}), 24, impl.ErrRange}, {to(impl.Page{To: 23, Kinds: 1}), 23, impl.ErrRange}, {to(impl.Page{To: 5}), 6, impl.OK}, {to(impl.Page{To: 5}), 5, impl.ErrRange},
		{to(impl.Page{To: -1, Kinds: 1}), 24, impl.ErrForm}, {to(impl.Page{To: -1, Kinds: 7}), 1, impl.ErrForm}, {to(impl.Page{To: -1, Kinds: 8}), 24, impl.ErrRange},
		{to(impl.Page{To: -1, Kinds: -1}), 24, impl.ErrRange}, {to(impl.Page{To: -2}), 24, impl.ErrRange}, {to(impl.Page{To: 0, Kinds: 8}), 24, impl.ErrRange},
		// Page by page: the first one with a fault tells its own, whichever it is.
		{to(impl.Page{To: -1, Kinds: 2}, impl.Page{To: 30}), 24, impl.ErrForm}, {to(impl.Page{To: 30}, impl.Page{To: -1, Kinds: 2}), 24, impl.ErrRange},
		{to(impl.Page{To: -1, Kinds: 2}, impl.Page{To: 4, Kinds: 8}), 24, impl.ErrForm}, {to(impl.Page{To: 4, Kinds: 8}, impl.Page{To: -1, Kinds: 2}), 24, impl.ErrRange},
	}
	for _, x := range table {
		if got := impl.PagesFault(x.list, x.top); got != x.want {
			t.Errorf("PagesFault of %v with top %d: %d, not %d", x.list, x.top, got, x.want)
		}
	}
}

func TestEntryOf(t *testing.T) {
	table := []struct{ word, to, kinds int64 }{
		{0, -1, 0}, {1, 0, 1}, {2, 0, 2}, {7, 0, 7}, {8, -1, 0}, {9, 1, 1}, {11, 1, 3}, {15, 1, 7}, {16, -1, 0}, {56, -1, 0}, {57, 7, 1}, {62, 7, 6}, {63, 7, 7},
		{64, -1, 0}, {65, -1, 0}, {71, -1, 0}, {72, -1, 0}, {75, -1, 0}, {1 << 31, -1, 0}, {1<<31 + 3, -1, 0}, {impl.WordTop - 1, -1, 0}, {impl.WordTop, -1, 0},
	}
	for _, x := range table {
		if got := impl.EntryOf(x.word); got != (impl.PageResult{Page: impl.Page{To: x.to, Kinds: x.kinds}}) {
			t.Errorf("EntryOf %d: %v", x.word, got)
		}
	}
	for _, word := range []int64{math.MinInt64, -1 << 32, -8, -1, impl.WordTop + 1, impl.WordTop + 12, 1 << 33, math.MaxInt64} {
		if got := impl.EntryOf(word); got != (impl.PageResult{Code: impl.ErrRange}) {
			t.Errorf("EntryOf %d: %v", word, got)
		}
	}
}

// entryIn is what a word tells, found by going through all that one can tell.
func entryIn(word int64) impl.PageResult {
	if !within(word, impl.WordTop) {
		return impl.PageResult{Code: impl.ErrRange}
	}
	for to := range int64(8) {
		for kinds := int64(1); kinds <= 7; kinds++ {
			if word == to*8+kinds {
				return impl.PageResult{Page: impl.Page{To: to, Kinds: kinds}}
			}
		}
	}
	return impl.PageResult{Page: impl.Page{To: -1}}
}

func TestEntryOfEveryWord(t *testing.T) {
	words := wordNumbers()
	for word := int64(-20); word <= 700; word++ {
		words = append(words, word, word+1<<31, word+1<<32, word-1<<32)
	}
	for _, word := range words {
		if got, want := impl.EntryOf(word), entryIn(word); got != want {
			t.Fatalf("EntryOf %d: %v, not %v", word, got, want)
		}
	}
}

// leastWordOf goes through the words from 0 on.
func leastWordOf(p impl.Page) (int64, bool) {
	for word := range int64(200) {
		if entryIn(word).Page == p {
			return word, true
		}
	}
	return 0, false
}

func TestAnEntryIsToldByItsWord(t *testing.T) {
	edges := []int64{math.MinInt64, -1 << 32, -2, -1, 0, 1, 2, 3, 4, 5, 6, 7, 8, 9, 23, 24, 1 << 32, 1 << 60, math.MaxInt64}
	for _, to := range edges {
		for _, kinds := range edges {
			p := impl.Page{To: to, Kinds: kinds}
			want := impl.IntResult{}
			word, told := leastWordOf(p)
			switch {
			case to < -1 || to > 7 || kinds < 0 || kinds > 7:
				want.Code = impl.ErrRange
			case !told:
				want.Code = impl.ErrForm
			default:
				want.Value = word
			}
			got := impl.EntryWord(p)
			if got != want {
				t.Fatalf("EntryWord of %v: %v, not %v", p, got, want)
			}
			if back := impl.EntryOf(got.Value); got.Code == impl.OK && back != (impl.PageResult{Page: p}) {
				t.Fatalf("EntryWord of %v is %d, and that tells %v", p, got.Value, back)
			}
		}
	}
}

func TestEntryWordByHand(t *testing.T) {
	table := []struct{ to, kinds, code, value int64 }{
		{-1, 0, impl.OK, 0}, {0, 1, impl.OK, 1}, {0, 7, impl.OK, 7}, {1, 3, impl.OK, 11}, {7, 1, impl.OK, 57}, {7, 7, impl.OK, 63},
		{0, 0, impl.ErrForm, 0}, {7, 0, impl.ErrForm, 0}, {-1, 1, impl.ErrForm, 0}, {-1, 7, impl.ErrForm, 0},
		{8, 1, impl.ErrRange, 0}, {23, 1, impl.ErrRange, 0}, {-2, 1, impl.ErrRange, 0}, {0, 8, impl.ErrRange, 0}, {0, -1, impl.ErrRange, 0},
		// Two faults in one: bounds are told ahead of form.
		{8, 0, impl.ErrRange, 0}, {-1, 8, impl.ErrRange, 0}, {-1, -1, impl.ErrRange, 0}, {-2, 0, impl.ErrRange, 0}, {math.MaxInt64, math.MaxInt64, impl.ErrRange, 0},
	}
	for _, x := range table {
		if got := impl.EntryWord(impl.Page{To: x.to, Kinds: x.kinds}); got != (impl.IntResult{Code: x.code, Value: x.value}) {
			t.Errorf("EntryWord of %d for %d: %v", x.to, x.kinds, got)
		}
	}
}

// pagesFromIn asks all words for what a table tells.
func pagesFromIn(words []int64) impl.PagesResult {
	if len(words) != 8 {
		return impl.PagesResult{Code: impl.ErrForm}
	}
	var want impl.PagesResult
	for _, word := range words {
		entry := entryIn(word)
		if entry.Code != impl.OK {
			return impl.PagesResult{Code: entry.Code}
		}
		want.Pages = append(want.Pages, entry.Page)
	}
	return want
}

// someTables are tables of sizes at the edges, with words at theirs, and wrong ones at the first and the last place.
func someTables() [][]int64 {
	tables := [][]int64{nil, {}, {0, 7, 8, 63, 64, 71, impl.WordTop, 11}, {impl.WordTop, 71, 64, 63, 8, 7, 0, 1}}
	for _, size := range []int{0, 1, 7, 8, 9, 16} {
		tables = append(tables, make([]int64, size))
		for at := range size {
			for _, word := range []int64{math.MinInt64, -1, 0, 7, 8, 11, 63, 64, 71, impl.WordTop, impl.WordTop + 1, impl.WordTop + 9, math.MaxInt64} {
				words := make([]int64, size)
				for k := range words {
					words[k] = int64(k)*9 + 3
				}
				words[at] = word
				tables = append(tables, words)
			}
		}
	}
	return tables
}

func TestPagesFrom(t *testing.T) {
	for _, words := range someTables() {
		got, want := impl.PagesFrom(words), pagesFromIn(words)
		if !samePages(got, want) {
			t.Fatalf("PagesFrom %v: %v, not %v", words, got, want)
		}
		if got.Code == impl.OK && impl.PagesFault(got.Pages, 8) != impl.OK {
			t.Fatalf("PagesFrom %v has a fault: %v", words, got)
		}
	}
}

func TestPagesFromByHand(t *testing.T) {
	table := []struct {
		words []int64
		want  impl.PagesResult
	}{
		{[]int64{11, 0, 63, 64, 8, 1, impl.WordTop, 58}, impl.PagesResult{Pages: []impl.Page{{To: 1, Kinds: 3}, {To: -1}, {To: 7, Kinds: 7}, {To: -1}, {To: -1}, {To: 0, Kinds: 1}, {To: -1}, {To: 7, Kinds: 2}}}},
		{make([]int64, 8), impl.PagesResult{Pages: blankPages(8)}},
		{nil, impl.PagesResult{Code: impl.ErrForm}}, {make([]int64, 7), impl.PagesResult{Code: impl.ErrForm}}, {make([]int64, 9), impl.PagesResult{Code: impl.ErrForm}},
		{[]int64{-1, 0, 0, 0, 0, 0, 0, 0}, impl.PagesResult{Code: impl.ErrRange}}, {[]int64{0, 0, 0, 0, 0, 0, 0, impl.WordTop + 1}, impl.PagesResult{Code: impl.ErrRange}},
		// Two faults in one: how many there are is told ahead of a word.
		{[]int64{-1, 0, 0, 0, 0, 0, 0}, impl.PagesResult{Code: impl.ErrForm}}, {[]int64{0, 0, 0, 0, 0, 0, 0, 0, impl.WordTop + 1}, impl.PagesResult{Code: impl.ErrForm}},
	}
	for _, x := range table {
		if got := impl.PagesFrom(x.words); !samePages(got, x.want) {
			t.Errorf("PagesFrom %v: %v, not %v", x.words, got, x.want)
		}
	}
}

// TestPagesFromWordsOfEntries reads a whole list back from the words of its entries.
func TestPagesFromWordsOfEntries(t *testing.T) {
	for _, list := range goodPages(8) {
		var words []int64
		for k, p := range list {
			if p.Kinds == 0 {
				list[k] = impl.Page{To: -1}
			}
			words = append(words, impl.EntryWord(list[k]).Value)
		}
		if got := impl.PagesFrom(words); !samePages(got, impl.PagesResult{Pages: list}) {
			t.Fatalf("%v is read back as %v", list, got)
		}
	}
}

func TestWalkPages(t *testing.T) {
	places, kinds := walkPlaces(), kindNumbers()
	for _, list := range slices.Concat(goodPages(8), goodPages(24)) {
		for _, at := range places {
			for _, kind := range kinds {
				if got, want := impl.WalkPages(list, at, kind), walkIn(list, at, kind); got != want {
					t.Fatalf("WalkPages of %v at %d for %d: %v, not %v", list, at, kind, got, want)
				}
			}
		}
	}
}

func TestWalkPagesByHand(t *testing.T) {
	list := []impl.Page{{To: 3, Kinds: 5}, {To: -1}, {To: 23, Kinds: 2}, {To: 9, Kinds: 0}, {To: 0, Kinds: 7}, {To: 0, Kinds: 4}, {To: 1, Kinds: 1}, {To: 22, Kinds: 6}}
	table := []struct{ at, kind, code, value int64 }{
		{0, 1, impl.OK, 24}, {2, 1, impl.OK, 26}, {7, 4, impl.OK, 31}, {2, 2, impl.ErrWrite, 0}, {8, 1, impl.ErrRead, 0}, {15, 2, impl.ErrWrite, 0}, {8, 4, impl.ErrRun, 0},
		{16, 2, impl.OK, 184}, {23, 2, impl.OK, 191}, {16, 1, impl.ErrRead, 0}, {16, 4, impl.ErrRun, 0}, {24, 1, impl.ErrRead, 0}, {24, 2, impl.ErrWrite, 0}, {24, 4, impl.ErrRun, 0},
		{32, 1, impl.OK, 0}, {39, 2, impl.OK, 7}, {40, 4, impl.OK, 0}, {63, 2, impl.OK, 183}, {63, 4, impl.OK, 183}, {63, 1, impl.ErrRead, 0},
		{-1, 1, impl.ErrRead, 0}, {-1, 2, impl.ErrWrite, 0}, {-1, 4, impl.ErrRun, 0}, {64, 1, impl.ErrRead, 0}, {64, 2, impl.ErrWrite, 0}, {64, 4, impl.ErrRun, 0},
		{0, 0, impl.ErrRange, 0}, {0, 3, impl.ErrRange, 0}, {0, 5, impl.ErrRange, 0}, {32, 7, impl.ErrRange, 0}, {0, 8, impl.ErrRange, 0}, {0, -1, impl.ErrRange, 0},
		// Two faults in one: the kind is told ahead of the place.
		{-1, 3, impl.ErrRange, 0}, {64, 0, impl.ErrRange, 0}, {8, 5, impl.ErrRange, 0}, {math.MaxInt64, 8, impl.ErrRange, 0}, {math.MinInt64, math.MinInt64, impl.ErrRange, 0},
	}
	for _, x := range table {
		if got := impl.WalkPages(list, x.at, x.kind); got != (impl.IntResult{Code: x.code, Value: x.value}) {
			t.Errorf("WalkPages at %d for %d: %v, not the code %d and %d", x.at, x.kind, got, x.code, x.value)
		}
	}
}

func TestWalkWrongPages(t *testing.T) {
	for _, x := range someBadPages() {
		for _, at := range []int64{math.MinInt64, -1, 0, 9, 63, 64, math.MaxInt64} {
			for _, kind := range kindNumbers() {
				if got := impl.WalkPages(x.list, at, kind); got != (impl.IntResult{Code: x.fault}) {
					t.Fatalf("WalkPages of %v at %d for %d: %v, not the code %d", x.list, at, kind, got, x.fault)
				}
			}
		}
	}
}

// bothIn goes through the one list and, where it leads on, through the other.
func bothIn(one, two []impl.Page, at, kind int64) impl.IntResult {
	first := walkIn(one, at, kind)
	if first.Code != impl.OK {
		return first
	}
	return walkIn(two, first.Value, kind)
}

// composedIn asks each page for each kind by a walk through both.
func composedIn(one, two []impl.Page) impl.PagesResult {
	list := blankPages(8)
	for k := range list {
		for _, kind := range []int64{1, 2, 4} {
			if place := bothIn(one, two, int64(k)*8, kind); place.Code == impl.OK {
				list[k] = impl.Page{To: place.Value / 8, Kinds: list[k].Kinds + kind}
			}
		}
	}
	return impl.PagesResult{Pages: list}
}

// TestTwoStagesLeadWhereTheComposedOneLeads asks every place for every kind.
func TestTwoStagesLeadWhereTheComposedOneLeads(t *testing.T) {
	places, kinds := walkPlaces(), []int64{-1, 0, 1, 2, 3, 4, 5, 8}
	for _, one := range goodPages(8) {
		for _, two := range goodPages(24) {
			all := impl.ComposePages(one, two)
			if want := composedIn(one, two); !samePages(all, want) {
				t.Fatalf("ComposePages of %v and %v: %v, not %v", one, two, all, want)
			}
			if impl.PagesFault(all.Pages, 24) != impl.OK {
				t.Fatalf("ComposePages of %v and %v has a fault: %v", one, two, all)
			}
			for _, at := range places {
				for _, kind := range kinds {
					got := impl.WalkBoth(one, two, at, kind)
					if got != impl.WalkPages(all.Pages, at, kind) || got != bothIn(one, two, at, kind) {
						t.Fatalf("WalkBoth of %v and %v at %d for %d: %v; composed: %v", one, two, at, kind, got, all)
					}
				}
			}
		}
	}
}

func TestTwoStagesByHand(t *testing.T) {
	one := []impl.Page{{To: 0, Kinds: 7}, {To: 1, Kinds: 7}, {To: 2, Kinds: 3}, {To: 3, Kinds: 1}, {To: 7, Kinds: 6}, {To: -1}, {To: 4, Kinds: 0}, {To: 5, Kinds: 7}}
	two := []impl.Page{{To: 23, Kinds: 7}, {To: -1}, {To: 9, Kinds: 5}, {To: 10, Kinds: 2}, {To: 11, Kinds: 7}, {To: 12, Kinds: 0}, {To: 13, Kinds: 7}, {To: 8, Kinds: 7}}
	want := []impl.Page{{To: 23, Kinds: 7}, {To: -1}, {To: 9, Kinds: 1}, {To: -1}, {To: 8, Kinds: 6}, {To: -1}, {To: -1}, {To: -1}}
	if got := impl.ComposePages(one, two); !samePages(got, impl.PagesResult{Pages: want}) {
		t.Errorf("ComposePages: %v, not %v", got, want)
	}
	table := []struct{ at, kind, code, value int64 }{
		{5, 1, impl.OK, 189}, {5, 2, impl.OK, 189}, {5, 4, impl.OK, 189}, {8, 1, impl.ErrRead, 0}, {8, 2, impl.ErrWrite, 0}, {8, 4, impl.ErrRun, 0},
		{17, 1, impl.OK, 73}, {17, 2, impl.ErrWrite, 0}, {17, 4, impl.ErrRun, 0}, {24, 1, impl.ErrRead, 0}, {24, 2, impl.ErrWrite, 0}, {24, 4, impl.ErrRun, 0},
		{39, 1, impl.ErrRead, 0}, {39, 2, impl.OK, 71}, {39, 4, impl.OK, 71}, {40, 1, impl.ErrRead, 0}, {48, 2, impl.ErrWrite, 0}, {56, 4, impl.ErrRun, 0},
		{-1, 1, impl.ErrRead, 0}, {64, 2, impl.ErrWrite, 0}, {math.MaxInt64, 4, impl.ErrRun, 0}, {5, 0, impl.ErrRange, 0}, {5, 3, impl.ErrRange, 0}, {-1, 5, impl.ErrRange, 0}, {64, 8, impl.ErrRange, 0},
	}
	for _, x := range table {
		if got := impl.WalkBoth(one, two, x.at, x.kind); got != (impl.IntResult{Code: x.code, Value: x.value}) {
			t.Errorf("WalkBoth at %d for %d: %v, not the code %d and %d", x.at, x.kind, got, x.code, x.value)
		}
	}
}

// askBothFault asks all functions of two stages for a code alone.
func askBothFault(t *testing.T, one, two []impl.Page, fault int64) {
	t.Helper()
	if got := impl.ComposePages(one, two); !samePages(got, impl.PagesResult{Code: fault}) {
		t.Fatalf("ComposePages of %v and %v: %v, not the code %d", one, two, got, fault)
	}
	for _, at := range []int64{-1, 0, 63, 64} {
		for _, kind := range []int64{0, 1, 2, 3, 4} {
			if got := impl.WalkBoth(one, two, at, kind); got != (impl.IntResult{Code: fault}) {
				t.Fatalf("WalkBoth of %v and %v at %d for %d: %v, not the code %d", one, two, at, kind, got, fault)
			}
		}
	}
}

func TestTwoStagesWithFaults(t *testing.T) {
	wrong := someBadPages()
	for _, x := range wrong {
		for _, good := range [][]impl.Page{blankPages(8), steadyPages(8)} {
			askBothFault(t, x.list, good, x.fault)
			askBothFault(t, good, x.list, x.fault)
		}
		for k := 0; k < len(wrong); k += 9 {
			askBothFault(t, x.list, wrong[k].list, x.fault)
			askBothFault(t, wrong[k].list, x.list, wrong[k].fault)
		}
	}
}

// TestFirstStageLeadsBeyondTheSecond asks first stages that have a fault as such alone.
func TestFirstStageLeadsBeyondTheSecond(t *testing.T) {
	mixed := blankPages(8, impl.Page{To: -1, Kinds: 1})
	for at := range 8 {
		for to := int64(8); to <= 23; to++ {
			for _, kinds := range []int64{0, 7} {
				beyond := withPageAt(at, impl.Page{To: to, Kinds: kinds})
				askBothFault(t, beyond, steadyPages(8), impl.ErrRange)
				askBothFault(t, beyond, mixed, impl.ErrRange)
				askBothFault(t, mixed, beyond, impl.ErrForm)
				if got := impl.ComposePages(steadyPages(8), beyond); got.Code != impl.OK {
					t.Fatalf("a second stage may lead to %d: %v", to, got)
				}
				if got := impl.WalkPages(beyond, 0, 1); got != walkIn(beyond, 0, 1) {
					t.Fatalf("a list alone may lead to %d: %v", to, got)
				}
			}
		}
	}
}

// sharedIn are the pages to which an entry of each list leads, where ask holds of some two such entries.
func sharedIn(a, b []impl.Page, ask func(p, q impl.Page) bool) impl.IntsResult {
	var pages [24]bool
	for _, p := range a {
		for _, q := range b {
			if p.To >= 0 && p.To == q.To && ask(p, q) {
				pages[p.To] = true
			}
		}
	}
	var want impl.IntsResult
	for page, shared := range pages {
		if shared {
			want.List = append(want.List, int64(page))
		}
	}
	return want
}

func oneMayWrite(p, q impl.Page) bool  { return leadsFor(p.Kinds, 2) || leadsFor(q.Kinds, 2) }
func bothForAKind(p, q impl.Page) bool { return p.Kinds > 0 && q.Kinds > 0 }

// TestWhatTwoListsShare asks it of both orders, of a list and itself too.
func TestWhatTwoListsShare(t *testing.T) {
	lists := slices.Concat(goodPages(8), goodPages(24), mixedPages(3, 10))
	for _, a := range lists {
		for _, b := range lists {
			write, read := impl.WritableBoth(a, b), impl.ReadableBoth(a, b)
			if want := sharedIn(a, b, oneMayWrite); !sameInts(write, want) {
				t.Fatalf("WritableBoth of %v and %v: %v, not %v", a, b, write, want)
			}
			if want := sharedIn(a, b, bothForAKind); !sameInts(read, want) {
				t.Fatalf("ReadableBoth of %v and %v: %v, not %v", a, b, read, want)
			}
			if !sameInts(write, impl.WritableBoth(b, a)) || !sameInts(read, impl.ReadableBoth(b, a)) {
				t.Fatalf("%v and %v: not the same the other way round", a, b)
			}
		}
	}
}

func TestWhatTwoListsShareByHand(t *testing.T) {
	to := func(pages ...impl.Page) []impl.Page { return blankPages(8, pages...) }
	table := []struct {
		a, b        []impl.Page
		write, read []int64
	}{
		{to(), to(), nil, nil},
		{to(impl.Page{To: 5, Kinds: 7}), to(impl.Page{To: 6, Kinds: 7}), nil, nil},
		{to(impl.Page{To: 5, Kinds: 3}), to(impl.Page{To: 5, Kinds: 1}), []int64{5}, []int64{5}},
		{to(impl.Page{To: 5, Kinds: 2}), to(impl.Page{To: 5, Kinds: 2}), []int64{5}, []int64{5}},
		{to(impl.Page{To: 5, Kinds: 5}), to(impl.Page{To: 5, Kinds: 5}), nil, []int64{5}},
		{to(impl.Page{To: 5, Kinds: 1}), to(impl.Page{To: 5, Kinds: 4}), nil, []int64{5}},
		{to(impl.Page{To: 5, Kinds: 2}), to(impl.Page{To: 5, Kinds: 4}), []int64{5}, []int64{5}},
		// A page to which one leads for no kind: both lead there, but not both for any kind.
		{to(impl.Page{To: 5, Kinds: 2}), to(impl.Page{To: 5, Kinds: 0}), []int64{5}, nil},
		{to(impl.Page{To: 5, Kinds: 1}), to(impl.Page{To: 5, Kinds: 0}), nil, nil},
		{to(impl.Page{To: 5, Kinds: 0}), to(impl.Page{To: 5, Kinds: 0}), nil, nil},
		// Rising, each once, though entries stand the other way round and lead there more than once.
		{to(impl.Page{To: 23, Kinds: 1}, impl.Page{To: 9, Kinds: 1}, impl.Page{To: 0, Kinds: 1}, impl.Page{To: 9, Kinds: 4}),
			to(impl.Page{To: 9, Kinds: 2}, impl.Page{To: 0, Kinds: 3}, impl.Page{To: 23, Kinds: 6}, impl.Page{To: 9, Kinds: 1}), []int64{0, 9, 23}, []int64{0, 9, 23}},
		// The write is told by another entry than the first one that leads there.
		{to(impl.Page{To: 4, Kinds: 1}, impl.Page{To: 4, Kinds: 2}), to(impl.Page{To: 4, Kinds: 1}), []int64{4}, []int64{4}},
		{to(impl.Page{To: 4, Kinds: 0}, impl.Page{To: 4, Kinds: 4}), to(impl.Page{To: 4, Kinds: 0}, impl.Page{To: 4, Kinds: 1}), nil, []int64{4}},
		{steadyPages(8), steadyPages(8), []int64{0, 3, 4, 7}, []int64{0, 1, 2, 3, 4, 5, 6, 7}},
	}
	for _, x := range table {
		for _, lists := range [][2][]impl.Page{{x.a, x.b}, {x.b, x.a}} {
			if got := impl.WritableBoth(lists[0], lists[1]); !sameInts(got, impl.IntsResult{List: x.write}) {
				t.Errorf("WritableBoth of %v: %v, not %v", lists, got, x.write)
			}
			if got := impl.ReadableBoth(lists[0], lists[1]); !sameInts(got, impl.IntsResult{List: x.read}) {
				t.Errorf("ReadableBoth of %v: %v, not %v", lists, got, x.read)
			}
		}
	}
}

func askSharedFault(t *testing.T, a, b []impl.Page, fault int64) {
	t.Helper()
	want := impl.IntsResult{Code: fault}
	if write, read := impl.WritableBoth(a, b), impl.ReadableBoth(a, b); !sameInts(write, want) || !sameInts(read, want) {
		t.Fatalf("%v and %v share %v and %v, not the code %d", a, b, write, read, fault)
	}
}

func TestWhatWrongListsShare(t *testing.T) {
	wrong, far := someBadPages(), blankPages(8, impl.Page{To: 23, Kinds: 7})
	for _, x := range wrong {
		for _, good := range [][]impl.Page{blankPages(8), steadyPages(8), far} {
			askSharedFault(t, x.list, good, x.fault)
			askSharedFault(t, good, x.list, x.fault)
		}
		for k := 0; k < len(wrong); k += 9 {
			askSharedFault(t, x.list, wrong[k].list, x.fault)
			askSharedFault(t, wrong[k].list, x.list, wrong[k].fault)
		}
	}
}

// askAllOfPages gives two lists and words to each function of the chapter.
func askAllOfPages(a, b []impl.Page, words []int64) {
	impl.PagesFault(a, 24)
	impl.PagesFrom(words)
	impl.WalkPages(a, 9, 1)
	impl.WalkBoth(a, b, 9, 1)
	impl.ComposePages(a, b)
	impl.WritableBoth(a, b)
	impl.ReadableBoth(a, b)
}

func TestListsOfPagesStay(t *testing.T) {
	lists := slices.Concat(goodPages(8), goodPages(24))
	for _, x := range someBadPages() {
		lists = append(lists, x.list)
	}
	tables := someTables()
	for k, list := range lists {
		a, wholeA := withRoom(list, impl.Page{To: 7, Kinds: 7})
		b, wholeB := withRoom(lists[(k*5+1)%len(lists)], impl.Page{To: 6, Kinds: 6})
		words, wholeWords := roomy(tables[k%len(tables)])
		keptA, keptB, keptWords := slices.Clone(wholeA), slices.Clone(wholeB), slices.Clone(wholeWords)
		askAllOfPages(a, b, words)
		askAllOfPages(b, a, words)
		askAllOfPages(a, a, words)
		if !slices.Equal(wholeA, keptA) || !slices.Equal(wholeB, keptB) || !slices.Equal(wholeWords, keptWords) {
			t.Fatalf("%v, %v or %v is changed", keptA[:len(a)], keptB[:len(b)], keptWords[:len(words)])
		}
	}
}

func turnPages(list []impl.Page) {
	for k := range list {
		list[k] = impl.Page{To: -9, Kinds: -9}
	}
}

// TestAnsweredPagesAreNew asks that a write into an answer is seen in no argument and in no other
// answer, nor the other way round.
func TestAnsweredPagesAreNew(t *testing.T) {
	itself := blankPages(8)
	for k := range itself {
		itself[k] = impl.Page{To: int64(k), Kinds: 7}
	}
	for _, list := range [][]impl.Page{blankPages(8), steadyPages(8), itself} {
		one, wholeOne := withRoom(list, impl.Page{To: 7, Kinds: 7})
		two, wholeTwo := withRoom(itself, impl.Page{To: 6, Kinds: 6})
		keptOne, keptTwo := slices.Clone(wholeOne), slices.Clone(wholeTwo)
		for _, lists := range [][2][]impl.Page{{one, two}, {two, one}, {two, two}} {
			first := impl.ComposePages(lists[0], lists[1]).Pages
			kept, again := slices.Clone(first), impl.ComposePages(lists[0], lists[1]).Pages
			turnPages(first[:cap(first)])
			if !slices.Equal(wholeOne, keptOne) || !slices.Equal(wholeTwo, keptTwo) || !slices.Equal(again, kept) || len(kept) != 8 {
				t.Fatalf("a write into the composed pages of %v is seen elsewhere", list)
			}
			if third := impl.ComposePages(lists[0], lists[1]).Pages; !slices.Equal(third, kept) {
				t.Fatalf("a write into the composed pages of %v is kept", list)
			}
		}
		composed := impl.ComposePages(one, two).Pages
		kept := slices.Clone(composed)
		turnPages(wholeOne)
		turnPages(wholeTwo)
		if !slices.Equal(composed, kept) {
			t.Fatalf("a write into a stage is seen in the composed pages of %v", list)
		}
	}
}

func TestAnsweredTablesAndListsAreNew(t *testing.T) {
	words := []int64{11, 0, 63, 64, 8, 1, impl.WordTop, 58}
	kept := slices.Clone(words)
	first, second := impl.PagesFrom(words), impl.PagesFrom(words)
	want := slices.Clone(second.Pages)
	turnPages(first.Pages[:cap(first.Pages)])
	turnAll(words)
	if third := impl.PagesFrom(kept); !slices.Equal(second.Pages, want) || !slices.Equal(third.Pages, want) || len(want) != 8 {
		t.Error("a write into the pages of a table, or into its words, is seen elsewhere")
	}
	for _, shared := range []func(a, b []impl.Page) impl.IntsResult{impl.WritableBoth, impl.ReadableBoth} {
		list := steadyPages(8)
		one, two := shared(list, list), shared(list, list)
		want := slices.Clone(two.List)
		turnAll(one.List[:cap(one.List)])
		if three := shared(list, list); !slices.Equal(list, steadyPages(8)) || !slices.Equal(two.List, want) || !slices.Equal(three.List, want) || len(want) == 0 {
			t.Error("a write into what two lists share is seen elsewhere")
		}
	}
}

// pageAnswers is all that the chapter's functions tell of two lists, words and two numbers.
func pageAnswers(a, b []impl.Page, words []int64, at, kind int64) string {
	p := impl.Page{To: at, Kinds: kind}
	return fmt.Sprint(impl.PagesFault(a, at), impl.EntryOf(at), impl.EntryWord(p), impl.PagesFrom(words), impl.WalkPages(a, at, kind),
		impl.WalkBoth(a, b, at, kind), impl.ComposePages(a, b), impl.WritableBoth(a, b), impl.ReadableBoth(a, b))
}

// TestPagesHangOnTheirArgumentsAlone asks all once more, from the last one on: what was kept from a call would show.
func TestPagesHangOnTheirArgumentsAlone(t *testing.T) {
	lists := slices.Concat([][]impl.Page{nil, blankPages(8), steadyPages(7), steadyPages(8)}, mixedPages(8, 4), mixedPages(24, 4))
	tables, places, kinds := someTables(), []int64{-1, 0, 7, 8, 24, 63, 64}, []int64{0, 1, 2, 4}
	ask := func(k int) string {
		return pageAnswers(lists[k%len(lists)], lists[k/len(lists)%len(lists)], tables[k%len(tables)], places[k%len(places)], kinds[k/3%len(kinds)])
	}
	var said []string
	for k := range 8 * len(lists) * len(lists) {
		said = append(said, ask(k))
	}
	for k := len(said) - 1; k >= 0; k-- {
		if got := ask(k); got != said[k] {
			t.Fatalf("first %s, then %s", said[k], got)
		}
	}
}
