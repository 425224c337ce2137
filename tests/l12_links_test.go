package tests

import (
	"slices"
	"testing"

	"loop.example/g00875/impl"
)

// Promise 12, continued: offsets of clocks agree with all links.

func checkClockOffsets(t *testing.T, n int, links []impl.ClockLink, want []int, wantOK bool) {
	t.Helper()
	if got, ok := impl.ClockOffsets(n, links); !slices.Equal(got, want) || ok != wantOK {
		t.Errorf("ClockOffsets(%d, %v) = %v, %v; want %v, %v", n, links, got, ok, want, wantOK)
	}
}

func checkLinkAdded(t *testing.T, n int, links []impl.ClockLink, l impl.ClockLink, wantOK bool) {
	t.Helper()
	var want []impl.ClockLink
	if wantOK {
		want = append(slices.Clone(links), l)
	}
	if got, ok := impl.AddClockLink(n, links, l); !slices.Equal(got, want) || ok != wantOK {
		t.Errorf("AddClockLink(%d, %v, %v) = %v, %v; want %v, %v", n, links, l, got, ok, want, wantOK)
	}
}

func checkNeedless(t *testing.T, n int, links []impl.ClockLink, want int, wantOK bool) {
	t.Helper()
	if got, ok := impl.NeedlessLinks(n, links); got != want || ok != wantOK {
		t.Errorf("NeedlessLinks(%d, %v) = %d, %v; want %d, %v", n, links, got, ok, want, wantOK)
	}
}

// checkNoLinks checks that nothing is told about a list that is not a list of links of n clocks.
func checkNoLinks(t *testing.T, n int, links []impl.ClockLink) {
	t.Helper()
	checkClockOffsets(t, n, links, nil, false)
	checkNeedless(t, n, links, 0, false)
	checkLinkAdded(t, n, links, impl.ClockLink{From: 0, To: 1, Offset: 5}, false)
	checkLinkAdded(t, n, links, impl.ClockLink{From: 1, To: 2, Offset: 5}, false)
}

// linksOf makes links of numbers, three for each one.
func linksOf(numbers ...int) []impl.ClockLink {
	var links []impl.ClockLink
	for i := 0; i < len(numbers); i += 3 {
		links = append(links, impl.ClockLink{From: numbers[i], To: numbers[i+1], Offset: numbers[i+2]})
	}
	return links
}

// clocksByHand joins groups of clocks, link by link, and keeps what each clock shows more than the
// others of its group. It returns these, the groups, the number of links within a group, and
// whether all of these agree.
func clocksByHand(n int, links []impl.ClockLink) ([]int, []int, int, bool) {
	shows, group, within, agree := make([]int, n), make([]int, n), 0, true
	for i := range group {
		group[i] = i
	}
	for _, l := range links {
		joining, wrongBy := group[l.To], shows[l.From]+l.Offset-shows[l.To]
		if joining == group[l.From] {
			within++
			agree = agree && wrongBy == 0
			continue
		}
		for i := range group {
			if group[i] == joining {
				group[i] = group[l.From]
				shows[i] += wrongBy
			}
		}
	}
	return shows, group, within, agree
}

// checkAllOfLinks checks all that is told about a list of links of n clocks.
func checkAllOfLinks(t *testing.T, n int, links []impl.ClockLink) {
	t.Helper()
	shows, group, within, agree := clocksByHand(n, links)
	checkNeedless(t, n, links, within, true)
	if slices.Max(group) != slices.Min(group) || !agree {
		checkClockOffsets(t, n, links, nil, false)
	} else {
		zero := shows[0]
		for i := range shows {
			shows[i] -= zero
		}
		checkClockOffsets(t, n, links, shows, true)
	}
	if len(links) > 0 {
		checkLinkAdded(t, n, links[:len(links)-1], links[len(links)-1], agree)
	}
}

// firstClocks returns links in which each clock shows more than the one before by 100.
func firstClocks(n int) []impl.ClockLink {
	var links []impl.ClockLink
	for i := 1; i < n; i++ {
		links = append(links, impl.ClockLink{From: i - 1, To: i, Offset: 100})
	}
	return links
}

// wrongLinks returns links that are not links between two of three clocks.
func wrongLinks() []impl.ClockLink {
	links := linksOf(0, 0, 0, 1, 1, 0, 2, 2, 5, 0, 3, 5, 3, 0, 5, 3, 3, 0, -1, 0, 5, 0, -1, 5, -1, -1, 0, 6, 1, 5, 1, 7, 5)
	for _, n := range append(farNumbers(), -1000001, 1000001, -2000000, 2000000) {
		links = append(links, linksOf(0, 1, n, 1, 0, n, n, 0, 5, 0, n, 5, n, n, 0, n, -n, n)...)
	}
	return links
}

func TestClockOffsets(t *testing.T) {
	for _, c := range []struct {
		links []impl.ClockLink
		want  []int
	}{
		{linksOf(0, 1, 5), []int{0, 5}}, {linksOf(1, 0, 5), []int{0, -5}}, {linksOf(0, 1, 0), []int{0, 0}}, {linksOf(1, 0, -5), []int{0, 5}},
		{linksOf(0, 1, 5, 2, 1, 3), []int{0, 5, 2}}, {linksOf(2, 1, 3, 0, 1, 5), []int{0, 5, 2}}, {linksOf(0, 1, 5, 1, 2, 3), []int{0, 5, 8}},
		{linksOf(1, 0, 5, 2, 1, 3), []int{0, -5, -8}}, {linksOf(1, 0, 5, 1, 2, 3), []int{0, -5, -2}}, {linksOf(2, 0, 7, 2, 1, 4), []int{0, -3, -7}},
		// Over several steps, in the order of the steps, backwards and mixed.
		{linksOf(0, 1, 1, 1, 2, 10, 2, 3, 100, 3, 4, 1000, 4, 5, 10000), []int{0, 1, 11, 111, 1111, 11111}},
		{linksOf(4, 5, 10000, 3, 4, 1000, 2, 3, 100, 1, 2, 10, 0, 1, 1), []int{0, 1, 11, 111, 1111, 11111}},
		{linksOf(5, 4, 10000, 3, 4, 1000, 3, 2, 100, 1, 2, 10, 1, 0, 1), []int{0, -1, 9, -91, 909, -9091}},
		{linksOf(0, 5, 1, 5, 1, 10, 1, 4, 100, 4, 2, 1000, 2, 3, 10000), []int{0, 11, 1111, 11111, 111, 1}},
		// From one clock in the middle.
		{linksOf(3, 0, 1, 3, 1, 2, 3, 2, 3, 3, 4, 4, 3, 5, 5), []int{0, 1, 2, -1, 3, 4}},
		// Rings that agree.
		{linksOf(0, 1, 5, 1, 2, 3, 0, 2, 8), []int{0, 5, 8}}, {linksOf(0, 1, 5, 1, 2, 3, 2, 0, -8), []int{0, 5, 8}}, {linksOf(2, 0, -8, 2, 1, -3, 1, 0, -5), []int{0, 5, 8}},
		{linksOf(0, 1, 1, 1, 2, 2, 2, 3, 3, 3, 0, -6), []int{0, 1, 3, 6}}, {linksOf(0, 1, 1, 2, 1, -2, 3, 2, -3, 0, 3, 6), []int{0, 1, 3, 6}},
		// The same link twice, and a link and its reverse.
		{linksOf(0, 1, 5, 0, 1, 5), []int{0, 5}}, {linksOf(0, 1, 5, 1, 0, -5), []int{0, 5}}, {linksOf(1, 0, -5, 0, 1, 5), []int{0, 5}}, {linksOf(0, 1, 0, 1, 0, 0), []int{0, 0}},
		// At the limits, also of the sum.
		{linksOf(0, 1, 1000000), []int{0, 1000000}}, {linksOf(0, 1, -1000000), []int{0, -1000000}}, {linksOf(1, 0, 1000000), []int{0, -1000000}},
		{linksOf(0, 1, 1000000, 1, 2, -1000000), []int{0, 1000000, 0}},
		{linksOf(0, 1, 1000000, 1, 2, 1000000, 2, 3, 1000000, 3, 4, 1000000, 4, 5, 1000000), []int{0, 1000000, 2000000, 3000000, 4000000, 5000000}},
	} {
		checkClockOffsets(t, len(c.want), c.links, c.want, true)
		checkAllOfLinks(t, len(c.want), c.links)
	}
}

func TestClockOffsetsThatDisagree(t *testing.T) {
	for _, c := range []struct {
		n     int
		links []impl.ClockLink
	}{
		{2, linksOf(0, 1, 5, 0, 1, 6)}, {2, linksOf(0, 1, 5, 1, 0, 5)}, {2, linksOf(0, 1, 5, 1, 0, -6)}, {2, linksOf(0, 1, 5, 0, 1, -5)}, {2, linksOf(1, 0, 0, 1, 0, 1)},
		{2, linksOf(0, 1, 1000000, 1, 0, 1000000)},
		{3, linksOf(0, 1, 5, 1, 2, 3, 0, 2, 9)}, {3, linksOf(0, 1, 5, 1, 2, 3, 2, 0, 8)}, {3, linksOf(0, 1, 0, 0, 2, 0, 1, 2, 1)}, {3, linksOf(0, 1, 0, 0, 2, 0, 2, 1, -1)},
		// Two clocks that disagree far from the clock 0.
		{3, linksOf(0, 1, 5, 1, 2, 3, 1, 2, 4)}, {3, linksOf(1, 2, 3, 2, 1, 3, 0, 1, 5)}, {4, linksOf(0, 3, 1, 3, 1, 1, 3, 2, 1, 1, 2, 1)},
		{6, append(firstClocks(6), linksOf(0, 5, 501)...)}, {6, append(firstClocks(6), linksOf(5, 0, 500)...)}, {6, append(firstClocks(6), linksOf(3, 5, 100)...)},
	} {
		checkClockOffsets(t, c.n, c.links, nil, false)
		checkAllOfLinks(t, c.n, c.links)
		last := len(c.links) - 1
		if _, _, _, agree := clocksByHand(c.n, c.links[:last]); agree {
			checkLinkAdded(t, c.n, c.links[:last], c.links[last], false)
		}
	}
}

func TestClocksThatNoLinkReaches(t *testing.T) {
	checkClockOffsets(t, 1, nil, []int{0}, true)
	checkClockOffsets(t, 1, linksOf(), []int{0}, true)
	for n := 2; n <= 6; n++ {
		checkClockOffsets(t, n, nil, nil, false)
		checkClockOffsets(t, n, firstClocks(n-1), nil, false)
		// All but the clock 0, which no link reaches.
		checkClockOffsets(t, n, firstClocks(n)[1:], nil, false)
		for i := range n - 1 {
			checkClockOffsets(t, n, slices.Delete(firstClocks(n), i, i+1), nil, false)
		}
	}
	// Enough links, but between the wrong clocks.
	checkClockOffsets(t, 4, linksOf(0, 1, 5, 2, 3, 5, 0, 1, 5), nil, false)
	checkClockOffsets(t, 4, linksOf(1, 2, 5, 2, 3, 5, 1, 3, 10), nil, false)
	checkClockOffsets(t, 6, linksOf(0, 1, 5, 1, 2, 5, 2, 0, -10, 3, 4, 5, 4, 5, 5, 5, 3, -10), nil, false)
}

func TestLinksAdded(t *testing.T) {
	list := linksOf(0, 1, 5, 2, 1, 3)
	for _, c := range []struct {
		from, to, offset int
		want             bool
	}{
		{0, 2, 2, true}, {0, 2, 1, false}, {0, 2, 3, false}, {0, 2, -2, false}, {2, 0, -2, true}, {2, 0, 2, false},
		{0, 1, 5, true}, {0, 1, 6, false}, {1, 0, -5, true}, {1, 0, 5, false}, {2, 1, 3, true}, {1, 2, -3, true}, {1, 2, 3, false},
		{0, 3, 77, true}, {3, 0, -1000000, true}, {3, 4, 1000000, true}, {4, 3, 0, true}, {2, 4, 9, true},
		// Not between two different ones of five clocks, or by too much.
		{0, 5, 9, false}, {5, 0, 9, false}, {-1, 0, 9, false}, {0, -1, 9, false}, {3, 3, 0, false}, {3, 4, 1000001, false}, {3, 4, -1000001, false},
	} {
		checkLinkAdded(t, 5, list, impl.ClockLink{From: c.from, To: c.to, Offset: c.offset}, c.want)
	}
	checkLinkAdded(t, 2, nil, impl.ClockLink{From: 0, To: 1, Offset: 5}, true)
	checkLinkAdded(t, 2, nil, impl.ClockLink{From: 1, To: 0, Offset: -1000000}, true)
	checkLinkAdded(t, 6, nil, impl.ClockLink{From: 5, To: 4, Offset: 1000000}, true)
	// With one clock there is no link.
	checkLinkAdded(t, 1, nil, impl.ClockLink{From: 0, To: 1, Offset: 5}, false)
	checkLinkAdded(t, 1, nil, impl.ClockLink{}, false)
}

func TestLinksAddedFarFromTheFirstClock(t *testing.T) {
	list := linksOf(1, 2, 5, 3, 2, 3)
	checkLinkAdded(t, 5, list, impl.ClockLink{From: 1, To: 3, Offset: 2}, true)
	checkLinkAdded(t, 5, list, impl.ClockLink{From: 1, To: 3, Offset: 3}, false)
	checkLinkAdded(t, 5, list, impl.ClockLink{From: 3, To: 1, Offset: -2}, true)
	checkLinkAdded(t, 5, list, impl.ClockLink{From: 3, To: 1, Offset: 2}, false)
	checkLinkAdded(t, 5, list, impl.ClockLink{From: 0, To: 4, Offset: 2}, true)
	// Between two groups of clocks any offset agrees.
	groups := linksOf(0, 1, 5, 1, 2, 5, 3, 4, 7, 4, 5, 7)
	for _, offset := range []int{-1000000, -1, 0, 1, 1000000} {
		checkLinkAdded(t, 6, groups, impl.ClockLink{From: 2, To: 3, Offset: offset}, true)
		checkLinkAdded(t, 6, groups, impl.ClockLink{From: 5, To: 0, Offset: offset}, true)
	}
	checkLinkAdded(t, 6, groups, impl.ClockLink{From: 3, To: 5, Offset: 14}, true)
	checkLinkAdded(t, 6, groups, impl.ClockLink{From: 3, To: 5, Offset: 13}, false)
	joined := append(groups, impl.ClockLink{From: 2, To: 3, Offset: -100})
	checkLinkAdded(t, 6, joined, impl.ClockLink{From: 0, To: 5, Offset: -76}, true)
	checkLinkAdded(t, 6, joined, impl.ClockLink{From: 0, To: 5, Offset: -75}, false)
}

func TestLinksAddedToLinksThatDisagree(t *testing.T) {
	for _, list := range [][]impl.ClockLink{linksOf(0, 1, 5, 0, 1, 6), linksOf(3, 4, 5, 4, 3, 5), linksOf(2, 3, 5, 3, 4, 5, 4, 2, 5)} {
		checkLinkAdded(t, 6, list, impl.ClockLink{From: 0, To: 1, Offset: 5}, false)
		checkLinkAdded(t, 6, list, impl.ClockLink{From: 0, To: 5, Offset: 5}, false)
		checkLinkAdded(t, 6, list, impl.ClockLink{From: 5, To: 2, Offset: 5}, false)
	}
}

func TestSumsOfOffsetsBeyondTheLimit(t *testing.T) {
	far := linksOf(0, 1, 1000000, 1, 2, 1000000, 3, 2, -1000000)
	checkLinkAdded(t, 4, far, impl.ClockLink{From: 3, To: 1, Offset: -2000000}, false)
	checkLinkAdded(t, 4, far, impl.ClockLink{From: 0, To: 2, Offset: 1000000}, false)
	checkLinkAdded(t, 4, far, impl.ClockLink{From: 0, To: 3, Offset: -1000000}, false)
	checkClockOffsets(t, 4, far, []int{0, 1000000, 2000000, 3000000}, true)
	checkNeedless(t, 4, far, 0, true)
}

func TestNeedlessLinks(t *testing.T) {
	for _, c := range []struct {
		n, want int
		links   []impl.ClockLink
	}{
		{1, 0, nil}, {6, 0, nil}, {2, 0, linksOf(0, 1, 5)}, {3, 1, linksOf(0, 1, 5, 1, 0, -5, 2, 1, 3)},
		{2, 1, linksOf(0, 1, 5, 0, 1, 5)}, {2, 1, linksOf(0, 1, 5, 1, 0, -5)}, {2, 2, linksOf(0, 1, 5, 0, 1, 5, 1, 0, -5)},
		// Links that disagree are needless, too.
		{2, 1, linksOf(0, 1, 5, 0, 1, 6)}, {2, 1, linksOf(0, 1, 5, 1, 0, 5)}, {3, 1, linksOf(0, 1, 5, 1, 2, 3, 0, 2, 9)}, {2, 3, linksOf(0, 1, 5, 0, 1, 6, 0, 1, 7, 1, 0, 8)},
		{3, 1, linksOf(0, 1, 5, 1, 2, 3, 0, 2, 8)}, {3, 0, linksOf(0, 1, 5, 1, 2, 3)}, {4, 0, linksOf(0, 1, 5, 2, 3, 5, 1, 2, 5)}, {4, 1, linksOf(0, 1, 5, 2, 3, 5, 1, 2, 5, 3, 0, 7)},
		// Only the links before a link count.
		{3, 1, linksOf(0, 2, 8, 0, 1, 5, 1, 2, 3)}, {4, 0, linksOf(0, 1, 5, 2, 3, 5, 3, 1, 0)}, {4, 0, linksOf(1, 0, 5, 3, 2, 5, 2, 0, 0)},
		// Far from the clock 0.
		{6, 1, linksOf(3, 4, 5, 4, 5, 5, 5, 3, -10)}, {6, 2, linksOf(1, 2, 0, 3, 4, 0, 2, 1, 0, 4, 3, 0)},
		// Clocks that are not connected.
		{6, 2, linksOf(0, 1, 5, 1, 2, 5, 2, 0, -10, 3, 4, 5, 4, 5, 5, 5, 3, -10)},
		{6, 0, firstClocks(6)}, {6, 5, append(firstClocks(6), firstClocks(6)...)},
	} {
		checkNeedless(t, c.n, c.links, c.want, true)
		checkAllOfLinks(t, c.n, c.links)
	}
}

func TestAsManyLinksAsThereMayBe(t *testing.T) {
	full := append(append(firstClocks(6), firstClocks(6)...), linksOf(0, 5, 500, 4, 2, -200)...)
	checkClockOffsets(t, 6, full, []int{0, 100, 200, 300, 400, 500}, true)
	checkNeedless(t, 6, full, 7, true)
	checkLinkAdded(t, 6, full[:11], full[11], true)
	checkLinkAdded(t, 6, full[:11], impl.ClockLink{From: 4, To: 2, Offset: 200}, false)
	for _, l := range full {
		checkLinkAdded(t, 6, full, l, false)
		checkNoLinks(t, 6, append(slices.Clone(full), l))
	}
	checkNoLinks(t, 6, slices.Repeat(full, 2))
	checkNoLinks(t, 6, slices.Repeat(full, 1000))
	same := slices.Repeat(linksOf(0, 1, 5), 13)
	for count := 1; count <= 12; count++ {
		checkClockOffsets(t, 2, same[:count], []int{0, 5}, true)
		checkNeedless(t, 2, same[:count], count-1, true)
		checkLinkAdded(t, 2, same[:count], same[0], count < 12)
	}
	checkNoLinks(t, 2, same)
}

func TestNumbersOfClocks(t *testing.T) {
	for n := 1; n <= 6; n++ {
		checkAllOfLinks(t, n, firstClocks(n))
		// A clock that is not there.
		checkNoLinks(t, n, firstClocks(n+1))
	}
	for _, n := range append(farNumbers(), 0, -1, -2, -6, 7, 8, 12) {
		for _, links := range [][]impl.ClockLink{nil, linksOf(0, 1, 5), linksOf(0, 0, 0), firstClocks(6), firstClocks(7), firstClocks(8)} {
			checkNoLinks(t, n, links)
		}
	}
}

func TestWrongLinks(t *testing.T) {
	good := linksOf(0, 1, 5, 1, 2, 3, 2, 0, -8)
	checkAllOfLinks(t, 3, good)
	for _, wrong := range wrongLinks() {
		checkLinkAdded(t, 3, good, wrong, false)
		checkLinkAdded(t, 3, nil, wrong, false)
		checkNoLinks(t, 3, []impl.ClockLink{wrong})
		for i := range len(good) + 1 {
			checkNoLinks(t, 3, slices.Insert(slices.Clone(good), i, wrong))
		}
	}
}

// linksAmong returns all links of n clocks with an Offset up to most.
func linksAmong(n, most int) []impl.ClockLink {
	var links []impl.ClockLink
	for from := range n {
		for to := range n {
			for offset := -most; offset <= most; offset++ {
				if from != to {
					links = append(links, impl.ClockLink{From: from, To: to, Offset: offset})
				}
			}
		}
	}
	return links
}

func TestAllShortListsOfLinks(t *testing.T) {
	for _, c := range []struct{ n, length, most int }{{2, 3, 2}, {3, 1, 1}, {3, 2, 2}, {3, 3, 1}, {4, 3, 1}, {5, 2, 1}, {4, 4, 0}} {
		all := linksAmong(c.n, c.most)
		eachOf(c.length, len(all)-1, func(numbers []int) {
			var links []impl.ClockLink
			for _, number := range numbers {
				links = append(links, all[number])
			}
			checkAllOfLinks(t, c.n, links)
		})
	}
}

func TestRandomLinks(t *testing.T) {
	d := dice(12012)
	connected := 0
	for range 30000 {
		n := 2 + d.upTo(5)
		shows := make([]int, n)
		for i := range shows {
			shows[i] = d.upTo(500001)
		}
		var links []impl.ClockLink
		for range d.upTo(13) {
			from, to := d.upTo(n), d.upTo(n)
			if from == to {
				continue
			}
			wrongBy := 0
			if d.upTo(20) == 0 {
				wrongBy = d.upTo(3) - 1
			}
			links = append(links, impl.ClockLink{From: from, To: to, Offset: shows[to] - shows[from] + wrongBy})
		}
		checkAllOfLinks(t, n, links)
		offsets, ok := impl.ClockOffsets(n, links)
		if !ok {
			continue
		}
		connected++
		for _, l := range links {
			if offsets[0] != 0 || offsets[l.To]-offsets[l.From] != l.Offset {
				t.Errorf("ClockOffsets(%d, %v) = %v, which does not agree with %v", n, links, offsets, l)
			}
		}
	}
	if connected < 3000 || connected > 27000 {
		t.Errorf("%d of 30000 lists of links give offsets, which tests too little", connected)
	}
}

func TestOffsetsDoNotDependOnTheOrderOfTheLinks(t *testing.T) {
	links := linksOf(0, 1, 5, 2, 1, 3, 2, 3, -40, 4, 3, 7, 4, 5, 1000, 0, 5, 955)
	want, ok := impl.ClockOffsets(6, links)
	if !ok || !slices.Equal(want, []int{0, 5, 2, -38, -45, 955}) {
		t.Fatalf("ClockOffsets(6, %v) = %v, %v", links, want, ok)
	}
	d := dice(121)
	for range 1000 {
		for i := range links {
			k := d.upTo(i + 1)
			links[i], links[k] = links[k], links[i]
			if d.upTo(2) == 0 {
				l := links[i]
				links[i] = impl.ClockLink{From: l.To, To: l.From, Offset: -l.Offset}
			}
		}
		checkClockOffsets(t, 6, links, want, true)
		checkNeedless(t, 6, links, 1, true)
	}
}
