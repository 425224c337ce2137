package tests

import (
	"slices"
	"testing"

	"loop.example/g00875/impl"
)

// Promise 16, continued: the cells of paths, and when motions leave the area.

func checkCells(t *testing.T, m impl.Motion, minutes, size int, want []impl.Place, wantOK bool) {
	t.Helper()
	if got, ok := impl.PathCells(m, minutes, size); !slices.Equal(got, want) || ok != wantOK {
		t.Errorf("PathCells(%v, %d, %d) = %v, %v; want %v, %v", m, minutes, size, got, ok, want, wantOK)
	}
}

func checkLeaves(t *testing.T, m impl.Motion, want int, wantOK bool) {
	t.Helper()
	if got, ok := impl.LeavesAt(m); got != want || ok != wantOK {
		t.Errorf("LeavesAt(%v) = %d, %v; want %d, %v", m, got, ok, want, wantOK)
	}
}

// pathByHand goes one minute after the other and returns the places up to the last one in the area, at
// most those of the minutes 0..61.
func pathByHand(m impl.Motion) []impl.Place {
	var path []impl.Place
	for p := m.Place; isPassed(p.X, 0, 9899) && isPassed(p.Y, 0, 9899) && len(path) < 62; {
		path = append(path, p)
		p.X += m.Velocity.X
		p.Y += m.Velocity.Y
	}
	return path
}

// cellByHand counts the sizes that a coordinate is behind.
func cellByHand(n, size int) int {
	cell := 0
	for n >= size {
		n, cell = n-size, cell+1
	}
	return cell
}

// cellsByHand returns the cells of the first places of a path.
func cellsByHand(path []impl.Place, size int) []impl.Place {
	var cells []impl.Place
	for _, p := range path {
		cell := impl.Place{X: cellByHand(p.X, size), Y: cellByHand(p.Y, size)}
		if len(cells) == 0 || cells[len(cells)-1] != cell {
			cells = append(cells, cell)
		}
	}
	return cells
}

// checkPath checks when a motion leaves, and its cells of a size for all minutes.
func checkPath(t *testing.T, m impl.Motion, size int) {
	t.Helper()
	path := pathByHand(m)
	if len(path) <= 60 {
		checkLeaves(t, m, len(path), true)
	} else {
		checkLeaves(t, m, 0, false)
	}
	for minutes := range 61 {
		if minutes < len(path) {
			checkCells(t, m, minutes, size, cellsByHand(path[:minutes+1], size), true)
		} else {
			checkCells(t, m, minutes, size, nil, false)
		}
	}
}

func TestPathCells(t *testing.T) {
	m := flying(100, 200, 30, -40)
	checkCells(t, m, 3, 100, placesOf(1, 2, 1, 1, 1, 0), true)
	checkCells(t, m, 0, 100, placesOf(1, 2), true)
	checkCells(t, m, 1, 100, placesOf(1, 2, 1, 1), true)
	checkCells(t, m, 5, 100, placesOf(1, 2, 1, 1, 1, 0, 2, 0), true)
	checkCells(t, m, 6, 100, nil, false)
	// With the size 1 the cells are the places, and with 1000 they are all the same one.
	checkCells(t, m, 3, 1, placesOf(100, 200, 130, 160, 160, 120, 190, 80), true)
	checkCells(t, m, 5, 1000, placesOf(0, 0), true)
	checkCells(t, m, 5, 200, placesOf(0, 1, 0, 0, 1, 0), true)
	// A cell begins at a multiple of the size.
	checkCells(t, flying(98, 0, 1, 0), 3, 100, placesOf(0, 0, 1, 0), true)
	checkCells(t, flying(98, 0, 1, 0), 1, 100, placesOf(0, 0), true)
	checkCells(t, flying(98, 0, 1, 0), 2, 100, placesOf(0, 0, 1, 0), true)
	checkCells(t, flying(0, 101, 0, -1), 1, 100, placesOf(0, 1), true)
	checkCells(t, flying(0, 101, 0, -1), 2, 100, placesOf(0, 1, 0, 0), true)
	// X and Y change in the same minute, or one after the other.
	checkCells(t, flying(99, 99, 1, 1), 1, 100, placesOf(0, 0, 1, 1), true)
	checkCells(t, flying(99, 98, 1, 1), 2, 100, placesOf(0, 0, 1, 0, 1, 1), true)
	checkCells(t, flying(98, 100, 1, -1), 2, 100, placesOf(0, 1, 0, 0, 1, 0), true)
	// Cells in between are left out if no whole minute is there.
	checkCells(t, flying(0, 0, 200, 100), 2, 50, placesOf(0, 0, 4, 2, 8, 4), true)
}

func TestPathCellsThatChange(t *testing.T) {
	// In every minute, in some, and in none.
	for minutes := range 61 {
		var every, some []impl.Place
		for minute := range minutes + 1 {
			every = append(every, impl.Place{X: 3 + minute, Y: 90 - minute})
			if minute%4 == 0 {
				some = append(some, impl.Place{X: 50 - minute/4, Y: minute / 4})
			}
		}
		checkCells(t, flying(350, 9050, 100, -100), minutes, 100, every, true)
		checkCells(t, flying(5075, 0, -25, 25), minutes, 100, some, true)
		checkCells(t, flying(5099, 0, -25, 25), minutes, 100, some, true)
		checkCells(t, flying(5000, 6000, 3, -2), minutes, 1000, placesOf(5, 6, 5, 5)[:min(minutes+1, 2)], true)
		checkCells(t, flying(5000, 6000, 3, 2), minutes, 1000, placesOf(5, 6), true)
		checkCells(t, flying(7, 9899, 0, 0), minutes, 1, placesOf(7, 9899), true)
		checkCells(t, flying(7, 9899, 0, 0), minutes, 1000, placesOf(0, 9), true)
	}
}

func TestPathCellsDoNotComeAgain(t *testing.T) {
	// An aircraft that flies straight on does not come back to a cell that it has left.
	d := dice(16000)
	for range 20000 {
		m := d.someMotion()
		minutes, size := min(d.within(0, 60), len(pathByHand(m))-1), d.within(1, 1000)
		cells, ok := impl.PathCells(m, minutes, size)
		seen := map[impl.Place]bool{}
		for _, cell := range cells {
			if seen[cell] {
				t.Errorf("PathCells(%v, %d, %d) = %v with the same cell again", m, minutes, size, cells)
			}
			seen[cell] = true
		}
		if !ok || len(cells) == 0 {
			t.Errorf("PathCells(%v, %d, %d) = %v, %v", m, minutes, size, cells, ok)
		}
	}
}

func TestLeaving(t *testing.T) {
	// On each of the four sides.
	checkLeaves(t, flying(100, 200, 30, -40), 6, true)
	checkLeaves(t, flying(9000, 200, 30, 40), 30, true)
	checkLeaves(t, flying(100, 200, -30, 40), 4, true)
	checkLeaves(t, flying(100, 9000, 30, 40), 23, true)
	checkLeaves(t, flying(9899, 5000, 1, 0), 1, true)
	checkLeaves(t, flying(0, 5000, -1, 0), 1, true)
	checkLeaves(t, flying(5000, 9899, 0, 1), 1, true)
	checkLeaves(t, flying(5000, 0, 0, -1), 1, true)
	// The border itself is not outside.
	checkLeaves(t, flying(9799, 5000, 100, 0), 2, true)
	checkLeaves(t, flying(9800, 5000, 100, 0), 1, true)
	checkLeaves(t, flying(100, 5000, -100, 0), 2, true)
	checkLeaves(t, flying(99, 5000, -100, 0), 1, true)
	checkLeaves(t, flying(5000, 9799, 0, 100), 2, true)
	checkLeaves(t, flying(5000, 9800, 0, 100), 1, true)
	checkLeaves(t, flying(5000, 100, 0, -100), 2, true)
	checkLeaves(t, flying(5000, 99, 0, -100), 1, true)
	// The earlier one of two sides counts.
	checkLeaves(t, flying(9699, 9799, 100, 100), 2, true)
	checkLeaves(t, flying(9799, 9699, 100, 100), 2, true)
	checkLeaves(t, flying(200, 100, -100, -100), 2, true)
}

func TestLeavingAtTheLastMinute(t *testing.T) {
	for _, c := range []struct {
		m      impl.Motion
		leaves bool
	}{
		{flying(9840, 0, 1, 0), true}, {flying(9839, 0, 1, 0), false},
		{flying(59, 0, -1, 0), true}, {flying(60, 0, -1, 0), false},
		{flying(0, 9840, 0, 1), true}, {flying(0, 9839, 0, 1), false},
		{flying(0, 59, 0, -1), true}, {flying(0, 60, 0, -1), false},
		{flying(60, 0, 164, 0), true}, {flying(59, 0, 164, 0), false},
		{flying(9839, 0, -164, 0), true}, {flying(9840, 0, -164, 0), false},
	} {
		if c.leaves {
			checkLeaves(t, c.m, 60, true)
			checkCells(t, c.m, 60, 1, nil, false)
			checkCells(t, c.m, 60, 1000, nil, false)
		} else {
			// It would only leave afterwards.
			checkLeaves(t, c.m, 0, false)
		}
		checkPath(t, c.m, 1)
		checkPath(t, c.m, 100)
	}
}

func TestNotLeaving(t *testing.T) {
	for _, m := range []impl.Motion{{}, flying(9899, 9899, 0, 0), flying(0, 9899, 0, 0), flying(0, 0, 1, 1), flying(9899, 9899, -164, -164), flying(0, 0, 164, 164), flying(0, 9899, 0, -100), flying(0, 9899, 100, 0)} {
		checkLeaves(t, m, 0, false)
		checkPath(t, m, 100)
	}
	// The height does not matter, not even when it becomes none.
	checkLeaves(t, climbing(-2000, -6000), 0, false)
	checkLeaves(t, climbing(130000, 6000), 0, false)
	checkCells(t, climbing(130000, 6000), 60, 1000, placesOf(5, 5), true)
}

func TestPathsOfManyMotions(t *testing.T) {
	for _, m := range endMotions() {
		if m.Height != 0 {
			continue
		}
		for _, size := range []int{1, 999, 1000} {
			checkPath(t, m, size)
		}
	}
	d := dice(6116)
	for range 1000 {
		checkPath(t, d.someMotion(), d.within(1, 1000))
	}
	// Slow ones stay longer.
	for range 1000 {
		m := flying(d.upTo(9900), d.upTo(9900), d.upTo(41)-20, d.upTo(41)-20)
		checkPath(t, m, d.within(1, 100))
	}
}

func TestPathsOfEverySize(t *testing.T) {
	for size := 1; size <= 1000; size++ {
		checkCells(t, flying(9899, 0, -149, 151), 60, size, cellsByHand(pathByHand(flying(9899, 0, -149, 151))[:61], size), true)
	}
}

func TestNoPathCells(t *testing.T) {
	for _, m := range []impl.Motion{{}, flying(5000, 5000, 10, -10), flying(9899, 0, -100, 100)} {
		for _, n := range append(farNumbers(), -1, -2, -60, 61, 62, 100) {
			for _, size := range []int{1, 100, 1000} {
				checkCells(t, m, n, size, nil, false)
			}
		}
		for _, n := range append(farNumbers(), 0, -1, -2, -1000, 1001, 1002, 2000, 9899) {
			for _, minutes := range []int{0, 1, 60} {
				checkCells(t, m, minutes, n, nil, false)
			}
		}
		checkPath(t, m, 1)
		checkPath(t, m, 1000)
	}
}
