// Package runs: which places are filled, as runs of them, and what lies there.
package runs

import "slices"

// run is filled places without a gap, from its first on; it carries an item for each.
type run[E comparable] struct {
	first int
	items []E
}

// behind is the first place that the run does not fill.
func (r run[E]) behind() int { return r.first + len(r.items) }

// Runs are filled places, of which each carries an E: a byte, or struct{}, where the place alone counts (it costs no memory, however long the run). They are in order, and each is as long as can be: there is a gap between any two.
type Runs[E comparable] struct {
	list []run[E]
}

// Count tells how many runs there are.
func (r *Runs[E]) Count() int { return len(r.list) }

// Size tells how many places are filled.
func (r *Runs[E]) Size() int {
	size := 0
	for _, one := range r.list {
		size += len(one.items)
	}
	return size
}

// Covers tells whether every place from a first one to ahead of behind is filled.
func (r *Runs[E]) Covers(first int, behind int) bool {
	return first >= behind || slices.ContainsFunc(r.list, func(one run[E]) bool {
		return one.first <= first && behind <= one.behind()
	})
}

// Agrees tells whether none of the items, which lie from a place on, is another than what lies there already.
func (r *Runs[E]) Agrees(first int, items []E) bool {
	for _, one := range r.list {
		from, to := max(first, one.first), min(first+len(items), one.behind())
		if from < to && !slices.Equal(one.items[from-one.first:to-one.first], items[from-first:to-first]) {
			return false
		}
	}
	return true
}

// Fill lays copies of the items from a place on. The caller has seen to it that they agree.
func (r *Runs[E]) Fill(first int, items []E) {
	if len(items) == 0 {
		return
	}
	added := run[E]{first, items}
	from, to := r.touching(added)
	r.list = slices.Replace(r.list, from, to, join(added, r.list[from:to]))
}

// DropLowest forgets the lowest run, of which the caller knows that it is there, and tells the place behind it.
func (r *Runs[E]) DropLowest() int {
	behind := r.list[0].behind()
	r.list = slices.Delete(r.list, 0, 1)
	return behind
}

// Take takes away the items that lie from a place on without a gap, at most so many. The caller knows that none lies ahead of the place.
func (r *Runs[E]) Take(first int, most int) []E {
	if most == 0 || !r.Covers(first, first+1) {
		return nil
	}
	items := r.list[0].items
	size := min(most, len(items))
	taken, left := slices.Clone(items[:size]), items[size:]
	if len(left) == 0 {
		r.list = slices.Delete(r.list, 0, 1)
	} else {
		// A copy, too: else the memory of what was taken would be kept.
		r.list[0] = run[E]{first + size, slices.Clone(left)}
	}
	return taken
}

// touching tells which runs have no gap between them and the added one: those from the first index to ahead of the second.
func (r *Runs[E]) touching(added run[E]) (int, int) {
	from := 0
	for from < len(r.list) && r.list[from].behind() < added.first {
		from++
	}
	to := from
	for to < len(r.list) && r.list[to].first <= added.behind() {
		to++
	}
	return from, to
}

// join makes one run, in memory of its own, of the added one and those that it touches.
func join[E comparable](added run[E], touched []run[E]) run[E] {
	first, behind := added.first, added.behind()
	for _, one := range touched {
		first, behind = min(first, one.first), max(behind, one.behind())
	}
	joined := run[E]{first, make([]E, behind-first)}
	copy(joined.items[added.first-first:], added.items)
	for _, one := range touched {
		copy(joined.items[one.first-first:], one.items)
	}
	return joined
}
