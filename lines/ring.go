package lines

import "slices"

// counter counts ids.
type counter struct{ next int }

// take tells the next id, and goes on.
func (c *counter) take() int {
	c.next++
	return c.next - 1
}

// wasTaken tells whether an id was told.
func (c *counter) wasTaken(id int) bool { return id >= 1 && id < c.next }

// ring is lines in places that are taken one behind the other; when there are
// most of them, the oldest one's is written over. A row that stands there is
// never changed.
type ring struct {
	most   int
	places []Line
	oldest int
}

// put lets a line be the newest one.
func (r *ring) put(l Line) {
	switch {
	case r.count() < r.most:
		r.places = append(r.places, l)
	case r.most > 0:
		r.places[r.oldest] = l
		r.oldest = r.place(1)
	}
}

// count tells how many lines there are.
func (r *ring) count() int { return len(r.places) }

// has tells whether there is such a line.
func (r *ring) has(i int) bool { return i >= 0 && i < r.count() }

// line is the i-th line, from the oldest one on.
func (r *ring) line(i int) Line { return r.places[r.place(i)] }

// place is where the i-th line stands.
func (r *ring) place(i int) int { return (r.oldest + i) % r.count() }

// newest tells the number of the newest line with an id, or -1.
func (r *ring) newest(id int) int {
	for newer := range r.count() {
		if i := r.count() - 1 - newer; r.line(i).ID == id {
			return i
		}
	}
	return -1
}

// empty takes all lines away.
func (r *ring) empty() { r.places, r.oldest = nil, 0 }

// twin is a ring of the same lines. Their rows may be shared, as none is
// changed any more.
func (r *ring) twin() ring {
	return ring{most: r.most, places: slices.Clone(r.places), oldest: r.oldest}
}
