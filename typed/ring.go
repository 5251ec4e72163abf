package typed

import "tactile/api"

// key is a rune that was typed, and when.
type key struct {
	r  int32
	at int
}

// ring is keys in places that go round: so many, from the first one on.
type ring struct {
	places [api.MaxTyped]key
	first  int
	count  int
}

// all hands the keys on in their order, till it is told to stop.
func (g *ring) all(yield func(key) bool) {
	for i := range g.count {
		if !yield(g.places[g.place(i)]) {
			return
		}
	}
}

// add puts a key behind all others. The first one goes for it when no place is
// left.
func (g *ring) add(k key) {
	if g.count == len(g.places) {
		g.drop(1)
	}
	g.places[g.place(g.count)] = k
	g.count++
}

// drop takes so many keys away, from the first one on. Their places are wiped,
// as what a user has typed may be secret.
func (g *ring) drop(n int) {
	for i := range n {
		g.places[g.place(i)] = key{}
	}
	g.first = g.place(n)
	g.count -= n
}

// place is where the i-th key stands.
func (g *ring) place(i int) int { return (g.first + i) % len(g.places) }
