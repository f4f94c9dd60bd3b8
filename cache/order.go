package cache

// order has values with keys in their order of use, from the last used one on.
type order[K comparable, V any] struct {
	links map[K]*link[K, V]
	ring  *link[K, V] // between the end of the order and its beginning, so that every link has two neighbours
}

// link is a value in an order.
type link[K comparable, V any] struct {
	key            K
	value          V
	next, previous *link[K, V]
}

func newOrder[K comparable, V any]() *order[K, V] {
	ring := &link[K, V]{}
	ring.next, ring.previous = ring, ring
	return &order[K, V]{links: map[K]*link[K, V]{}, ring: ring}
}

func (o *order[K, V]) len() int { return len(o.links) }

func (o *order[K, V]) has(k K) bool {
	_, ok := o.links[k]
	return ok
}

// use returns the value of a key, which becomes the last used one; false if there is none.
func (o *order[K, V]) use(k K) (V, bool) {
	l, ok := o.links[k]
	if !ok {
		var none V
		return none, false
	}
	l.leave()
	l.follow(o.ring)
	return l.value, true
}

// put gives a key a value, which becomes the last used one.
func (o *order[K, V]) put(k K, v V) {
	o.remove(k)
	l := &link[K, V]{key: k, value: v}
	o.links[k] = l
	l.follow(o.ring)
}

// remove takes a key out of the order, if it is there.
func (o *order[K, V]) remove(k K) {
	if l, ok := o.links[k]; ok {
		l.leave()
		delete(o.links, k)
	}
}

// removeLast takes out the key that was not used for the longest time.
func (o *order[K, V]) removeLast() { o.remove(o.ring.previous.key) }

// keys returns the keys, in the order.
func (o *order[K, V]) keys() []K {
	var l []K
	for at := o.ring.next; at != o.ring; at = at.next {
		l = append(l, at.key)
	}
	return l
}

func (o *order[K, V]) copy() *order[K, V] {
	c := newOrder[K, V]()
	for at := o.ring.previous; at != o.ring; at = at.previous {
		c.put(at.key, at.value)
	}
	return c
}

// leave takes a link out from between its neighbours.
func (l *link[K, V]) leave() {
	l.previous.next, l.next.previous = l.next, l.previous
}

// follow puts a link behind another one.
func (l *link[K, V]) follow(before *link[K, V]) {
	l.previous, l.next = before, before.next
	l.previous.next, l.next.previous = l, l
}
