package ratelimit

// bucket is what a limiter knows of a key. The events that are added after the clock are only counted when they are asked for.
type bucket struct {
	left, clock int // how many events the key may have at once at the time clock
	dropped     int // events that were not permitted since the last one that was
}

// timeOf returns the time of a call.
func (l *Limiter) timeOf(now int) int { return max(l.time, min(now, maxTime)) }

// filled returns a bucket with what is added to it up to a time.
func (l *Limiter) filled(b bucket, time int) bucket {
	added := (time - b.clock) / l.interval
	if b.left+added >= l.burst {
		b.left, b.clock = l.burst, time
		return b
	}
	b.left += added
	b.clock += added * l.interval
	return b
}

// full reports whether a bucket has all that it can have at a time.
func (l *Limiter) full(b bucket, time int) bool { return l.filled(b, time).left == l.burst }

// left returns how many events a key may have at once at a time.
func (l *Limiter) left(key string, time int) int {
	b, known := l.buckets[key]
	switch {
	case known:
		return l.filled(b, time).left
	case l.hasRoom(time):
		return l.burst
	}
	return 0
}

// hasRoom reports whether a further key could become known at a time.
func (l *Limiter) hasRoom(time int) bool {
	if len(l.buckets) < l.keys {
		return true
	}
	for _, b := range l.buckets {
		if l.full(b, time) {
			return true
		}
	}
	return false
}

// permit counts an event of a key that is permitted.
func (l *Limiter) permit(key string) {
	b, known := l.buckets[key]
	if !known {
		l.makeRoom()
		b.left = l.burst // its clock becomes the time, as that of every full bucket
	}
	b = l.filled(b, l.time)
	b.left--
	b.dropped = 0
	l.buckets[key] = b
	l.allowed++
}

// makeRoom forgets the keys with full buckets, if no further key could become known otherwise.
func (l *Limiter) makeRoom() {
	if len(l.buckets) < l.keys {
		return
	}
	for key, b := range l.buckets {
		if l.full(b, l.time) {
			delete(l.buckets, key)
		}
	}
}

// drop counts an event of a key that is not permitted.
func (l *Limiter) drop(key string) {
	if b, known := l.buckets[key]; known {
		b.dropped++
		l.buckets[key] = b
	}
	l.dropped++
}
