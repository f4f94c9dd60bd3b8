package ratelimit_test

import (
	"slices"
	"testing"

	"accesscontrol/ratelimit"
)

// event is a call of Allow, and what it should return.
type event struct {
	key  string
	now  int
	want bool
}

// newLimiter returns a limiter.
func newLimiter(t *testing.T, burst, interval, keys int) *ratelimit.Limiter {
	t.Helper()
	l := ratelimit.New(burst, interval, keys)
	if l == nil {
		t.Fatalf("New(%d, %d, %d) is nil", burst, interval, keys)
	}
	return l
}

// checkAllow checks events, one after the other.
func checkAllow(t *testing.T, l *ratelimit.Limiter, events ...event) {
	t.Helper()
	for i, e := range events {
		if got := l.Allow(e.key, e.now); got != e.want {
			t.Errorf("event %d: Allow(%q, %d): got %v, want %v", i, e.key, e.now, got, e.want)
		}
	}
}

func checkLeft(t *testing.T, l *ratelimit.Limiter, key string, now, want int) {
	t.Helper()
	if got := l.Left(key, now); got != want {
		t.Errorf("Left(%q, %d): got %d, want %d", key, now, got, want)
	}
}

func checkDropped(t *testing.T, l *ratelimit.Limiter, key string, want int) {
	t.Helper()
	if got := l.Dropped(key); got != want {
		t.Errorf("Dropped(%q): got %d, want %d", key, got, want)
	}
}

// checkLimiter checks what a limiter says of all its events.
func checkLimiter(t *testing.T, l *ratelimit.Limiter, allowed, dropped int, keys ...string) {
	t.Helper()
	if a, d := l.Total(); a != allowed || d != dropped {
		t.Errorf("Total: got %d, %d, want %d, %d", a, d, allowed, dropped)
	}
	if got := l.Keys(); !slices.Equal(got, keys) {
		t.Errorf("Keys: got %q, want %q", got, keys)
	}
}

// picker picks numbers below its argument, by a rule that the seed begins.
type picker func(int) int

func newPicker(seed int) picker {
	state := uint32(seed)
	return func(n int) int {
		state = state*1664525 + 1013904223
		return int(state>>16) % n
	}
}
