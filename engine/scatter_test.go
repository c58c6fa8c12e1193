package engine_test

// scatter gives numbers that look like none, the same each time.
type scatter uint64

func (s *scatter) next() uint64 {
	*s = *s*6364136223846793005 + 1442695040888963407
	x := uint64(*s)
	return x>>29 ^ x<<17 ^ x>>3
}

func (s *scatter) below(n int) int { return int(s.next() >> 11 % uint64(n)) }

func pick[T any](s *scatter, from ...T) T { return from[s.below(len(from))] }
