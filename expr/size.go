package expr

import "quaestor/api"

// size is how many parts of an expression have been met.
type size struct {
	parts int
}

// grow takes in one more part, the deep-th of those that stand within one another, and tells whether the expression may still be small.
func (s *size) grow(deep int) bool {
	s.parts++
	return s.parts <= api.MaxNodes && deep <= api.MaxDeep
}

// holds goes over an expression until it is too large: one that stands within itself has no end.
func (s *size) holds(e api.Expr, deep int) bool {
	if !s.grow(deep) {
		return false
	}
	for _, kid := range e.Kids {
		if !s.holds(kid, deep+1) {
			return false
		}
	}
	return true
}

// small tells whether an expression is small.
func small(e api.Expr) bool {
	return new(size).holds(e, 1)
}
