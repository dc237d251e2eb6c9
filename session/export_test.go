package session

// SetNow sets the clock: no test waits until ticks end.
func (s *Session) SetNow(now int) { s.now = now }
