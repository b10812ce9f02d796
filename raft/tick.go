package raft

import (
	"slices"

	"dovecote/api"
)

// tick makes it a tick later.
func (s *machine) tick() {
	s.Elapsed = later(s.Elapsed)
	if s.Role == api.Leader {
		s.tickLeader()
		return
	}
	if s.Elapsed < s.Timeout || !slices.Contains(s.Members, s.ID) {
		return
	}
	if s.Term == lastTerm {
		s.draw()
		return
	}
	s.askFirst()
}

// later is one tick more, as far as ticks are counted.
func later(ticks int) int {
	return min(ticks+1, numbers-1)
}

// tickLeader leads on, unless it hears of too few: others may have a leader by now.
func (s *machine) tickLeader() {
	var near []int
	for k, id := range s.Members {
		s.Heard[k] = later(s.Heard[k])
		if id == s.ID {
			s.Heard[k] = 0
		}
		if s.Heard[k] < 2*api.Wait {
			near = append(near, id)
		}
	}
	switch {
	case !s.isEnough(near):
		s.fallBack(s.Term)
		s.draw()
	case s.Elapsed >= api.Beat:
		s.Elapsed = 0
		s.sendAll()
	}
}

// askFirst asks whether it would get votes in the next term, ahead of standing in it: who cannot win disturbs nobody.
func (s *machine) askFirst() {
	s.fallBack(s.Term)
	s.Role, s.Votes = api.PreCandidate, []int{s.ID}
	s.draw()
	s.ask(api.AskPre, s.Term+1)
	s.takeOver()
}
