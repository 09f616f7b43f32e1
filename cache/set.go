package cache

import "oocore/api"

// none is no place of a set.
const none = -1

// set has the lines of one set that are there, the one that was used longest ago first.
type set []api.Line

func (s set) find(addr uint32) int {
	for k := range s {
		if s[k].Addr == addr-addr%api.LineSize {
			return k
		}
	}
	return none
}

// use moves a line behind all others, and tells where it stands then.
func (s set) use(k int) *api.Line {
	l := s[k]
	copy(s[k:], s[k+1:])
	last := &s[len(s)-1]
	*last = l
	return last
}

// takeOut lets a line leave; those behind it move up.
func (s *set) takeOut(k int) api.Line {
	l := (*s)[k]
	copy((*s)[k:], (*s)[k+1:])
	*s = (*s)[:len(*s)-1]
	return l
}
