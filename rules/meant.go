package rules

import (
	"inglenook/api"
	"inglenook/land"
	"inglenook/sense"
	"inglenook/words"
)

// sight is what a being may see lie about, by number.
func (s *scene) sight(b int) []int {
	room := s.Beings[b].Room
	if !sense.Bright(s.Land, room) {
		return nil
	}
	return land.Has(s.Land, api.InRoom, room)
}

// hand is what a being has, by number.
func (s *scene) hand(b int) []int {
	return land.Has(s.Land, api.OnBeing, b)
}

// reach is what a being has, then what lies in its sight.
func (s *scene) reach(b int) []int {
	return append(s.hand(b), s.sight(b)...)
}

// meant is those out of a list of things that an order means.
func (s *scene) meant(list []int, o api.Order) []int {
	var named []int
	for _, i := range list {
		if o.Name == "" || s.Things[i].Name == o.Name {
			named = append(named, i)
		}
	}
	if o.All {
		return named
	}
	return nth(named, o.Nth)
}

// nth is a list of that one alone, or of nothing.
func nth(list []int, n int) []int {
	if n < 1 || n > len(list) {
		return nil
	}
	return list[n-1 : n]
}

// box is the open box that a word means to a being, which is told where there is none.
func (s *scene) box(b int, word string) (int, bool) {
	n, name, all, code := words.Noun(word)
	if code != api.OK || all {
		s.tell(b, noThing)
		return 0, false
	}
	list := s.meant(s.reach(b), api.Order{Nth: n, Name: name})
	switch {
	case len(list) == 0 || s.Things[list[0]].Kind != api.Box:
		s.tell(b, noThing)
	case !s.Things[list[0]].On:
		s.tell(b, shut)
	default:
		return list[0], true
	}
	return 0, false
}

// somebody is the other one whom a word means to a being, which is told where there is nobody.
func (s *scene) somebody(b int, word string) (int, bool) {
	n, name, all, code := words.Noun(word)
	if code == api.OK && !all {
		if list := nth(s.seen(b, name), n); len(list) > 0 {
			return list[0], true
		}
	}
	s.tell(b, nobody)
	return 0, false
}

// seen is the others of a name that a being sees, by number.
func (s *scene) seen(b int, name string) []int {
	var list []int
	for other := range s.Beings {
		if s.Beings[other].Name == name && s.seesOther(b, other) {
			list = append(list, other)
		}
	}
	return list
}

// seesOther is whether a being sees one that is not itself.
func (s *scene) seesOther(b, other int) bool {
	return other != b && sense.Sees(s.Land, b, other)
}
