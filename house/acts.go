package house

import (
	"strings"

	"inglenook/api"
	"inglenook/rules"
	"inglenook/words"
)

// act does what is not refused, and is what goes out.
func (h *House) act(a api.Act) string {
	switch a.Kind {
	case api.ActCome:
		h.seats[a.Seat] = newSeat()
	case api.ActBytes:
		h.seats[a.Seat].feed(a.Bytes)
	case api.ActTake:
		return h.seats[a.Seat].take(a.N)
	case api.ActLeave:
		h.leave(a.Seat)
	case api.ActPulse:
		h.pulse(a.N)
	}
	return ""
}

// leave sets a seat to nothing. Only then its being quits, so that nothing of that is told to the seat.
func (h *House) leave(i int) {
	s := h.seats[i]
	h.seats[i] = nil
	if s.plays() {
		h.order(s.being, api.Order{Verb: api.Quit})
	}
}

// order has a being do something.
func (h *House) order(b int, o api.Order) {
	w, row, _ := rules.Do(h.land, b, o)
	h.happens(w, row)
}

// happens has the land be another one, and tells all who play what they perceive of how that came.
func (h *House) happens(w api.Land, row []api.Event) {
	h.land = w
	for _, e := range row {
		h.last = append(h.last, e)
		for _, s := range h.seats {
			if s != nil && s.plays() {
				s.hear(e)
			}
		}
	}
}

// pulse has each seat do what its next line says, then all who fight fight a round.
func (h *House) pulse(draw int) {
	for i := range h.seats {
		if h.seats[i] != nil {
			h.turn(i)
		}
	}
	w, row, _ := rules.Round(h.land, draw)
	h.happens(w, row)
}

// turn has a seat do what its next line says, if there is one.
func (h *House) turn(i int) {
	s := h.seats[i]
	typed, ok := s.next()
	switch {
	case !ok:
	case s.plays():
		h.obey(i, typed)
	default:
		h.enter(s, typed)
	}
}

// enter has a seat play the being of the name that it typed. It plays ahead of what happens then, so that it is told of its own arrival.
func (h *House) enter(s *seat, typed string) {
	w, b, row, code := rules.Enter(h.land, strings.Trim(typed, " "))
	switch code {
	case api.OK:
		s.being = b
		h.happens(w, row)
	case api.ErrFull:
		s.tell(noRoom)
	default:
		s.tell(noName)
	}
}

// obey has a seat's being do what was typed.
func (h *House) obey(i int, typed string) {
	s := h.seats[i]
	o, code := words.Parse(typed)
	switch {
	case code != api.OK:
		s.tell(what)
	case o.Verb == api.Quit:
		h.leave(i)
	default:
		h.order(s.being, o)
	}
}

// flow shows all what waits for them. Again, if somebody left: others may have been told of that behind their own turn.
func (h *House) flow() {
	for h.cut() {
	}
}

// cut shows all what waits for them, has those leave whose page is cut, and is whether somebody did.
func (h *House) cut() bool {
	left := false
	for i := range h.seats {
		if s := h.seats[i]; s != nil && !s.flow() {
			h.leave(i)
			left = true
		}
	}
	return left
}
