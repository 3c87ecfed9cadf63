package rules

import (
	"inglenook/api"
	"inglenook/land"
	"inglenook/sense"
	"inglenook/words"
)

// What a being is told of what it cannot do.
const (
	noWay   = "You cannot go there."
	shut    = "It is shut."
	dark    = "It is dark."
	noThing = "There is no such thing."
	notHad  = "You have no such thing."
	nobody  = "There is nobody of that name."
	worn    = "You wear it."
	cannot  = "That cannot be."
	isSo    = "It is so."
)

// act does what a being is to do. Whatever is none of the other verbs is a direction.
func (s *scene) act(b int, o api.Order) {
	switch o.Verb {
	case api.Look:
		s.look(b)
	case api.Get:
		s.get(b, o)
	case api.Drop:
		s.part(b, o, api.InRoom, s.Beings[b].Room, s.event(api.Dropped, b))
	case api.Put:
		s.put(b, o)
	case api.Give:
		s.give(b, o)
	case api.Say:
		e := s.event(api.Said, b)
		e.Text = o.Text
		s.happens(e)
	case api.Open, api.Close:
		if d, ok := words.Direction(o.Name); ok {
			s.door(b, d, turned(o.Verb))
		} else {
			s.turn(b, o, turned(o.Verb))
		}
	case api.Light, api.Douse, api.Wear, api.Doff:
		s.turn(b, o, turned(o.Verb))
	case api.Hit:
		s.hit(b, o)
	case api.Inventory:
		s.tell(b, "You have"+s.listed(s.hand(b)))
	case api.Quit:
		s.happens(s.event(api.Faded, b))
		s.letGo(b)
		s.Beings[b] = api.Being{}
	default:
		s.walk(b, o.Verb)
	}
}

// walk takes a being through an exit, away from whom it fights.
func (s *scene) walk(b, d int) {
	me := &s.Beings[b]
	room := &s.Rooms[me.Room]
	switch {
	case room.Exits[d] == 0:
		s.tell(b, noWay)
	case room.Shut[d]:
		s.tell(b, shut)
	default:
		s.toward(api.Left, b, d)
		me.Room, me.Foe = room.Exits[d]-1, 0
		s.toward(api.Came, b, land.Opposite(d))
		s.look(b)
	}
}

// toward lets a being leave or come by a direction, in the eyes of all.
func (s *scene) toward(kind, b, d int) {
	e := s.event(kind, b)
	e.Dir = d
	s.happens(e)
}

// look tells a being of the room that it is in.
func (s *scene) look(b int) {
	room := s.Beings[b].Room
	if !sense.Bright(s.Land, room) {
		s.tell(b, dark)
		return
	}
	s.tell(b, "The "+s.Rooms[room].Name+".")
	s.tell(b, "Ways:"+ways(s.Rooms[room]))
	if list := s.sight(b); len(list) > 0 {
		s.tell(b, "Here is"+s.listed(list))
	}
	for other := range s.Beings {
		if s.seesOther(b, other) {
			s.tell(b, s.Beings[other].Name+" is here.")
		}
	}
}

// ways is the directions in which a room has exits.
func ways(r api.Room) string {
	text := ""
	for d, to := range r.Exits {
		if to != 0 {
			text += " " + words.Called(d) + star(r.Shut[d])
		}
	}
	return text
}

// star is the mark of what is shut, or On.
func star(set bool) string {
	if set {
		return "*"
	}
	return ""
}

// listed is a list of things, as it is told.
func (s *scene) listed(list []int) string {
	text := ""
	for _, i := range list {
		text += " " + s.Things[i].Name + star(s.Things[i].On)
	}
	if text == "" {
		text = " nothing"
	}
	return text + "."
}

// get has a being take what lies about, or is in a box.
func (s *scene) get(b int, o api.Order) {
	list := s.sight(b)
	if o.Second != "" {
		box, ok := s.box(b, o.Second)
		if !ok {
			return
		}
		list = land.Has(s.Land, api.InBox, box)
	}
	list = s.meant(list, o)
	if len(list) == 0 {
		s.tell(b, noThing)
	}
	for _, i := range list {
		s.move(i, api.OnBeing, b, s.event(api.Got, b))
	}
}

// move has a thing be at another place, in the eyes of all.
func (s *scene) move(i, where, at int, e api.Event) {
	t := &s.Things[i]
	t.Where, t.At = where, at
	e.Thing = t.Name
	s.happens(e)
}

// put has a being put things into a box.
func (s *scene) put(b int, o api.Order) {
	if box, ok := s.box(b, o.Second); ok {
		e := s.event(api.Stowed, b)
		e.Text = s.Things[box].Name
		s.part(b, o, api.InBox, box, e)
	}
}

// give has a being give things to somebody.
func (s *scene) give(b int, o api.Order) {
	if to, ok := s.somebody(b, o.Second); ok {
		s.part(b, o, api.OnBeing, to, s.with(api.Gave, b, to))
	}
}

// part has a being part with things for a place; with each of them the event happens.
func (s *scene) part(b int, o api.Order, where, at int, e api.Event) {
	list := s.meant(s.hand(b), o)
	if len(list) == 0 {
		s.tell(b, notHad)
	}
	for _, i := range list {
		t := &s.Things[i]
		switch {
		case t.Kind == api.Cloak && t.On:
			s.tell(b, worn)
		case where == api.InBox && land.Inside(s.Land, at, i):
			s.tell(b, cannot)
		default:
			s.move(i, where, at, e)
		}
	}
}

// change is what comes of a verb that turns things on or off: of which kind they are, what happens, and whether it is perceived as things are behind the doing.
type change struct {
	kind, event int
	on, behind  bool
}

// turned is the change of a verb. Each is perceived while more is to be seen: while there is light, or no cloak is on.
func turned(verb int) change {
	switch verb {
	case api.Open:
		return change{kind: api.Box, event: api.Opened, on: true, behind: true}
	case api.Close:
		return change{kind: api.Box, event: api.Closed}
	case api.Light:
		return change{kind: api.Lamp, event: api.Lit, on: true, behind: true}
	case api.Douse:
		return change{kind: api.Lamp, event: api.Doused}
	case api.Wear:
		return change{kind: api.Cloak, event: api.Wore, on: true}
	}
	return change{kind: api.Cloak, event: api.Doffed, behind: true}
}

// door has a being open or close the door of an exit, on both sides where there are two.
func (s *scene) door(b, d int, c change) {
	from := s.Beings[b].Room
	room := &s.Rooms[from]
	switch {
	case room.Exits[d] == 0:
		s.tell(b, noThing)
	case room.Shut[d] != c.on:
		s.tell(b, isSo)
	default:
		room.Shut[d] = !c.on
		back := land.Opposite(d)
		if other := &s.Rooms[room.Exits[d]-1]; other.Exits[back] == from+1 {
			other.Shut[back] = !c.on
		}
		e := s.event(c.event, b)
		e.Thing = "door"
		s.happens(e)
	}
}

// turn has a being turn a thing on or off: a lamp or a cloak that it has, a box also where that lies in its sight.
func (s *scene) turn(b int, o api.Order, c change) {
	o.Nth, o.All = max(o.Nth, 1), false
	among := s.hand(b)
	if c.kind == api.Box {
		among = s.reach(b)
	}
	list := s.meant(among, o)
	if len(list) == 0 || s.Things[list[0]].Kind != c.kind {
		s.tell(b, noThing)
		return
	}
	t := &s.Things[list[0]]
	if t.On == c.on {
		s.tell(b, isSo)
		return
	}
	e := s.event(c.event, b)
	e.Thing = t.Name
	if c.behind {
		t.On = c.on
		s.happens(e)
	} else {
		s.happens(e)
		t.On = c.on
	}
}

// hit has a being begin to fight somebody, who fights back unless busy with another one.
func (s *scene) hit(b int, o api.Order) {
	if o.Nth != 1 || o.All {
		s.tell(b, nobody)
		return
	}
	other, ok := s.somebody(b, o.Name)
	if !ok {
		return
	}
	s.Beings[b].Foe = other + 1
	if foe := &s.Beings[other]; foe.Foe == 0 {
		foe.Foe = b + 1
	}
	s.tell(b, "You fight.")
}

// fight has a being strike its foe, if that is still there.
func (s *scene) fight(b, n int) {
	me := &s.Beings[b]
	other := me.Foe - 1
	foe := &s.Beings[other]
	if !foe.Here || foe.Room != me.Room {
		me.Foe = 0
		return
	}
	e := s.with(api.Struck, b, other)
	e.N = n
	s.happens(e)
	foe.Health -= n
	if foe.Health < 1 {
		s.die(other)
	}
}

// die has a being die: a player begins again. Its Health is 1 meanwhile, so that the land in which all perceive that is a good one.
func (s *scene) die(b int) {
	me := &s.Beings[b]
	me.Health = 1
	s.happens(s.event(api.Died, b))
	s.letGo(b)
	if b < api.Mobiles {
		*me = api.Being{}
		return
	}
	s.begin(b)
}

// begin has a player arrive, whole, where players begin.
func (s *scene) begin(b int) {
	me := &s.Beings[b]
	me.Room, me.Health = start, api.MaxHealth
	s.happens(s.event(api.Arrived, b))
	s.look(b)
}

// letGo has a being let go of all things and fights.
func (s *scene) letGo(b int) {
	me := &s.Beings[b]
	for _, i := range s.hand(b) {
		t := &s.Things[i]
		t.Where, t.At = api.InRoom, me.Room
		if t.Kind == api.Cloak {
			t.On = false
		}
	}
	for other := range s.Beings {
		if foe := &s.Beings[other]; foe.Foe == b+1 {
			foe.Foe = 0
		}
	}
	me.Foe = 0
}
