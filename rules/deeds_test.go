package rules_test

import (
	"strconv"
	"testing"

	"inglenook/api"
	"inglenook/land"
	"inglenook/rules"
	"inglenook/sense"
)

var directions = []string{"north", "east", "up", "south", "west", "down"}

// walks sees that a being goes that way, and what comes of it.
func walks(t *testing.T, what string, w api.Land, b, d int) {
	t.Helper()
	after := w
	after.Beings[b].Room = w.Rooms[w.Beings[b].Room].Exits[d] - 1
	after.Beings[b].Foe = 0
	row := []api.Event{
		alone(w, b, api.Event{Kind: api.Left, Dir: d}),
		alone(after, b, api.Event{Kind: api.Came, Dir: land.Opposite(d)}),
	}
	does(t, what, w, b, api.Order{Verb: d}, after, append(row, looks(after, b)...)...)
}

// P7.2: each direction, with no exit, a shut one, and one to each of the rooms, where somebody is.
func TestWalk(t *testing.T) {
	for d := range directions {
		for b := range api.Beings {
			w := bare()
			w.Beings[b].Foe = 1
			w.Beings[0].Foe = b + 1
			w.Rooms[2].Exits = [api.Directions]int{1, 1, 1, 1, 1, 1}
			w.Rooms[2].Exits[d] = 0
			refuses(t, "no exit", w, b, api.Order{Verb: d}, "You cannot go there.")
			for to := range api.Rooms {
				w.Rooms[2].Exits[d] = to + 1
				w.Rooms[2].Shut = [api.Directions]bool{}
				w.Rooms[2].Shut[d] = true
				refuses(t, "shut", w, b, api.Order{Verb: d}, "It is shut.")
				w.Rooms[2].Shut = [api.Directions]bool{true, true, true, true, true, true}
				w.Rooms[2].Shut[d] = false
				w.Beings[(b+1)%6].Room = to
				walks(t, "to room "+strconv.Itoa(to), w, b, d)
			}
		}
	}
}

// P7.2: those in the room that is left perceive that somebody leaves, those in the other one that somebody comes, as there is light then.
func TestWalkPerceived(t *testing.T) {
	w := bare()
	for b, room := range []int{2, 2, 2, 0, 0, 5} {
		w.Beings[b].Room = room
	}
	walks(t, "in the light", w, 2, 4)
	_, row, _ := rules.Do(w, 2, api.Order{Verb: 4})
	if row[0].By != [api.Beings]int{0: 1, 1: 1, 2: 1} || row[1].By != [api.Beings]int{2: 1, 3: 1, 4: 1} || row[0].Dir != 4 || row[1].Dir != 1 {
		t.Errorf("%+v", row)
	}
	w.Rooms[2].Dark, w.Rooms[0].Dark = true, true
	walks(t, "in the dark", w, 2, 4)
	_, row, _ = rules.Do(w, 2, api.Order{Verb: 4})
	if len(row) != 3 || row[0].By != [api.Beings]int{2: 1} || row[1].By != [api.Beings]int{2: 1} {
		t.Errorf("%+v", row)
	}
	w.Things[0] = api.Thing{Name: "lamp", Kind: api.Lamp, On: true, Where: api.OnBeing, At: 2}
	walks(t, "with a lamp", w, 2, 4)
	_, row, _ = rules.Do(w, 2, api.Order{Verb: 4})
	if row[0].By != [api.Beings]int{0: 1, 1: 1, 2: 1} || row[1].By != [api.Beings]int{2: 1, 3: 1, 4: 1} {
		t.Errorf("%+v", row)
	}
	w.Things[0].At = 1
	walks(t, "away from a lamp", w, 2, 4)
	w.Things[0].At = 3
	walks(t, "to a lamp", w, 2, 4)
	w.Things[1] = api.Thing{Name: "cloak", Kind: api.Cloak, On: true, Where: api.OnBeing, At: 2}
	w.Beings[4].Keen = true
	walks(t, "in a cloak", w, 2, 4)
}

// P7.2: who walks away has no foe; who fights it still has.
func TestWalkFoes(t *testing.T) {
	w := bare()
	w.Beings[2].Foe, w.Beings[3].Foe, w.Beings[4].Foe = 4, 3, 1
	got, _, _ := rules.Do(w, 2, api.Order{Verb: 4})
	if got.Beings[2].Foe != 0 || got.Beings[3].Foe != 3 || got.Beings[4].Foe != 1 {
		t.Errorf("%+v", got.Beings)
	}
	got, _, _ = rules.Do(w, 2, api.Order{Verb: 1})
	if got.Beings[2].Foe != 4 {
		t.Error("no foe, as there was no exit")
	}
}

// lines sees which lines a being is told that does so, and that nothing is changed.
func lines(t *testing.T, what string, w api.Land, b int, o api.Order, want ...string) {
	t.Helper()
	var row []api.Event
	for _, text := range want {
		row = append(row, told(w, b, text))
	}
	does(t, what, w, b, o, w, row...)
}

// P7.2: the ways, in all ways.
func TestLookWays(t *testing.T) {
	look := api.Order{Verb: api.Look}
	for n := range 729 {
		w := bare()
		w.Rooms[1].Name = "den"
		w.Beings[4].Room = 1
		text := "Ways:"
		for d, k := 0, n; d < 6; d, k = d+1, k/3 {
			w.Rooms[1].Exits[d] = []int{0, 1, 6}[k%3]
			w.Rooms[1].Shut[d] = k%3 == 2
			text += []string{"", " " + directions[d], " " + directions[d] + "*"}[k%3]
		}
		lines(t, "ways", w, 4, look, "The den.", text)
	}
}

// P7.2: what is told of a room.
func TestLook(t *testing.T) {
	look := api.Order{Verb: api.Look, Nth: 3, Name: "x", Second: "y", Text: "z", All: true}
	w := strewn("coin", "box", "lamp", "cloak", "lamp")
	for b := range w.Beings {
		w.Beings[b].Room = 5
	}
	w.Beings[3].Room = 2
	w.Things[1].Kind, w.Things[1].On = api.Box, true
	w.Things[2].Kind = api.Lamp
	w.Things[4].Kind, w.Things[4].On = api.Lamp, true
	here := "Here is coin box* lamp cloak lamp*."
	lines(t, "alone", w, 3, look, "The pantry.", "Ways: west", here)
	w.Things[5] = api.Thing{Name: "key", Where: api.OnBeing, At: 3}
	w.Things[6] = api.Thing{Name: "key", Where: api.InBox, At: 1}
	lines(t, "what is not about", w, 3, look, "The pantry.", "Ways: west", here)
	w.Beings[0].Room, w.Beings[2].Room, w.Beings[5].Room = 2, 2, 2
	lines(t, "with others", w, 3, look, "The pantry.", "Ways: west", here, "a is here.", "c is here.", "f is here.")
	w.Things[7] = api.Thing{Name: "cloak", Kind: api.Cloak, Where: api.OnBeing, At: 2, On: true}
	lines(t, "one is hidden", w, 3, look, "The pantry.", "Ways: west", here, "a is here.", "f is here.")
	lines(t, "who is hidden", w, 2, look, "The pantry.", "Ways: west", here, "a is here.", "d is here.", "f is here.")
	w.Beings[3].Keen = true
	lines(t, "keen", w, 3, look, "The pantry.", "Ways: west", here, "a is here.", "c is here.", "f is here.")
	w.Beings[5] = api.Being{Name: "f", Room: 2}
	lines(t, "one is not about", w, 3, look, "The pantry.", "Ways: west", here, "a is here.", "c is here.")
	w.Rooms[2].Dark = true
	lines(t, "by the lamp", w, 3, look, "The pantry.", "Ways: west", here, "a is here.", "c is here.")
	w.Things[4].On = false
	lines(t, "in the dark", w, 3, look, "It is dark.")
	w.Rooms[2] = api.Room{}
	for i := range w.Things {
		w.Things[i].At = 3
	}
	w.Things[6].Where = api.InRoom
	w.Things[7].Where, w.Things[7].On = api.InRoom, false
	lines(t, "nothing is there", w, 3, look, "The .", "Ways:", "a is here.", "c is here.")
}

// P7.2: the land as it begins.
func TestLookAtBeginning(t *testing.T) {
	w := land.New()
	for room, want := range [][]string{
		{"The hearth.", "Ways: north east up down*", "Here is lamp cloak mug box*."},
		{"The yard.", "Ways: south", "Here is coin."},
		{"It is dark."}, {"It is dark."}, {"It is dark."},
		{"The attic.", "Ways: west"},
	} {
		w.Beings[0].Room = room
		lines(t, "room "+strconv.Itoa(room), w, 0, api.Order{Verb: api.Look}, want...)
	}
	w.Beings[0].Room = 4
	w.Things[0] = api.Thing{Name: "lamp", Kind: api.Lamp, Where: api.OnBeing, At: 0, On: true}
	lines(t, "by a lamp", w, 0, api.Order{Verb: api.Look}, "The cellar.", "Ways: up*", "Here is chest.", "rat is here.")
	lines(t, "the rat", w, 1, api.Order{Verb: api.Look}, "The cellar.", "Ways: up*", "Here is chest.", "cat is here.")
}

// P7.2: what is at hand, in the light or in the dark.
func TestInventory(t *testing.T) {
	o := api.Order{Verb: api.Inventory, Nth: 2, Name: "x", All: true}
	w := boxes()
	for _, dark := range bools {
		w.Rooms[2].Dark = dark
		lines(t, "some", w, 2, o, "You have mug box* coin.")
		lines(t, "none", w, 3, o, "You have nothing.")
	}
	w.Things[7] = api.Thing{Name: "cloak", Kind: api.Cloak, Where: api.OnBeing, At: 2, On: true}
	w.Things[8] = api.Thing{Name: "lamp", Kind: api.Lamp, Where: api.InBox, At: 1, On: true}
	lines(t, "some", w, 2, o, "You have mug box* coin cloak*.")
	w.Things[1].On, w.Things[7].On = false, false
	lines(t, "off", w, 2, o, "You have mug box coin cloak.")
	lines(t, "the rat", land.New(), 1, o, "You have key.")
}

// P7.3: what is said is heard by all who are there, whatever it is.
func TestSay(t *testing.T) {
	w := bare()
	w.Beings[1].Room = 3
	w.Beings[3].Keen = true
	w.Beings[4] = api.Being{}
	w.Things[7] = api.Thing{Name: "cloak", Kind: api.Cloak, Where: api.OnBeing, At: 2}
	for _, text := range []string{"Hello, you there!", "", " ", "A\x00\xff N", "north"} {
		for _, dark := range bools {
			for _, on := range bools {
				w.Rooms[2].Dark, w.Things[7].On = dark, on
				o := api.Order{Verb: api.Say, Text: text, Name: "x", Second: "y", Nth: 4}
				does(t, text, w, 2, o, w, alone(w, 2, api.Event{Kind: api.Said, Text: text}))
				_, row, _ := rules.Do(w, 2, o)
				by := [api.Beings]int{0: 1, 2: 1, 3: 1, 5: 1}
				if dark || on {
					by = [api.Beings]int{0: 3, 2: 1, 3: 1, 5: 3}
				}
				if dark {
					by[3] = 3
				}
				if row[0].By != by {
					t.Errorf("%q: %v, wanted %v", text, row[0].By, by)
				}
			}
		}
	}
}

// loaded is a land where being b in room 4 has a box with a coin in it, a lit lamp, a worn cloak and another one; others have one another as foes.
func loaded(b int) api.Land {
	w := bare()
	w.Beings[b].Room = 4
	w.Things[0] = api.Thing{Name: "box", Kind: api.Box, Where: api.OnBeing, At: b, On: true}
	w.Things[1] = api.Thing{Name: "coin", Where: api.InBox, At: 0}
	w.Things[2] = api.Thing{Name: "lamp", Kind: api.Lamp, Where: api.OnBeing, At: b, On: true}
	w.Things[3] = api.Thing{Name: "cloak", Kind: api.Cloak, Where: api.OnBeing, At: b, On: true}
	w.Things[4] = api.Thing{Name: "cloak", Kind: api.Cloak, Where: api.OnBeing, At: (b + 1) % 6, On: true}
	w.Things[5] = api.Thing{Name: "cloak", Kind: api.Cloak, Where: api.OnBeing, At: b}
	w.Things[6] = api.Thing{Name: "chest", Kind: api.Box, Where: api.OnBeing, At: b}
	w.Things[7] = api.Thing{Name: "lamp", Kind: api.Lamp, Where: api.OnBeing, At: b}
	w.Beings[b].Foe = (b+1)%6 + 1
	w.Beings[(b+1)%6].Foe = b + 1
	w.Beings[(b+2)%6].Foe = b + 1
	w.Beings[(b+3)%6].Foe = (b+1)%6 + 1
	w.Beings[(b+4)%6].Foe = (b+4)%6 + 1
	return w
}

// released is such a land where being b has let all go.
func released(w api.Land, b int) api.Land {
	for _, i := range []int{0, 2, 3, 5, 6, 7} {
		w.Things[i].Where, w.Things[i].At = api.InRoom, 4
	}
	w.Things[3].On = false
	w.Beings[b].Foe, w.Beings[(b+1)%6].Foe, w.Beings[(b+2)%6].Foe = 0, 0, 0
	return w
}

// P7.3, P7.8: who quits fades, as it is seen then; all that it has lies there, cloaks off, lamps and boxes as they were; nobody fights it.
func TestQuit(t *testing.T) {
	for b := range api.Beings {
		for _, dark := range bools {
			w := loaded(b)
			w.Rooms[4].Dark = dark
			w.Beings[(b+3)%6].Room = 4
			w.Beings[(b+5)%6].Room = 4
			w.Beings[(b+5)%6].Keen = true
			after := released(w, b)
			after.Beings[b] = api.Being{}
			does(t, "quit", w, b, api.Order{Verb: api.Quit, Name: "x", Nth: 2}, after, alone(w, b, api.Event{Kind: api.Faded}))
			_, row, _ := rules.Do(w, b, api.Order{Verb: api.Quit})
			by := [api.Beings]int{}
			by[b], by[(b+5)%6] = 1, 1
			if row[0].By != by {
				t.Errorf("being %d: %v, wanted %v", b, row[0].By, by)
			}
		}
	}
	w := bare()
	w.Beings[3].Keen, w.Beings[3].Foe = true, 4
	after := w
	after.Beings[3] = api.Being{}
	does(t, "its own foe", w, 3, api.Order{Verb: api.Quit}, after, alone(w, 3, api.Event{Kind: api.Faded}))
}

// parts sees that a being parts with things, one by one: those below 0 are worn, or cannot be (counted from -1), as it is told.
func parts(t *testing.T, what string, w api.Land, b int, o api.Order, list ...int) {
	t.Helper()
	place := map[int]api.Thing{api.Drop: {Where: api.InRoom, At: w.Beings[b].Room}, api.Put: {Where: api.InBox, At: 3}, api.Give: {Where: api.OnBeing, At: 4}}[o.Verb]
	kind := map[int]int{api.Drop: api.Dropped, api.Put: api.Stowed, api.Give: api.Gave}[o.Verb]
	after := w
	var row []api.Event
	for _, i := range list {
		switch {
		case i < 0 && w.Things[-i-1].Kind == api.Cloak:
			row = append(row, told(after, b, "You wear it."))
			continue
		case i < 0:
			row = append(row, told(after, b, "That cannot be."))
			continue
		}
		after.Things[i].Where, after.Things[i].At = place.Where, place.At
		e := api.Event{Kind: kind, Thing: w.Things[i].Name}
		switch o.Verb {
		case api.Give:
			row = append(row, both(after, b, 4, e))
		case api.Put:
			e.Text = w.Things[3].Name
			row = append(row, alone(after, b, e))
		default:
			row = append(row, alone(after, b, e))
		}
	}
	does(t, what, w, b, o, after, row...)
}

// laden is a land where being 2 has coin 0, cloak 1 (worn), box 2 (open, with coin 7), bag 3 (open), cloak 4, coin 5, lamp 6 (lit); coin 8 lies there; being 4 is ed.
func laden() api.Land {
	w := strewn("coin", "cloak", "box", "bag", "cloak", "coin", "lamp", "coin", "coin")
	for i := range 7 {
		w.Things[i].Where, w.Things[i].At = api.OnBeing, 2
	}
	w.Things[1].Kind, w.Things[1].On = api.Cloak, true
	w.Things[2].Kind, w.Things[2].On = api.Box, true
	w.Things[3].Kind, w.Things[3].On = api.Box, true
	w.Things[4].Kind = api.Cloak
	w.Things[6].Kind, w.Things[6].On = api.Lamp, true
	w.Things[7].Where, w.Things[7].At = api.InBox, 2
	w.Beings[4].Name = "ed"
	w.Beings[1].Keen = true
	w.Beings[5].Room = 0
	return w
}

// P7.5: things are dropped, put into a box, given to somebody, one by one.
func TestPart(t *testing.T) {
	for verb, second := range map[int]string{api.Drop: "", api.Put: "bag", api.Give: "ed"} {
		o := func(n int, all bool, name string) api.Order {
			return api.Order{Verb: verb, Nth: n, All: all, Name: name, Second: second, Text: "z"}
		}
		for _, dark := range bools {
			w := laden()
			w.Rooms[2].Dark = dark
			what := "verb " + strconv.Itoa(verb)
			parts(t, what, w, 2, o(1, false, "coin"), 0)
			parts(t, what, w, 2, o(2, false, "coin"), 5)
			parts(t, what, w, 2, o(1, true, "coin"), 0, 5)
			parts(t, what, w, 2, o(1, false, "cloak"), -2)
			parts(t, what, w, 2, o(2, false, "cloak"), 4)
			parts(t, what, w, 2, o(1, true, "cloak"), -2, 4)
			parts(t, what, w, 2, o(1, false, "lamp"), 6)
			parts(t, what, w, 2, o(1, false, "box"), 2)
			parts(t, what, w, 2, o(1, false, ""), 0)
			parts(t, what, w, 2, o(7, false, ""), 6)
			bag := 3
			if verb == api.Put {
				bag = -4
			}
			parts(t, what, w, 2, o(1, false, "bag"), bag)
			parts(t, what, w, 2, o(1, true, ""), 0, -2, 2, bag, 4, 5, 6)
			for _, none := range []api.Order{o(3, false, "coin"), o(0, false, "coin"), o(-1, false, ""), o(8, false, ""), o(1, false, "mug"), o(1, true, "mug"), o(2, false, "lamp"), o(1, false, "coi")} {
				refuses(t, what, w, 2, none, "You have no such thing.")
			}
			w.Things[1].On = false
			parts(t, what, w, 2, o(1, false, "cloak"), 1)
		}
	}
	refuses(t, "nothing at hand", laden(), 3, api.Order{Verb: api.Drop, All: true}, "You have no such thing.")
}

// P7.5: who parts with something is perceived as it is seen, and whom it is given to likewise.
func TestPartPerceived(t *testing.T) {
	w := laden()
	for verb, second := range map[int]string{api.Drop: "", api.Put: "bag", api.Give: "ed"} {
		_, row, _ := rules.Do(w, 2, api.Order{Verb: verb, Nth: 1, Name: "coin", Second: second})
		if row[0].By != [api.Beings]int{1: 1, 2: 1} {
			t.Errorf("verb %d: %v", verb, row[0].By)
		}
	}
	w.Things[1].At = 4
	w.Beings[2].Keen = true
	_, row, _ := rules.Do(w, 2, api.Order{Verb: api.Give, Nth: 1, Name: "coin", Second: "ed"})
	if want := (api.Event{Kind: api.Gave, Room: 2, Actor: 2, Other: 4, Who: "c", Whom: "ed", Thing: "coin", By: [api.Beings]int{5, 1, 1, 5, 1, 0}}); len(row) != 1 || row[0] != want {
		t.Errorf("%+v", row)
	}
}

// P7.4, P7.5: that there is no such box, or nobody, is told ahead of that there is no such thing at hand.
func TestPartSecondFirst(t *testing.T) {
	w := laden()
	for _, name := range []string{"coin", "none", "cloak"} {
		refuses(t, "no box", w, 2, api.Order{Verb: api.Put, Nth: 1, Name: name, Second: "chest"}, "There is no such thing.")
		refuses(t, "nobody", w, 2, api.Order{Verb: api.Give, Nth: 1, Name: name, Second: "chest"}, "There is nobody of that name.")
	}
	w.Things[3].On = false
	for _, name := range []string{"coin", "none", "cloak", "bag"} {
		refuses(t, "shut", w, 2, api.Order{Verb: api.Put, Nth: 1, Name: name, Second: "bag"}, "It is shut.")
	}
}

// P7.5: a box that lies about is put into, and what is in it is not at hand.
func TestPutIntoWhatLies(t *testing.T) {
	w := laden()
	w.Things[3].Where, w.Things[3].At = api.InRoom, 2
	o := api.Order{Verb: api.Put, Nth: 1, All: true, Second: "bag"}
	parts(t, "a bag that lies there", w, 2, o, 0, -2, 2, 4, 5, 6)
	w.Rooms[2].Dark = true
	parts(t, "a bag by the lamp", w, 2, o, 0, -2, 2, 4, 5, 6)
	w.Things[6].On = false
	refuses(t, "a bag in the dark", w, 2, o, "There is no such thing.")
}

// P7.6: who hits somebody fights it, and is fought back, if that one fights nobody.
func TestHit(t *testing.T) {
	for foe := range 7 {
		for own := range 7 {
			w := bare()
			w.Beings[4].Foe, w.Beings[2].Foe = foe, own
			after := w
			after.Beings[2].Foe = 5
			if foe == 0 {
				after.Beings[4].Foe = 3
			}
			does(t, "hit", w, 2, api.Order{Verb: api.Hit, Nth: 1, Name: "e", Second: "a", Text: "b"}, after, told(after, 2, "You fight."))
		}
	}
	w := bare()
	w.Beings[0].Name = "e"
	after := w
	after.Beings[2].Foe, after.Beings[0].Foe = 1, 3
	does(t, "the first of them", w, 2, api.Order{Verb: api.Hit, Nth: 1, Name: "e"}, after, told(after, 2, "You fight."))
}

// P7.6: nobody is meant by another Nth than 1, by All, or by whom it does not see.
func TestHitNobody(t *testing.T) {
	none := "There is nobody of that name."
	w := bare()
	w.Beings[0].Name = "e"
	for _, n := range append([]int{-1, 0, 2, 3}, wild...) {
		refuses(t, "nth", w, 2, api.Order{Verb: api.Hit, Nth: n, Name: "e"}, none)
	}
	refuses(t, "all", w, 2, api.Order{Verb: api.Hit, Nth: 1, All: true, Name: "e"}, none)
	refuses(t, "all", w, 2, api.Order{Verb: api.Hit, Nth: 1, All: true}, none)
	for _, name := range []string{"", "c", "all", "all.e", "x", "E", "mug", "."} {
		refuses(t, name, w, 2, api.Order{Verb: api.Hit, Nth: 1, Name: name}, none)
	}
	w = bare()
	w.Rooms[2].Dark = true
	refuses(t, "in the dark", w, 2, api.Order{Verb: api.Hit, Nth: 1, Name: "e"}, none)
	w = bare()
	w.Beings[4].Room = 3
	refuses(t, "elsewhere", w, 2, api.Order{Verb: api.Hit, Nth: 1, Name: "e"}, none)
	w = bare()
	w.Things[0] = api.Thing{Name: "cloak", Kind: api.Cloak, Where: api.OnBeing, At: 4, On: true}
	refuses(t, "hidden", w, 2, api.Order{Verb: api.Hit, Nth: 1, Name: "e"}, none)
	w.Beings[4] = api.Being{Name: "e", Room: 2}
	w.Things[0].Where, w.Things[0].On = api.InRoom, false
	refuses(t, "not about", w, 2, api.Order{Verb: api.Hit, Nth: 1, Name: "e"}, none)
}

// P7.7: doors are opened and closed, on both sides if the opposite exit leads back.
func TestDoors(t *testing.T) {
	for d, name := range directions {
		back := (d + 3) % 6
		for _, verb := range []int{api.Open, api.Close} {
			for _, far := range []int{0, 1, 3, 4} {
				for _, was := range bools {
					for _, other := range bools {
						if far == 0 && other {
							continue
						}
						w := bare()
						w.Rooms[2].Exits = [api.Directions]int{}
						w.Rooms[2].Exits[d], w.Rooms[2].Shut[d] = 6, was
						w.Rooms[5].Exits = [api.Directions]int{3, 3, 3, 3, 3, 3}
						w.Rooms[5].Exits[back], w.Rooms[5].Shut[back] = far, other
						o := api.Order{Verb: verb, Nth: 1, Name: name}
						shut := verb == api.Close
						if was == shut {
							refuses(t, name, w, 2, o, "It is so.")
							continue
						}
						after := w
						after.Rooms[2].Shut[d] = shut
						if far == 3 {
							after.Rooms[5].Shut[back] = shut
						}
						kind := map[int]int{api.Open: api.Opened, api.Close: api.Closed}[verb]
						does(t, name, w, 2, o, after, alone(w, 2, api.Event{Kind: kind, Thing: "door"}))
					}
				}
			}
		}
	}
}

// P7.7: a door needs no light, no number, and is no door in another direction; a thing of that name is not meant.
func TestDoorEdges(t *testing.T) {
	w := strewn("up", "door")
	w.Things[0].Kind, w.Things[1].Kind = api.Box, api.Box
	w.Rooms[2].Dark = true
	w.Rooms[2].Exits[2], w.Rooms[2].Shut[2] = 3, true
	w.Rooms[2].Exits[5], w.Rooms[2].Shut[5] = 3, true
	for _, n := range append([]int{0, 1, 2}, wild...) {
		for _, all := range bools {
			after := w
			after.Rooms[2].Shut[2], after.Rooms[2].Shut[5] = false, false
			o := api.Order{Verb: api.Open, Nth: n, All: all, Name: "up", Second: "x"}
			does(t, "a way back to the same room", w, 2, o, after, alone(w, 2, api.Event{Kind: api.Opened, Thing: "door"}))
			o.Name = "north"
			refuses(t, "no exit", w, 2, o, "There is no such thing.")
			o.Verb = api.Close
			refuses(t, "no exit", w, 2, o, "There is no such thing.")
			o.Name = "west"
			after = w
			after.Rooms[2].Shut[4], after.Rooms[0].Shut[1] = true, true
			does(t, "close", w, 2, o, after, alone(w, 2, api.Event{Kind: api.Closed, Thing: "door"}))
		}
	}
	for _, name := range []string{"u", "door", "Up", "1.up", ""} {
		refuses(t, name, w, 2, api.Order{Verb: api.Open, Nth: 1, Name: name}, "There is no such thing.")
	}
	w.Rooms[2].Dark = false
	for _, verb := range []int{api.Light, api.Douse, api.Wear, api.Doff} {
		refuses(t, "other verbs know no doors", w, 2, api.Order{Verb: verb, Nth: 1, Name: "up"}, "There is no such thing.")
	}
}

// turning is a verb that turns things on or off.
type turning struct {
	verb, kind, event int
	on, behind, sight bool
}

var turnings = []turning{
	{api.Open, api.Box, api.Opened, true, true, true},
	{api.Close, api.Box, api.Closed, false, false, true},
	{api.Light, api.Lamp, api.Lit, true, true, false},
	{api.Douse, api.Lamp, api.Doused, false, false, false},
	{api.Wear, api.Cloak, api.Wore, true, false, false},
	{api.Doff, api.Cloak, api.Doffed, false, true, false},
}

// turns sees that a being turns a thing on or off (-1: none), and how that is perceived.
func turns(t *testing.T, what string, w api.Land, b int, o api.Order, c turning, i int) {
	t.Helper()
	o.Verb = c.verb
	what += ", verb " + strconv.Itoa(c.verb)
	switch {
	case i < 0:
		refuses(t, what, w, b, o, "There is no such thing.")
	case w.Things[i].On == c.on:
		refuses(t, what, w, b, o, "It is so.")
	default:
		after := w
		after.Things[i].On = c.on
		seen := w
		if c.behind {
			seen = after
		}
		does(t, what, w, b, o, after, alone(seen, b, api.Event{Kind: c.event, Thing: w.Things[i].Name}))
	}
}

// gear is a land where being 2 has things 0 to 3, and things 4 to 7 lie in its room, all of one kind and name but for mugs 0 and 6.
func gear(kind int, on bool) api.Land {
	w := strewn("mug", "toy", "toy", "toy", "toy", "toy", "mug", "toy")
	for i := range 8 {
		t := &w.Things[i]
		if i < 4 {
			t.Where, t.At = api.OnBeing, 2
		}
		if t.Name == "toy" {
			t.Kind = kind
			t.On = on && (kind != api.Cloak || i < 4) && kind != api.Plain
		}
	}
	return w
}

// P7.7: the one meant by its Name and Nth, of what is at hand, then, of boxes alone, of what is in sight.
func TestTurn(t *testing.T) {
	for _, c := range turnings {
		for kind := range 4 {
			for _, on := range bools {
				w := gear(kind, on)
				toys, any := []int{1, 2, 3, 4, 5, 7}, []int{0, 1, 2, 3, 4, 5, 6, 7}
				if !c.sight {
					toys, any = toys[:3], any[:4]
				}
				for name, list := range map[string][]int{"toy": toys, "": any, "mug": {0}, "to": nil, "toys": nil} {
					for n := -2; n < 10; n++ {
						i := -1
						if k := max(n, 1); k <= len(list) && w.Things[list[k-1]].Kind == c.kind {
							i = list[k-1]
						}
						for _, all := range bools {
							turns(t, name, w, 2, api.Order{Nth: n, Name: name, All: all, Second: "toy"}, c, i)
						}
					}
				}
				i := -1
				if kind == c.kind {
					i = 1
				}
				for _, n := range wild {
					if n < 1 {
						turns(t, "wild", w, 2, api.Order{Nth: n, Name: "toy"}, c, i)
					} else {
						turns(t, "wild", w, 2, api.Order{Nth: n, Name: "toy"}, c, -1)
					}
				}
			}
		}
	}
}

// P7.7: in the dark what is at hand may be turned on and off, not what lies about; nor what others have, or is in a box.
func TestTurnInTheDark(t *testing.T) {
	for _, c := range turnings {
		w := gear(c.kind, c.kind == api.Box && !c.on)
		w.Rooms[2].Dark = true
		turns(t, "at hand", w, 2, api.Order{Nth: 3, Name: "toy"}, c, 3)
		turns(t, "in the dark", w, 2, api.Order{Nth: 4, Name: "toy"}, c, -1)
		turns(t, "in the dark", w, 4, api.Order{Nth: 1, Name: "toy"}, c, -1)
		w.Rooms[2].Dark = false
		w.Beings[3].Room = 5
		turns(t, "elsewhere", w, 3, api.Order{Nth: 1, Name: "toy"}, c, -1)
		w.Things[8] = api.Thing{Name: "bag", Kind: api.Box, Where: api.OnBeing, At: 4, On: true}
		w.Things[7].Where, w.Things[7].At = api.InBox, 8
		turns(t, "in a box", w, 4, api.Order{Nth: 3, Name: "toy"}, c, -1)
	}
}

// P7.7: a thing that lies about, in the light, is turned on or off if it is a box; a lamp or a cloak is as if it were not there, until it is at hand.
func TestTurnWhatLies(t *testing.T) {
	for _, c := range turnings {
		w := strewn("toy", "toy")
		for i := range 2 {
			w.Things[i].Kind, w.Things[i].On = c.kind, !c.on && c.kind != api.Cloak
		}
		for _, o := range []api.Order{{}, {Nth: 1, Name: "toy"}, {Nth: -1, Name: "toy", All: true}} {
			lies := -1
			if c.sight {
				lies = 0
			}
			turns(t, "in sight", w, 2, o, c, lies)
			had := w
			had.Things[1] = api.Thing{Name: "toy", Kind: c.kind, Where: api.OnBeing, At: 2, On: !c.on}
			turns(t, "at hand", had, 2, o, c, 1)
			o.Nth = 2
			turns(t, "behind the one at hand", had, 2, o, c, lies)
		}
	}
}

// P7.7: in the land as it begins the lamp of the hearth is lit and doused by who has taken it.
func TestLampIsTaken(t *testing.T) {
	light, douse := turnings[2], turnings[3]
	w := land.New()
	for _, o := range []api.Order{{}, {Nth: 1, Name: "lamp"}} {
		for _, on := range bools {
			w.Things[0] = api.Thing{Name: "lamp", Kind: api.Lamp, On: on}
			turns(t, "it lies there", w, 0, o, light, -1)
			turns(t, "it lies there", w, 0, o, douse, -1)
			w, _, _ = rules.Do(w, 0, api.Order{Verb: api.Get, Nth: 1, Name: "lamp"})
			turns(t, "it is taken", w, 0, o, light, 0)
			turns(t, "it is taken", w, 0, o, douse, 0)
		}
	}
}

// by is how all perceive what comes of an order.
func by(w api.Land, b int, o api.Order) [api.Beings]int {
	_, row, _ := rules.Do(w, b, o)
	if len(row) != 1 {
		return [api.Beings]int{-1}
	}
	return row[0].By
}

// P7.7: while there is light, or no cloak is on, all perceive what happens, be that ahead of the doing or behind it.
func TestTurnPerceived(t *testing.T) {
	all, self := [api.Beings]int{1, 1, 1, 1, 1, 1}, [api.Beings]int{2: 1}
	w := bare()
	w.Rooms[2].Dark = true
	w.Things[0] = api.Thing{Name: "lamp", Kind: api.Lamp, Where: api.OnBeing, At: 2}
	if got := by(w, 2, api.Order{Verb: api.Light}); got != all {
		t.Errorf("light: %v", got)
	}
	w.Things[0].On = true
	if got := by(w, 2, api.Order{Verb: api.Douse}); got != all {
		t.Errorf("douse: %v", got)
	}
	w.Things[1] = api.Thing{Name: "box", Kind: api.Box, Where: api.OnBeing, At: 2}
	w.Things[0].Where, w.Things[0].At = api.InBox, 1
	if got := by(w, 2, api.Order{Verb: api.Open}); got != all {
		t.Errorf("open: %v", got)
	}
	w.Things[1].On = true
	if got := by(w, 2, api.Order{Verb: api.Close}); got != all {
		t.Errorf("close: %v", got)
	}
	w.Things[0].On = false
	if got := by(w, 2, api.Order{Verb: api.Close}); got != self {
		t.Errorf("close in the dark: %v", got)
	}
	w = bare()
	w.Things[0] = api.Thing{Name: "cloak", Kind: api.Cloak, Where: api.OnBeing, At: 2}
	if got := by(w, 2, api.Order{Verb: api.Wear}); got != all {
		t.Errorf("wear: %v", got)
	}
	w.Things[0].On = true
	if got := by(w, 2, api.Order{Verb: api.Doff}); got != all {
		t.Errorf("doff: %v", got)
	}
	w.Things[1] = api.Thing{Name: "cape", Kind: api.Cloak, Where: api.OnBeing, At: 2}
	if got := by(w, 2, api.Order{Verb: api.Wear, Nth: 2}); got != self {
		t.Errorf("wear another one: %v", got)
	}
	w.Things[1].On = true
	if got := by(w, 2, api.Order{Verb: api.Doff, Nth: 2}); got != self || sense.Hidden(w, 2) != true {
		t.Errorf("doff one of two: %v", got)
	}
}
