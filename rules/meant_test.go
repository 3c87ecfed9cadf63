package rules_test

import (
	"testing"

	"inglenook/api"
	"inglenook/rules"
)

// strewn is a bare land with things 0 to 6, by name, in room 2.
func strewn(names ...string) api.Land {
	w := bare()
	for i, name := range names {
		w.Things[i] = api.Thing{Name: name, Where: api.InRoom, At: 2}
	}
	return w
}

// gets sees that a being gets those things, one by one.
func gets(t *testing.T, what string, w api.Land, b int, o api.Order, list ...int) {
	t.Helper()
	o.Verb = api.Get
	if len(list) == 0 {
		refuses(t, what, w, b, o, "There is no such thing.")
		return
	}
	after := w
	var row []api.Event
	for _, i := range list {
		after.Things[i].Where, after.Things[i].At = api.OnBeing, b
		row = append(row, alone(after, b, api.Event{Kind: api.Got, Thing: w.Things[i].Name}))
	}
	does(t, what, w, b, o, after, row...)
}

// P7.1: the Nth of a name, of any name, or all of them; none, if there are not so many.
func TestMeant(t *testing.T) {
	w := strewn("coin", "lamp", "coin", "key", "coin")
	by := map[string][]int{"coin": {0, 2, 4}, "lamp": {1}, "key": {3}, "": {0, 1, 2, 3, 4}, "coins": nil, "coi": nil, "Coin": nil, "mug": nil, "1.coin": nil, "all": nil}
	for name, list := range by {
		for n := -3; n < 10; n++ {
			o := api.Order{Nth: n, Name: name}
			if n >= 1 && n <= len(list) {
				gets(t, "the nth", w, 2, o, list[n-1])
			} else {
				gets(t, "not so many", w, 2, o)
			}
			o.All = true
			gets(t, "all", w, 2, o, list...)
		}
		for _, n := range wild {
			gets(t, "a wild nth", w, 2, api.Order{Nth: n, Name: name})
			gets(t, "all, and a wild nth", w, 2, api.Order{Nth: n, Name: name, All: true}, list...)
		}
	}
}

// P7.1: in sight is what lies in its room, not what somebody has or a box, and nothing in the dark.
func TestInSight(t *testing.T) {
	w := strewn("coin", "coin", "coin", "coin", "coin")
	w.Things[0].At = 3
	w.Things[1] = api.Thing{Name: "coin", Where: api.OnBeing, At: 2}
	w.Things[2] = api.Thing{Name: "coin", Where: api.InBox, At: 8}
	w.Things[8] = api.Thing{Name: "box", Kind: api.Box, Where: api.InRoom, At: 2, On: true}
	gets(t, "what lies about", w, 2, api.Order{Nth: 1, All: true}, 3, 4, 8)
	gets(t, "what lies about", w, 2, api.Order{Nth: 1, Name: "coin"}, 3)
	gets(t, "what lies about", w, 2, api.Order{Nth: 2, Name: "coin"}, 4)
	gets(t, "what lies about", w, 2, api.Order{Nth: 3, Name: "coin"})
	w.Rooms[2].Dark = true
	gets(t, "the dark", w, 2, api.Order{Nth: 1, All: true})
	gets(t, "the dark", w, 2, api.Order{Nth: 1, Name: "coin"})
	w.Things[2] = api.Thing{Name: "lamp", Kind: api.Lamp, On: true, Where: api.InBox, At: 8}
	gets(t, "a lamp in an open box", w, 2, api.Order{Nth: 1, Name: "coin"}, 3)
	gets(t, "a lamp in an open box", w, 2, api.Order{All: true}, 3, 4, 8)
	w.Things[8].On = false
	gets(t, "a lamp in a shut box", w, 2, api.Order{Nth: 1, Name: "coin"})
	w.Things[2] = api.Thing{Name: "lamp", Kind: api.Lamp, On: true, Where: api.OnBeing, At: 4}
	gets(t, "another one's lamp", w, 2, api.Order{Nth: 1, Name: "coin"}, 3)
	w.Beings[4].Room = 3
	gets(t, "a lamp elsewhere", w, 2, api.Order{Nth: 1, Name: "coin"})
	w.Things[2] = api.Thing{Name: "lamp", Kind: api.Lamp, On: true, Where: api.InRoom, At: 2}
	gets(t, "all and the light", w, 2, api.Order{Nth: 1, All: true}, 2, 3, 4, 8)
}

// P7.4: who gets something is seen or not, as all are that do something.
func TestGetPerceived(t *testing.T) {
	w := strewn("coin")
	w.Things[3] = api.Thing{Name: "cloak", Kind: api.Cloak, On: true, Where: api.OnBeing, At: 4}
	w.Beings[1].Keen = true
	w.Beings[3].Room = 5
	gets(t, "in a cloak", w, 4, api.Order{Nth: 1}, 0)
	_, row, _ := rules.Do(w, 4, api.Order{Verb: api.Get, Nth: 1})
	if row[0].By != [api.Beings]int{1: api.Heard, 4: api.Heard} {
		t.Errorf("%+v", row)
	}
}

// boxes is a land where being 2 has a mug, a box (1) and a coin, and in its room lie a box (3), a chest (4), a mug, and a box (6).
func boxes() api.Land {
	w := strewn("mug", "box", "coin", "box", "chest", "mug", "box")
	for i := range 3 {
		w.Things[i].Where, w.Things[i].At = api.OnBeing, 2
	}
	for _, i := range []int{1, 3, 4, 6} {
		w.Things[i].Kind, w.Things[i].On = api.Box, true
	}
	return w
}

// filled is such a land with thing 7, a key, and thing 8, a coin, in that box.
func filled(box int) api.Land {
	w := boxes()
	w.Things[7] = api.Thing{Name: "key", Where: api.InBox, At: box}
	w.Things[8] = api.Thing{Name: "coin", Where: api.InBox, At: box}
	return w
}

// P7.4: a box is meant by a word: of what is at hand first, then of what is in sight.
func TestBoxMeant(t *testing.T) {
	for word, box := range map[string]int{"box": 1, "1.box": 1, "2.box": 3, "3.box": 6, "chest": 4, "1.chest": 4} {
		w := filled(box)
		gets(t, word, w, 2, api.Order{Nth: 1, All: true, Second: word}, 7, 8)
		gets(t, word, w, 2, api.Order{Nth: 2, Second: word}, 8)
		gets(t, word, w, 2, api.Order{Nth: 3, Second: word})
		gets(t, word, w, 2, api.Order{Nth: 0, Second: word})
		gets(t, word, w, 2, api.Order{Nth: 1, Name: "coin", Second: word}, 8)
		gets(t, word, w, 2, api.Order{Nth: 2, Name: "coin", Second: word})
		gets(t, word, w, 2, api.Order{Nth: 1, Name: "mug", Second: word})
		w.Things[box].On = false
		for _, name := range []string{"", "coin", "none"} {
			refuses(t, word, w, 2, api.Order{Verb: api.Get, Nth: 1, Name: name, Second: word}, "It is shut.")
		}
	}
	w := filled(4)
	for _, word := range []string{"4.box", "99.box", "2.chest", "mug", "2.mug", "coin", "bo", "boxes", "Box", "all", "all.box", "all.chest", "0.box", "01.box", "100.box", "-1.box", "box.", ".box", "1.", ".", "1.2.box", "1.all", "box ", " box", "key", "north"} {
		for _, name := range []string{"", "coin"} {
			refuses(t, word, w, 2, api.Order{Verb: api.Get, Nth: 1, Name: name, Second: word}, "There is no such thing.")
			refuses(t, word, w, 2, api.Order{Verb: api.Get, Nth: 1, All: true, Name: name, Second: word}, "There is no such thing.")
			refuses(t, word, w, 2, api.Order{Verb: api.Put, Nth: 1, Name: name, Second: word}, "There is no such thing.")
			refuses(t, word, w, 2, api.Order{Verb: api.Put, Nth: 1, All: true, Name: name, Second: word}, "There is no such thing.")
		}
	}
	refuses(t, "no word", w, 2, api.Order{Verb: api.Put, Nth: 1, Name: "mug"}, "There is no such thing.")
}

// P7.4: in the dark a box at hand is one, and none of those that lie about.
func TestBoxInTheDark(t *testing.T) {
	w := filled(1)
	w.Rooms[2].Dark = true
	gets(t, "at hand", w, 2, api.Order{Nth: 1, All: true, Second: "box"}, 7, 8)
	for _, word := range []string{"2.box", "3.box", "chest"} {
		refuses(t, word, w, 2, api.Order{Verb: api.Get, Nth: 1, Second: word}, "There is no such thing.")
	}
	w.Things[1].On = false
	refuses(t, "at hand", w, 2, api.Order{Verb: api.Get, Nth: 1, Second: "box"}, "It is shut.")
}

// P7.4: a box in another room, on another being, or in a box, is none that is meant.
func TestBoxOutOfReach(t *testing.T) {
	for _, at := range []api.Thing{{Where: api.InRoom, At: 3}, {Where: api.OnBeing, At: 3}, {Where: api.InBox, At: 1}} {
		w := filled(4)
		w.Things[4].Where, w.Things[4].At = at.Where, at.At
		refuses(t, "out of reach", w, 2, api.Order{Verb: api.Get, Nth: 1, Second: "chest"}, "There is no such thing.")
		refuses(t, "out of reach", w, 2, api.Order{Verb: api.Put, Nth: 1, Second: "chest"}, "There is no such thing.")
	}
}

// P7.4: what is in a box is taken out, a box with all that is in it, too.
func TestGetBoxOutOfBox(t *testing.T) {
	w := filled(4)
	w.Things[4].Where, w.Things[4].At = api.InBox, 6
	gets(t, "a chest out of a box", w, 2, api.Order{Nth: 1, Name: "chest", Second: "3.box"}, 4)
	gets(t, "what is in what is in a box", w, 2, api.Order{Nth: 1, Name: "coin", Second: "3.box"})
	gets(t, "all of it", w, 2, api.Order{All: true, Second: "3.box"}, 4)
}

// gives sees that a being gives its thing 0 to another one.
func gives(t *testing.T, what string, w api.Land, b int, word string, to int) {
	t.Helper()
	o := api.Order{Verb: api.Give, Nth: 1, Second: word}
	if to < 0 {
		refuses(t, what, w, b, o, "There is nobody of that name.")
		return
	}
	after := w
	after.Things[0].At = to
	does(t, what, w, b, o, after, both(after, b, to, api.Event{Kind: api.Gave, Thing: w.Things[0].Name}))
}

// twins is a bare land where beings 0, 1, 3 and 5 are of one name, and being b has thing 0.
func twins(b int) api.Land {
	w := bare()
	for _, other := range []int{0, 1, 3, 5} {
		w.Beings[other].Name = "tom"
	}
	w.Things[0] = api.Thing{Name: "coin", Where: api.OnBeing, At: b}
	return w
}

// P7.4: somebody is meant by a word: of others of that name that are seen, by number.
func TestSomebodyMeant(t *testing.T) {
	w := twins(2)
	for word, to := range map[string]int{
		"tom": 0, "1.tom": 0, "2.tom": 1, "3.tom": 3, "4.tom": 5, "5.tom": -1, "99.tom": -1, "e": 4, "1.e": 4, "2.e": -1,
		"c": -1, "1.c": -1, "": -1, "all": -1, "all.tom": -1, "1.all": -1, "0.tom": -1, "01.tom": -1, "tom.": -1, ".tom": -1, "Tom": -1, "to": -1, "tomm": -1, "coin": -1, "1.1.tom": -1, "someone": -1, "you": -1,
	} {
		gives(t, word, w, 2, word, to)
	}
	w = twins(3)
	for word, to := range map[string]int{"tom": 0, "2.tom": 1, "3.tom": 5, "4.tom": -1, "c": 2} {
		gives(t, "one of them: "+word, w, 3, word, to)
	}
}

// P7.4: nobody is meant who is elsewhere, hidden, not about, or in the dark.
func TestSomebodySeen(t *testing.T) {
	w := twins(2)
	w.Beings[0].Room = 4
	gives(t, "elsewhere", w, 2, "tom", 1)
	w.Things[5] = api.Thing{Name: "cloak", Kind: api.Cloak, On: true, Where: api.OnBeing, At: 1}
	gives(t, "hidden", w, 2, "tom", 3)
	gives(t, "hidden", w, 2, "2.tom", 5)
	gives(t, "hidden", w, 2, "3.tom", -1)
	w.Beings[2].Keen = true
	gives(t, "keen", w, 2, "tom", 1)
	w.Beings[2].Keen = false
	w.Beings[3] = api.Being{Name: "tom", Room: 2}
	gives(t, "not about", w, 2, "tom", 5)
	w.Rooms[2].Dark = true
	gives(t, "the dark", w, 2, "tom", -1)
	w.Beings[2].Keen = true
	gives(t, "keen in the dark", w, 2, "tom", -1)
	w.Things[0].Kind, w.Things[0].On = api.Lamp, true
	gives(t, "by the lamp", w, 2, "tom", 1)
	w.Beings[4].Name = "all"
	gives(t, "the name of one", w, 2, "all", -1)
	gives(t, "the name of one", w, 2, "1.all", 4)
	w.Beings[4].Name = ""
	gives(t, "no name", w, 2, "", -1)
}
